/- Decode. -/
import Derived.Test.YtcadlcpccemkbaaXe
namespace Go.Proofs.Ytcadlcpccemkbaa.X
open Go.RowKit
set_option maxRecDepth 100000
attribute [local go_sem] not_any mf_any

theorem ret_f2 {fn : Func} {p u : Tmp} (h : fn.results = #[.cell p 73, .tmp u]) {R : Ending → World → Prop} {a : Act} {w : World} (g : Nat) (x y z s t r v : Value) (hp : a.tmps.getD p undef = .pointer (some ⟨g, 0, none⟩))
    (hu : a.tmps.getD u undef = v) (hg : w.heap[g]? = some (.cells #[x, y, z, s, t, r] 73 (0, 0))) (hd : a.defers = []) (hR : R (.returned (.tuple #[.agg #[x, y, z, s, t, r], v])) w) : bodyPost Try.prog fn R .ret a w := by
  refine bodyPost_ret_by (v := .tuple #[.agg #[x, y, z, s, t, r], v]) ?_ hd hR
  have hl := run_loadVar_row (P := Try.prog) w g 73 73 #[x, y, z, s, t, r] (0, 0) _ hg Try.underlying73 rfl (by kernel_rfl)
  rw [results_cell_tmp h, hp, hu]
  simp [asAddr, hl, Result.andThen]

/- an error that is wrapped -/
def wrp (t : ByteArray) (p : Nat) : Obj := .cells #[.int .i64 0, .string t, .iface 64 (.pointer (some ⟨p, 0, none⟩))] 66 (0, 0)
theorem wrap_some (t : ByteArray) (p : Nat) (w : World) : Calls Try.prog 29 #[.string t, .iface 64 (.pointer (some ⟨p, 0, none⟩))] w fun e w' => e = .returned (.iface 64 (.pointer (some ⟨w.heap.size, 0, none⟩))) ∧ w' = w.alloc (wrp t p) := by
  go_enter Try.func29, Try.ntmps29
  go_wp2
  go_ret
  exact ⟨rfl, rfl⟩

set_option maxHeartbeats 2000000 in
theorem decode_short (s : ByteArray) (w : World) (hs : s.size ≤ 281474976710656) (h17 : s.size < 17) :
    Calls Try.prog 28 #[.string s] w fun e w' => ∃ m p f, e = .returned (.tuple #[fra 0 0 0 0 0 ⟨#[]⟩, .iface 64 (.pointer (some ⟨m, 0, none⟩))]) ∧ w'.heap[m]? = some (wrp tFRAME p) ∧ w'.heap[p]? = some (flt 12 f) ∧ (p < m ∧ w.heap.size ≤ p) ∧ Below w.heap.size w w' := by
  have kW := fun p w => hide1 (wrap_some tFRAME p w)
  have mx := mixed
  have kR := fun w => hide1 (newReader_any s w)
  have HS : Shy (s.size ≤ 281474976710656) := ⟨hs⟩
  have H17 : Shy (s.size < 17) := ⟨h17⟩
  unfold fra
  clear hs h17
  go_enter Try.func28, Try.ntmps28
  go_upto_region 2 with (go_at_call 40; refine (kR _).out.mono ?_; rintro e w1 ⟨rfl, rfl⟩)
  generalize hX : World.alloc (World.alloc w _) _ = X
  have HX : Hid (Below w.heap.size w X) := by rw [← hX]; exact ((Below.refl _ _).alloc (Nat.le_refl _) _).alloc (by simp) _
  have h2 := hX ▸ heap_alloc2_old w _ _
  have h3 := hX ▸ heap_alloc2_new w _ _
  obtain ⟨g, hg⟩ : ∃ b, w.heap.size + 1 = b := ⟨_, rfl⟩
  obtain ⟨b2, hb2⟩ : ∃ b, w.heap.size = b := ⟨_, rfl⟩
  have HBS : Shy (b2 < g ∧ w.heap.size = b2) := ⟨by omega, hb2⟩
  have kH := hide1 (head_any g s X (by rw [← hg]; exact h3) HS.out)
  rw [hb2] at h2
  have A0 := hide1 h2
  rw [hg, hb2]
  clear hX hg hb2 h2 h3 kR
  go_wp2_with fail
  refine kH.out.mono ?_
  intro e w1 hp
  obtain ⟨x, o, p, q, a, k, c, f, rfl, hr, hbt, _, hc⟩ := hp.ex
  obtain rfl := hc H17.out
  clear hc
  unfold fra
  have A1 := hide1 ((hbt.block b2 (lt_heap A0.out) (by have := HBS.out; omega)).trans A0.out)
  have B1 := hide1 (hbt.below HX.out (by have := HBS.out; omega) HX.out.size)
  have R1 := hide1 hr
  have L1 : Shy (g < w1.heap.size) := ⟨lt_heap hr⟩
  clear hr hbt hp kH A0 HX
  go_upto_region 3 with (fail)
  generalize hY : World.alloc w1 _ = Y
  have A2 : Hid (Y.heap[b2]? = some (.cells #[.int .i64 0, .int .u32 0, .int .u32 0, .int .u32 0, .int .u32 0, .string ⟨#[]⟩] 73 (0, 0))) := by rw [← hY]; exact (Below.heap_alloc _ _ _ (lt_heap A1.out)).trans A1.out
  have R2 : Hid (Y.heap[g]? = some (rdr s k 12 f)) := by rw [← hY]; exact (Below.heap_alloc _ _ _ L1.out).trans R1.out
  have B2 : Hid (Below w.heap.size w Y) := by rw [← hY]; exact B1.out.alloc B1.out.size _
  have F2 := hide1 (hY ▸ heap_alloc_new w1 _)
  obtain ⟨b5, hb5⟩ : ∃ b, w1.heap.size = b := ⟨_, rfl⟩
  rw [hb5] at F2 ⊢
  have HB5 : Shy (g < b5 ∧ b2 < b5) := ⟨by have := L1.out; have := HBS.out; omega⟩
  clear hY hb5 A1 R1 B1 L1
  have kE := hide1 (err_some g k s f 12 Y R2.out (by decide))
  go_wp2_with fail
  refine kE.out.mono ?_
  rintro e w2 ⟨rfl, qn, hw2⟩
  have E3 : Hid (w2.heap[Y.heap.size]? = some (flt 12 f)) := by rw [hw2]; exact heap_alloc_new Y _
  have A3 : Hid (w2.heap[b2]? = some (.cells #[.int .i64 0, .int .u32 0, .int .u32 0, .int .u32 0, .int .u32 0, .string ⟨#[]⟩] 73 (0, 0))) := by rw [hw2]; exact (Below.heap_alloc Y _ _ (lt_heap A2.out)).trans A2.out
  have B3 : Hid (Below w.heap.size w w2) := by rw [hw2]; exact belowN (B2.out.alloc B2.out.size _) _
  obtain ⟨pe, hpe⟩ : ∃ b, Y.heap.size = b := ⟨_, rfl⟩
  have HPE : Shy (b2 < pe ∧ pe < w2.heap.size) := ⟨⟨by rw [← hpe]; exact lt_heap A2.out, by rw [← hpe]; exact lt_heap E3.out⟩⟩
  rw [hpe] at E3 ⊢
  clear kE hw2 hpe A2 B2 R2 F2
  have kW := kW pe w2
  unfold tFRAME at kW
  go_wp2_with fail
  refine kW.out.mono ?_
  rintro e w3 ⟨rfl, hw3⟩
  obtain ⟨m, hm⟩ : ∃ b, w2.heap.size = b := ⟨_, rfl⟩
  have M4 : Hid (w3.heap[m]? = some (wrp tFRAME pe)) := by rw [hw3, ← hm]; exact heap_alloc_new w2 _
  have E4 : Hid (w3.heap[pe]? = some (flt 12 f)) := by rw [hw3]; exact (Below.heap_alloc w2 _ _ (lt_heap E3.out)).trans E3.out
  have A4 : Hid (w3.heap[b2]? = some (.cells #[.int .i64 0, .int .u32 0, .int .u32 0, .int .u32 0, .int .u32 0, .string ⟨#[]⟩] 73 (0, 0))) := by rw [hw3]; exact (Below.heap_alloc w2 _ _ (lt_heap A3.out)).trans A3.out
  have B4 : Hid (Below w.heap.size w w3) := by rw [hw3]; exact B3.out.alloc B3.out.size _
  have HM : Shy (b2 < pe ∧ pe < m) := ⟨by rw [← hm]; exact HPE.out⟩
  rw [hm]
  clear kW hw3 hm E3 A3 B3 HPE
  go_wp2_with (refine wpList_store_row rfl 73 (.tmp 2) (.tmp 16) rfl b2 #[.int .i64 0, .int .u32 0, .int .u32 0, .int .u32 0, .int .u32 0, .string ⟨#[]⟩] rfl rfl 73 _ A4.out rfl (by kernel_rfl) (by kernel_rfl) ?_)
  exact ret_f2 Try.results28 b2 _ _ _ _ _ _ _ rfl rfl (setRow_heap w3 b2 _ _ _ _ A4.out) rfl ⟨m, pe, f, rfl, (setRow_other _ b2 m _ (by have := HM.out; omega)).trans M4.out, (setRow_other _ b2 pe _ (by have := HM.out; omega)).trans E4.out, ⟨HM.out.2, by have := HM.out; have := HBS.out; omega⟩, below_setRow B4.out (by have := HBS.out; omega) _⟩

/- which frame bytes are, or what is wrong with them -/
def decC (s : ByteArray) : Int := chk (hdK s) (hdN s 1) (hdN s 5) (hdN s 9) (hdN s 13) (s.size - 17)
theorem hdN_lt (s : ByteArray) (k : Nat) : hdN s k < 4294967296 := by
  have h1 := val_lt _ (((nums_all s).drop k).take 4)
  have h2 : (((nums s).drop k).take 4).length ≤ 4 := by rw [List.length_take]; omega
  have h3 : (256 : Nat) ^ (((nums s).drop k).take 4).length ≤ 256 ^ 4 := Nat.pow_le_pow_right (by omega) h2
  unfold hdN
  omega
theorem hdK_lt (s : ByteArray) : hdK s < 256 := by
  have h1 := val_lt _ (((nums_all s).drop 0).take 1)
  have h2 : (((nums s).drop 0).take 1).length ≤ 1 := by rw [List.length_take]; omega
  have h3 : (256 : Nat) ^ (((nums s).drop 0).take 1).length ≤ 256 ^ 1 := Nat.pow_le_pow_right (by omega) h2
  unfold hdK
  omega
theorem body_size (s : ByteArray) : (s.extract 17 s.size).size = s.size - 17 := by
  rw [size_nums, nums_rest, List.length_drop, nums_length]

set_option maxHeartbeats 2000000 in
theorem decode_bad (s : ByteArray) (w : World) (hs : s.size ≤ 281474976710656) (h17 : 17 ≤ s.size) (hc : decC s ≠ 0) :
    Calls Try.prog 28 #[.string s] w fun e w' => ∃ m, e = .returned (.tuple #[fra 0 0 0 0 0 ⟨#[]⟩, .iface 64 (.pointer (some ⟨m, 0, none⟩))]) ∧ w'.heap[m]? = some (flt (decC s) tFRAME) ∧ w.heap.size ≤ m ∧ Below w.heap.size w w' := by
  have mB := body_size s
  have kC := fun w => hide1 (check_any (hdK s) (hdN s 1) (hdN s 5) (hdN s 9) (hdN s 13) (s.extract 17 s.size) w)
  rw [mB] at kC
  change ∀ w, Hid (Calls Try.prog 44 #[fra (hdK s) (hdN s 1) (hdN s 5) (hdN s 9) (hdN s 13) (s.extract 17 s.size)] w fun e w' => e = .returned (.int .i64 (decC s)) ∧ Below w.heap.size w w') at kC
  have HCUT : Hid (∀ w, (Instr.slice 9 (.string s) (some (.int .i64 17)) none none).run Try.prog w = .ok (.string (s.extract 17 s.size)) w) := fun w => run_from s 17 h17 w
  have kN := fun w => hide1 (new_some (decC s) tFRAME w hc)
  unfold tFRAME at kN
  have hcb : (decC s != 0) = true := by simpa using hc
  generalize decC s = C at *
  generalize s.extract 17 s.size = BD at *
  clear hc mB
  obtain ⟨K, hK⟩ : ∃ x, hdK s = x := ⟨_, rfl⟩
  have EK : Shy (hdK s = K) := ⟨hK⟩
  rw [hK] at kC
  try rw [hK]
  clear hK
  obtain ⟨O, hO⟩ : ∃ x, hdN s 1 = x := ⟨_, rfl⟩
  have EO : Shy (hdN s 1 = O) := ⟨hO⟩
  rw [hO] at kC
  try rw [hO]
  clear hO
  obtain ⟨P, hP⟩ : ∃ x, hdN s 5 = x := ⟨_, rfl⟩
  have EP : Shy (hdN s 5 = P) := ⟨hP⟩
  rw [hP] at kC
  try rw [hP]
  clear hP
  obtain ⟨Q, hQ⟩ : ∃ x, hdN s 9 = x := ⟨_, rfl⟩
  have EQ : Shy (hdN s 9 = Q) := ⟨hQ⟩
  rw [hQ] at kC
  try rw [hQ]
  clear hQ
  obtain ⟨A, hA⟩ : ∃ x, hdN s 13 = x := ⟨_, rfl⟩
  have EA : Shy (hdN s 13 = A) := ⟨hA⟩
  rw [hA] at kC
  try rw [hA]
  clear hA
  have mx := mixed
  have kR := fun w => hide1 (newReader_any s w)
  have HS : Shy (s.size ≤ 281474976710656) := ⟨hs⟩
  have H17 : Shy (17 ≤ s.size) := ⟨h17⟩
  unfold fra
  clear hs h17
  go_enter Try.func28, Try.ntmps28
  go_upto_region 2 with (go_at_call 40; refine (kR _).out.mono ?_; rintro e w1 ⟨rfl, rfl⟩)
  generalize hX : World.alloc (World.alloc w _) _ = X
  have HX : Hid (Below w.heap.size w X) := by rw [← hX]; exact ((Below.refl _ _).alloc (Nat.le_refl _) _).alloc (by simp) _
  have h2 := hX ▸ heap_alloc2_old w _ _
  have h3 := hX ▸ heap_alloc2_new w _ _
  obtain ⟨g, hg⟩ : ∃ b, w.heap.size + 1 = b := ⟨_, rfl⟩
  obtain ⟨b2, hb2⟩ : ∃ b, w.heap.size = b := ⟨_, rfl⟩
  have HBS : Shy (b2 < g ∧ w.heap.size = b2) := ⟨by omega, hb2⟩
  have kH := hide1 (head_any g s X (by rw [← hg]; exact h3) HS.out)
  rw [hb2] at h2
  have A0 := hide1 h2
  rw [hg, hb2]
  clear hX hg hb2 h2 h3 kR
  go_wp2_with fail
  refine kH.out.mono ?_
  intro e w1 hp
  obtain ⟨x, o, p, q, a, k, c, f, rfl, hr, hbt, hc, _⟩ := hp.ex
  obtain ⟨rfl, rfl, r1, r2, r3, r4, r5⟩ := hc H17.out
  rw [EK.out] at r1
  rw [EO.out] at r2
  rw [EP.out] at r3
  rw [EQ.out] at r4
  rw [EA.out] at r5
  obtain rfl := r1.symm
  obtain rfl := r2.symm
  obtain rfl := r3.symm
  obtain rfl := r4.symm
  obtain rfl := r5.symm
  clear hc r1 r2 r3 r4 r5
  unfold fra
  unfold fra at kC
  have A1 := hide1 ((hbt.block b2 (lt_heap A0.out) (by have := HBS.out; omega)).trans A0.out)
  have B1 := hide1 (hbt.below HX.out (by have := HBS.out; omega) HX.out.size)
  have R1 := hide1 hr
  have L1 : Shy (g < w1.heap.size) := ⟨lt_heap hr⟩
  clear hr hbt hp kH A0 HX
  go_upto_region 3 with (fail)
  generalize hY : World.alloc w1 _ = Y
  have A2 : Hid (Y.heap[b2]? = some (.cells #[.int .i64 0, .int .u32 0, .int .u32 0, .int .u32 0, .int .u32 0, .string ⟨#[]⟩] 73 (0, 0))) := by rw [← hY]; exact (Below.heap_alloc _ _ _ (lt_heap A1.out)).trans A1.out
  have R2 : Hid (Y.heap[g]? = some (rdr s 17 0 f)) := by rw [← hY]; exact (Below.heap_alloc _ _ _ L1.out).trans R1.out
  have B2 : Hid (Below w.heap.size w Y) := by rw [← hY]; exact B1.out.alloc B1.out.size _
  have F2 := hide1 (hY ▸ heap_alloc_new w1 _)
  obtain ⟨b5, hb5⟩ : ∃ b, w1.heap.size = b := ⟨_, rfl⟩
  rw [hb5] at F2 ⊢
  have HB5 : Shy (g < b5 ∧ b2 < b5) := ⟨by have := L1.out; have := HBS.out; omega⟩
  clear hY hb5 A1 R1 B1 L1
  have kE := hide1 (err_none g 17 s f Y R2.out)
  go_wp2_with fail
  refine kE.out.mono ?_
  rintro e w2 ⟨rfl, qn, hw2⟩
  have A3 : Hid (w2.heap[b2]? = some (.cells #[.int .i64 0, .int .u32 0, .int .u32 0, .int .u32 0, .int .u32 0, .string ⟨#[]⟩] 73 (0, 0))) := by rw [hw2]; exact A2.out
  have R3 : Hid (w2.heap[g]? = some (rdr s 17 0 f)) := by rw [hw2]; exact R2.out
  have F3 : Hid (w2.heap[b5]? = some (.cells #[.int .i64 (K : Int), .int .u32 (O : Int), .int .u32 (P : Int), .int .u32 (Q : Int), .int .u32 (A : Int), .string ⟨#[]⟩] 73 (0, 0))) := by rw [hw2]; exact F2.out
  have B3 : Hid (Below w.heap.size w w2) := by rw [hw2]; exact belowN B2.out _
  clear kE hw2 A2 B2 R2 F2
  have kA := hide1 (at_any g 17 s f 0 w2 R3.out)
  go_wp2_with fail
  refine kA.out.mono ?_
  rintro e w3 ⟨rfl, hw3⟩
  cases hw3
  have hcut := HCUT.out
  obtain ⟨d0, d1, d2, d3, d4, d5, lb⟩ := box6 F3.out
  obtain ⟨f0, f1, f2, f3, f4, f5⟩ := free6 F3.out
  clear kA
  go_upto_region 7 with (fail)
  generalize hV : World.setCell w2 _ _ = V
  have A4 : Hid (V.heap[b2]? = some (.cells #[.int .i64 0, .int .u32 0, .int .u32 0, .int .u32 0, .int .u32 0, .string ⟨#[]⟩] 73 (0, 0))) := by rw [← hV]; exact (heap_setCell_other _ _ b2 _ (by simp; have := HB5.out; omega)).trans A3.out
  have F4 : Hid (V.heap[b5]? = some (.cells #[.int .i64 (K : Int), .int .u32 (O : Int), .int .u32 (P : Int), .int .u32 (Q : Int), .int .u32 (A : Int), .string BD] 73 (0, 0))) := by rw [← hV, heap_setCell_same _ b5 5 _ _ _ F3.out]; rfl
  have B4 : Hid (Below w.heap.size w V) := by rw [← hV]; exact B3.out.setCell (by simp; have := HB5.out; have := HBS.out; omega) _
  clear hV hcut HCUT d0 d1 d2 d3 d4 d5 lb f0 f1 f2 f3 f4 f5 A3 B3 R3 F3
  obtain ⟨d0, d1, d2, d3, d4, d5, lb⟩ := box6 F4.out
  go_wp2_with fail
  refine (kC _).out.mono ?_
  rintro e w4 ⟨rfl, hb4⟩
  have A5 := hide1 ((hb4.block b2 (lt_heap A4.out)).trans A4.out)
  have F5 := hide1 ((hb4.block b5 lb).trans F4.out)
  have B5 := hide1 (B4.out.trans (hb4.mono B4.out.size))
  clear kC hb4 A4 F4 B4 d0 d1 d2 d3 d4 d5 lb
  go_wp2_with fail
  refine (kN _).out.mono ?_
  rintro e w5 ⟨rfl, hw5⟩
  obtain ⟨m, hm⟩ : ∃ b, w4.heap.size = b := ⟨_, rfl⟩
  have M6 : Hid (w5.heap[m]? = some (flt C tFRAME)) := by rw [hw5, ← hm]; exact heap_alloc_new w4 _
  have A6 : Hid (w5.heap[b2]? = some (.cells #[.int .i64 0, .int .u32 0, .int .u32 0, .int .u32 0, .int .u32 0, .string ⟨#[]⟩] 73 (0, 0))) := by rw [hw5]; exact (Below.heap_alloc w4 _ _ (lt_heap A5.out)).trans A5.out
  have B6 : Hid (Below w.heap.size w w5) := by rw [hw5]; exact B5.out.alloc B5.out.size _
  have HM : Shy (b2 < m) := ⟨by rw [← hm]; exact lt_heap A5.out⟩
  rw [hm]
  clear kN hw5 hm A5 B5 F5
  go_wp2_with (refine wpList_store_row rfl 73 (.tmp 2) (.tmp 28) rfl b2 #[.int .i64 0, .int .u32 0, .int .u32 0, .int .u32 0, .int .u32 0, .string ⟨#[]⟩] rfl rfl 73 _ A6.out rfl (by kernel_rfl) (by kernel_rfl) ?_)
  exact ret_f2 Try.results28 b2 _ _ _ _ _ _ _ rfl rfl (setRow_heap w5 b2 _ _ _ _ A6.out) rfl ⟨m, rfl, (setRow_other _ b2 m _ (by have := HM.out; omega)).trans M6.out, by have := HM.out; have := HBS.out; omega, below_setRow B6.out (by have := HBS.out; omega) _⟩

set_option maxHeartbeats 2000000 in
theorem decode_ok (s : ByteArray) (w : World) (hs : s.size ≤ 281474976710656) (h17 : 17 ≤ s.size) (hc : decC s = 0) :
    Calls Try.prog 28 #[.string s] w fun e w' => e = .returned (.tuple #[fra (hdK s) (hdN s 1) (hdN s 5) (hdN s 9) (hdN s 13) (s.extract 17 s.size), .nilIface]) ∧ Below w.heap.size w w' := by
  have mB := body_size s
  have kC := fun w => hide1 (check_any (hdK s) (hdN s 1) (hdN s 5) (hdN s 9) (hdN s 13) (s.extract 17 s.size) w)
  rw [mB] at kC
  change ∀ w, Hid (Calls Try.prog 44 #[fra (hdK s) (hdN s 1) (hdN s 5) (hdN s 9) (hdN s 13) (s.extract 17 s.size)] w fun e w' => e = .returned (.int .i64 (decC s)) ∧ Below w.heap.size w w') at kC
  have HCUT : Hid (∀ w, (Instr.slice 9 (.string s) (some (.int .i64 17)) none none).run Try.prog w = .ok (.string (s.extract 17 s.size)) w) := fun w => run_from s 17 h17 w
  rw [hc] at kC
  have kL := fun w => hide1 (clone_any (s.extract 17 s.size) w (by omega))
  generalize s.extract 17 s.size = BD at *
  clear hc mB
  obtain ⟨K, hK⟩ : ∃ x, hdK s = x := ⟨_, rfl⟩
  have EK : Shy (hdK s = K) := ⟨hK⟩
  rw [hK] at kC
  try rw [hK]
  clear hK
  obtain ⟨O, hO⟩ : ∃ x, hdN s 1 = x := ⟨_, rfl⟩
  have EO : Shy (hdN s 1 = O) := ⟨hO⟩
  rw [hO] at kC
  try rw [hO]
  clear hO
  obtain ⟨P, hP⟩ : ∃ x, hdN s 5 = x := ⟨_, rfl⟩
  have EP : Shy (hdN s 5 = P) := ⟨hP⟩
  rw [hP] at kC
  try rw [hP]
  clear hP
  obtain ⟨Q, hQ⟩ : ∃ x, hdN s 9 = x := ⟨_, rfl⟩
  have EQ : Shy (hdN s 9 = Q) := ⟨hQ⟩
  rw [hQ] at kC
  try rw [hQ]
  clear hQ
  obtain ⟨A, hA⟩ : ∃ x, hdN s 13 = x := ⟨_, rfl⟩
  have EA : Shy (hdN s 13 = A) := ⟨hA⟩
  rw [hA] at kC
  try rw [hA]
  clear hA
  have mx := mixed
  have kR := fun w => hide1 (newReader_any s w)
  have HS : Shy (s.size ≤ 281474976710656) := ⟨hs⟩
  have H17 : Shy (17 ≤ s.size) := ⟨h17⟩
  unfold fra
  clear hs h17
  go_enter Try.func28, Try.ntmps28
  go_upto_region 2 with (go_at_call 40; refine (kR _).out.mono ?_; rintro e w1 ⟨rfl, rfl⟩)
  generalize hX : World.alloc (World.alloc w _) _ = X
  have HX : Hid (Below w.heap.size w X) := by rw [← hX]; exact ((Below.refl _ _).alloc (Nat.le_refl _) _).alloc (by simp) _
  have h2 := hX ▸ heap_alloc2_old w _ _
  have h3 := hX ▸ heap_alloc2_new w _ _
  obtain ⟨g, hg⟩ : ∃ b, w.heap.size + 1 = b := ⟨_, rfl⟩
  obtain ⟨b2, hb2⟩ : ∃ b, w.heap.size = b := ⟨_, rfl⟩
  have HBS : Shy (b2 < g ∧ w.heap.size = b2) := ⟨by omega, hb2⟩
  have kH := hide1 (head_any g s X (by rw [← hg]; exact h3) HS.out)
  rw [hb2] at h2
  have A0 := hide1 h2
  rw [hg, hb2]
  clear hX hg hb2 h2 h3 kR
  go_wp2_with fail
  refine kH.out.mono ?_
  intro e w1 hp
  obtain ⟨x, o, p, q, a, k, c, f, rfl, hr, hbt, hc, _⟩ := hp.ex
  obtain ⟨rfl, rfl, r1, r2, r3, r4, r5⟩ := hc H17.out
  rw [EK.out] at r1
  rw [EO.out] at r2
  rw [EP.out] at r3
  rw [EQ.out] at r4
  rw [EA.out] at r5
  obtain rfl := r1.symm
  obtain rfl := r2.symm
  obtain rfl := r3.symm
  obtain rfl := r4.symm
  obtain rfl := r5.symm
  clear hc r1 r2 r3 r4 r5
  unfold fra
  unfold fra at kC
  have A1 := hide1 ((hbt.block b2 (lt_heap A0.out) (by have := HBS.out; omega)).trans A0.out)
  have B1 := hide1 (hbt.below HX.out (by have := HBS.out; omega) HX.out.size)
  have R1 := hide1 hr
  have L1 : Shy (g < w1.heap.size) := ⟨lt_heap hr⟩
  clear hr hbt hp kH A0 HX
  go_upto_region 3 with (fail)
  generalize hY : World.alloc w1 _ = Y
  have A2 : Hid (Y.heap[b2]? = some (.cells #[.int .i64 0, .int .u32 0, .int .u32 0, .int .u32 0, .int .u32 0, .string ⟨#[]⟩] 73 (0, 0))) := by rw [← hY]; exact (Below.heap_alloc _ _ _ (lt_heap A1.out)).trans A1.out
  have R2 : Hid (Y.heap[g]? = some (rdr s 17 0 f)) := by rw [← hY]; exact (Below.heap_alloc _ _ _ L1.out).trans R1.out
  have B2 : Hid (Below w.heap.size w Y) := by rw [← hY]; exact B1.out.alloc B1.out.size _
  have F2 := hide1 (hY ▸ heap_alloc_new w1 _)
  obtain ⟨b5, hb5⟩ : ∃ b, w1.heap.size = b := ⟨_, rfl⟩
  rw [hb5] at F2 ⊢
  have HB5 : Shy (g < b5 ∧ b2 < b5) := ⟨by have := L1.out; have := HBS.out; omega⟩
  clear hY hb5 A1 R1 B1 L1
  have kE := hide1 (err_none g 17 s f Y R2.out)
  go_wp2_with fail
  refine kE.out.mono ?_
  rintro e w2 ⟨rfl, qn, hw2⟩
  have A3 : Hid (w2.heap[b2]? = some (.cells #[.int .i64 0, .int .u32 0, .int .u32 0, .int .u32 0, .int .u32 0, .string ⟨#[]⟩] 73 (0, 0))) := by rw [hw2]; exact A2.out
  have R3 : Hid (w2.heap[g]? = some (rdr s 17 0 f)) := by rw [hw2]; exact R2.out
  have F3 : Hid (w2.heap[b5]? = some (.cells #[.int .i64 (K : Int), .int .u32 (O : Int), .int .u32 (P : Int), .int .u32 (Q : Int), .int .u32 (A : Int), .string ⟨#[]⟩] 73 (0, 0))) := by rw [hw2]; exact F2.out
  have B3 : Hid (Below w.heap.size w w2) := by rw [hw2]; exact belowN B2.out _
  clear kE hw2 A2 B2 R2 F2
  have kA := hide1 (at_any g 17 s f 0 w2 R3.out)
  go_wp2_with fail
  refine kA.out.mono ?_
  rintro e w3 ⟨rfl, hw3⟩
  cases hw3
  have hcut := HCUT.out
  obtain ⟨d0, d1, d2, d3, d4, d5, lb⟩ := box6 F3.out
  obtain ⟨f0, f1, f2, f3, f4, f5⟩ := free6 F3.out
  clear kA
  go_upto_region 7 with (fail)
  generalize hV : World.setCell w2 _ _ = V
  have A4 : Hid (V.heap[b2]? = some (.cells #[.int .i64 0, .int .u32 0, .int .u32 0, .int .u32 0, .int .u32 0, .string ⟨#[]⟩] 73 (0, 0))) := by rw [← hV]; exact (heap_setCell_other _ _ b2 _ (by simp; have := HB5.out; omega)).trans A3.out
  have F4 : Hid (V.heap[b5]? = some (.cells #[.int .i64 (K : Int), .int .u32 (O : Int), .int .u32 (P : Int), .int .u32 (Q : Int), .int .u32 (A : Int), .string BD] 73 (0, 0))) := by rw [← hV, heap_setCell_same _ b5 5 _ _ _ F3.out]; rfl
  have B4 : Hid (Below w.heap.size w V) := by rw [← hV]; exact B3.out.setCell (by simp; have := HB5.out; have := HBS.out; omega) _
  clear hV hcut HCUT d0 d1 d2 d3 d4 d5 lb f0 f1 f2 f3 f4 f5 A3 B3 R3 F3
  obtain ⟨d0, d1, d2, d3, d4, d5, lb⟩ := box6 F4.out
  go_wp2_with fail
  refine (kC _).out.mono ?_
  rintro e w4 ⟨rfl, hb4⟩
  have A5 := hide1 ((hb4.block b2 (lt_heap A4.out)).trans A4.out)
  have F5 := hide1 ((hb4.block b5 lb).trans F4.out)
  have B5 := hide1 (B4.out.trans (hb4.mono B4.out.size))
  clear kC hb4 A4 F4 B4 d0 d1 d2 d3 d4 d5 lb
  obtain ⟨d0, d1, d2, d3, d4, d5, lb⟩ := box6 F5.out
  go_wp2_with fail
  refine (kL _).out.mono ?_
  rintro e w5 ⟨rfl, hb5⟩
  have A6 := hide1 ((hb5.block b2 (lt_heap A5.out)).trans A5.out)
  have F6 := hide1 ((hb5.block b5 lb).trans F5.out)
  have B6 := hide1 (B5.out.trans (hb5.mono B5.out.size))
  clear kL hb5 A5 F5 B5 d0 d1 d2 d3 d4 d5 lb
  obtain ⟨d0, d1, d2, d3, d4, d5, lb⟩ := box6 F6.out
  obtain ⟨f0, f1, f2, f3, f4, f5⟩ := free6 F6.out
  go_upto_region 11 with (fail)
  generalize hU : World.setCell w5 _ _ = U
  have A7 : Hid (U.heap[b2]? = some (.cells #[.int .i64 0, .int .u32 0, .int .u32 0, .int .u32 0, .int .u32 0, .string ⟨#[]⟩] 73 (0, 0))) := by rw [← hU]; exact (heap_setCell_other _ _ b2 _ (by simp; have := HB5.out; omega)).trans A6.out
  have F7 : Hid (U.heap[b5]? = some (.cells #[.int .i64 (K : Int), .int .u32 (O : Int), .int .u32 (P : Int), .int .u32 (Q : Int), .int .u32 (A : Int), .string BD] 73 (0, 0))) := by rw [← hU, heap_setCell_same _ b5 5 _ _ _ F6.out]; rfl
  have B7 : Hid (Below w.heap.size w U) := by rw [← hU]; exact B6.out.setCell (by simp; have := HB5.out; have := HBS.out; omega) _
  clear hU d0 d1 d2 d3 d4 d5 lb f0 f1 f2 f3 f4 f5 A6 B6 F6
  obtain ⟨d0, d1, d2, d3, d4, d5, lb⟩ := box6 F7.out
  go_wp2_with (refine wpList_store_row rfl 73 (.tmp 2) (.tmp 35) rfl b2 #[.int .i64 (K : Int), .int .u32 (O : Int), .int .u32 (P : Int), .int .u32 (Q : Int), .int .u32 (A : Int), .string BD] rfl rfl 73 _ A7.out rfl (by kernel_rfl) (by kernel_rfl) ?_)
  exact ret_f2 Try.results28 b2 _ _ _ _ _ _ _ rfl rfl (setRow_heap U b2 _ _ _ _ A7.out) rfl ⟨rfl, below_setRow B7.out (by have := HBS.out; omega) _⟩
end Go.Proofs.Ytcadlcpccemkbaa.X
