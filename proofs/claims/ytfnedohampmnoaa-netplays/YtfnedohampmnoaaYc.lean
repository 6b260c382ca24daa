/- The document's Turn: whatever it is given. -/
import Derived.Test.YtfnedohampmnoaaYh
import Derived.Test.YtfnedohampmnoaaYb
namespace Go.Proofs.Ytfnedohampmnoaa
open Go.RowKit
set_option maxRecDepth 100000
attribute [local go_sem] not_any

theorem set_cut {α : Type} (l : List α) (j : Nat) (x : α) (h : j < l.length) : l.take j ++ [x] ++ l.drop (j + 1) = l.set j x := by
  rw [List.set_eq_take_append_cons_drop, if_pos h]
  simp
theorem trn_cut (s : ByteArray) (j b : Nat) (h : j < s.size) : s.extract 0 j ++ ⟨#[UInt8.ofNat ((s.data.toList.getD j 0).toNat ^^^ b)]⟩ ++ s.extract (j + 1) s.size = trn s j b := by
  apply ByteArray.ext
  apply Array.toList_inj.1
  have hl : j < s.data.toList.length := by rw [Array.length_toList]; exact h
  have e := set_cut s.data.toList j (UInt8.ofNat ((s.data.toList.getD j 0).toNat ^^^ b)) hl
  show _ = trnL s.data.toList j b
  unfold trnL
  rw [← e]
  simp [ByteArray.data_append, ByteArray.data_extract]
  have hsz : s.size = s.data.size := rfl
  rw [hsz, List.take_of_length_le (by simp)]
theorem one_byte (W : World) (v : Nat) (hv : v < 256) : (convert 64 9 (.slice (some ⟨W.heap.size, 0, none⟩) 1 1)).run Try.prog (W.alloc (.cells #[.int .u8 (v : Int)] 5)) = .ok (.string ⟨#[UInt8.ofNat v]⟩) (W.alloc (.cells #[.int .u8 (v : Int)] 5)) := by
  have k := run_convert_bytes_back (P := Try.prog) (W.alloc (.cells #[.int .u8 (v : Int)] 5)) 64 9 5 ⟨W.heap.size, 0, none⟩ 1 [UInt8.ofNat v] Try.underlying64 Try.underlying5 Try.underlying9 (fun m hm => by
    obtain rfl : m = 0 := by simp at hm; omega
    rw [Addr.add_lit, cell_of_row _ W.heap.size _ _ _ _ (heap_alloc_new W _)]
    simp only [List.getElem_cons_zero]
    rw [UInt8.toNat_ofNat_of_lt' hv]
    rfl)
  exact k
theorem run_at (s : ByteArray) (j : Nat) (h : j < s.size) (w : World) : (Instr.index 9 (.string s) (.int .i64 (j : Int))).run Try.prog w = .ok (.int .u8 ((s.data.toList.getD j 0).toNat : Int)) w := by
  have e : (s.data.toList.getD j 0) = s[j] := by
    rw [List.getD_eq_getElem?_getD, Array.getElem?_toList, Array.getElem?_eq_getElem (show j < s.data.size from h)]
    rfl
  rw [e]
  have := Try.underlying9
  have hj : (j : Int) < (s.size : Int) := by omega
  go_simp
theorem run_upto (s : ByteArray) (j : Nat) (h : j ≤ s.size) (w : World) : (Instr.sliceAt 9 (.string s) none (some (.int .i64 (j : Int))) none).run Try.prog w = .ok (.string (s.extract 0 j)) w := by
  have := Try.underlying9
  have hj : (j : Int) ≤ (s.size : Int) := by omega
  go_simp
theorem run_rest (s : ByteArray) (j : Nat) (h : j < s.size) (w : World) : (Instr.sliceAt 9 (.string s) (some (.int .i64 ((j : Int) + 1))) none none).run Try.prog w = .ok (.string (s.extract (j + 1) s.size)) w := by
  have := Try.underlying9
  have hj : (j : Int) + 1 ≤ (s.size : Int) := by omega
  have hj0 : (0 : Int) ≤ (j : Int) + 1 := by omega
  have e : ((j : Int) + 1).toNat = j + 1 := by omega
  go_simp

set_option maxHeartbeats 1000000 in
theorem rturn_none0 {N : Nat → List ByteArray} (a0 a1 : Option Addr) (c0 c1 : Nat) (i : Nat) (j b : Int) (w : World) (hi : i < (N 0).length) (hj : j < 0 ∨ (((N 0).getD i ByteArray.empty).size : Int) ≤ j) (hA : Lst 0 w (.slice a0 (N 0).length c0) (N 0)) :
    Calls Try.prog 26 #[.agg #[.slice a0 (N 0).length c0, .slice a1 (N 1).length c1], .int .i64 0, .int .i64 (i : Int), .int .i64 j, .int .u8 b] w fun e w' => e = .returned (.tuple #[.agg #[.slice a0 (N 0).length c0, .slice a1 (N 1).length c1], .int .i64 6]) ∧ Below w.heap.size w w' := by
  have kW := fun w => hide1 (wrong_any (N := N) a0 a1 c0 c1 0 i w)
  have e0 : plc N 0 i = 0 := plc_zero (k := 0) (by omega) hi
  rw [e0] at kW
  obtain ⟨g, c, hx, hcl, _, hgl, _, _⟩ := hA.cell hi
  cases hx
  have kT := fun w => hide1 (to_any0 (some ⟨g, 0, none⟩) a1 (N 0).length c0 (N 1).length c1 w)
  generalize (N 0).getD i ByteArray.empty = s at *
  have CI := hide1 hcl
  have GL := hide1 hgl
  have hik : (i : Int) < ((N 0).length : Int) := by omega
  clear e0 hA hcl hgl
  generalize (N 0).length = n0 at *
  generalize (N 1).length = n1 at *
  go_enter Try.func26, Try.ntmps26
  go_wp2_with fail
  have h2 := two_new w (.cells #[.slice (some ⟨g, 0, none⟩) n0 c0, .slice a1 n1 c1] 27) (.cells #[.slice none 0 0, .slice none 0 0] 27)
  have hB := below2 (w := w) (.cells #[.slice (some ⟨g, 0, none⟩) n0 c0, .slice a1 n1 c1] 27) (.cells #[.slice none 0 0, .slice none 0 0] 27)
  have H2 := hide1 h2
  have HB := hide1 hB
  clear h2 hB
  generalize (w.alloc _).alloc _ = W1 at H2 HB ⊢
  obtain ⟨b0, hb0⟩ : ∃ b0, w.heap.size = b0 := ⟨_, rfl⟩
  obtain ⟨b1, hb1⟩ : ∃ b1, w.heap.size + 1 = b1 := ⟨_, rfl⟩
  have HS : Hid (w.heap.size = b0 ∧ b0 + 1 = b1) := ⟨hb0, by omega⟩
  rw [hb1, hb0] at H2
  rw [hb1, hb0]
  clear hb0 hb1
  refine ((kW _).out).mono ?_
  rintro e W2 ⟨rfl, hbb⟩
  have R0' := hide1 ((hbb.block b0 (lt_heap H2.out.1)).trans H2.out.1)
  have R1' := hide1 ((hbb.block b1 (lt_heap H2.out.2)).trans H2.out.2)
  have B2' : Hid (Below w.heap.size w W2) := HB.out.trans (hbb.mono HB.out.size)
  clear hbb H2 HB
  have R0 := R0'
  have R1 := R1'
  have B2 := B2'
  clear R0' R1' B2'
  obtain ⟨d0, d1, _, _, _⟩ := box2 R0.out
  go_wp2_with fail
  clear d0 d1
  refine ((kT _).out).mono ?_
  rintro e W3 ⟨rfl, hbb⟩
  have R0' := hide1 ((hbb.block b0 (lt_heap R0.out)).trans R0.out)
  have R1' := hide1 ((hbb.block b1 (lt_heap R1.out)).trans R1.out)
  have B2' : Hid (Below w.heap.size w W3) := B2.out.trans (hbb.mono B2.out.size)
  clear hbb R0 R1 B2
  have R0 := R0'
  have R1 := R1'
  have B2 := B2'
  clear R0' R1' B2'
  have CI4 := (B2.out.cell (p := ⟨g, i, none⟩) GL.out).trans CI.out
  obtain ⟨d0, d1, _, _, _⟩ := box2 R0.out
  obtain ⟨f0, f1, z0, z1, _⟩ := box2 R1.out
  by_cases h0 : j < 0
  · go_wp2
    exact ret_n2 Try.results26 b1 _ _ _ rfl rfl (set_box2 R1.out) rfl ⟨rfl, below_set2 B2.out (by have := HS.out; omega)⟩
  · have h1 : (s.size : Int) ≤ j := by omega
    go_wp2
    exact ret_n2 Try.results26 b1 _ _ _ rfl rfl (set_box2 R1.out) rfl ⟨rfl, below_set2 B2.out (by have := HS.out; omega)⟩

set_option maxHeartbeats 2000000 in
theorem rturn_ok0 {N : Nat → List ByteArray} (a0 a1 : Option Addr) (c0 c1 : Nat) (i j b : Nat) (w : World) (hi : i < (N 0).length) (hj : j < ((N 0).getD i ByteArray.empty).size) (hb : b < 256) (h64 : (N 0).length ≤ 64) (hsz : ((N 0).getD i ByteArray.empty).size ≤ 131072) (hA : Lst 0 w (.slice a0 (N 0).length c0) (N 0)) :
    Calls Try.prog 26 #[.agg #[.slice a0 (N 0).length c0, .slice a1 (N 1).length c1], .int .i64 0, .int .i64 (i : Int), .int .i64 (j : Int), .int .u8 (b : Int)] w fun e w' => ∃ v', e = .returned (.tuple #[.agg #[v', .slice a1 (N 1).length c1], .int .i64 0]) ∧ Lst w.heap.size w' v' ((N 0).set i (trn ((N 0).getD i ByteArray.empty) j b)) ∧ Below w.heap.size w w' := by
  have kW := fun w => hide1 (wrong_any (N := N) a0 a1 c0 c1 0 i w)
  have e0 : plc N 0 i = 0 := plc_zero (k := 0) (by omega) hi
  rw [e0] at kW
  obtain ⟨g, c, hx, hcl, _, hgl, _, _⟩ := hA.cell hi
  cases hx
  have kT := fun w => hide1 (to_any0 (some ⟨g, 0, none⟩) a1 (N 0).length c0 (N 1).length c1 w)
  have kP := fun W (hb : Below w.heap.size w W) => hide1 (put_any0 (some ⟨g, 0, none⟩) a1 (N 0).length c0 (N 1).length c1 (N 0) i (trn ((N 0).getD i ByteArray.empty) j b) W (hA.below hb (Nat.le_refl _)) hi h64)
  have KP := hide1 kP
  generalize (N 0).getD i ByteArray.empty = s at *
  have CI := hide1 hcl
  have GL := hide1 hgl
  have hik : (i : Int) < ((N 0).length : Int) := by omega
  have hj0 : ¬ (j : Int) < 0 := by omega
  have hj1 : ¬ (s.size : Int) ≤ (j : Int) := by omega
  have wj : IntKind.i64.wrap ((j : Int) + 1) = (j : Int) + 1 := by rw [IntKind.wrap_i64]; omega
  have HT := hide1 (trn_cut s j b hj)
  have HIX := hide1 (run_at s j hj)
  have HUP := hide1 (run_upto s j (by omega))
  have HRE := hide1 (run_rest s j hj)
  have s1 : (s.extract 0 j).size = j := by rw [ByteArray.size_extract]; omega
  have s3 : (s.extract (j + 1) s.size).size = s.size - (j + 1) := by rw [ByteArray.size_extract]; omega
  obtain ⟨u, hu⟩ : ∃ u, (s.data.toList.getD j 0).toNat = u := ⟨_, rfl⟩
  have lu : u < 256 := by rw [← hu]; exact UInt8.toNat_lt _
  rw [hu] at HT HIX
  obtain ⟨v, hv⟩ : ∃ v, v = u ^^^ b := ⟨_, rfl⟩
  have ex : bits .xor .u8 (u : Int) (b : Int) = (v : Int) := by rw [hv]; exact u8_xor_nat _ _ lu hb
  have lv : v < 256 := by rw [hv]; exact xor8_lt lu hb
  rw [← hv] at HT
  have K1 := fun W => hide1 (one_byte W v lv)
  obtain ⟨p2, hp2⟩ : ∃ p2, (⟨#[UInt8.ofNat v]⟩ : ByteArray) = p2 := ⟨_, rfl⟩
  have s2 : p2.size = 1 := by rw [← hp2]; rfl
  rw [hp2] at HT K1
  generalize trn s j b = s' at *
  generalize s.extract 0 j = p1 at *
  generalize s.extract (j + 1) s.size = p3 at *
  have z1 : ¬ (9223372036854775807 < p1.size + p2.size) := by omega
  have z3 : p1.size + p2.size + p3.size ≤ 9223372036854775807 := by omega
  have Z := hide1 (And.intro z1 z3)
  clear e0 hA hi h64 hcl hgl kP hu hv hp2 s1 s2 s3 z1 z3 hj hsz
  generalize (N 0).length = n0 at *
  generalize (N 1).length = n1 at *
  go_enter Try.func26, Try.ntmps26
  go_wp2_with fail
  have h2 := two_new w (.cells #[.slice (some ⟨g, 0, none⟩) n0 c0, .slice a1 n1 c1] 27) (.cells #[.slice none 0 0, .slice none 0 0] 27)
  have hB := below2 (w := w) (.cells #[.slice (some ⟨g, 0, none⟩) n0 c0, .slice a1 n1 c1] 27) (.cells #[.slice none 0 0, .slice none 0 0] 27)
  have H2 := hide1 h2
  have HB := hide1 hB
  clear h2 hB
  generalize (w.alloc _).alloc _ = W1 at H2 HB ⊢
  obtain ⟨b0, hb0⟩ : ∃ b0, w.heap.size = b0 := ⟨_, rfl⟩
  obtain ⟨b1, hb1⟩ : ∃ b1, w.heap.size + 1 = b1 := ⟨_, rfl⟩
  have HS : Hid (w.heap.size = b0 ∧ b0 + 1 = b1) := ⟨hb0, by omega⟩
  rw [hb1, hb0] at H2
  rw [hb1, hb0]
  clear hb0 hb1
  refine ((kW _).out).mono ?_
  rintro e W2 ⟨rfl, hbb⟩
  have R0' := hide1 ((hbb.block b0 (lt_heap H2.out.1)).trans H2.out.1)
  have R1' := hide1 ((hbb.block b1 (lt_heap H2.out.2)).trans H2.out.2)
  have B2' : Hid (Below w.heap.size w W2) := HB.out.trans (hbb.mono HB.out.size)
  clear hbb H2 HB
  have R0 := R0'
  have R1 := R1'
  have B2 := B2'
  clear R0' R1' B2'
  obtain ⟨d0, d1, _, _, _⟩ := box2 R0.out
  go_wp2_with fail
  clear d0 d1
  refine ((kT _).out).mono ?_
  rintro e W3 ⟨rfl, hbb⟩
  have R0' := hide1 ((hbb.block b0 (lt_heap R0.out)).trans R0.out)
  have R1' := hide1 ((hbb.block b1 (lt_heap R1.out)).trans R1.out)
  have B2' : Hid (Below w.heap.size w W3) := B2.out.trans (hbb.mono B2.out.size)
  clear hbb R0 R1 B2
  have R0 := R0'
  have R1 := R1'
  have B2 := B2'
  clear R0' R1' B2'
  have CI4 := (B2.out.cell (p := ⟨g, i, none⟩) GL.out).trans CI.out
  have GL4 : Hid (g < W3.heap.size) := Nat.lt_of_lt_of_le GL.out B2.out.size
  go_upto_region 6 with (fail)
  clear CI4
  refine region_f (F := [20]) (S := fun W => W.cell? ⟨b0, 0, none⟩ = some (.slice (some ⟨g, 0, none⟩) n0 c0) ∧ W.cell? ⟨b0, 1, none⟩ = some (.slice a1 n1 c1) ∧ b0 < W.heap.size) (by kernel_rfl) ⟨(box2 R0.out).1, (box2 R0.out).2.1, (box2 R0.out).2.2.2.2⟩ (fun hS => ?_)
  generalize hU : World.drew W3 = U at hS ⊢
  have R1 : Hid (U.heap[b1]? = some (.cells #[.slice none 0 0, .slice none 0 0] 27 (0, 0))) := by rw [← hU]; exact R1.out
  have B2 : Hid (Below w.heap.size w U) := by rw [← hU]; exact B2.out.drew
  clear hU
  refine take_f 0 38 (.agg #[.slice (some ⟨g, 0, none⟩) n0 c0, .slice a1 n1 c1]) [19, 20, 21] rfl rfl (by kernel_rfl) (by kernel_rfl) (by kernel_rfl) (by kernel_rfl) (by kernel_rfl) (by kernel_rfl) (fun _ _ _ h => h) rfl (fun w hSw => by obtain ⟨g0, g1, g2⟩ := hSw; go_simp) hS ?_
  try simp only [List.setIfInBounds_toArray, List.set_cons_zero, List.set_cons_succ]
  refine take_p 1 39 (.int .i64 0) rfl rfl (by kernel_rfl) (by kernel_rfl) (by kernel_rfl) (fun _ _ _ h => h) rfl (fun w => by go_simp) ?_
  try simp only [List.setIfInBounds_toArray, List.set_cons_zero, List.set_cons_succ]
  refine take_p 2 40 (.int .i64 (i : Int)) rfl rfl (by kernel_rfl) (by kernel_rfl) (by kernel_rfl) (fun _ _ _ h => h) rfl (fun w => by go_simp) ?_
  try simp only [List.setIfInBounds_toArray, List.set_cons_zero, List.set_cons_succ]
  refine take_p 3 41 (.string s) rfl rfl (by kernel_rfl) (by kernel_rfl) (by kernel_rfl) (fun _ _ _ h => h) rfl (fun w => by go_simp) ?_
  try simp only [List.setIfInBounds_toArray, List.set_cons_zero, List.set_cons_succ]
  refine take_p 4 42 (.int .i64 (j : Int)) rfl rfl (by kernel_rfl) (by kernel_rfl) (by kernel_rfl) (fun _ _ _ h => h) rfl (fun w => by go_simp) ?_
  try simp only [List.setIfInBounds_toArray, List.set_cons_zero, List.set_cons_succ]
  refine take_p 5 43 (.string p1) rfl rfl (by kernel_rfl) (by kernel_rfl) (by kernel_rfl) (fun _ _ _ h => h) rfl (fun w => by have hh := HUP.out; simp [execOp, Act.eval, hh]) ?_
  try simp only [List.setIfInBounds_toArray, List.set_cons_zero, List.set_cons_succ]
  refine take_p 6 44 (.string s) rfl rfl (by kernel_rfl) (by kernel_rfl) (by kernel_rfl) (fun _ _ _ h => h) rfl (fun w => by go_simp) ?_
  try simp only [List.setIfInBounds_toArray, List.set_cons_zero, List.set_cons_succ]
  refine take_p 7 45 (.int .i64 (j : Int)) rfl rfl (by kernel_rfl) (by kernel_rfl) (by kernel_rfl) (fun _ _ _ h => h) rfl (fun w => by go_simp) ?_
  try simp only [List.setIfInBounds_toArray, List.set_cons_zero, List.set_cons_succ]
  refine take_p 8 46 (.int .u8 (u : Int)) rfl rfl (by kernel_rfl) (by kernel_rfl) (by kernel_rfl) (fun _ _ _ h => h) rfl (fun w => by have hh := HIX.out; simp [execOp, Act.eval, hh]) ?_
  try simp only [List.setIfInBounds_toArray, List.set_cons_zero, List.set_cons_succ]
  refine take_p 9 47 (.int .u8 (b : Int)) rfl rfl (by kernel_rfl) (by kernel_rfl) (by kernel_rfl) (fun _ _ _ h => h) rfl (fun w => by go_simp) ?_
  try simp only [List.setIfInBounds_toArray, List.set_cons_zero, List.set_cons_succ]
  refine take_p 10 48 (.int .u8 (v : Int)) rfl rfl (by kernel_rfl) (by kernel_rfl) (by kernel_rfl) (fun _ _ _ h => h) rfl (fun w => by go_simp) ?_
  try simp only [List.setIfInBounds_toArray, List.set_cons_zero, List.set_cons_succ]
  refine take_p 14 52 (.string s) rfl rfl (by kernel_rfl) (by kernel_rfl) (by kernel_rfl) (fun _ _ _ h => h) rfl (fun w => by go_simp) ?_
  try simp only [List.setIfInBounds_toArray, List.set_cons_zero, List.set_cons_succ]
  refine take_p 15 53 (.int .i64 (j : Int)) rfl rfl (by kernel_rfl) (by kernel_rfl) (by kernel_rfl) (fun _ _ _ h => h) rfl (fun w => by go_simp) ?_
  try simp only [List.setIfInBounds_toArray, List.set_cons_zero, List.set_cons_succ]
  refine take_p 16 54 (.int .i64 ((j : Int) + 1)) rfl rfl (by kernel_rfl) (by kernel_rfl) (by kernel_rfl) (fun _ _ _ h => h) rfl (fun w => by go_simp) ?_
  try simp only [List.setIfInBounds_toArray, List.set_cons_zero, List.set_cons_succ]
  refine take_p 17 55 (.string p3) rfl rfl (by kernel_rfl) (by kernel_rfl) (by kernel_rfl) (fun _ _ _ h => h) rfl (fun w => by have hh := HRE.out; simp [execOp, Act.eval, hh]) ?_
  try simp only [List.setIfInBounds_toArray, List.set_cons_zero, List.set_cons_succ]
  refine ready_f 11 (o := { dst := some 49, op := Op.buildSlice 64 1 #[(0, Operand.tmp 48)], type := 64, pos := "ref.go:120", after := #[{ on := 10, ground := Ground.data }], guard := none }) (by kernel_rfl) rfl (fun K hK => ?_)
  go_simp
  refine hK.out _ _ (fun _ h => ⟨((below1 _).cell (p := ⟨b0, 0, none⟩) h.2.2).trans h.1, ((below1 _).cell (p := ⟨b0, 1, none⟩) h.2.2).trans h.2.1, Nat.lt_of_lt_of_le h.2.2 (below1 _).size⟩) ?_
  clear hK K
  try simp only [Act.put, List.setIfInBounds_toArray, List.set_cons_zero, List.set_cons_succ]
  have hcv := (K1 U).out
  have hb4 : Below U.heap.size U (U.alloc (.cells #[.int .u8 (v : Int)] 5)) := below1 _
  generalize World.alloc U _ = U4 at hcv hb4 ⊢
  obtain ⟨b8, hb8⟩ : ∃ b8, U.heap.size = b8 := ⟨_, rfl⟩
  rw [hb8] at hcv ⊢
  have R1 := hide1 ((hb4.block b1 (lt_heap R1.out)).trans R1.out)
  have B2 : Hid (Below w.heap.size w U4) := B2.out.trans (hb4.mono B2.out.size)
  clear hb4 hb8 hS
  refine ready_f 12 (o := { dst := some 50, op := Op.convert 64 9 (Operand.tmp 49), type := 9, pos := "ref.go:120", after := #[{ on := 11, ground := Ground.data }], guard := none }) (by kernel_rfl) rfl (fun K hK => ?_)
  go_simp
  refine hK.out _ _ (fun _ h => h) ?_
  clear hK K
  try simp only [Act.put, List.setIfInBounds_toArray, List.set_cons_zero, List.set_cons_succ]
  clear hcv
  have zz1 := Z.out.1
  have zz2 := Z.out.2
  refine take_p 13 51 (.string (p1 ++ p2)) rfl rfl (by kernel_rfl) (by kernel_rfl) (by kernel_rfl) (fun _ _ _ h => h) rfl (fun w => by go_simp) ?_
  try simp only [List.setIfInBounds_toArray, List.set_cons_zero, List.set_cons_succ]
  refine take_p 18 56 (.string (p1 ++ p2 ++ p3)) rfl rfl (by kernel_rfl) (by kernel_rfl) (by kernel_rfl) (fun _ _ _ h => h) rfl (fun w => by go_simp) ?_
  try simp only [List.setIfInBounds_toArray, List.set_cons_zero, List.set_cons_succ]
  rw [HT.out]
  refine ready_f 19 (o := { dst := some 57, op := Op.call { callee := Callee.value (Operand.func 35), args := #[Operand.tmp 38, Operand.tmp 39, Operand.tmp 40, Operand.tmp 56], argTypes := #[27, 3, 3, 9] }, type := 27, pos := "ref.go:120", after := #[{ on := 0, ground := Ground.data }, { on := 1, ground := Ground.data }, { on := 2, ground := Ground.data }, { on := 18, ground := Ground.data }], guard := none }) (by kernel_rfl) rfl (fun K hK => ?_)
  go_simp
  refine (KP.out U4 B2.out).out.mono ?_
  rintro e U5 ⟨v', rfl, ho, hb5⟩
  refine hK.out _ _ (fun _ h => ⟨(hb5.cell (p := ⟨b0, 0, none⟩) h.2.2).trans h.1, (hb5.cell (p := ⟨b0, 1, none⟩) h.2.2).trans h.2.1, Nat.lt_of_lt_of_le h.2.2 hb5.size⟩) ?_
  clear hK K
  try simp only [Act.put, List.setIfInBounds_toArray, List.set_cons_zero, List.set_cons_succ]
  obtain ⟨a', c', rfl⟩ := ho.form
  generalize (List.set (N 0) i s').length = m at *
  have HO := hide1 ho
  have L4 : Hid (b1 < U4.heap.size) := lt_heap R1.out
  have LB : Hid (w.heap.size ≤ U4.heap.size) := B2.out.size
  have R1 := hide1 ((hb5.block b1 (lt_heap R1.out)).trans R1.out)
  have B3 : Hid (Below w.heap.size w U5) := B2.out.trans (hb5.mono B2.out.size)
  clear hb5 ho
  refine ready_f 20 (o := { dst := none, op := Op.store 27 (Operand.tmp 10) (Operand.tmp 57), type := 0, pos := "ref.go:120", after := #[{ on := 19, ground := Ground.data }, { on := 19, ground := Ground.chain }, { on := 0, ground := Ground.phase }, { on := 1, ground := Ground.phase }, { on := 2, ground := Ground.phase }, { on := 3, ground := Ground.phase }, { on := 4, ground := Ground.phase }, { on := 5, ground := Ground.phase }, { on := 6, ground := Ground.phase }, { on := 7, ground := Ground.phase }, { on := 8, ground := Ground.phase }, { on := 9, ground := Ground.phase }, { on := 10, ground := Ground.phase }, { on := 11, ground := Ground.phase }, { on := 12, ground := Ground.phase }, { on := 13, ground := Ground.phase }, { on := 14, ground := Ground.phase }, { on := 15, ground := Ground.phase }, { on := 16, ground := Ground.phase }, { on := 17, ground := Ground.phase }, { on := 18, ground := Ground.phase }, { on := 19, ground := Ground.phase }], guard := none }) (by kernel_rfl) rfl (fun K hK => ?_)
  rw [if_pos (by rfl)]
  refine wp_store_row 27 _ _ rfl b1 _ rfl rfl 27 _ R1.out (by kernel_rfl) rfl (by kernel_rfl) ?_
  refine hK.out _ _ (fun h => absurd (by decide) h) ?_
  clear hK K
  refine take_p 21 11 (.int .i64 0) rfl rfl (by kernel_rfl) (by kernel_rfl) (by kernel_rfl) (fun _ _ _ h => h) rfl (fun w => by go_simp) ?_
  try simp only [List.setIfInBounds_toArray, List.set_cons_zero, List.set_cons_succ]
  refine done_f (by kernel_rfl) ?_ _
  go_wp2
  exact ret_n2 Try.results26 b1 _ _ _ rfl rfl (setRow_heap _ b1 _ _ _ _ R1.out) rfl ⟨_, rfl, (HO.out.setRow L4.out _).mono LB.out, below_setRow B3.out (by have := HS.out; omega) _⟩

set_option maxHeartbeats 1000000 in
theorem rturn_none1 {N : Nat → List ByteArray} (a0 a1 : Option Addr) (c0 c1 : Nat) (i : Nat) (j b : Int) (w : World) (hi : i < (N 1).length) (hj : j < 0 ∨ (((N 1).getD i ByteArray.empty).size : Int) ≤ j) (hA : Lst 0 w (.slice a1 (N 1).length c1) (N 1)) :
    Calls Try.prog 26 #[.agg #[.slice a0 (N 0).length c0, .slice a1 (N 1).length c1], .int .i64 1, .int .i64 (i : Int), .int .i64 j, .int .u8 b] w fun e w' => e = .returned (.tuple #[.agg #[.slice a0 (N 0).length c0, .slice a1 (N 1).length c1], .int .i64 6]) ∧ Below w.heap.size w w' := by
  have kW := fun w => hide1 (wrong_any (N := N) a0 a1 c0 c1 1 i w)
  have e0 : plc N 1 i = 0 := plc_zero (k := 1) (by omega) hi
  rw [e0] at kW
  obtain ⟨g, c, hx, hcl, _, hgl, _, _⟩ := hA.cell hi
  cases hx
  have kT := fun w => hide1 (to_any1 a0 (some ⟨g, 0, none⟩) (N 0).length c0 (N 1).length c1 w)
  generalize (N 1).getD i ByteArray.empty = s at *
  have CI := hide1 hcl
  have GL := hide1 hgl
  have hik : (i : Int) < ((N 1).length : Int) := by omega
  clear e0 hA hcl hgl
  generalize (N 0).length = n0 at *
  generalize (N 1).length = n1 at *
  go_enter Try.func26, Try.ntmps26
  go_wp2_with fail
  have h2 := two_new w (.cells #[.slice a0 n0 c0, .slice (some ⟨g, 0, none⟩) n1 c1] 27) (.cells #[.slice none 0 0, .slice none 0 0] 27)
  have hB := below2 (w := w) (.cells #[.slice a0 n0 c0, .slice (some ⟨g, 0, none⟩) n1 c1] 27) (.cells #[.slice none 0 0, .slice none 0 0] 27)
  have H2 := hide1 h2
  have HB := hide1 hB
  clear h2 hB
  generalize (w.alloc _).alloc _ = W1 at H2 HB ⊢
  obtain ⟨b0, hb0⟩ : ∃ b0, w.heap.size = b0 := ⟨_, rfl⟩
  obtain ⟨b1, hb1⟩ : ∃ b1, w.heap.size + 1 = b1 := ⟨_, rfl⟩
  have HS : Hid (w.heap.size = b0 ∧ b0 + 1 = b1) := ⟨hb0, by omega⟩
  rw [hb1, hb0] at H2
  rw [hb1, hb0]
  clear hb0 hb1
  refine ((kW _).out).mono ?_
  rintro e W2 ⟨rfl, hbb⟩
  have R0' := hide1 ((hbb.block b0 (lt_heap H2.out.1)).trans H2.out.1)
  have R1' := hide1 ((hbb.block b1 (lt_heap H2.out.2)).trans H2.out.2)
  have B2' : Hid (Below w.heap.size w W2) := HB.out.trans (hbb.mono HB.out.size)
  clear hbb H2 HB
  have R0 := R0'
  have R1 := R1'
  have B2 := B2'
  clear R0' R1' B2'
  obtain ⟨d0, d1, _, _, _⟩ := box2 R0.out
  go_wp2_with fail
  clear d0 d1
  refine ((kT _).out).mono ?_
  rintro e W3 ⟨rfl, hbb⟩
  have R0' := hide1 ((hbb.block b0 (lt_heap R0.out)).trans R0.out)
  have R1' := hide1 ((hbb.block b1 (lt_heap R1.out)).trans R1.out)
  have B2' : Hid (Below w.heap.size w W3) := B2.out.trans (hbb.mono B2.out.size)
  clear hbb R0 R1 B2
  have R0 := R0'
  have R1 := R1'
  have B2 := B2'
  clear R0' R1' B2'
  have CI4 := (B2.out.cell (p := ⟨g, i, none⟩) GL.out).trans CI.out
  obtain ⟨d0, d1, _, _, _⟩ := box2 R0.out
  obtain ⟨f0, f1, z0, z1, _⟩ := box2 R1.out
  by_cases h0 : j < 0
  · go_wp2
    exact ret_n2 Try.results26 b1 _ _ _ rfl rfl (set_box2 R1.out) rfl ⟨rfl, below_set2 B2.out (by have := HS.out; omega)⟩
  · have h1 : (s.size : Int) ≤ j := by omega
    go_wp2
    exact ret_n2 Try.results26 b1 _ _ _ rfl rfl (set_box2 R1.out) rfl ⟨rfl, below_set2 B2.out (by have := HS.out; omega)⟩

set_option maxHeartbeats 2000000 in
theorem rturn_ok1 {N : Nat → List ByteArray} (a0 a1 : Option Addr) (c0 c1 : Nat) (i j b : Nat) (w : World) (hi : i < (N 1).length) (hj : j < ((N 1).getD i ByteArray.empty).size) (hb : b < 256) (h64 : (N 1).length ≤ 64) (hsz : ((N 1).getD i ByteArray.empty).size ≤ 131072) (hA : Lst 0 w (.slice a1 (N 1).length c1) (N 1)) :
    Calls Try.prog 26 #[.agg #[.slice a0 (N 0).length c0, .slice a1 (N 1).length c1], .int .i64 1, .int .i64 (i : Int), .int .i64 (j : Int), .int .u8 (b : Int)] w fun e w' => ∃ v', e = .returned (.tuple #[.agg #[.slice a0 (N 0).length c0, v'], .int .i64 0]) ∧ Lst w.heap.size w' v' ((N 1).set i (trn ((N 1).getD i ByteArray.empty) j b)) ∧ Below w.heap.size w w' := by
  have kW := fun w => hide1 (wrong_any (N := N) a0 a1 c0 c1 1 i w)
  have e0 : plc N 1 i = 0 := plc_zero (k := 1) (by omega) hi
  rw [e0] at kW
  obtain ⟨g, c, hx, hcl, _, hgl, _, _⟩ := hA.cell hi
  cases hx
  have kT := fun w => hide1 (to_any1 a0 (some ⟨g, 0, none⟩) (N 0).length c0 (N 1).length c1 w)
  have kP := fun W (hb : Below w.heap.size w W) => hide1 (put_any1 a0 (some ⟨g, 0, none⟩) (N 0).length c0 (N 1).length c1 (N 1) i (trn ((N 1).getD i ByteArray.empty) j b) W (hA.below hb (Nat.le_refl _)) hi h64)
  have KP := hide1 kP
  generalize (N 1).getD i ByteArray.empty = s at *
  have CI := hide1 hcl
  have GL := hide1 hgl
  have hik : (i : Int) < ((N 1).length : Int) := by omega
  have hj0 : ¬ (j : Int) < 0 := by omega
  have hj1 : ¬ (s.size : Int) ≤ (j : Int) := by omega
  have wj : IntKind.i64.wrap ((j : Int) + 1) = (j : Int) + 1 := by rw [IntKind.wrap_i64]; omega
  have HT := hide1 (trn_cut s j b hj)
  have HIX := hide1 (run_at s j hj)
  have HUP := hide1 (run_upto s j (by omega))
  have HRE := hide1 (run_rest s j hj)
  have s1 : (s.extract 0 j).size = j := by rw [ByteArray.size_extract]; omega
  have s3 : (s.extract (j + 1) s.size).size = s.size - (j + 1) := by rw [ByteArray.size_extract]; omega
  obtain ⟨u, hu⟩ : ∃ u, (s.data.toList.getD j 0).toNat = u := ⟨_, rfl⟩
  have lu : u < 256 := by rw [← hu]; exact UInt8.toNat_lt _
  rw [hu] at HT HIX
  obtain ⟨v, hv⟩ : ∃ v, v = u ^^^ b := ⟨_, rfl⟩
  have ex : bits .xor .u8 (u : Int) (b : Int) = (v : Int) := by rw [hv]; exact u8_xor_nat _ _ lu hb
  have lv : v < 256 := by rw [hv]; exact xor8_lt lu hb
  rw [← hv] at HT
  have K1 := fun W => hide1 (one_byte W v lv)
  obtain ⟨p2, hp2⟩ : ∃ p2, (⟨#[UInt8.ofNat v]⟩ : ByteArray) = p2 := ⟨_, rfl⟩
  have s2 : p2.size = 1 := by rw [← hp2]; rfl
  rw [hp2] at HT K1
  generalize trn s j b = s' at *
  generalize s.extract 0 j = p1 at *
  generalize s.extract (j + 1) s.size = p3 at *
  have z1 : ¬ (9223372036854775807 < p1.size + p2.size) := by omega
  have z3 : p1.size + p2.size + p3.size ≤ 9223372036854775807 := by omega
  have Z := hide1 (And.intro z1 z3)
  clear e0 hA hi h64 hcl hgl kP hu hv hp2 s1 s2 s3 z1 z3 hj hsz
  generalize (N 0).length = n0 at *
  generalize (N 1).length = n1 at *
  go_enter Try.func26, Try.ntmps26
  go_wp2_with fail
  have h2 := two_new w (.cells #[.slice a0 n0 c0, .slice (some ⟨g, 0, none⟩) n1 c1] 27) (.cells #[.slice none 0 0, .slice none 0 0] 27)
  have hB := below2 (w := w) (.cells #[.slice a0 n0 c0, .slice (some ⟨g, 0, none⟩) n1 c1] 27) (.cells #[.slice none 0 0, .slice none 0 0] 27)
  have H2 := hide1 h2
  have HB := hide1 hB
  clear h2 hB
  generalize (w.alloc _).alloc _ = W1 at H2 HB ⊢
  obtain ⟨b0, hb0⟩ : ∃ b0, w.heap.size = b0 := ⟨_, rfl⟩
  obtain ⟨b1, hb1⟩ : ∃ b1, w.heap.size + 1 = b1 := ⟨_, rfl⟩
  have HS : Hid (w.heap.size = b0 ∧ b0 + 1 = b1) := ⟨hb0, by omega⟩
  rw [hb1, hb0] at H2
  rw [hb1, hb0]
  clear hb0 hb1
  refine ((kW _).out).mono ?_
  rintro e W2 ⟨rfl, hbb⟩
  have R0' := hide1 ((hbb.block b0 (lt_heap H2.out.1)).trans H2.out.1)
  have R1' := hide1 ((hbb.block b1 (lt_heap H2.out.2)).trans H2.out.2)
  have B2' : Hid (Below w.heap.size w W2) := HB.out.trans (hbb.mono HB.out.size)
  clear hbb H2 HB
  have R0 := R0'
  have R1 := R1'
  have B2 := B2'
  clear R0' R1' B2'
  obtain ⟨d0, d1, _, _, _⟩ := box2 R0.out
  go_wp2_with fail
  clear d0 d1
  refine ((kT _).out).mono ?_
  rintro e W3 ⟨rfl, hbb⟩
  have R0' := hide1 ((hbb.block b0 (lt_heap R0.out)).trans R0.out)
  have R1' := hide1 ((hbb.block b1 (lt_heap R1.out)).trans R1.out)
  have B2' : Hid (Below w.heap.size w W3) := B2.out.trans (hbb.mono B2.out.size)
  clear hbb R0 R1 B2
  have R0 := R0'
  have R1 := R1'
  have B2 := B2'
  clear R0' R1' B2'
  have CI4 := (B2.out.cell (p := ⟨g, i, none⟩) GL.out).trans CI.out
  have GL4 : Hid (g < W3.heap.size) := Nat.lt_of_lt_of_le GL.out B2.out.size
  go_upto_region 6 with (fail)
  clear CI4
  refine region_f (F := [20]) (S := fun W => W.cell? ⟨b0, 0, none⟩ = some (.slice a0 n0 c0) ∧ W.cell? ⟨b0, 1, none⟩ = some (.slice (some ⟨g, 0, none⟩) n1 c1) ∧ b0 < W.heap.size) (by kernel_rfl) ⟨(box2 R0.out).1, (box2 R0.out).2.1, (box2 R0.out).2.2.2.2⟩ (fun hS => ?_)
  generalize hU : World.drew W3 = U at hS ⊢
  have R1 : Hid (U.heap[b1]? = some (.cells #[.slice none 0 0, .slice none 0 0] 27 (0, 0))) := by rw [← hU]; exact R1.out
  have B2 : Hid (Below w.heap.size w U) := by rw [← hU]; exact B2.out.drew
  clear hU
  refine take_f 0 38 (.agg #[.slice a0 n0 c0, .slice (some ⟨g, 0, none⟩) n1 c1]) [19, 20, 21] rfl rfl (by kernel_rfl) (by kernel_rfl) (by kernel_rfl) (by kernel_rfl) (by kernel_rfl) (by kernel_rfl) (fun _ _ _ h => h) rfl (fun w hSw => by obtain ⟨g0, g1, g2⟩ := hSw; go_simp) hS ?_
  try simp only [List.setIfInBounds_toArray, List.set_cons_zero, List.set_cons_succ]
  refine take_p 1 39 (.int .i64 1) rfl rfl (by kernel_rfl) (by kernel_rfl) (by kernel_rfl) (fun _ _ _ h => h) rfl (fun w => by go_simp) ?_
  try simp only [List.setIfInBounds_toArray, List.set_cons_zero, List.set_cons_succ]
  refine take_p 2 40 (.int .i64 (i : Int)) rfl rfl (by kernel_rfl) (by kernel_rfl) (by kernel_rfl) (fun _ _ _ h => h) rfl (fun w => by go_simp) ?_
  try simp only [List.setIfInBounds_toArray, List.set_cons_zero, List.set_cons_succ]
  refine take_p 3 41 (.string s) rfl rfl (by kernel_rfl) (by kernel_rfl) (by kernel_rfl) (fun _ _ _ h => h) rfl (fun w => by go_simp) ?_
  try simp only [List.setIfInBounds_toArray, List.set_cons_zero, List.set_cons_succ]
  refine take_p 4 42 (.int .i64 (j : Int)) rfl rfl (by kernel_rfl) (by kernel_rfl) (by kernel_rfl) (fun _ _ _ h => h) rfl (fun w => by go_simp) ?_
  try simp only [List.setIfInBounds_toArray, List.set_cons_zero, List.set_cons_succ]
  refine take_p 5 43 (.string p1) rfl rfl (by kernel_rfl) (by kernel_rfl) (by kernel_rfl) (fun _ _ _ h => h) rfl (fun w => by have hh := HUP.out; simp [execOp, Act.eval, hh]) ?_
  try simp only [List.setIfInBounds_toArray, List.set_cons_zero, List.set_cons_succ]
  refine take_p 6 44 (.string s) rfl rfl (by kernel_rfl) (by kernel_rfl) (by kernel_rfl) (fun _ _ _ h => h) rfl (fun w => by go_simp) ?_
  try simp only [List.setIfInBounds_toArray, List.set_cons_zero, List.set_cons_succ]
  refine take_p 7 45 (.int .i64 (j : Int)) rfl rfl (by kernel_rfl) (by kernel_rfl) (by kernel_rfl) (fun _ _ _ h => h) rfl (fun w => by go_simp) ?_
  try simp only [List.setIfInBounds_toArray, List.set_cons_zero, List.set_cons_succ]
  refine take_p 8 46 (.int .u8 (u : Int)) rfl rfl (by kernel_rfl) (by kernel_rfl) (by kernel_rfl) (fun _ _ _ h => h) rfl (fun w => by have hh := HIX.out; simp [execOp, Act.eval, hh]) ?_
  try simp only [List.setIfInBounds_toArray, List.set_cons_zero, List.set_cons_succ]
  refine take_p 9 47 (.int .u8 (b : Int)) rfl rfl (by kernel_rfl) (by kernel_rfl) (by kernel_rfl) (fun _ _ _ h => h) rfl (fun w => by go_simp) ?_
  try simp only [List.setIfInBounds_toArray, List.set_cons_zero, List.set_cons_succ]
  refine take_p 10 48 (.int .u8 (v : Int)) rfl rfl (by kernel_rfl) (by kernel_rfl) (by kernel_rfl) (fun _ _ _ h => h) rfl (fun w => by go_simp) ?_
  try simp only [List.setIfInBounds_toArray, List.set_cons_zero, List.set_cons_succ]
  refine take_p 14 52 (.string s) rfl rfl (by kernel_rfl) (by kernel_rfl) (by kernel_rfl) (fun _ _ _ h => h) rfl (fun w => by go_simp) ?_
  try simp only [List.setIfInBounds_toArray, List.set_cons_zero, List.set_cons_succ]
  refine take_p 15 53 (.int .i64 (j : Int)) rfl rfl (by kernel_rfl) (by kernel_rfl) (by kernel_rfl) (fun _ _ _ h => h) rfl (fun w => by go_simp) ?_
  try simp only [List.setIfInBounds_toArray, List.set_cons_zero, List.set_cons_succ]
  refine take_p 16 54 (.int .i64 ((j : Int) + 1)) rfl rfl (by kernel_rfl) (by kernel_rfl) (by kernel_rfl) (fun _ _ _ h => h) rfl (fun w => by go_simp) ?_
  try simp only [List.setIfInBounds_toArray, List.set_cons_zero, List.set_cons_succ]
  refine take_p 17 55 (.string p3) rfl rfl (by kernel_rfl) (by kernel_rfl) (by kernel_rfl) (fun _ _ _ h => h) rfl (fun w => by have hh := HRE.out; simp [execOp, Act.eval, hh]) ?_
  try simp only [List.setIfInBounds_toArray, List.set_cons_zero, List.set_cons_succ]
  refine ready_f 11 (o := { dst := some 49, op := Op.buildSlice 64 1 #[(0, Operand.tmp 48)], type := 64, pos := "ref.go:120", after := #[{ on := 10, ground := Ground.data }], guard := none }) (by kernel_rfl) rfl (fun K hK => ?_)
  go_simp
  refine hK.out _ _ (fun _ h => ⟨((below1 _).cell (p := ⟨b0, 0, none⟩) h.2.2).trans h.1, ((below1 _).cell (p := ⟨b0, 1, none⟩) h.2.2).trans h.2.1, Nat.lt_of_lt_of_le h.2.2 (below1 _).size⟩) ?_
  clear hK K
  try simp only [Act.put, List.setIfInBounds_toArray, List.set_cons_zero, List.set_cons_succ]
  have hcv := (K1 U).out
  have hb4 : Below U.heap.size U (U.alloc (.cells #[.int .u8 (v : Int)] 5)) := below1 _
  generalize World.alloc U _ = U4 at hcv hb4 ⊢
  obtain ⟨b8, hb8⟩ : ∃ b8, U.heap.size = b8 := ⟨_, rfl⟩
  rw [hb8] at hcv ⊢
  have R1 := hide1 ((hb4.block b1 (lt_heap R1.out)).trans R1.out)
  have B2 : Hid (Below w.heap.size w U4) := B2.out.trans (hb4.mono B2.out.size)
  clear hb4 hb8 hS
  refine ready_f 12 (o := { dst := some 50, op := Op.convert 64 9 (Operand.tmp 49), type := 9, pos := "ref.go:120", after := #[{ on := 11, ground := Ground.data }], guard := none }) (by kernel_rfl) rfl (fun K hK => ?_)
  go_simp
  refine hK.out _ _ (fun _ h => h) ?_
  clear hK K
  try simp only [Act.put, List.setIfInBounds_toArray, List.set_cons_zero, List.set_cons_succ]
  clear hcv
  have zz1 := Z.out.1
  have zz2 := Z.out.2
  refine take_p 13 51 (.string (p1 ++ p2)) rfl rfl (by kernel_rfl) (by kernel_rfl) (by kernel_rfl) (fun _ _ _ h => h) rfl (fun w => by go_simp) ?_
  try simp only [List.setIfInBounds_toArray, List.set_cons_zero, List.set_cons_succ]
  refine take_p 18 56 (.string (p1 ++ p2 ++ p3)) rfl rfl (by kernel_rfl) (by kernel_rfl) (by kernel_rfl) (fun _ _ _ h => h) rfl (fun w => by go_simp) ?_
  try simp only [List.setIfInBounds_toArray, List.set_cons_zero, List.set_cons_succ]
  rw [HT.out]
  refine ready_f 19 (o := { dst := some 57, op := Op.call { callee := Callee.value (Operand.func 35), args := #[Operand.tmp 38, Operand.tmp 39, Operand.tmp 40, Operand.tmp 56], argTypes := #[27, 3, 3, 9] }, type := 27, pos := "ref.go:120", after := #[{ on := 0, ground := Ground.data }, { on := 1, ground := Ground.data }, { on := 2, ground := Ground.data }, { on := 18, ground := Ground.data }], guard := none }) (by kernel_rfl) rfl (fun K hK => ?_)
  go_simp
  refine (KP.out U4 B2.out).out.mono ?_
  rintro e U5 ⟨v', rfl, ho, hb5⟩
  refine hK.out _ _ (fun _ h => ⟨(hb5.cell (p := ⟨b0, 0, none⟩) h.2.2).trans h.1, (hb5.cell (p := ⟨b0, 1, none⟩) h.2.2).trans h.2.1, Nat.lt_of_lt_of_le h.2.2 hb5.size⟩) ?_
  clear hK K
  try simp only [Act.put, List.setIfInBounds_toArray, List.set_cons_zero, List.set_cons_succ]
  obtain ⟨a', c', rfl⟩ := ho.form
  generalize (List.set (N 1) i s').length = m at *
  have HO := hide1 ho
  have L4 : Hid (b1 < U4.heap.size) := lt_heap R1.out
  have LB : Hid (w.heap.size ≤ U4.heap.size) := B2.out.size
  have R1 := hide1 ((hb5.block b1 (lt_heap R1.out)).trans R1.out)
  have B3 : Hid (Below w.heap.size w U5) := B2.out.trans (hb5.mono B2.out.size)
  clear hb5 ho
  refine ready_f 20 (o := { dst := none, op := Op.store 27 (Operand.tmp 10) (Operand.tmp 57), type := 0, pos := "ref.go:120", after := #[{ on := 19, ground := Ground.data }, { on := 19, ground := Ground.chain }, { on := 0, ground := Ground.phase }, { on := 1, ground := Ground.phase }, { on := 2, ground := Ground.phase }, { on := 3, ground := Ground.phase }, { on := 4, ground := Ground.phase }, { on := 5, ground := Ground.phase }, { on := 6, ground := Ground.phase }, { on := 7, ground := Ground.phase }, { on := 8, ground := Ground.phase }, { on := 9, ground := Ground.phase }, { on := 10, ground := Ground.phase }, { on := 11, ground := Ground.phase }, { on := 12, ground := Ground.phase }, { on := 13, ground := Ground.phase }, { on := 14, ground := Ground.phase }, { on := 15, ground := Ground.phase }, { on := 16, ground := Ground.phase }, { on := 17, ground := Ground.phase }, { on := 18, ground := Ground.phase }, { on := 19, ground := Ground.phase }], guard := none }) (by kernel_rfl) rfl (fun K hK => ?_)
  rw [if_pos (by rfl)]
  refine wp_store_row 27 _ _ rfl b1 _ rfl rfl 27 _ R1.out (by kernel_rfl) rfl (by kernel_rfl) ?_
  refine hK.out _ _ (fun h => absurd (by decide) h) ?_
  clear hK K
  refine take_p 21 11 (.int .i64 0) rfl rfl (by kernel_rfl) (by kernel_rfl) (by kernel_rfl) (fun _ _ _ h => h) rfl (fun w => by go_simp) ?_
  try simp only [List.setIfInBounds_toArray, List.set_cons_zero, List.set_cons_succ]
  refine done_f (by kernel_rfl) ?_ _
  go_wp2
  exact ret_n2 Try.results26 b1 _ _ _ rfl rfl (setRow_heap _ b1 _ _ _ _ R1.out) rfl ⟨_, rfl, (HO.out.setRow L4.out _).mono LB.out, below_setRow B3.out (by have := HS.out; omega) _⟩

theorem rturn_any {N : Nat → List ByteArray} {x0 x1 : Value} {w : World} (h0 : Lst 0 w x0 (N 0)) (h1 : Lst 0 w x1 (N 1)) (hs : Sm N) (q i j : Int) (b : Nat) (hb : b < 256) :
    Calls Try.prog 26 #[.agg #[x0, x1], .int .i64 q, .int .i64 i, .int .i64 j, .int .u8 (b : Int)] w fun e w' => ∃ y0 y1, e = .returned (.tuple #[.agg #[y0, y1], .int .i64 (trnC N q i j)]) ∧ An w x0 x1 (trnN N q i j b) y0 y1 w' := by
  obtain ⟨a0, c0, rfl⟩ := h0.form
  obtain ⟨a1, c1, rfl⟩ := h1.form
  unfold trnN
  by_cases hc : trnC N q i j = 0
  · rw [if_pos hc, hc]
    obtain ⟨_, k, m, l, rfl, rfl, rfl, hk, hm, hl⟩ := trn_ok hc
    rcases (show k = 0 ∨ k = 1 by omega) with rfl | rfl
    · refine (rturn_ok0 a0 a1 c0 c1 m l b w hm hl hb (hs.len 0) (hs.each 0 _ (getD_mem hm)) h0).mono ?_
      rintro e w' ⟨v', rfl, hv, hb⟩
      exact ⟨_, _, rfl, An.put0 h1 hv hb⟩
    · refine (rturn_ok1 a0 a1 c0 c1 m l b w hm hl hb (hs.len 1) (hs.each 1 _ (getD_mem hm)) h1).mono ?_
      rintro e w' ⟨v', rfl, hv, hb⟩
      exact ⟨_, _, rfl, An.put1 h0 hv hb⟩
  · rw [if_neg hc]
    by_cases hp : plc N q i = 0
    · obtain ⟨k, m, rfl, rfl, hk, hm⟩ := plc_ok hp
      rw [trnC, if_pos hp] at hc ⊢
      simp only [Int.toNat_natCast] at hc ⊢
      by_cases hj : j < 0 ∨ (((N k).getD m ByteArray.empty).size : Int) ≤ j
      · rw [if_pos hj]
        rcases (show k = 0 ∨ k = 1 by omega) with rfl | rfl
        · refine (rturn_none0 a0 a1 c0 c1 m j b w hm hj h0).mono ?_
          rintro e w' ⟨rfl, hb⟩
          exact ⟨_, _, rfl, An.same h0 h1 hb⟩
        · refine (rturn_none1 a0 a1 c0 c1 m j b w hm hj h1).mono ?_
          rintro e w' ⟨rfl, hb⟩
          exact ⟨_, _, rfl, An.same h0 h1 hb⟩
      · rw [if_neg hj] at hc
        exact absurd rfl hc
    · rw [trnC, if_neg hp]
      refine (rturn_fail a0 a1 c0 c1 q i j b w hp).mono ?_
      rintro e w' ⟨rfl, hb⟩
      exact ⟨_, _, rfl, An.same h0 h1 hb⟩

end Go.Proofs.Ytfnedohampmnoaa
