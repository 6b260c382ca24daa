/- ShapeReads: the walk. -/
import Derived.Test.YtnkdbkhgfakjaaaGreatDoorGd
import Derived.Test.YtnkdbkhgfakjaaaGreatDoorFd
namespace Go.Proofs.YtnkdbkhgfakjaaaGreatDoor
open Go.RowKit
set_option maxRecDepth 100000
attribute [local go_sem] not_any mf_any

theorem ise_flt {w : World} {c : Int} {f : ByteArray} {p : Nat} (hc : (c == 0) = false) (h : w.heap[p]? = some (flt c f)) : F.IsE w c (.iface 99 (.pointer (some ⟨p, 0, none⟩))) := .inr ⟨hc, p, rfl, f, h⟩
structure ErrP (w : World) (c : Int) (e : Ending) (w' : World) : Prop where
  out : ∃ v, e = .returned v ∧ F.IsE w' c v ∧ Below w.heap.size w w'
theorem err_is (g k : Nat) (s f : ByteArray) (c : Int) (w : World) (h : w.heap[g]? = some (rdr s k c f)) : Calls Tryz.prog 9 #[.pointer (some ⟨g, 0, none⟩)] w fun e w' => ErrP w c e w' := by
  by_cases hc : c = 0
  · subst hc
    refine (err_none g k s f w h).mono ?_
    rintro e w' ⟨rfl, q, rfl⟩
    exact ⟨_, rfl, F.IsE.nil _, belowN (Below.refl _ _) q⟩
  · refine (err_some g k s f c w h hc).mono ?_
    rintro e w' ⟨rfl, q, rfl⟩
    exact ⟨_, rfl, ise_flt (by simpa using hc) (heap_alloc_new w _), belowN (below1 _) q⟩

theorem first5 {s : ByteArray} (h : 5 ≤ s.size) : txt [xN s 0, xN s 1, xN s 2, xN s 3, xN s 4] = s.extract 0 5 := by
  apply nums_inj
  rw [nums_txt (fun x hx => by
    simp only [List.mem_cons, List.not_mem_nil, or_false] at hx
    rcases hx with rfl | rfl | rfl | rfl | rfl <;> exact xN_lt s _), nums_extract, List.drop_zero]
  have hl : 5 ≤ (nums s).length := by rw [nums_length]; exact h
  simp only [xN]
  generalize nums s = l at *
  match l, hl with
  | a :: b :: c :: d :: e :: r, _ => rfl

theorem reads_far (w : World) (s : ByteArray) (h : 1000 < s.size) : Calls Tryz.prog 3 #[.string s] w fun e w' => e = .returned (.bool true) ∧ Below w.heap.size w w' := by
  have kA := fun w => hide1 (awake9_any w)
  have h1 : (1000 : Int) < (s.size : Int) := by omega
  go_enter Tryz.func3, Tryz.ntmps3
  go_wp2_with fail
  refine (kA _).out.mono ?_
  rintro e w1 ⟨rfl, hb⟩
  go_wp2
  go_ret
  exact ⟨rfl, hb⟩

set_option maxHeartbeats 4000000 in
theorem reads_all (w : World) (s : ByteArray) (het : F.Et w) : Calls Tryz.prog 3 #[.string s] w fun e w' => e = .returned (.bool true) ∧ Below w.heap.size w w' := by
  by_cases hsz : 1000 < s.size
  · exact reads_far w s hsz
  have mx := mixed
  have kA := fun w => hide1 (awake9_any w)
  have h1 : ¬ (1000 : Int) < (s.size : Int) := by omega
  have kN := fun w => hide1 (newReader_any s w)
  have kG := fun g w h => hide1 (get_any g s w h (by omega))
  have kR := fun w => hide1 (rget_any s w (by omega))
  have hw0 : 0 < w.heap.size := block_lt_of_cell het
  have HET := hide1 het
  have HX : Shy (gC s = 0 → 5 ≤ s.size ∧ gK s = xC s ∧ (xC s).May) := ⟨fun h => by
    by_cases h5 : 5 ≤ s.size
    · refine ⟨h5, if_pos h, ?_⟩
      rw [gC, if_pos h5] at h
      exact Classical.byContradiction fun hm => chk_not hm h
    · rw [gC, if_neg h5] at h; cases h⟩
  unfold dv at kR
  obtain ⟨gc, hgc⟩ : ∃ c, gC s = c := ⟨_, rfl⟩
  obtain ⟨gf, hgf⟩ : ∃ c, gF s = c := ⟨_, rfl⟩
  obtain ⟨⟨ck, cb, cm, cq, cn⟩, hgk⟩ : ∃ c, gK s = c := ⟨_, rfl⟩
  rw [hgc, hgk] at kR
  rw [hgc, hgf, hgk] at kG
  have HK : Shy (gC s = gc ∧ gK s = ⟨ck, cb, cm, cq, cn⟩) := ⟨hgc, hgk⟩
  have kR : ∀ w, Hid (Calls Tryz.prog 7 #[.agg #[.string s, .int .i64 0, .int .i64 0]] w fun e w' => e = .returned (.tuple #[.agg #[.string s, .int .i64 ((min 5 s.size : Nat) : Int), .int .i64 gc], .agg #[.int .i64 ck, .int .i64 cb, .int .i64 cm, .int .i64 cq, .int .i64 cn]]) ∧ Below w.heap.size w w') := fun w => kR w
  simp only [Cl.v, cls, CLASS] at kG
  generalize min 5 s.size = k5 at *
  clear hgc hgf hgk het hsz
  go_enter Tryz.func3, Tryz.ntmps3
  go_wp2_with fail
  refine (kN _).out.mono ?_
  rintro e w0 ⟨rfl, hw⟩
  have R0 : Hid (w0.heap[w.heap.size]? = some (rdr s 0 0 ⟨#[]⟩)) := by rw [hw]; exact heap_alloc_new _ _
  have B0 : Hid (Below w.heap.size w w0) := by rw [hw]; exact below1 _
  obtain ⟨g, hg⟩ : ∃ g, w.heap.size = g := ⟨_, rfl⟩
  rw [hg] at R0 ⊢
  have HG : Shy (w.heap.size = g) := ⟨hg⟩
  clear hw hg
  go_wp2_with fail
  refine (kG g _ R0.out).out.mono ?_
  rintro e w1 ⟨rfl, hr, hb⟩
  have R1 := hide1 hr
  have B1 := hide1 (hb.below B0.out (Nat.le_of_eq HG.out) B0.out.size)
  clear hr hb R0 B0
  go_upto_region 5 with (fail)
  generalize hX : World.alloc w1 _ = X
  have L4 := hide1 (hX ▸ heap_alloc_new w1 _)
  have R2 := hide1 (hX ▸ keep_alloc R1.out _)
  have B2 : Hid (Below w.heap.size w X) := by rw [← hX]; exact B1.out.alloc B1.out.size _
  obtain ⟨b4, hb4⟩ : ∃ b, w1.heap.size = b := ⟨_, rfl⟩
  rw [hb4] at L4 ⊢
  clear hX hb4 R1 B1
  go_wp2_with fail
  refine (kR _).out.mono ?_
  rintro e w2 ⟨rfl, hb⟩
  have L4' := hide1 ((hb.block _ (lt_heap L4.out)).trans L4.out)
  have R3 := hide1 ((hb.block _ (lt_heap R2.out)).trans R2.out)
  have B3 := hide1 (B2.out.trans (hb.mono B2.out.size))
  clear hb L4 R2 B2
  go_upto_region 6 with (fail)
  generalize hX : World.alloc (World.alloc w2 _) _ = X
  have L4 := hide1 (hX ▸ keep_alloc (keep_alloc L4'.out _) _)
  have R4 := hide1 (hX ▸ keep_alloc (keep_alloc R3.out _) _)
  have L5 := hide1 (hX ▸ heap_alloc2_old w2 _ _)
  have L6 := hide1 (hX ▸ heap_alloc2_new w2 _ _)
  have LB : Hid (Below w.heap.size w X) := by rw [← hX]; exact (B3.out.alloc B3.out.size _).alloc (by have := B3.out.size; simp; omega) _
  obtain ⟨b6, hb6⟩ : ∃ b, w2.heap.size + 1 = b := ⟨_, rfl⟩
  obtain ⟨b5, hb5⟩ : ∃ b, w2.heap.size = b := ⟨_, rfl⟩
  rw [hb6] at L6 ⊢
  rw [hb5] at L5 ⊢
  clear hX hb5 hb6 L4' R3 B3
  have HS : Shy ((At5 b4 (.int .i64 ck) (.int .i64 cb) (.int .i64 cm) (.int .i64 cq) (.int .i64 cn) X ∧ b4 < X.heap.size) ∧ (At5 b6 (.int .i64 ck) (.int .i64 cb) (.int .i64 cm) (.int .i64 cq) (.int .i64 cn) X ∧ b6 < X.heap.size) ∧ At3 b5 (.string s) (.int .i64 (k5 : Int)) (.int .i64 gc) X ∧ b5 < X.heap.size) := by
    obtain ⟨a0, a1, a2, a3, a4, al⟩ := box5 L4.out
    obtain ⟨c0, c1, c2, c3, c4, cl⟩ := box5 L6.out
    obtain ⟨r0, r1, r2, _, _, _, rl⟩ := box3 L5.out
    exact ⟨⟨⟨a0, a1, a2, a3, a4⟩, al⟩, ⟨⟨c0, c1, c2, c3, c4⟩, cl⟩, ⟨r0, r1, r2⟩, rl⟩
  have kE := hide1 (err_is g k5 s gf gc X.drew R4.out)
  refine region_f (F := []) (S := fun W => (At5 b4 (.int .i64 ck) (.int .i64 cb) (.int .i64 cm) (.int .i64 cq) (.int .i64 cn) W ∧ b4 < W.heap.size) ∧ (At5 b6 (.int .i64 ck) (.int .i64 cb) (.int .i64 cm) (.int .i64 cq) (.int .i64 cn) W ∧ b6 < W.heap.size) ∧ At3 b5 (.string s) (.int .i64 (k5 : Int)) (.int .i64 gc) W ∧ b5 < W.heap.size) (by kernel_rfl) HS.out (fun hS => ?_)
  refine take_p 0 22 (.pointer (some ⟨g, 0, none⟩)) rfl rfl (by kernel_rfl) (by kernel_rfl) (by kernel_rfl) (fun _ _ _ h => h) rfl (fun w => by go_simp) ?_
  try simp only [List.setIfInBounds_toArray, List.set_cons_zero, List.set_cons_succ]
  refine take_p 1 23 (.bool false) rfl rfl (by kernel_rfl) (by kernel_rfl) (by kernel_rfl) (fun _ _ _ h => h) rfl (fun w => by go_simp) ?_
  try simp only [List.setIfInBounds_toArray, List.set_cons_zero, List.set_cons_succ]
  refine take_p 2 24 (.bool false) rfl rfl (by kernel_rfl) (by kernel_rfl) (by kernel_rfl) (fun _ _ _ h => h) rfl (fun w => by go_simp) ?_
  try simp only [List.setIfInBounds_toArray, List.set_cons_zero, List.set_cons_succ]
  refine take_f 3 25 (.agg #[.int .i64 ck, .int .i64 cb, .int .i64 cm, .int .i64 cq, .int .i64 cn]) [5, 6, 7, 8, 9, 10, 11, 12, 13, 14] rfl rfl (by kernel_rfl) (by kernel_rfl) (by kernel_rfl) (by kernel_rfl) (by kernel_rfl) (by kernel_rfl) (fun _ _ _ h => h) rfl (fun w hSw => by obtain ⟨⟨⟨a0, a1, a2, a3, a4⟩, al⟩, ⟨⟨c0, c1, c2, c3, c4⟩, cl⟩, ⟨r0, r1, r2⟩, rl⟩ := hSw; go_simp) hS ?_
  try simp only [List.setIfInBounds_toArray, List.set_cons_zero, List.set_cons_succ]
  refine take_f 4 26 (.agg #[.int .i64 ck, .int .i64 cb, .int .i64 cm, .int .i64 cq, .int .i64 cn]) [5, 6, 7, 8, 9, 10, 11, 12, 13, 14] rfl rfl (by kernel_rfl) (by kernel_rfl) (by kernel_rfl) (by kernel_rfl) (by kernel_rfl) (by kernel_rfl) (fun _ _ _ h => h) rfl (fun w hSw => by obtain ⟨⟨⟨a0, a1, a2, a3, a4⟩, al⟩, ⟨⟨c0, c1, c2, c3, c4⟩, cl⟩, ⟨r0, r1, r2⟩, rl⟩ := hSw; go_simp) hS ?_
  try simp only [List.setIfInBounds_toArray, List.set_cons_zero, List.set_cons_succ]
  refine take_p 5 27 (.bool false) rfl rfl (by kernel_rfl) (by kernel_rfl) (by kernel_rfl) (fun _ _ _ h => h) rfl (fun w => by go_simp) ?_
  try simp only [List.setIfInBounds_toArray, List.set_cons_zero, List.set_cons_succ]
  refine take_p 6 28 (.bool false) rfl rfl (by kernel_rfl) (by kernel_rfl) (by kernel_rfl) (fun _ _ _ h => h) rfl (fun w => by go_simp) ?_
  try simp only [List.setIfInBounds_toArray, List.set_cons_zero, List.set_cons_succ]
  refine take_p 7 29 (.bool false) rfl rfl (by kernel_rfl) (by kernel_rfl) (by kernel_rfl) (fun _ _ _ h => h) rfl (fun w => by go_simp) ?_
  try simp only [List.setIfInBounds_toArray, List.set_cons_zero, List.set_cons_succ]
  refine take_p 8 30 (.pointer (some ⟨g, 0, none⟩)) rfl rfl (by kernel_rfl) (by kernel_rfl) (by kernel_rfl) (fun _ _ _ h => h) rfl (fun w => by go_simp) ?_
  try simp only [List.setIfInBounds_toArray, List.set_cons_zero, List.set_cons_succ]
  refine take_p 11 33 (.pointer (some ⟨b5, 2, none⟩)) rfl rfl (by kernel_rfl) (by kernel_rfl) (by kernel_rfl) (fun _ _ _ h => h) rfl (fun w => by go_simp) ?_
  try simp only [List.setIfInBounds_toArray, List.set_cons_zero, List.set_cons_succ]
  refine take_f 12 34 (.int .i64 gc) [13, 14] rfl rfl (by kernel_rfl) (by kernel_rfl) (by kernel_rfl) (by kernel_rfl) (by kernel_rfl) (by kernel_rfl) (fun _ _ _ h => h) rfl (fun w hSw => by obtain ⟨⟨⟨a0, a1, a2, a3, a4⟩, al⟩, ⟨⟨c0, c1, c2, c3, c4⟩, cl⟩, ⟨r0, r1, r2⟩, rl⟩ := hSw; go_simp) hS ?_
  try simp only [List.setIfInBounds_toArray, List.set_cons_zero, List.set_cons_succ]
  refine ready_f 9 (o := { dst := some 31, op := Op.call { callee := Callee.value (Operand.func 9), args := #[Operand.tmp 30], argTypes := #[23] }, type := 35, pos := "law.go:55", after := #[{ on := 8, ground := Ground.data }, { on := 7, ground := Ground.chain }, { on := 7, ground := Ground.guard }], guard := some (7, false) }) (by kernel_rfl) rfl (fun K hK => ?_)
  go_simp
  refine kE.out.mono ?_
  rintro e w5 ⟨v, rfl, hv, hb5⟩
  refine hK.out _ _ (fun _ h => ⟨⟨h.1.1.below hb5 h.1.2, Nat.lt_of_lt_of_le h.1.2 hb5.size⟩, ⟨h.2.1.1.below hb5 h.2.1.2, Nat.lt_of_lt_of_le h.2.1.2 hb5.size⟩, h.2.2.1.below hb5 h.2.2.2, Nat.lt_of_lt_of_le h.2.2.2 hb5.size⟩) ?_
  clear hK K
  try simp only [Act.put, List.setIfInBounds_toArray, List.set_cons_zero, List.set_cons_succ]
  have HV := hide1 hv
  have X5 := hide1 (LB.out.drew.trans (hb5.mono LB.out.size))
  have J4 := hide1 ((hb5.block _ (lt_heap L4.out)).trans L4.out)
  have J5 := hide1 ((hb5.block _ (lt_heap L5.out)).trans L5.out)
  have ET5 := hide1 (HET.out.below X5.out (by omega))
  clear hv hb5
  refine ready_f 10 (o := { dst := some 32, op := Op.call { callee := Callee.value (Operand.func 8), args := #[Operand.tmp 31], argTypes := #[35] }, type := 32, pos := "law.go:55", after := #[{ on := 9, ground := Ground.data }, { on := 9, ground := Ground.chain }, { on := 7, ground := Ground.guard }], guard := some (7, false) }) (by kernel_rfl) rfl (fun K hK => ?_)
  go_simp
  refine (F.code_any w5 gc v ET5.out HV.out).mono ?_
  rintro e w6 ⟨rfl, hb6⟩
  refine hK.out _ _ (fun _ h => ⟨⟨h.1.1.below hb6 h.1.2, Nat.lt_of_lt_of_le h.1.2 hb6.size⟩, ⟨h.2.1.1.below hb6 h.2.1.2, Nat.lt_of_lt_of_le h.2.1.2 hb6.size⟩, h.2.2.1.below hb6 h.2.2.2, Nat.lt_of_lt_of_le h.2.2.2 hb6.size⟩) ?_
  clear hK K
  try simp only [Act.put, List.setIfInBounds_toArray, List.set_cons_zero, List.set_cons_succ]
  have X6 := hide1 (X5.out.trans (hb6.mono X5.out.size))
  have I4 := hide1 ((hb6.block _ (lt_heap J4.out)).trans J4.out)
  have I5 := hide1 ((hb6.block _ (lt_heap J5.out)).trans J5.out)
  clear hb6 J4 J5 X5
  refine take_p 13 35 (.bool false) rfl rfl (by kernel_rfl) (by kernel_rfl) (by kernel_rfl) (fun _ _ _ h => h) rfl (fun w => by go_simp) ?_
  try simp only [List.setIfInBounds_toArray, List.set_cons_zero, List.set_cons_succ]
  refine take_p 14 36 (.bool false) rfl rfl (by kernel_rfl) (by kernel_rfl) (by kernel_rfl) (fun _ _ _ h => h) rfl (fun w => by go_simp) ?_
  try simp only [List.setIfInBounds_toArray, List.set_cons_zero, List.set_cons_succ]
  refine done_f (by kernel_rfl) ?_ _
  obtain ⟨r0, r1, r2, _, _, _, rl⟩ := box3 I5.out
  by_cases hz : gc = 0
  · subst hz
    obtain ⟨h5, hk, hm⟩ := HX.out HK.out.1
    have hk' : (⟨ck, cb, cm, cq, cn⟩ : Cl) = xC s := HK.out.2.symm.trans hk
    unfold xC at hk' hm
    injection hk' with q0 q1 q2 q3 q4
    have l0 := xN_lt s 0
    have l1 := xN_lt s 1
    have l2 := xN_lt s 2
    have l3 := xN_lt s 3
    have l4 := xN_lt s 4
    have e5 := first5 h5
    have hm' : May (xN s 0 : Nat) (xN s 1 : Nat) (xN s 2 : Nat) (xN s 3 : Nat) (xN s 4 : Nat) := hm
    have kP := fun g w h => hide1 (put_any g (xN s 0) (xN s 1) (xN s 2) (xN s 3) (xN s 4) w h l0 l1 l2 l3 l4 hm')
    have kQ := fun w => hide1 (rput_any (xN s 0) (xN s 1) (xN s 2) (xN s 3) (xN s 4) w l0 l1 l2 l3 l4)
    have kB := fun g w h => hide1 (wBytes_any g w [xN s 0, xN s 1, xN s 2, xN s 3, xN s 4] h (by simp))
    rw [e5] at kQ kB
    subst q0; subst q1; subst q2; subst q3; subst q4
    unfold cls at kP kQ
    generalize xN s 0 = x0 at *
    generalize xN s 1 = x1 at *
    generalize xN s 2 = x2 at *
    generalize xN s 3 = x3 at *
    generalize xN s 4 = x4 at *
    have hcut : ∀ W : World, (Instr.slice 9 (.string s) none (some (.int .i64 5)) none).run Tryz.prog W = .ok (.string (s.extract 0 5)) W := fun W => run_upto s 5 h5 W
    have hs5 : (5 : Int) ≤ (s.size : Int) := by omega
    clear HX HK hk hm hm' l0 l1 l2 l3 l4 e5 kG kR kN kE h5 HS R4 L4 L5 L6 LB
    generalize s.extract 0 5 = t at *
    go_upto_region 11 with (fail)
    generalize hX : World.alloc w6 _ = X
    have W7 : Hid (Wr X w6.heap.size []) := by rw [← hX]; exact Wr.new w6
    have I7 := hide1 (hX ▸ keep_alloc I4.out _)
    have B7 : Hid (Below w.heap.size w X) := by rw [← hX]; exact X6.out.alloc X6.out.size _
    have n47 : b4 ≠ w6.heap.size := by have := lt_heap I4.out; omega
    have HG7 : Shy (w.heap.size ≤ w6.heap.size) := ⟨X6.out.size⟩
    generalize w6.heap.size = gw at *
    clear hX r0 r1 r2 rl I4 I5 X6
    obtain ⟨d0, d1, d2, d3, d4, l1⟩ := box5 I7.out
    go_wp2_with fail
    refine (kP gw _ W7.out).out.mono ?_
    rintro e w7 ⟨rfl, hW, hB⟩
    have W8 := hide1 hW
    have I8 := hide1 ((hB.block _ (lt_heap I7.out) n47).trans I7.out)
    have B8 := hide1 (hB.below B7.out HG7.out B7.out.size)
    clear hW hB W7 I7 B7 d0 d1 d2 d3 d4 l1
    obtain ⟨d0, d1, d2, d3, d4, l1⟩ := box5 I8.out
    go_upto_region 12 with (fail)
    have d0 := bw_cell d0
    have d1 := bw_cell d1
    have d2 := bw_cell d2
    have d3 := bw_cell d3
    have d4 := bw_cell d4
    have hne : Nonempty (Bw w7) := ⟨⟨w7, Below.refl _ _⟩⟩
    have cB := fun p : Bw w7 => kB gw p.w (W8.out.below p.h)
    have cQ := fun p : Bw w7 => kQ p.w
    have cA := fun p : Bw w7 => kA p.w
    clear kB kQ kA kP W8 I8
    refine wp_region_quiet_bw (by assumption) (by kernel_rfl) ?_
    repeat (go_big_quiet_step (first | (go_at_call 11; exact bw_of (cB _).out) | (go_at_call 12; exact bw_of (cQ _).out) | (go_at_call 4; exact bw_of (cA _).out)))
    refine wpQuiet_nil ?_
    intro w8 hw8
    obtain ⟨p, rfl⟩ := hw8
    go_wp2
    go_ret
    exact ⟨rfl, B8.out.trans (p.h.mono B8.out.size)⟩
  · have hzb : (gc != 0) = true := by simpa using hz
    clear hz HX HK kG kR kN kE HS R4 L4 L5 L6 LB
    go_wp2_with fail
    refine (kA _).out.mono ?_
    rintro e w7 ⟨rfl, hb⟩
    have B8 := hide1 (X6.out.trans (hb.mono X6.out.size))
    clear hb
    go_wp2
    go_ret
    exact ⟨rfl, B8.out⟩

end Go.Proofs.YtnkdbkhgfakjaaaGreatDoor
