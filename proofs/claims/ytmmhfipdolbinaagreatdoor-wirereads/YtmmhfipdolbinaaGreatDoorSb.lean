/- The reader's bits. -/
import Derived.Test.YtmmhfipdolbinaaGreatDoorSa
namespace Go.Proofs.YtmmhfipdolbinaaGreatDoor
open Go.RowKit
set_option maxRecDepth 100000
attribute [local go_sem] not_any mf_any field_words

/- all but one row of w is kept, and what is new besides -/
theorem But.sets {g B : Nat} {w w' : World} {o o' : Nat} {v v' : Value} (h : But g w w') (hB : w.heap.size ≤ B) : But g w ((w'.setCell ⟨B, o, none⟩ v).setCell ⟨B, o', none⟩ v') :=
  ⟨h.os, h.tape, h.output, by simpa using h.size, fun k hk hg => (Below.heap_setCell _ _ _ _ (by simp; omega)).trans ((Below.heap_setCell _ _ _ _ (by simp; omega)).trans (h.block k hk hg))⟩

set_option maxHeartbeats 1000000 in
theorem over_vec (g k : Nat) (s f field : ByteArray) (c : Int) (fv : Value) (w : World) (h : w.heap[g]? = some (rdr s k c f)) (hc : c ≠ 0) :
    Calls Tryz.prog 56 #[.pointer (some ⟨g, 0, none⟩), .string field, fv] w fun e w' => e = .returned (.agg #[.int .i64 0, .slice none 0 0]) ∧ Below w.heap.size w w' := by
  have lt := lt_heap h
  have k0 := hide1 (isOver_any g k s f c ((w.alloc (.cells #[.int .i64 0, .slice none 0 0] 60)).alloc (.cells #[.int .i64 0, .slice none 0 0] 60)) ((Below.heap_alloc _ _ _ (by simp; omega)).trans ((Below.heap_alloc _ _ _ lt).trans h)))
  rw [show (c != 0) = true by simpa using hc] at k0
  clear h
  go_enter Tryz.func56, Tryz.ntmps56
  go_wp2_with (go_at_call 66; refine k0.out.mono ?_; rintro e w1 ⟨rfl, hw1⟩; cases hw1)
  refine ret_vec Tryz.results56 w.heap.size _ _ rfl (heap_alloc2_old _ _ _) rfl ⟨rfl, ((Below.refl _ _).alloc (Nat.le_refl _) _).alloc (by simp) _⟩

set_option maxHeartbeats 4000000 in
theorem read_vec (g k sz : Nat) (s f field : ByteArray) (code : Int) (b : Nat) (l : List Bool) (w : World) (h : w.heap[g]? = some (rdr s k 0 f)) (hk : k ≤ s.size) (hs : s.size ≤ 281474976710656) (hsz : sz ≤ 281474976710656)
    (HT : Hid (∀ w' : World, Below w.heap.size w w' → Calls Tryz.prog 57 #[.string (s.extract k s.size), .pointer (some ⟨b, 0, none⟩)] w' (B1Post l sz code w'))) :
    Calls Tryz.prog 56 #[.pointer (some ⟨g, 0, none⟩), .string field, .func (.func 57) #[] #[.pointer (some ⟨b, 0, none⟩)]] w
      (RdP g k sz s f field code w (fun e w' => ∃ (n : Nat) (a : Option Addr), e = .returned (.agg #[.int .i64 (n : Int), .slice a (need n 64) (need n 64)]) ∧ n ≤ 524288 ∧ Vc w.heap.size w' n a l) (.agg #[.int .i64 0, .slice none 0 0])) := by
  have lt := lt_heap h
  have hcut := run_from s k hk
  have HLT := hide1 lt
  have HM : Hid (∀ W e w1, B1Post l sz code W e w1 → ∃ xi a m c, e = .returned (.tuple #[.agg #[.int .i64 xi, .slice a m c], .int .i64 (sz : Int), .int .i64 code]) ∧ Shy (code = 0 → ∃ n : Nat, xi = n ∧ m = need n 64 ∧ c = need n 64 ∧ n ≤ 524288 ∧ Vc W.heap.size w1 n a l) ∧ Below W.heap.size W w1) := fun _ _ _ h => h
  generalize s.extract k s.size = rest at *
  obtain ⟨W0, hW0⟩ : ∃ W0, (w.alloc (.cells #[.int .i64 0, .slice none 0 0] 60)).alloc (.cells #[.int .i64 0, .slice none 0 0] 60) = W0 := ⟨_, rfl⟩
  have hB0 : Below w.heap.size w W0 := by rw [← hW0]; exact ((Below.refl _ _).alloc (Nat.le_refl _) _).alloc (by simp) _
  have hv0 : W0.heap[w.heap.size]? = some (.cells #[.int .i64 0, .slice none 0 0] 60 (0, 0)) := by rw [← hW0]; exact heap_alloc2_old _ _ _
  have hv1 : W0.heap[w.heap.size + 1]? = some (.cells #[.int .i64 0, .slice none 0 0] 60 (0, 0)) := by rw [← hW0]; exact heap_alloc2_new _ _ _
  have hz0 : W0.heap.size = w.heap.size + 2 := by rw [← hW0]; simp
  have hR0 : W0.heap[g]? = some (rdr s k 0 f) := (hB0.block g lt).trans h
  have k0 := hide1 (isOver_any g k s f 0 W0 hR0)
  have HB0 := hide1 hB0
  have HV0 := hide1 hv0
  have HV1 := hide1 hv1
  have HZ0 := hide1 hz0
  have HRR := hide1 hR0
  have HW0 := hide1 hW0
  clear h hB0 hv0 hv1 hz0 hR0 hW0 lt
  go_enter Tryz.func56, Tryz.ntmps56
  go_wp2_with fail
  rw [HW0.out]
  refine k0.out.mono ?_
  rintro e w1 ⟨rfl, hw1⟩
  cases hw1
  clear HW0 k0
  go_upto_region 4 with (fail)
  refine region_f (F := [16]) (S := fun w' => w'.heap[g]? = some (rdr s k 0 f)) (by kernel_rfl) HRR.out (fun hS => ?_)
  refine take_p 0 15 (.func (.func 57) #[] #[.pointer (some ⟨b, 0, none⟩)]) rfl rfl (by kernel_rfl) (by kernel_rfl) (by kernel_rfl) (fun _ _ _ h => h) rfl (fun w => by go_simp) ?_
  try simp only [List.setIfInBounds_toArray, List.set_cons_zero, List.set_cons_succ]
  refine take_p 1 16 (.pointer (some ⟨g, 0, none⟩)) rfl rfl (by kernel_rfl) (by kernel_rfl) (by kernel_rfl) (fun _ _ _ h => h) rfl (fun w => by go_simp) ?_
  try simp only [List.setIfInBounds_toArray, List.set_cons_zero, List.set_cons_succ]
  refine take_p 2 17 (.pointer (some ⟨g, 0, none⟩)) rfl rfl (by kernel_rfl) (by kernel_rfl) (by kernel_rfl) (fun _ _ _ h => h) rfl (fun w => by go_simp) ?_
  try simp only [List.setIfInBounds_toArray, List.set_cons_zero, List.set_cons_succ]
  refine take_p 3 18 (.pointer (some ⟨g, 1, none⟩)) rfl rfl (by kernel_rfl) (by kernel_rfl) (by kernel_rfl) (fun _ _ _ h => h) rfl (fun w => by go_simp) ?_
  try simp only [List.setIfInBounds_toArray, List.set_cons_zero, List.set_cons_succ]
  refine take_p 5 20 (.pointer (some ⟨g, 0, none⟩)) rfl rfl (by kernel_rfl) (by kernel_rfl) (by kernel_rfl) (fun _ _ _ h => h) rfl (fun w => by go_simp) ?_
  try simp only [List.setIfInBounds_toArray, List.set_cons_zero, List.set_cons_succ]
  refine take_p 6 21 (.pointer (some ⟨g, 0, none⟩)) rfl rfl (by kernel_rfl) (by kernel_rfl) (by kernel_rfl) (fun _ _ _ h => h) rfl (fun w => by go_simp) ?_
  try simp only [List.setIfInBounds_toArray, List.set_cons_zero, List.set_cons_succ]
  refine take_p 7 22 (.pointer (some ⟨g, 2, none⟩)) rfl rfl (by kernel_rfl) (by kernel_rfl) (by kernel_rfl) (fun _ _ _ h => h) rfl (fun w => by go_simp) ?_
  try simp only [List.setIfInBounds_toArray, List.set_cons_zero, List.set_cons_succ]
  refine take_f 4 19 (.string s) [9, 10, 11, 12, 13, 14, 16, 17, 18] rfl rfl (by kernel_rfl) (by kernel_rfl) (by kernel_rfl) (by kernel_rfl) (by kernel_rfl) (by kernel_rfl) (fun _ _ _ h => h) rfl (fun w hSw => by have h1 := (rd_cells hSw).2.1; clear hSw; go_simp) hS ?_
  try simp only [List.setIfInBounds_toArray, List.set_cons_zero, List.set_cons_succ]
  refine take_f 8 23 (.int .i64 (k : Int)) [9, 10, 11, 12, 13, 14, 16, 17, 18] rfl rfl (by kernel_rfl) (by kernel_rfl) (by kernel_rfl) (by kernel_rfl) (by kernel_rfl) (by kernel_rfl) (fun _ _ _ h => h) rfl (fun w hSw => by have h1 := (rd_cells hSw).2.2.1; clear hSw; go_simp) hS ?_
  try simp only [List.setIfInBounds_toArray, List.set_cons_zero, List.set_cons_succ]
  refine take_p 9 24 (.string rest) rfl rfl (by kernel_rfl) (by kernel_rfl) (by kernel_rfl) (fun _ _ _ h => h) rfl (fun w => by go_simp) ?_
  try simp only [List.setIfInBounds_toArray, List.set_cons_zero, List.set_cons_succ]
  clear hS hcut
  refine ready2_f 10 15 (o := { dst := some 25, op := Op.call { callee := Callee.value (Operand.tmp 15), args := #[Operand.tmp 24], argTypes := #[9] }, type := 129, pos := "field.go:11", after := #[{ on := 0, ground := Ground.data }, { on := 9, ground := Ground.data }], guard := none }) (o' := { dst := some 8, op := Op.alloc 60, type := 0, pos := "field.go:11", after := #[], guard := none }) (by kernel_rfl) rfl rfl (fun K hK => ?_) (fun K hK => ?_)
  · go_simp
    refine (HT.out W0.drew (HB0.out.drew)).mono ?_
    intro e w1 hP1
    obtain ⟨xi, a, m, c, rfl, hvc, hc1⟩ := HM.out _ e w1 hP1
    clear hP1
    refine hK.out _ _ (fun _ h => (hc1.block g (lt_heap h)).trans h) ?_
    clear hK K
    try simp only [Act.put, List.setIfInBounds_toArray, List.set_cons_zero, List.set_cons_succ]
    refine take_p 11 14 (.tuple #[.agg #[.int .i64 xi, .slice a m c], .int .i64 (sz : Int), .int .i64 code]) rfl rfl (by kernel_rfl) (by kernel_rfl) (by kernel_rfl) (fun _ _ _ h => h) rfl (fun w => by go_simp) ?_
    try simp only [List.setIfInBounds_toArray, List.set_cons_zero, List.set_cons_succ]
    refine take_p 12 26 (.agg #[.int .i64 xi, .slice a m c]) rfl rfl (by kernel_rfl) (by kernel_rfl) (by kernel_rfl) (fun _ _ _ h => h) rfl (fun w => by go_simp) ?_
    try simp only [List.setIfInBounds_toArray, List.set_cons_zero, List.set_cons_succ]
    refine take_p 13 27 (.int .i64 (sz : Int)) rfl rfl (by kernel_rfl) (by kernel_rfl) (by kernel_rfl) (fun _ _ _ h => h) rfl (fun w => by go_simp) ?_
    try simp only [List.setIfInBounds_toArray, List.set_cons_zero, List.set_cons_succ]
    refine take_p 14 28 (.int .i64 code) rfl rfl (by kernel_rfl) (by kernel_rfl) (by kernel_rfl) (fun _ _ _ h => h) rfl (fun w => by go_simp) ?_
    try simp only [List.setIfInBounds_toArray, List.set_cons_zero, List.set_cons_succ]
    refine ready_f 15 (o := { dst := some 8, op := Op.alloc 60, type := 0, pos := "field.go:11", after := #[], guard := none }) (by kernel_rfl) rfl (fun K hK => ?_)
    go_simp
    refine hK.out _ _ (fun _ h => (Below.heap_alloc _ _ _ (lt_heap h)).trans h) ?_
    clear hK K
    try simp only [Act.put, List.setIfInBounds_toArray, List.set_cons_zero, List.set_cons_succ]
    refine ready_f 16 (o := { dst := none, op := Op.store 60 (Operand.tmp 8) (Operand.tmp 26), type := 0, pos := "field.go:11", after := #[{ on := 15, ground := Ground.data }, { on := 12, ground := Ground.data }, { on := 10, ground := Ground.chain }, { on := 0, ground := Ground.phase }, { on := 1, ground := Ground.phase }, { on := 2, ground := Ground.phase }, { on := 3, ground := Ground.phase }, { on := 4, ground := Ground.phase }, { on := 5, ground := Ground.phase }, { on := 6, ground := Ground.phase }, { on := 7, ground := Ground.phase }, { on := 8, ground := Ground.phase }, { on := 9, ground := Ground.phase }, { on := 10, ground := Ground.phase }, { on := 11, ground := Ground.phase }, { on := 12, ground := Ground.phase }, { on := 13, ground := Ground.textOnly Departure.lateStores }, { on := 14, ground := Ground.textOnly Departure.lateStores }, { on := 15, ground := Ground.phase }], guard := none }) (by kernel_rfl) rfl (fun K hK => ?_)
    go_simp
    refine hK.out _ _ (fun h => absurd (by decide) h) ?_
    clear hK K
    refine take_p 17 9 (.int .i64 (sz : Int)) rfl rfl (by kernel_rfl) (by kernel_rfl) (by kernel_rfl) (fun _ _ _ h => h) rfl (fun w => by go_simp) ?_
    try simp only [List.setIfInBounds_toArray, List.set_cons_zero, List.set_cons_succ]
    refine take_p 18 10 (.int .i64 code) rfl rfl (by kernel_rfl) (by kernel_rfl) (by kernel_rfl) (fun _ _ _ h => h) rfl (fun w => by go_simp) ?_
    try simp only [List.setIfInBounds_toArray, List.set_cons_zero, List.set_cons_succ]
    refine done_f (by kernel_rfl) ?_ _
    generalize hY : World.alloc w1 _ = Y
    have hyr : Y.heap[w1.heap.size]? = some (.cells #[.int .i64 xi, .slice a m c] 60 (0, 0)) := by rw [← hY]; exact heap_alloc_new _ _
    have hR1 : Y.heap[g]? = some (rdr s k 0 f) := by rw [← hY]; exact (Below.heap_alloc _ _ _ (lt_heap (((hc1.block _ (lt_heap HRR.out)).trans HRR.out)))).trans (((hc1.block _ (lt_heap HRR.out)).trans HRR.out))
    have hr0 : Y.heap[w.heap.size]? = some (.cells #[.int .i64 0, .slice none 0 0] 60 (0, 0)) := by rw [← hY]; exact (Below.heap_alloc _ _ _ (lt_heap (((hc1.block _ (lt_heap HV0.out)).trans HV0.out)))).trans (((hc1.block _ (lt_heap HV0.out)).trans HV0.out))
    have hr1 : Y.heap[w.heap.size + 1]? = some (.cells #[.int .i64 0, .slice none 0 0] 60 (0, 0)) := by rw [← hY]; exact (Below.heap_alloc _ _ _ (lt_heap (((hc1.block _ (lt_heap HV1.out)).trans HV1.out)))).trans (((hc1.block _ (lt_heap HV1.out)).trans HV1.out))
    have HBY : Hid (Below w.heap.size w Y) := by rw [← hY]; exact (HB0.out.drew.trans (hc1.mono HB0.out.size)).alloc (Nat.le_trans HB0.out.size hc1.size) _
    have HVY : Shy (code = 0 → ∃ n : Nat, xi = n ∧ m = need n 64 ∧ c = need n 64 ∧ n ≤ 524288 ∧ Vc (w.heap.size + 2) Y n a l) := ⟨fun h => by
      obtain ⟨n, q1, q2, q3, q4, q5⟩ := hvc.out h
      refine ⟨n, q1, q2, q3, q4, ?_⟩
      rw [← hY]
      exact (q5.mono (by have := HZ0.out; show w.heap.size + 2 ≤ W0.heap.size; omega)).alloc _⟩
    obtain ⟨y0, y1, _, _, ly⟩ := box2 hyr
    obtain ⟨p0, p1, p2, p3, lp⟩ := box2 hr0
    obtain ⟨z0, z1, _, _, lz⟩ := box2 hr1
    have HR1 := hide1 hR1
    have HR0 := hide1 hr0
    obtain ⟨c0, c1, c2, c3, c4, lt1⟩ := rd_cells hR1
    obtain ⟨f2, f3, f4⟩ := rd_free hR1
    have hgn : g ≠ w.heap.size := by have := HLT.out; omega
    have hgn' : w.heap.size ≠ g := by have := HLT.out; omega
    have hgn1 : g ≠ w.heap.size + 1 := by have := HLT.out; omega
    clear hY hyr hr0 hr1 hvc hc1 
    by_cases hcode : code = 0
    · obtain ⟨n, q1, q2, q3, q4, q5⟩ := HVY.out hcode
      have HQ := hide1 q5
      subst hcode q1 q2 q3
      clear q5 HVY
      go_wp2
      have ek : ((k : Int) + (sz : Int)) = (((k + sz : Nat)) : Int) := by omega
      refine ret_vec Tryz.results56 w.heap.size _ _ rfl (set_box2 ((Below.heap_setCell _ _ _ _ hgn').trans HR0.out)) rfl ?_
      refine ⟨fun _ => ⟨n, a, rfl, q4, (((HQ.out.setCell (by have := HLT.out; simp; omega) _).setCell (by simp) _).setCell (by simp) _).mono (by omega)⟩, fun h => absurd rfl h, ?_, ?_⟩
      · rw [rdN_ok, ek]
        exact (Below.heap_setCell _ _ _ _ hgn).trans ((Below.heap_setCell _ _ _ _ hgn).trans (rd_at HR1.out (k + sz)))
      · exact ((But.of_below HBY.out).trans (But.set g 2 _ _)).sets (Nat.le_refl _)
    · have hc' : (code != 0) = true := by simpa using hcode
      have hc2 : (code == 0) = false := by simpa using hcode
      have kF := hide1 (fail_any g k s f field code Y hR1 hcode)
      clear hR1 HVY
      go_wp2_with (go_at_call 27; refine kF.out.mono ?_; rintro e w2 ⟨rfl, rfl⟩)
      refine ret_vec Tryz.results56 w.heap.size _ _ rfl (set_box2 ((Below.heap_setCell _ _ _ _ hgn').trans ((Below.heap_setCell _ _ _ _ hgn').trans HR0.out))) rfl ?_
      refine ⟨fun h => absurd h hcode, fun _ => rfl, ?_, ?_⟩
      · rw [rdN_no _ _ _ _ _ hcode]
        exact (Below.heap_setCell _ _ _ _ hgn).trans ((Below.heap_setCell _ _ _ _ hgn).trans (rd_fault HR1.out code field))
      · exact (((But.of_below HBY.out).trans (But.set g 3 _ _)).trans (But.set g 4 _ _)).sets (Nat.le_refl _)
  · go_simp
    refine hK.out _ _ (fun _ h => (Below.heap_alloc _ _ _ (lt_heap h)).trans h) ?_
    clear hK K
    try simp only [Act.put, List.setIfInBounds_toArray, List.set_cons_zero, List.set_cons_succ]
    refine ready_f 10 (o := { dst := some 25, op := Op.call { callee := Callee.value (Operand.tmp 15), args := #[Operand.tmp 24], argTypes := #[9] }, type := 129, pos := "field.go:11", after := #[{ on := 0, ground := Ground.data }, { on := 9, ground := Ground.data }], guard := none }) (by kernel_rfl) rfl (fun K hK => ?_)
    go_simp
    refine (HT.out (World.drew (W0.alloc _)) ((HB0.out.alloc HB0.out.size _).drew)).mono ?_
    intro e w1 hP1
    obtain ⟨xi, a, m, c, rfl, hvc, hc1⟩ := HM.out _ e w1 hP1
    clear hP1
    refine hK.out _ _ (fun _ h => (hc1.block g (lt_heap h)).trans h) ?_
    clear hK K
    try simp only [Act.put, List.setIfInBounds_toArray, List.set_cons_zero, List.set_cons_succ]
    refine take_p 11 14 (.tuple #[.agg #[.int .i64 xi, .slice a m c], .int .i64 (sz : Int), .int .i64 code]) rfl rfl (by kernel_rfl) (by kernel_rfl) (by kernel_rfl) (fun _ _ _ h => h) rfl (fun w => by go_simp) ?_
    try simp only [List.setIfInBounds_toArray, List.set_cons_zero, List.set_cons_succ]
    refine take_p 12 26 (.agg #[.int .i64 xi, .slice a m c]) rfl rfl (by kernel_rfl) (by kernel_rfl) (by kernel_rfl) (fun _ _ _ h => h) rfl (fun w => by go_simp) ?_
    try simp only [List.setIfInBounds_toArray, List.set_cons_zero, List.set_cons_succ]
    refine take_p 13 27 (.int .i64 (sz : Int)) rfl rfl (by kernel_rfl) (by kernel_rfl) (by kernel_rfl) (fun _ _ _ h => h) rfl (fun w => by go_simp) ?_
    try simp only [List.setIfInBounds_toArray, List.set_cons_zero, List.set_cons_succ]
    refine take_p 14 28 (.int .i64 code) rfl rfl (by kernel_rfl) (by kernel_rfl) (by kernel_rfl) (fun _ _ _ h => h) rfl (fun w => by go_simp) ?_
    try simp only [List.setIfInBounds_toArray, List.set_cons_zero, List.set_cons_succ]
    have hrowX := (hc1.block W0.heap.size (by simp [World.drew])).trans (heap_alloc_new W0 (.cells #[.int .i64 0, .slice none 0 0] 60))
    obtain ⟨q0, q1, q2, q3, ql⟩ := box2 hrowX
    refine ready_f 16 (o := { dst := none, op := Op.store 60 (Operand.tmp 8) (Operand.tmp 26), type := 0, pos := "field.go:11", after := #[{ on := 15, ground := Ground.data }, { on := 12, ground := Ground.data }, { on := 10, ground := Ground.chain }, { on := 0, ground := Ground.phase }, { on := 1, ground := Ground.phase }, { on := 2, ground := Ground.phase }, { on := 3, ground := Ground.phase }, { on := 4, ground := Ground.phase }, { on := 5, ground := Ground.phase }, { on := 6, ground := Ground.phase }, { on := 7, ground := Ground.phase }, { on := 8, ground := Ground.phase }, { on := 9, ground := Ground.phase }, { on := 10, ground := Ground.phase }, { on := 11, ground := Ground.phase }, { on := 12, ground := Ground.phase }, { on := 13, ground := Ground.textOnly Departure.lateStores }, { on := 14, ground := Ground.textOnly Departure.lateStores }, { on := 15, ground := Ground.phase }], guard := none }) (by kernel_rfl) rfl (fun K hK => ?_)
    go_simp
    refine hK.out _ _ (fun h => absurd (by decide) h) ?_
    clear hK K
    refine take_p 17 9 (.int .i64 (sz : Int)) rfl rfl (by kernel_rfl) (by kernel_rfl) (by kernel_rfl) (fun _ _ _ h => h) rfl (fun w => by go_simp) ?_
    try simp only [List.setIfInBounds_toArray, List.set_cons_zero, List.set_cons_succ]
    refine take_p 18 10 (.int .i64 code) rfl rfl (by kernel_rfl) (by kernel_rfl) (by kernel_rfl) (fun _ _ _ h => h) rfl (fun w => by go_simp) ?_
    try simp only [List.setIfInBounds_toArray, List.set_cons_zero, List.set_cons_succ]
    refine done_f (by kernel_rfl) ?_ _
    generalize hY : World.setCell (World.setCell _ _ _) _ _ = Y
    have hyr : Y.heap[W0.heap.size]? = some (.cells #[.int .i64 xi, .slice a m c] 60 (0, 0)) := by rw [← hY]; exact set_box2 hrowX
    have hR1 : Y.heap[g]? = some (rdr s k 0 f) := by rw [← hY]; exact (Below.heap_setCell _ _ _ _ (by have := lt_heap HRR.out; simp; omega)).trans ((Below.heap_setCell _ _ _ _ (by have := lt_heap HRR.out; simp; omega)).trans ((hc1.block _ (Nat.lt_of_lt_of_le (lt_heap HRR.out) (by simp [World.drew]))).trans ((Below.heap_alloc _ _ _ (lt_heap HRR.out)).trans HRR.out)))
    have hr0 : Y.heap[w.heap.size]? = some (.cells #[.int .i64 0, .slice none 0 0] 60 (0, 0)) := by rw [← hY]; exact (Below.heap_setCell _ _ _ _ (by have := lt_heap HV0.out; simp; omega)).trans ((Below.heap_setCell _ _ _ _ (by have := lt_heap HV0.out; simp; omega)).trans ((hc1.block _ (Nat.lt_of_lt_of_le (lt_heap HV0.out) (by simp [World.drew]))).trans ((Below.heap_alloc _ _ _ (lt_heap HV0.out)).trans HV0.out)))
    have hr1 : Y.heap[w.heap.size + 1]? = some (.cells #[.int .i64 0, .slice none 0 0] 60 (0, 0)) := by rw [← hY]; exact (Below.heap_setCell _ _ _ _ (by have := lt_heap HV1.out; simp; omega)).trans ((Below.heap_setCell _ _ _ _ (by have := lt_heap HV1.out; simp; omega)).trans ((hc1.block _ (Nat.lt_of_lt_of_le (lt_heap HV1.out) (by simp [World.drew]))).trans ((Below.heap_alloc _ _ _ (lt_heap HV1.out)).trans HV1.out)))
    have HBY : Hid (Below w.heap.size w Y) := by rw [← hY]; exact (((HB0.out.alloc HB0.out.size _).drew.trans (hc1.mono (by have := HB0.out.size; simp [World.drew]; omega))).setCell HB0.out.size _).setCell HB0.out.size _
    have HVY : Shy (code = 0 → ∃ n : Nat, xi = n ∧ m = need n 64 ∧ c = need n 64 ∧ n ≤ 524288 ∧ Vc (w.heap.size + 2) Y n a l) := ⟨fun h => by
      obtain ⟨n, q1, q2, q3, q4, q5⟩ := hvc.out h
      refine ⟨n, q1, q2, q3, q4, ?_⟩
      rw [← hY]
      exact ((q5.setCell (by simp [World.drew]) _).setCell (by simp [World.drew]) _).mono (by have := HZ0.out; simp [World.drew]; omega)⟩
    obtain ⟨y0, y1, _, _, ly⟩ := box2 hyr
    obtain ⟨p0, p1, p2, p3, lp⟩ := box2 hr0
    obtain ⟨z0, z1, _, _, lz⟩ := box2 hr1
    have HR1 := hide1 hR1
    have HR0 := hide1 hr0
    obtain ⟨c0, c1, c2, c3, c4, lt1⟩ := rd_cells hR1
    obtain ⟨f2, f3, f4⟩ := rd_free hR1
    have hgn : g ≠ w.heap.size := by have := HLT.out; omega
    have hgn' : w.heap.size ≠ g := by have := HLT.out; omega
    have hgn1 : g ≠ w.heap.size + 1 := by have := HLT.out; omega
    clear hY hyr hr0 hr1 hvc hc1 hrowX q0 q1 q2 q3 ql
    by_cases hcode : code = 0
    · obtain ⟨n, q1, q2, q3, q4, q5⟩ := HVY.out hcode
      have HQ := hide1 q5
      subst hcode q1 q2 q3
      clear q5 HVY
      go_wp2
      have ek : ((k : Int) + (sz : Int)) = (((k + sz : Nat)) : Int) := by omega
      refine ret_vec Tryz.results56 w.heap.size _ _ rfl (set_box2 ((Below.heap_setCell _ _ _ _ hgn').trans HR0.out)) rfl ?_
      refine ⟨fun _ => ⟨n, a, rfl, q4, (((HQ.out.setCell (by have := HLT.out; simp; omega) _).setCell (by simp) _).setCell (by simp) _).mono (by omega)⟩, fun h => absurd rfl h, ?_, ?_⟩
      · rw [rdN_ok, ek]
        exact (Below.heap_setCell _ _ _ _ hgn).trans ((Below.heap_setCell _ _ _ _ hgn).trans (rd_at HR1.out (k + sz)))
      · exact ((But.of_below HBY.out).trans (But.set g 2 _ _)).sets (Nat.le_refl _)
    · have hc' : (code != 0) = true := by simpa using hcode
      have hc2 : (code == 0) = false := by simpa using hcode
      have kF := hide1 (fail_any g k s f field code Y hR1 hcode)
      clear hR1 HVY
      go_wp2_with (go_at_call 27; refine kF.out.mono ?_; rintro e w2 ⟨rfl, rfl⟩)
      refine ret_vec Tryz.results56 w.heap.size _ _ rfl (set_box2 ((Below.heap_setCell _ _ _ _ hgn').trans ((Below.heap_setCell _ _ _ _ hgn').trans HR0.out))) rfl ?_
      refine ⟨fun h => absurd h hcode, fun _ => rfl, ?_, ?_⟩
      · rw [rdN_no _ _ _ _ _ hcode]
        exact (Below.heap_setCell _ _ _ _ hgn).trans ((Below.heap_setCell _ _ _ _ hgn).trans (rd_fault HR1.out code field))
      · exact (((But.of_below HBY.out).trans (But.set g 3 _ _)).trans (But.set g 4 _ _)).sets (Nat.le_refl _)
end Go.Proofs.YtmmhfipdolbinaaGreatDoor
