/- Call by call: a kind that there is not. -/
import Derived.Test.YtmmhfipdolbinaaGreatDoorTj
namespace Go.Proofs.YtmmhfipdolbinaaGreatDoor
open Go.RowKit
set_option maxRecDepth 100000
attribute [local go_sem] not_any mf_any

set_option maxHeartbeats 4000000 in
theorem reads_def (g dd k : Nat) (s f f1 : ByteArray) (c c' kk mo wi : Int) (w : World) (hg : w.heap[g]? = some (rdr s k c f)) (hd : w.heap[dd]? = some (drow s k c)) (hne : g ≠ dd) (het : F.Et w) (hg0 : g ≠ 0) (hd0 : dd ≠ 0) (hkk : kk < 0 ∨ 7 < kk)
    (HD : ∀ w, Calls Tryz.prog 26 #[dv s k c, .int .i64 15] w fun en w' => en = .returned (dv s k c') ∧ Below w.heap.size w w')
    (HP : ∀ w, w.heap[g]? = some (rdr s k c f) → Calls Tryz.prog 27 #[.pointer (some ⟨g, 0, none⟩), .string ⟨#[104]⟩, .int .i64 15] w fun e w' => e = .returned (.tuple #[]) ∧ w'.heap[g]? = some (rdr s k c' f1) ∧ But g w w') :
    Calls Tryz.prog 6 #[.pointer (some ⟨g, 0, none⟩), .pointer (some ⟨dd, 0, none⟩), .agg #[.int .i64 kk, .int .i64 mo, .int .i64 wi]] w fun e w' => e = .returned (.bool true) ∧ w'.heap[g]? = some (rdr s k c' f1) ∧ w'.heap[dd]? = some (drow s k c') ∧ Bt g dd w w' := by
  have mx := mixed
  have kD := fun w => hide1 (HD w)
  have kP := fun w h => hide1 (HP w h)
  have lg := lt_heap hg
  have ld := lt_heap hd
  unfold drow at hd
  obtain ⟨d0, d1, d2, _, _, _, _⟩ := box3 hd
  have HG := hide1 hg
  have HET := hide1 het
  have hw0 : 0 < w.heap.size := by omega
  have HDD := hide1 hd
  have t0 : (kk == 0) = false := by simp; omega
  have t1 : (kk == 1) = false := by simp; omega
  have t2 : (kk == 2) = false := by simp; omega
  have t3 : (kk == 3) = false := by simp; omega
  have t4 : (kk == 4) = false := by simp; omega
  have t5 : (kk == 5) = false := by simp; omega
  have t6 : (kk == 6) = false := by simp; omega
  have t7 : (kk == 7) = false := by simp; omega
  clear HD HP hg hd het hkk
  unfold dv at *
  go_enter Tryz.func6, Tryz.ntmps6
  go_upto_region 4 with (fail)
  generalize hX : World.alloc (World.alloc w _) _ = X
  have HX : Hid (Below w.heap.size w X) := by rw [← hX]; exact two_below _ _
  have H1 := hide1 (hX ▸ heap_alloc2_new w _ _)
  have H2 := hide1 ((HX.out.block _ ld).trans HDD.out)
  have H3 := hide1 ((HX.out.block _ lg).trans HG.out)
  obtain ⟨c0, c1, c2, _, _, _, _⟩ := box3 H2.out
  obtain ⟨nb, hnb⟩ : ∃ b, w.heap.size + 1 = b := ⟨_, rfl⟩
  rw [hnb] at H1 ⊢
  have HNB : Shy (w.heap.size ≤ nb) := ⟨by omega⟩
  have nd : dd ≠ nb := by omega
  have ng : g ≠ nb := by omega
  clear hX d0 d1 d2 hnb t0 t1 t2 t3 t4 t5 t6 t7
  go_wp2_with fail
  refine (kD _).out.mono ?_
  rintro e w1 ⟨rfl, hb1⟩
  have K1 := hide1 ((hb1.block _ (lt_heap H1.out)).trans H1.out)
  have K2 := hide1 ((hb1.block _ (lt_heap H2.out)).trans H2.out)
  have K3 := hide1 ((hb1.block _ (lt_heap H3.out)).trans H3.out)
  have KB := hide1 (HX.out.trans (hb1.mono HX.out.size))
  clear hb1 c0 c1 c2 HX H1 H2 H3 kD
  obtain ⟨e0, e1, e2, f0, f1', f2, l3⟩ := box3 K1.out
  go_upto_region 5 with (fail)
  generalize hY : World.setCell (World.setCell (World.setCell w1 _ _) _ _) _ _ = Y
  have Y1 := hide1 (hY ▸ set_box3 K1.out)
  have Y2 : Hid (Y.heap[dd]? = some (.cells #[.string s, .int .i64 (k : Int), .int .i64 c] 27 (0, 0))) := by rw [← hY]; exact keep_box3 K2.out nd
  have Y3 : Hid (Y.heap[g]? = some (rdr s k c f)) := by rw [← hY]; exact keep_box3 K3.out ng
  have YB : Hid (Bt g dd w Y) := by rw [← hY]; exact (((Bt.of_below KB.out).set_new HNB.out _).set_new HNB.out _).set_new HNB.out _
  clear hY e0 e1 e2 f0 f1' f2 l3 K1 K2 K3 KB
  go_wp2_with fail
  refine (kP _ Y3.out).out.mono ?_
  rintro e W ⟨rfl, hr2, hb2⟩
  have Z1 := hide1 ((hb2.block _ (lt_heap Y1.out) (by omega)).trans Y1.out)
  have HDW := hide1 ((hb2.block _ (lt_heap Y2.out) (by omega)).trans Y2.out)
  have HGW := hide1 hr2
  have BTW := hide1 (YB.out.trans (Bt.of_but hb2))
  clear hr2 hb2 Y1 Y2 Y3 YB kP
  obtain ⟨n0, n1, n2, _, _, _, _⟩ := box3 Z1.out
  obtain ⟨m0, m1, m2, p0, p1, p2, l5⟩ := box3 HDW.out
  go_upto_region 31 with (fail)
  generalize hV : World.setCell (World.setCell (World.setCell W _ _) _ _) _ _ = V
  have BTV : Hid (Bt g dd w V) := by rw [← hV]; exact ((BTW.out.trans (Bt.of_but' (But.set dd 0 _ _))).trans (Bt.of_but' (But.set dd 1 _ _))).trans (Bt.of_but' (But.set dd 2 _ _))
  have hd5 := hV ▸ set_box3 HDW.out
  have hg5 : V.heap[g]? = some (rdr s k c' f1) := by rw [← hV]; exact keep_box3 HGW.out hne
  obtain ⟨m0, m1, m2, _, _, _, l5⟩ := box3 hd5
  have HD5 := hide1 hd5
  have HG5 := hide1 hg5
  clear hd5 hg5 hV n0 n1 n2 p0 p1 p2
  have HS : Shy (At3 dd (.string s) (.int .i64 (k : Int)) (.int .i64 c') V) := ⟨⟨m0, m1, m2⟩, l5⟩
  have kA := hide1 (at_any g k s f1 c' V.drew HG5.out)
  have kE := hide1 (err_is g k s f1 c' V.drew HG5.out)
  have ETV : Hid (F.Et V) := by
    have e := BTV.out.block 0 hw0 (by omega) (by omega)
    show V.cell? ⟨0, 0, none⟩ = _
    have h := HET.out
    unfold F.Et at h
    rw [← h]
    simp only [World.cell?, e]
  refine region_f (F := []) (S := At3 dd (.string s) (.int .i64 (k : Int)) (.int .i64 c')) (by kernel_rfl) HS.out (fun hS => ?_)
  refine take_p 0 170 (.bool true) rfl rfl (by kernel_rfl) (by kernel_rfl) (by kernel_rfl) (fun _ _ _ h => h) rfl (fun w => by go_simp) ?_
  try simp only [List.setIfInBounds_toArray, List.set_cons_zero, List.set_cons_succ]
  refine take_p 1 171 (.bool true) rfl rfl (by kernel_rfl) (by kernel_rfl) (by kernel_rfl) (fun _ _ _ h => h) rfl (fun w => by go_simp) ?_
  try simp only [List.setIfInBounds_toArray, List.set_cons_zero, List.set_cons_succ]
  refine take_p 2 172 (.pointer (some ⟨g, 0, none⟩)) rfl rfl (by kernel_rfl) (by kernel_rfl) (by kernel_rfl) (fun _ _ _ h => h) rfl (fun w => by go_simp) ?_
  try simp only [List.setIfInBounds_toArray, List.set_cons_zero, List.set_cons_succ]
  refine take_p 4 174 (.pointer (some ⟨dd, 0, none⟩)) rfl rfl (by kernel_rfl) (by kernel_rfl) (by kernel_rfl) (fun _ _ _ h => h) rfl (fun w => by go_simp) ?_
  try simp only [List.setIfInBounds_toArray, List.set_cons_zero, List.set_cons_succ]
  refine take_p 5 175 (.pointer (some ⟨dd, 0, none⟩)) rfl rfl (by kernel_rfl) (by kernel_rfl) (by kernel_rfl) (fun _ _ _ h => h) rfl (fun w => by go_simp) ?_
  try simp only [List.setIfInBounds_toArray, List.set_cons_zero, List.set_cons_succ]
  refine take_p 6 176 (.pointer (some ⟨dd, 1, none⟩)) rfl rfl (by kernel_rfl) (by kernel_rfl) (by kernel_rfl) (fun _ _ _ h => h) rfl (fun w => by go_simp) ?_
  try simp only [List.setIfInBounds_toArray, List.set_cons_zero, List.set_cons_succ]
  refine take_f 7 177 (.int .i64 (k : Int)) [8, 9, 10, 11, 12, 13, 14, 15, 16, 17, 18, 19, 20] rfl rfl (by kernel_rfl) (by kernel_rfl) (by kernel_rfl) (by kernel_rfl) (by kernel_rfl) (by kernel_rfl) (fun _ _ _ h => h) rfl (fun w hSw => by obtain ⟨⟨r0, r1, r2⟩, rl⟩ := hSw; go_simp) hS ?_
  try simp only [List.setIfInBounds_toArray, List.set_cons_zero, List.set_cons_succ]
  refine ready_f 3 (o := { dst := some 173, op := Op.call { callee := Callee.value (Operand.func 28), args := #[Operand.tmp 172], argTypes := #[24] }, type := 3, pos := "law.go:140", after := #[{ on := 2, ground := Ground.data }, { on := 1, ground := Ground.chain }, { on := 1, ground := Ground.guard }], guard := some (1, true) }) (by kernel_rfl) rfl (fun K hK => ?_)
  go_simp
  refine kA.out.mono ?_
  rintro e w' ⟨rfl, hw'⟩
  cases hw'
  refine hK.out _ _ (fun _ h => h) ?_
  clear hK K
  try simp only [Act.put, List.setIfInBounds_toArray, List.set_cons_zero, List.set_cons_succ]
  refine take_p 8 178 (.bool true) rfl rfl (by kernel_rfl) (by kernel_rfl) (by kernel_rfl) (fun _ _ _ h => h) rfl (fun w => by go_simp) ?_
  try simp only [List.setIfInBounds_toArray, List.set_cons_zero, List.set_cons_succ]
  refine take_p 9 179 (.bool true) rfl rfl (by kernel_rfl) (by kernel_rfl) (by kernel_rfl) (fun _ _ _ h => h) rfl (fun w => by go_simp) ?_
  try simp only [List.setIfInBounds_toArray, List.set_cons_zero, List.set_cons_succ]
  refine take_p 10 180 (.bool true) rfl rfl (by kernel_rfl) (by kernel_rfl) (by kernel_rfl) (fun _ _ _ h => h) rfl (fun w => by go_simp) ?_
  try simp only [List.setIfInBounds_toArray, List.set_cons_zero, List.set_cons_succ]
  refine take_p 11 181 (.pointer (some ⟨g, 0, none⟩)) rfl rfl (by kernel_rfl) (by kernel_rfl) (by kernel_rfl) (fun _ _ _ h => h) rfl (fun w => by go_simp) ?_
  try simp only [List.setIfInBounds_toArray, List.set_cons_zero, List.set_cons_succ]
  refine take_p 14 184 (.pointer (some ⟨dd, 0, none⟩)) rfl rfl (by kernel_rfl) (by kernel_rfl) (by kernel_rfl) (fun _ _ _ h => h) rfl (fun w => by go_simp) ?_
  try simp only [List.setIfInBounds_toArray, List.set_cons_zero, List.set_cons_succ]
  refine take_p 15 185 (.pointer (some ⟨dd, 0, none⟩)) rfl rfl (by kernel_rfl) (by kernel_rfl) (by kernel_rfl) (fun _ _ _ h => h) rfl (fun w => by go_simp) ?_
  try simp only [List.setIfInBounds_toArray, List.set_cons_zero, List.set_cons_succ]
  refine take_p 16 186 (.pointer (some ⟨dd, 2, none⟩)) rfl rfl (by kernel_rfl) (by kernel_rfl) (by kernel_rfl) (fun _ _ _ h => h) rfl (fun w => by go_simp) ?_
  try simp only [List.setIfInBounds_toArray, List.set_cons_zero, List.set_cons_succ]
  refine take_f 17 187 (.int .i64 c') [18, 19, 20] rfl rfl (by kernel_rfl) (by kernel_rfl) (by kernel_rfl) (by kernel_rfl) (by kernel_rfl) (by kernel_rfl) (fun _ _ _ h => h) rfl (fun w hSw => by obtain ⟨⟨r0, r1, r2⟩, rl⟩ := hSw; go_simp) hS ?_
  try simp only [List.setIfInBounds_toArray, List.set_cons_zero, List.set_cons_succ]
  refine ready_f 12 (o := { dst := some 182, op := Op.call { callee := Callee.value (Operand.func 29), args := #[Operand.tmp 181], argTypes := #[24] }, type := 66, pos := "law.go:140", after := #[{ on := 11, ground := Ground.data }, { on := 10, ground := Ground.chain }, { on := 10, ground := Ground.guard }], guard := some (10, true) }) (by kernel_rfl) rfl (fun K hK => ?_)
  go_simp
  refine kE.out.mono ?_
  rintro e w5 ⟨v, rfl, hv, hb5⟩
  refine hK.out _ _ (fun _ h => h.below hb5) ?_
  clear hK K
  try simp only [Act.put, List.setIfInBounds_toArray, List.set_cons_zero, List.set_cons_succ]
  have HV := hide1 hv
  have J1 := hide1 ((hb5.block _ (lt_heap HG5.out)).trans HG5.out)
  have J2 := hide1 ((hb5.block _ (lt_heap HD5.out)).trans HD5.out)
  have BT5 := hide1 (BTV.out.drew.trans (Bt.of_below hb5))
  have ET5 : Hid (F.Et w5) := (show F.Et V.drew from ETV.out).below hb5 (by have := BTV.out.size; show 0 < V.heap.size; omega)
  clear hv hb5
  refine ready_f 13 (o := { dst := some 183, op := Op.call { callee := Callee.value (Operand.func 24), args := #[Operand.tmp 182], argTypes := #[66] }, type := 40, pos := "law.go:140", after := #[{ on := 12, ground := Ground.data }, { on := 12, ground := Ground.chain }, { on := 10, ground := Ground.guard }], guard := some (10, true) }) (by kernel_rfl) rfl (fun K hK => ?_)
  go_simp
  refine (F.code_any w5 c' v ET5.out HV.out).mono ?_
  rintro e w6 ⟨rfl, hb6⟩
  refine hK.out _ _ (fun _ h => h.below hb6) ?_
  clear hK K
  try simp only [Act.put, List.setIfInBounds_toArray, List.set_cons_zero, List.set_cons_succ]
  have I1 := hide1 ((hb6.block _ (lt_heap J1.out)).trans J1.out)
  have I2 := hide1 ((hb6.block _ (lt_heap J2.out)).trans J2.out)
  have BT6 := hide1 (BT5.out.trans (Bt.of_below hb6))
  clear hb6
  refine take_p 18 188 (.bool true) rfl rfl (by kernel_rfl) (by kernel_rfl) (by kernel_rfl) (fun _ _ _ h => h) rfl (fun w => by go_simp) ?_
  try simp only [List.setIfInBounds_toArray, List.set_cons_zero, List.set_cons_succ]
  refine take_p 19 189 (.bool true) rfl rfl (by kernel_rfl) (by kernel_rfl) (by kernel_rfl) (fun _ _ _ h => h) rfl (fun w => by go_simp) ?_
  try simp only [List.setIfInBounds_toArray, List.set_cons_zero, List.set_cons_succ]
  refine take_p 20 6 (.bool true) rfl rfl (by kernel_rfl) (by kernel_rfl) (by kernel_rfl) (fun _ _ _ h => h) rfl (fun w => by go_simp) ?_
  try simp only [List.setIfInBounds_toArray, List.set_cons_zero, List.set_cons_succ]
  refine done_f (by kernel_rfl) ?_ _
  go_wp2
  go_ret
  exact ⟨rfl, I1.out, I2.out, BT6.out⟩
end Go.Proofs.YtmmhfipdolbinaaGreatDoor
