/- Call by call: a number of 4 bytes. -/
import Derived.Test.YtmmhfipdolbinaaGreatDoorTj
namespace Go.Proofs.YtmmhfipdolbinaaGreatDoor
open Go.RowKit
set_option maxRecDepth 100000
attribute [local go_sem] not_any mf_any

set_option maxHeartbeats 4000000 in
theorem reads_u32 (g dd k k1 : Nat) (s f f1 : ByteArray) (c c' : Int) (x : Nat) (mo wi : Int) (w : World) (hg : w.heap[g]? = some (rdr s k c f)) (hd : w.heap[dd]? = some (drow s k c)) (hne : g ≠ dd) (het : F.Et w) (hg0 : g ≠ 0) (hd0 : dd ≠ 0) (hx : x < 4294967296)
    (HD : ∀ w, Calls Tryz.prog 8 #[dv s k c, .int .i64 4] w fun en w' => en = .returned (.tuple #[dv s k1 c', .int .u64 (x : Int)]) ∧ Below w.heap.size w w')
    (HP : ∀ w, w.heap[g]? = some (rdr s k c f) → Calls Tryz.prog 10 #[.pointer (some ⟨g, 0, none⟩), .string ⟨#[98]⟩] w fun e w' => e = .returned (.int .u32 (x : Int)) ∧ w'.heap[g]? = some (rdr s k1 c' f1) ∧ But g w w') :
    Calls Tryz.prog 6 #[.pointer (some ⟨g, 0, none⟩), .pointer (some ⟨dd, 0, none⟩), .agg #[.int .i64 1, .int .i64 mo, .int .i64 wi]] w fun e w' => e = .returned (.bool true) ∧ w'.heap[g]? = some (rdr s k1 c' f1) ∧ w'.heap[dd]? = some (drow s k1 c') ∧ Bt g dd w w' := by
  have mx := mixed
  have exw : IntKind.u64.wrap (x : Int) = (x : Int) := by rw [IntKind.wrap_u64]; omega
  have kD := fun w => hide1 (HD w)
  have kP := fun w h => hide1 (HP w h)
  have lg := lt_heap hg
  have ld := lt_heap hd
  unfold drow at hd
  obtain ⟨d0, d1, d2, _, _, _, _⟩ := box3 hd
  have HG := hide1 hg
  have HET := hide1 het
  have hw0 : 0 < w.heap.size := by omega
  clear het
  have HDD := hide1 hd
  clear HD HP hg hd
  unfold dv at *
  go_enter Tryz.func6, Tryz.ntmps6
  go_upto_region 10 with (fail)
  generalize hX : World.alloc (World.alloc w _) _ = X
  have HX : Hid (Below w.heap.size w X) := by rw [← hX]; exact two_below _ _
  have h0 := hX ▸ heap_alloc2_old w _ _
  have h1 := hX ▸ heap_alloc2_new w _ _
  have h2 := (HX.out.block _ ld).trans HDD.out
  have h3 := (HX.out.block _ lg).trans HG.out
  have H0 := hide1 h0
  have H1 := hide1 h1
  have H2 := hide1 h2
  have H3 := hide1 h3
  obtain ⟨c0, c1, c2, _, _, _, _⟩ := box3 h2
  clear hX h0 h1 h2 h3 d0 d1 d2
  go_upto_region 11 with (go_at_call 8; refine (kD _).out.mono ?_; rintro e w1 ⟨rfl, hb1⟩; have K0 := hide1 ((hb1.block _ (lt_heap H0.out)).trans H0.out); have K1 := hide1 ((hb1.block _ (lt_heap H1.out)).trans H1.out); have K2 := hide1 ((hb1.block _ (lt_heap H2.out)).trans H2.out); have K3 := hide1 ((hb1.block _ (lt_heap H3.out)).trans H3.out); have l1 := lt_heap K1.out; have HB := hide1 (HX.out.trans (hb1.mono HX.out.size)); clear hb1)
  clear c0 c1 c2 HX H0 H1 H2 H3 kD
  generalize hY : World.alloc w1 _ = Y
  have HY : Hid (Below w.heap.size w Y) := by rw [← hY]; exact HB.out.alloc HB.out.size _
  have h0 := hY ▸ heap_alloc_new w1 _
  have h1 := hY ▸ keep_alloc K1.out _
  have h2 := hY ▸ keep_alloc K2.out _
  have h3 := hY ▸ keep_alloc K3.out _
  have kP' := kP Y h3
  have kQ := kP Y.drew h3
  obtain ⟨c0, c1, c2, _, _, _, l0⟩ := box3 h0
  obtain ⟨e0, e1, e2, f0, f1', f2, l3⟩ := box3 h1
  have H1 := hide1 h1
  have H2 := hide1 h2
  have HN := hide1 h0
  have hne2 : w1.heap.size ≠ w.heap.size + 1 := by omega
  clear hY h0 h1 h2 h3 K0 K1 K2 K3
  have gY := HY.out.size
  go_region_with (go_at_call 10; (first | refine kQ.out.mono ?_ | refine kP'.out.mono ?_); rintro e w2 ⟨rfl, hr2, hb2⟩; have BT2 := hide1 ((Bt.of_below (g := g) (d := dd) HY.out).drew.trans (Bt.of_but hb2)); have hn2 := (hb2.block w1.heap.size (by simpa using l0) (by omega)).trans HN.out; have hx2 := (hb2.block (w.heap.size + 1) (by simpa using l3) (by omega)).trans H1.out; have J2 := hide1 ((hb2.block dd (by have := lt_heap H2.out; simpa using this) (by omega)).trans H2.out); have J1 := hide1 hx2; have J3 := hide1 hr2; have JB := hide1 hb2; obtain ⟨a0, a1, a2, _, _, _, _⟩ := box3 hn2; obtain ⟨b0, b1, b2, q0, q1, q2, l4⟩ := box3 hx2; clear hn2 hx2 hr2 hb2)
  all_goals
    generalize hW : World.setCell (World.setCell (World.setCell w2 _ _) _ _) _ _ = W
    have BTW : Hid (Bt g dd w W) := by rw [← hW]; exact ((BT2.out.set_new (by omega) _).set_new (by omega) _).set_new (by omega) _
    have hn := hW ▸ set_box3 J1.out
    have hdd : W.heap[dd]? = some (.cells #[.string s, .int .i64 (k : Int), .int .i64 c] 27 (0, 0)) := by rw [← hW]; exact keep_box3 J2.out (by omega)
    have hgg : W.heap[g]? = some (rdr s k1 c' f1) := by rw [← hW]; exact keep_box3 J3.out (by omega)
    obtain ⟨n0, n1, n2, _, _, _, _⟩ := box3 hn
    obtain ⟨m0, m1, m2, p0, p1, p2, l5⟩ := box3 hdd
    have HDW := hide1 hdd
    have HGW := hide1 hgg
    clear hn hdd hgg hW a0 a1 a2 b0 b1 b2 q0 q1 q2 c0 c1 c2 e0 e1 e2 f0 f1' f2 JB J1 J2 J3 kP' kQ
    go_upto_region 31 with (fail)
    generalize hV : World.setCell (World.setCell (World.setCell W _ _) _ _) _ _ = V
    have BTV : Hid (Bt g dd w V) := by rw [← hV]; exact ((BTW.out.trans (Bt.of_but' (But.set dd 0 _ _))).trans (Bt.of_but' (But.set dd 1 _ _))).trans (Bt.of_but' (But.set dd 2 _ _))
    have hd5 := hV ▸ set_box3 HDW.out
    have hg5 : V.heap[g]? = some (rdr s k1 c' f1) := by rw [← hV]; exact keep_box3 HGW.out hne
    obtain ⟨m0, m1, m2, _, _, _, l5⟩ := box3 hd5
    have HD5 := hide1 hd5
    have HG5 := hide1 hg5
    clear hd5 hg5 hV n0 n1 n2 p0 p1 p2
    have HS : Shy (At3 dd (.string s) (.int .i64 (k1 : Int)) (.int .i64 c') V) := ⟨⟨m0, m1, m2⟩, l5⟩
    have kA := hide1 (at_any g k1 s f1 c' V.drew HG5.out)
    have kE := hide1 (err_is g k1 s f1 c' V.drew HG5.out)
    have ETV : Hid (F.Et V) := by
      have e := BTV.out.block 0 hw0 (by omega) (by omega)
      show V.cell? ⟨0, 0, none⟩ = _
      have h := HET.out
      unfold F.Et at h
      rw [← h]
      simp only [World.cell?, e]
    refine region_f (F := []) (S := At3 dd (.string s) (.int .i64 (k1 : Int)) (.int .i64 c')) (by kernel_rfl) HS.out (fun hS => ?_)
    refine take_p 0 170 (.bool true) rfl rfl (by kernel_rfl) (by kernel_rfl) (by kernel_rfl) (fun _ _ _ h => h) rfl (fun w => by go_simp) ?_
    try simp only [List.setIfInBounds_toArray, List.set_cons_zero, List.set_cons_succ]
    refine take_p 1 171 (.bool true) rfl rfl (by kernel_rfl) (by kernel_rfl) (by kernel_rfl) (fun _ _ _ h => h) rfl (fun w => by go_simp) ?_
    try simp only [List.setIfInBounds_toArray, List.set_cons_zero, List.set_cons_succ]
    refine take_p 2 172 (.pointer (some ⟨g, 0, none⟩)) rfl rfl (by kernel_rfl) (by kernel_rfl) (by kernel_rfl) (fun _ _ _ h => h) rfl (fun w => by go_simp) ?_
    try simp only [List.setIfInBounds_toArray, List.set_cons_zero, List.set_cons_succ]
    refine take_p 4 174 (.pointer (some ⟨dd, 0, none⟩)) rfl rfl (by kernel_rfl) (by kernel_rfl) (by kernel_rfl) (fun _ _ _ h => h) rfl (fun w => by go_simp) ?_
    try simp only [List.setIfInBounds_toArray, List.set_cons_zero, List.set_cons_succ]
    refine take_p 5 175 (.pointer (some ⟨dd, 0, none⟩)) rfl rfl (by kernel_rfl) (by kernel_rfl) (by kernel_rfl) (fun _ _ _ h => h) rfl (fun w => by go_simp) ?_
    try simp only [List.setIfInBounds_toArray, List.set_cons_zero, List.set_cons_succ]
    refine take_p 6 176 (.pointer (some ⟨dd, 1, none⟩)) rfl rfl (by kernel_rfl) (by kernel_rfl) (by kernel_rfl) (fun _ _ _ h => h) rfl (fun w => by go_simp) ?_
    try simp only [List.setIfInBounds_toArray, List.set_cons_zero, List.set_cons_succ]
    refine take_f 7 177 (.int .i64 (k1 : Int)) [8, 9, 10, 11, 12, 13, 14, 15, 16, 17, 18, 19, 20] rfl rfl (by kernel_rfl) (by kernel_rfl) (by kernel_rfl) (by kernel_rfl) (by kernel_rfl) (by kernel_rfl) (fun _ _ _ h => h) rfl (fun w hSw => by obtain ⟨⟨r0, r1, r2⟩, rl⟩ := hSw; go_simp) hS ?_
    try simp only [List.setIfInBounds_toArray, List.set_cons_zero, List.set_cons_succ]
    refine ready_f 3 (o := { dst := some 173, op := Op.call { callee := Callee.value (Operand.func 28), args := #[Operand.tmp 172], argTypes := #[24] }, type := 3, pos := "law.go:140", after := #[{ on := 2, ground := Ground.data }, { on := 1, ground := Ground.chain }, { on := 1, ground := Ground.guard }], guard := some (1, true) }) (by kernel_rfl) rfl (fun K hK => ?_)
    go_simp
    refine kA.out.mono ?_
    rintro e w' ⟨rfl, hw'⟩
    cases hw'
    refine hK.out _ _ (fun _ h => h) ?_
    clear hK K
    try simp only [Act.put, List.setIfInBounds_toArray, List.set_cons_zero, List.set_cons_succ]
    refine take_p 8 178 (.bool true) rfl rfl (by kernel_rfl) (by kernel_rfl) (by kernel_rfl) (fun _ _ _ h => h) rfl (fun w => by go_simp) ?_
    try simp only [List.setIfInBounds_toArray, List.set_cons_zero, List.set_cons_succ]
    refine take_p 9 179 (.bool true) rfl rfl (by kernel_rfl) (by kernel_rfl) (by kernel_rfl) (fun _ _ _ h => h) rfl (fun w => by go_simp) ?_
    try simp only [List.setIfInBounds_toArray, List.set_cons_zero, List.set_cons_succ]
    refine take_p 10 180 (.bool true) rfl rfl (by kernel_rfl) (by kernel_rfl) (by kernel_rfl) (fun _ _ _ h => h) rfl (fun w => by go_simp) ?_
    try simp only [List.setIfInBounds_toArray, List.set_cons_zero, List.set_cons_succ]
    refine take_p 11 181 (.pointer (some ⟨g, 0, none⟩)) rfl rfl (by kernel_rfl) (by kernel_rfl) (by kernel_rfl) (fun _ _ _ h => h) rfl (fun w => by go_simp) ?_
    try simp only [List.setIfInBounds_toArray, List.set_cons_zero, List.set_cons_succ]
    refine take_p 14 184 (.pointer (some ⟨dd, 0, none⟩)) rfl rfl (by kernel_rfl) (by kernel_rfl) (by kernel_rfl) (fun _ _ _ h => h) rfl (fun w => by go_simp) ?_
    try simp only [List.setIfInBounds_toArray, List.set_cons_zero, List.set_cons_succ]
    refine take_p 15 185 (.pointer (some ⟨dd, 0, none⟩)) rfl rfl (by kernel_rfl) (by kernel_rfl) (by kernel_rfl) (fun _ _ _ h => h) rfl (fun w => by go_simp) ?_
    try simp only [List.setIfInBounds_toArray, List.set_cons_zero, List.set_cons_succ]
    refine take_p 16 186 (.pointer (some ⟨dd, 2, none⟩)) rfl rfl (by kernel_rfl) (by kernel_rfl) (by kernel_rfl) (fun _ _ _ h => h) rfl (fun w => by go_simp) ?_
    try simp only [List.setIfInBounds_toArray, List.set_cons_zero, List.set_cons_succ]
    refine take_f 17 187 (.int .i64 c') [18, 19, 20] rfl rfl (by kernel_rfl) (by kernel_rfl) (by kernel_rfl) (by kernel_rfl) (by kernel_rfl) (by kernel_rfl) (fun _ _ _ h => h) rfl (fun w hSw => by obtain ⟨⟨r0, r1, r2⟩, rl⟩ := hSw; go_simp) hS ?_
    try simp only [List.setIfInBounds_toArray, List.set_cons_zero, List.set_cons_succ]
    refine ready_f 12 (o := { dst := some 182, op := Op.call { callee := Callee.value (Operand.func 29), args := #[Operand.tmp 181], argTypes := #[24] }, type := 66, pos := "law.go:140", after := #[{ on := 11, ground := Ground.data }, { on := 10, ground := Ground.chain }, { on := 10, ground := Ground.guard }], guard := some (10, true) }) (by kernel_rfl) rfl (fun K hK => ?_)
    go_simp
    refine kE.out.mono ?_
    rintro e w5 ⟨v, rfl, hv, hb5⟩
    refine hK.out _ _ (fun _ h => h.below hb5) ?_
    clear hK K
    try simp only [Act.put, List.setIfInBounds_toArray, List.set_cons_zero, List.set_cons_succ]
    have HV := hide1 hv
    have J1 := hide1 ((hb5.block _ (lt_heap HG5.out)).trans HG5.out)
    have J2 := hide1 ((hb5.block _ (lt_heap HD5.out)).trans HD5.out)
    have BT5 := hide1 (BTV.out.drew.trans (Bt.of_below hb5))
    have ET5 : Hid (F.Et w5) := (show F.Et V.drew from ETV.out).below hb5 (by have := BTV.out.size; show 0 < V.heap.size; omega)
    clear hv hb5
    refine ready_f 13 (o := { dst := some 183, op := Op.call { callee := Callee.value (Operand.func 24), args := #[Operand.tmp 182], argTypes := #[66] }, type := 40, pos := "law.go:140", after := #[{ on := 12, ground := Ground.data }, { on := 12, ground := Ground.chain }, { on := 10, ground := Ground.guard }], guard := some (10, true) }) (by kernel_rfl) rfl (fun K hK => ?_)
    go_simp
    refine (F.code_any w5 c' v ET5.out HV.out).mono ?_
    rintro e w6 ⟨rfl, hb6⟩
    refine hK.out _ _ (fun _ h => h.below hb6) ?_
    clear hK K
    try simp only [Act.put, List.setIfInBounds_toArray, List.set_cons_zero, List.set_cons_succ]
    have I1 := hide1 ((hb6.block _ (lt_heap J1.out)).trans J1.out)
    have I2 := hide1 ((hb6.block _ (lt_heap J2.out)).trans J2.out)
    have BT6 := hide1 (BT5.out.trans (Bt.of_below hb6))
    clear hb6
    refine take_p 18 188 (.bool true) rfl rfl (by kernel_rfl) (by kernel_rfl) (by kernel_rfl) (fun _ _ _ h => h) rfl (fun w => by go_simp) ?_
    try simp only [List.setIfInBounds_toArray, List.set_cons_zero, List.set_cons_succ]
    refine take_p 19 189 (.bool true) rfl rfl (by kernel_rfl) (by kernel_rfl) (by kernel_rfl) (fun _ _ _ h => h) rfl (fun w => by go_simp) ?_
    try simp only [List.setIfInBounds_toArray, List.set_cons_zero, List.set_cons_succ]
    refine take_p 20 6 (.bool true) rfl rfl (by kernel_rfl) (by kernel_rfl) (by kernel_rfl) (fun _ _ _ h => h) rfl (fun w => by go_simp) ?_
    try simp only [List.setIfInBounds_toArray, List.set_cons_zero, List.set_cons_succ]
    refine done_f (by kernel_rfl) ?_ _
    go_wp2
    go_ret
    exact ⟨rfl, I1.out, I2.out, BT6.out⟩
end Go.Proofs.YtmmhfipdolbinaaGreatDoor
