/- Call by call: bytes. -/
import Derived.Test.YtmmhfipdolbinaaGreatDoorTo
namespace Go.Proofs.YtmmhfipdolbinaaGreatDoor
open Go.RowKit
set_option maxRecDepth 100000
attribute [local go_sem] not_any mf_any

set_option maxHeartbeats 8000000 in
theorem reads_raw (g dd k k1 : Nat) (s f f1 t : ByteArray) (c c' : Int) (mo wi : Int) (w : World) (hg : w.heap[g]? = some (rdr s k c f)) (hd : w.heap[dd]? = some (drow s k c)) (hne : g ≠ dd) (het : F.Et w) (hg0 : g ≠ 0) (hd0 : dd ≠ 0)
    (HD : ∀ w, Calls Tryz.prog 14 #[dv s k c, .int .i64 mo] w fun en w' => en = .returned (.tuple #[dv s k1 c', .string t]) ∧ Below w.heap.size w w')
    (HP : ∀ w, w.heap[g]? = some (rdr s k c f) → Calls Tryz.prog 15 #[.pointer (some ⟨g, 0, none⟩), .string ⟨#[101]⟩, .int .i64 mo] w fun e w' => e = .returned (.string t) ∧ w'.heap[g]? = some (rdr s k1 c' f1) ∧ But g w w') :
    Calls Tryz.prog 6 #[.pointer (some ⟨g, 0, none⟩), .pointer (some ⟨dd, 0, none⟩), .agg #[.int .i64 4, .int .i64 mo, .int .i64 wi]] w fun e w' => e = .returned (.bool true) ∧ w'.heap[g]? = some (rdr s k1 c' f1) ∧ w'.heap[dd]? = some (drow s k1 c') ∧ Bt g dd w w' := by
  have mx := mixed
  have kD := fun w => hide1 (HD w)
  have kP := fun w h => hide1 (HP w h)
  have lg := lt_heap hg
  have ld := lt_heap hd
  unfold drow at hd
  obtain ⟨d0, d1, d2, _, _, _, _⟩ := box3 hd
  have HG := hide1 hg
  have HET := hide1 het
  have hw0 : 0 < w.heap.size := by omega
  have HDD := hide1 hd
  clear HD HP hg hd het
  unfold dv at *
  go_enter Tryz.func6, Tryz.ntmps6
  go_upto_region 19 with (fail)
  generalize hX : World.alloc (World.alloc w _) _ = X
  have HX : Hid (Below w.heap.size w X) := by rw [← hX]; exact two_below _ _
  have H0 := hide1 (hX ▸ heap_alloc2_old w _ _)
  have H1 := hide1 (hX ▸ heap_alloc2_new w _ _)
  have H2 := hide1 ((HX.out.block _ ld).trans HDD.out)
  have H3 := hide1 ((HX.out.block _ lg).trans HG.out)
  obtain ⟨c0, c1, c2, _, _, _, l0⟩ := box3 H2.out
  obtain ⟨e0, e1, e2, _, _, _, l1⟩ := box3 H0.out
  obtain ⟨xb, hxb⟩ : ∃ b, w.heap.size + 1 = b := ⟨_, rfl⟩
  obtain ⟨cb, hcb⟩ : ∃ b, w.heap.size = b := ⟨_, rfl⟩
  have WX : Shy (w.heap.size ≤ xb ∧ w.heap.size ≤ cb ∧ cb ≠ xb ∧ g < w.heap.size) := ⟨by omega, by omega, by omega, lg⟩
  rw [hxb] at H1 ⊢
  rw [hcb] at H0 e0 e1 e2 l1 ⊢
  have HS : Shy ((fun W => At3 dd (.string s) (.int .i64 (k : Int)) (.int .i64 c) W ∧ At3 cb (.int .i64 4) (.int .i64 mo) (.int .i64 wi) W) X) := ⟨⟨⟨c0, c1, c2⟩, l0⟩, ⟨e0, e1, e2⟩, l1⟩
  clear hX d0 d1 d2 hxb hcb c0 c1 c2 e0 e1 e2 l0 l1 HDD HG
  replace H1 := hide1 (And.intro H1.out WX.out)
  refine region_f (F := [10]) (S := fun W => At3 dd (.string s) (.int .i64 (k : Int)) (.int .i64 c) W ∧ At3 cb (.int .i64 4) (.int .i64 mo) (.int .i64 wi) W) (by kernel_rfl) HS.out (fun hS => ?_)
  refine take_p 0 99 (.pointer (some ⟨dd, 0, none⟩)) rfl rfl (by kernel_rfl) (by kernel_rfl) (by kernel_rfl) (fun _ _ _ h => h) rfl (fun w => by go_simp) ?_
  try simp only [List.setIfInBounds_toArray, List.set_cons_zero, List.set_cons_succ]
  refine take_p 1 100 (.pointer (some ⟨dd, 0, none⟩)) rfl rfl (by kernel_rfl) (by kernel_rfl) (by kernel_rfl) (fun _ _ _ h => h) rfl (fun w => by go_simp) ?_
  try simp only [List.setIfInBounds_toArray, List.set_cons_zero, List.set_cons_succ]
  refine take_f 2 101 (.agg #[.string s, .int .i64 (k : Int), .int .i64 c]) [5, 6, 7, 8, 10, 11] rfl rfl (by kernel_rfl) (by kernel_rfl) (by kernel_rfl) (by kernel_rfl) (by kernel_rfl) (by kernel_rfl) (fun _ _ _ h => h) rfl (fun w hSw => by obtain ⟨⟨⟨r0, r1, r2⟩, rl⟩, ⟨⟨q0, q1, q2⟩, ql⟩⟩ := hSw; go_simp) hS ?_
  try simp only [List.setIfInBounds_toArray, List.set_cons_zero, List.set_cons_succ]
  refine take_p 3 102 (.pointer (some ⟨cb, 1, none⟩)) rfl rfl (by kernel_rfl) (by kernel_rfl) (by kernel_rfl) (fun _ _ _ h => h) rfl (fun w => by go_simp) ?_
  try simp only [List.setIfInBounds_toArray, List.set_cons_zero, List.set_cons_succ]
  refine take_f 4 103 (.int .i64 mo) [5, 6, 7, 8, 10, 11] rfl rfl (by kernel_rfl) (by kernel_rfl) (by kernel_rfl) (by kernel_rfl) (by kernel_rfl) (by kernel_rfl) (fun _ _ _ h => h) rfl (fun w hSw => by obtain ⟨⟨⟨r0, r1, r2⟩, rl⟩, ⟨⟨q0, q1, q2⟩, ql⟩⟩ := hSw; go_simp) hS ?_
  try simp only [List.setIfInBounds_toArray, List.set_cons_zero, List.set_cons_succ]
  refine ready2_f 5 9 (o := { dst := some 104, op := Op.call { callee := Callee.value (Operand.func 14), args := #[Operand.tmp 101, Operand.tmp 103], argTypes := #[29, 3] }, type := 49, pos := "law.go:124", after := #[{ on := 2, ground := Ground.data }, { on := 4, ground := Ground.data }], guard := none }) (o' := { dst := some 17, op := Op.alloc 27, type := 0, pos := "law.go:124", after := #[], guard := none }) (by kernel_rfl) rfl rfl (fun K hK => ?_) (fun K hK => ?_)
  · go_simp
    refine (kD _).out.mono ?_
    rintro e w1 ⟨rfl, hb1⟩
    refine hK.out _ _ (fun _ h => ⟨h.1.below hb1, h.2.below hb1⟩) ?_
    clear hK K
    try simp only [Act.put, List.setIfInBounds_toArray, List.set_cons_zero, List.set_cons_succ]
    refine take_p 6 98 (.tuple #[.agg #[.string s, .int .i64 (k1 : Int), .int .i64 c'], .string t]) rfl rfl (by kernel_rfl) (by kernel_rfl) (by kernel_rfl) (fun _ _ _ h => h) rfl (fun w => by go_simp) ?_
    try simp only [List.setIfInBounds_toArray, List.set_cons_zero, List.set_cons_succ]
    refine take_p 7 105 (.agg #[.string s, .int .i64 (k1 : Int), .int .i64 c']) rfl rfl (by kernel_rfl) (by kernel_rfl) (by kernel_rfl) (fun _ _ _ h => h) rfl (fun w => by go_simp) ?_
    try simp only [List.setIfInBounds_toArray, List.set_cons_zero, List.set_cons_succ]
    refine take_p 8 106 (.string t) rfl rfl (by kernel_rfl) (by kernel_rfl) (by kernel_rfl) (fun _ _ _ h => h) rfl (fun w => by go_simp) ?_
    try simp only [List.setIfInBounds_toArray, List.set_cons_zero, List.set_cons_succ]
    refine ready_f 9 (o := { dst := some 17, op := Op.alloc 27, type := 0, pos := "law.go:124", after := #[], guard := none }) (by kernel_rfl) rfl (fun K hK => ?_)
    go_simp
    refine hK.out _ _ (fun _ h => ⟨h.1.below ((Below.refl _ _).alloc (Nat.le_refl _) _), h.2.below ((Below.refl _ _).alloc (Nat.le_refl _) _)⟩) ?_
    clear hK K
    try simp only [Act.put, List.setIfInBounds_toArray, List.set_cons_zero, List.set_cons_succ]
    refine ready_f 10 (o := { dst := none, op := Op.store 27 (Operand.tmp 17) (Operand.tmp 105), type := 0, pos := "law.go:124", after := #[{ on := 9, ground := Ground.data }, { on := 7, ground := Ground.data }, { on := 5, ground := Ground.chain }, { on := 0, ground := Ground.phase }, { on := 1, ground := Ground.phase }, { on := 2, ground := Ground.phase }, { on := 3, ground := Ground.phase }, { on := 4, ground := Ground.phase }, { on := 5, ground := Ground.phase }, { on := 6, ground := Ground.phase }, { on := 7, ground := Ground.phase }, { on := 8, ground := Ground.textOnly Departure.lateStores }, { on := 9, ground := Ground.phase }], guard := none }) (by kernel_rfl) rfl (fun K hK => ?_)
    rw [if_pos (by rfl)]
    refine wp_store_row 27 _ _ rfl w1.heap.size _ rfl rfl 27 _ (heap_alloc_new w1 _) (by kernel_rfl) rfl (by kernel_rfl) ?_
    refine hK.out _ _ (fun h => absurd (by decide) h) ?_
    clear hK K
    refine take_p 11 18 (.string t) rfl rfl (by kernel_rfl) (by kernel_rfl) (by kernel_rfl) (fun _ _ _ h => h) rfl (fun w => by go_simp) ?_
    try simp only [List.setIfInBounds_toArray, List.set_cons_zero, List.set_cons_succ]
    refine done_f (by kernel_rfl) ?_ _
    have MID := hide1 (mid_a (k1 := k1) (c' := c') (z := .cells #[.string ⟨#[]⟩, .int .i64 0, .int .i64 0] 27 (0, 0)) (o := #[.string ⟨#[]⟩, .int .i64 0, .int .i64 0]) HX.out H0.out H1.out H2.out H3.out hb1)
    revert MID
    generalize hY : World.setRow _ _ _ = Y
    generalize hnb : w1.heap.size = nb
    intro MID
    clear hnb hY hb1 HX H0 H1 H2 H3 hS HS
    go_upto_region 20 with (fail)
    have gb := MID.out.gb
    have kP' := kP Y.drew MID.out.r
    have HS2 : Shy ((fun W => At3 nb (.string s) (.int .i64 (k1 : Int)) (.int .i64 c') W ∧ At3 cb (.int .i64 4) (.int .i64 mo) (.int .i64 wi) W) Y) := ⟨MID.out.s2⟩
    refine region_f (F := []) (S := fun W => At3 nb (.string s) (.int .i64 (k1 : Int)) (.int .i64 c') W ∧ At3 cb (.int .i64 4) (.int .i64 mo) (.int .i64 wi) W) (by kernel_rfl) HS2.out (fun hS => ?_)
    refine take_f 0 107 (.agg #[.string s, .int .i64 (k1 : Int), .int .i64 c']) [7, 8] rfl rfl (by kernel_rfl) (by kernel_rfl) (by kernel_rfl) (by kernel_rfl) (by kernel_rfl) (by kernel_rfl) (fun _ _ _ h => h) rfl (fun w hSw => by obtain ⟨⟨⟨r0, r1, r2⟩, rl⟩, ⟨⟨q0, q1, q2⟩, ql⟩⟩ := hSw; go_simp) hS ?_
    try simp only [List.setIfInBounds_toArray, List.set_cons_zero, List.set_cons_succ]
    refine take_p 1 108 (.pointer (some ⟨g, 0, none⟩)) rfl rfl (by kernel_rfl) (by kernel_rfl) (by kernel_rfl) (fun _ _ _ h => h) rfl (fun w => by go_simp) ?_
    try simp only [List.setIfInBounds_toArray, List.set_cons_zero, List.set_cons_succ]
    refine take_p 2 109 (.pointer (some ⟨cb, 1, none⟩)) rfl rfl (by kernel_rfl) (by kernel_rfl) (by kernel_rfl) (fun _ _ _ h => h) rfl (fun w => by go_simp) ?_
    try simp only [List.setIfInBounds_toArray, List.set_cons_zero, List.set_cons_succ]
    refine take_f 3 110 (.int .i64 mo) [4, 6, 7, 8] rfl rfl (by kernel_rfl) (by kernel_rfl) (by kernel_rfl) (by kernel_rfl) (by kernel_rfl) (by kernel_rfl) (fun _ _ _ h => h) rfl (fun w hSw => by obtain ⟨⟨⟨r0, r1, r2⟩, rl⟩, ⟨⟨q0, q1, q2⟩, ql⟩⟩ := hSw; go_simp) hS ?_
    try simp only [List.setIfInBounds_toArray, List.set_cons_zero, List.set_cons_succ]
    refine take_p 5 112 (.string t) rfl rfl (by kernel_rfl) (by kernel_rfl) (by kernel_rfl) (fun _ _ _ h => h) rfl (fun w => by go_simp) ?_
    try simp only [List.setIfInBounds_toArray, List.set_cons_zero, List.set_cons_succ]
    refine ready_f 4 (o := { dst := some 111, op := Op.call { callee := Callee.value (Operand.func 15), args := #[Operand.tmp 108, Operand.const (Value.string { data := #[101] }), Operand.tmp 110], argTypes := #[24, 9, 3] }, type := 9, pos := "law.go:125", after := #[{ on := 1, ground := Ground.data }, { on := 3, ground := Ground.data }], guard := none }) (by kernel_rfl) rfl (fun K hK => ?_)
    go_simp
    refine kP'.out.mono ?_
    rintro e w2 ⟨rfl, hr2, hb2⟩
    refine hK.out _ _ (fun _ h => ⟨h.1.but hb2 gb.1, h.2.but hb2 gb.2⟩) ?_
    clear hK K
    try simp only [Act.put, List.setIfInBounds_toArray, List.set_cons_zero, List.set_cons_succ]
    obtain ⟨J1, J2, J3, BT2⟩ := mid_next MID.out hr2 hb2 ld lg hne
    clear hr2 hb2
    refine take_p 6 113 (.bool true) rfl rfl (by kernel_rfl) (by kernel_rfl) (by kernel_rfl) (fun _ _ _ h => h) rfl (fun w => by go_simp) ?_
    try simp only [List.setIfInBounds_toArray, List.set_cons_zero, List.set_cons_succ]
    have H1J := hide1 J1
    have H2J := hide1 J2
    have H3J := hide1 J3
    have HB2 := hide1 BT2
    clear J1 J2 J3 BT2
    refine ready_f 7 (o := { dst := none, op := Op.store 27 (Operand.tmp 7) (Operand.tmp 107), type := 0, pos := "law.go:125", after := #[{ on := 0, ground := Ground.data }, { on := 4, ground := Ground.chain }, { on := 0, ground := Ground.phase }, { on := 1, ground := Ground.textOnly Departure.lateStores }, { on := 2, ground := Ground.textOnly Departure.lateStores }, { on := 3, ground := Ground.textOnly Departure.lateStores }, { on := 4, ground := Ground.textOnly Departure.lateStoresUnsure }, { on := 5, ground := Ground.textOnly Departure.lateStores }, { on := 6, ground := Ground.textOnly Departure.lateStores }], guard := none }) (by kernel_rfl) rfl (fun K hK => ?_)
    rw [if_pos (by rfl)]
    refine wp_store_row 27 _ _ rfl xb _ rfl rfl 27 _ H1J.out (by kernel_rfl) rfl (by kernel_rfl) ?_
    refine hK.out _ _ (fun _ h => ⟨h.1.row MID.out.nx _, h.2.row MID.out.cx _⟩) ?_
    clear hK K
    refine take_p 8 8 (.bool true) rfl rfl (by kernel_rfl) (by kernel_rfl) (by kernel_rfl) (fun _ _ _ h => h) rfl (fun w => by go_simp) ?_
    try simp only [List.setIfInBounds_toArray, List.set_cons_zero, List.set_cons_succ]
    refine done_f (by kernel_rfl) ?_ _
    generalize hW : World.setRow _ _ _ = W
    have BTW : Hid (Bt g dd w W) := by rw [← hW]; exact HB2.out.row_new MID.out.wx _
    have hn := hW ▸ setRow_heap w2 xb _ _ _ _ H1J.out
    have hdd : W.heap[dd]? = some (.cells #[.string s, .int .i64 (k : Int), .int .i64 c] 27 (0, 0)) := by rw [← hW]; exact (setRow_other _ xb dd _ (by have := MID.out.wx; omega)).trans H2J.out
    have hgg : W.heap[g]? = some (rdr s k1 c' f1) := by rw [← hW]; exact (setRow_other _ xb g _ (by have := MID.out.wx; omega)).trans H3J.out
    obtain ⟨n0, n1', n2', _, _, _, _⟩ := box3 hn
    obtain ⟨m0, m1, m2, p0', p1', p2', l5⟩ := box3 hdd
    have HDW := hide1 hdd
    have HGW := hide1 hgg
    clear hn hdd hgg hW H1J H2J H3J kP' hS HS2 MID HB2 gb
    go_upto_region 31 with (fail)
    generalize hV : World.setCell (World.setCell (World.setCell W _ _) _ _) _ _ = V
    have BTV : Hid (Bt g dd w V) := by rw [← hV]; exact ((BTW.out.trans (Bt.of_but' (But.set dd 0 _ _))).trans (Bt.of_but' (But.set dd 1 _ _))).trans (Bt.of_but' (But.set dd 2 _ _))
    have hd5 := hV ▸ set_box3 HDW.out
    have hg5 : V.heap[g]? = some (rdr s k1 c' f1) := by rw [← hV]; exact keep_box3 HGW.out hne
    obtain ⟨m0, m1, m2, _, _, _, l5⟩ := box3 hd5
    have HD5 := hide1 hd5
    have HG5 := hide1 hg5
    clear hd5 hg5 hV n0 n1' n2' p0' p1' p2'
    have HS : Shy (At3 dd (.string s) (.int .i64 (k1 : Int)) (.int .i64 c') V) := ⟨⟨m0, m1, m2⟩, l5⟩
    have kA := hide1 (at_any g k1 s f1 c' V.drew HG5.out)
    have kE := hide1 (err_is g k1 s f1 c' V.drew HG5.out)
    have ETV : Hid (F.Et V) := by
      have e := BTV.out.block 0 hw0 (by omega) (by omega)
      show V.cell? ⟨0, 0, none⟩ = _
      have h := HET.out
      unfold F.Et at h
      rw [← h]
      simp only [World.cell?, e]
    refine region_f (F := []) (S := At3 dd (.string s) (.int .i64 (k1 : Int)) (.int .i64 c')) (by kernel_rfl) HS.out (fun hS => ?_)
    refine take_p 0 170 (.bool true) rfl rfl (by kernel_rfl) (by kernel_rfl) (by kernel_rfl) (fun _ _ _ h => h) rfl (fun w => by go_simp) ?_
    try simp only [List.setIfInBounds_toArray, List.set_cons_zero, List.set_cons_succ]
    refine take_p 1 171 (.bool true) rfl rfl (by kernel_rfl) (by kernel_rfl) (by kernel_rfl) (fun _ _ _ h => h) rfl (fun w => by go_simp) ?_
    try simp only [List.setIfInBounds_toArray, List.set_cons_zero, List.set_cons_succ]
    refine take_p 2 172 (.pointer (some ⟨g, 0, none⟩)) rfl rfl (by kernel_rfl) (by kernel_rfl) (by kernel_rfl) (fun _ _ _ h => h) rfl (fun w => by go_simp) ?_
    try simp only [List.setIfInBounds_toArray, List.set_cons_zero, List.set_cons_succ]
    refine take_p 4 174 (.pointer (some ⟨dd, 0, none⟩)) rfl rfl (by kernel_rfl) (by kernel_rfl) (by kernel_rfl) (fun _ _ _ h => h) rfl (fun w => by go_simp) ?_
    try simp only [List.setIfInBounds_toArray, List.set_cons_zero, List.set_cons_succ]
    refine take_p 5 175 (.pointer (some ⟨dd, 0, none⟩)) rfl rfl (by kernel_rfl) (by kernel_rfl) (by kernel_rfl) (fun _ _ _ h => h) rfl (fun w => by go_simp) ?_
    try simp only [List.setIfInBounds_toArray, List.set_cons_zero, List.set_cons_succ]
    refine take_p 6 176 (.pointer (some ⟨dd, 1, none⟩)) rfl rfl (by kernel_rfl) (by kernel_rfl) (by kernel_rfl) (fun _ _ _ h => h) rfl (fun w => by go_simp) ?_
    try simp only [List.setIfInBounds_toArray, List.set_cons_zero, List.set_cons_succ]
    refine take_f 7 177 (.int .i64 (k1 : Int)) [8, 9, 10, 11, 12, 13, 14, 15, 16, 17, 18, 19, 20] rfl rfl (by kernel_rfl) (by kernel_rfl) (by kernel_rfl) (by kernel_rfl) (by kernel_rfl) (by kernel_rfl) (fun _ _ _ h => h) rfl (fun w hSw => by obtain ⟨⟨r0, r1, r2⟩, rl⟩ := hSw; go_simp) hS ?_
    try simp only [List.setIfInBounds_toArray, List.set_cons_zero, List.set_cons_succ]
    refine ready_f 3 (o := { dst := some 173, op := Op.call { callee := Callee.value (Operand.func 28), args := #[Operand.tmp 172], argTypes := #[24] }, type := 3, pos := "law.go:140", after := #[{ on := 2, ground := Ground.data }, { on := 1, ground := Ground.chain }, { on := 1, ground := Ground.guard }], guard := some (1, true) }) (by kernel_rfl) rfl (fun K hK => ?_)
    go_simp
    refine kA.out.mono ?_
    rintro e w' ⟨rfl, hw'⟩
    cases hw'
    refine hK.out _ _ (fun _ h => h) ?_
    clear hK K
    try simp only [Act.put, List.setIfInBounds_toArray, List.set_cons_zero, List.set_cons_succ]
    refine take_p 8 178 (.bool true) rfl rfl (by kernel_rfl) (by kernel_rfl) (by kernel_rfl) (fun _ _ _ h => h) rfl (fun w => by go_simp) ?_
    try simp only [List.setIfInBounds_toArray, List.set_cons_zero, List.set_cons_succ]
    refine take_p 9 179 (.bool true) rfl rfl (by kernel_rfl) (by kernel_rfl) (by kernel_rfl) (fun _ _ _ h => h) rfl (fun w => by go_simp) ?_
    try simp only [List.setIfInBounds_toArray, List.set_cons_zero, List.set_cons_succ]
    refine take_p 10 180 (.bool true) rfl rfl (by kernel_rfl) (by kernel_rfl) (by kernel_rfl) (fun _ _ _ h => h) rfl (fun w => by go_simp) ?_
    try simp only [List.setIfInBounds_toArray, List.set_cons_zero, List.set_cons_succ]
    refine take_p 11 181 (.pointer (some ⟨g, 0, none⟩)) rfl rfl (by kernel_rfl) (by kernel_rfl) (by kernel_rfl) (fun _ _ _ h => h) rfl (fun w => by go_simp) ?_
    try simp only [List.setIfInBounds_toArray, List.set_cons_zero, List.set_cons_succ]
    refine take_p 14 184 (.pointer (some ⟨dd, 0, none⟩)) rfl rfl (by kernel_rfl) (by kernel_rfl) (by kernel_rfl) (fun _ _ _ h => h) rfl (fun w => by go_simp) ?_
    try simp only [List.setIfInBounds_toArray, List.set_cons_zero, List.set_cons_succ]
    refine take_p 15 185 (.pointer (some ⟨dd, 0, none⟩)) rfl rfl (by kernel_rfl) (by kernel_rfl) (by kernel_rfl) (fun _ _ _ h => h) rfl (fun w => by go_simp) ?_
    try simp only [List.setIfInBounds_toArray, List.set_cons_zero, List.set_cons_succ]
    refine take_p 16 186 (.pointer (some ⟨dd, 2, none⟩)) rfl rfl (by kernel_rfl) (by kernel_rfl) (by kernel_rfl) (fun _ _ _ h => h) rfl (fun w => by go_simp) ?_
    try simp only [List.setIfInBounds_toArray, List.set_cons_zero, List.set_cons_succ]
    refine take_f 17 187 (.int .i64 c') [18, 19, 20] rfl rfl (by kernel_rfl) (by kernel_rfl) (by kernel_rfl) (by kernel_rfl) (by kernel_rfl) (by kernel_rfl) (fun _ _ _ h => h) rfl (fun w hSw => by obtain ⟨⟨r0, r1, r2⟩, rl⟩ := hSw; go_simp) hS ?_
    try simp only [List.setIfInBounds_toArray, List.set_cons_zero, List.set_cons_succ]
    refine ready_f 12 (o := { dst := some 182, op := Op.call { callee := Callee.value (Operand.func 29), args := #[Operand.tmp 181], argTypes := #[24] }, type := 66, pos := "law.go:140", after := #[{ on := 11, ground := Ground.data }, { on := 10, ground := Ground.chain }, { on := 10, ground := Ground.guard }], guard := some (10, true) }) (by kernel_rfl) rfl (fun K hK => ?_)
    go_simp
    refine kE.out.mono ?_
    rintro e w5 ⟨v, rfl, hv, hb5⟩
    refine hK.out _ _ (fun _ h => h.below hb5) ?_
    clear hK K
    try simp only [Act.put, List.setIfInBounds_toArray, List.set_cons_zero, List.set_cons_succ]
    have HV := hide1 hv
    have J1 := hide1 ((hb5.block _ (lt_heap HG5.out)).trans HG5.out)
    have J2 := hide1 ((hb5.block _ (lt_heap HD5.out)).trans HD5.out)
    have BT5 := hide1 (BTV.out.drew.trans (Bt.of_below hb5))
    have ET5 : Hid (F.Et w5) := (show F.Et V.drew from ETV.out).below hb5 (by have := BTV.out.size; show 0 < V.heap.size; omega)
    clear hv hb5
    refine ready_f 13 (o := { dst := some 183, op := Op.call { callee := Callee.value (Operand.func 24), args := #[Operand.tmp 182], argTypes := #[66] }, type := 40, pos := "law.go:140", after := #[{ on := 12, ground := Ground.data }, { on := 12, ground := Ground.chain }, { on := 10, ground := Ground.guard }], guard := some (10, true) }) (by kernel_rfl) rfl (fun K hK => ?_)
    go_simp
    refine (F.code_any w5 c' v ET5.out HV.out).mono ?_
    rintro e w6 ⟨rfl, hb6⟩
    refine hK.out _ _ (fun _ h => h.below hb6) ?_
    clear hK K
    try simp only [Act.put, List.setIfInBounds_toArray, List.set_cons_zero, List.set_cons_succ]
    have I1 := hide1 ((hb6.block _ (lt_heap J1.out)).trans J1.out)
    have I2 := hide1 ((hb6.block _ (lt_heap J2.out)).trans J2.out)
    have BT6 := hide1 (BT5.out.trans (Bt.of_below hb6))
    clear hb6
    refine take_p 18 188 (.bool true) rfl rfl (by kernel_rfl) (by kernel_rfl) (by kernel_rfl) (fun _ _ _ h => h) rfl (fun w => by go_simp) ?_
    try simp only [List.setIfInBounds_toArray, List.set_cons_zero, List.set_cons_succ]
    refine take_p 19 189 (.bool true) rfl rfl (by kernel_rfl) (by kernel_rfl) (by kernel_rfl) (fun _ _ _ h => h) rfl (fun w => by go_simp) ?_
    try simp only [List.setIfInBounds_toArray, List.set_cons_zero, List.set_cons_succ]
    refine take_p 20 6 (.bool true) rfl rfl (by kernel_rfl) (by kernel_rfl) (by kernel_rfl) (fun _ _ _ h => h) rfl (fun w => by go_simp) ?_
    try simp only [List.setIfInBounds_toArray, List.set_cons_zero, List.set_cons_succ]
    refine done_f (by kernel_rfl) ?_ _
    go_wp2
    go_ret
    exact ⟨rfl, I1.out, I2.out, BT6.out⟩
  · go_simp
    refine hK.out _ _ (fun _ h => ⟨h.1.below ((Below.refl _ _).alloc (Nat.le_refl _) _), h.2.below ((Below.refl _ _).alloc (Nat.le_refl _) _)⟩) ?_
    clear hK K
    try simp only [Act.put, List.setIfInBounds_toArray, List.set_cons_zero, List.set_cons_succ]
    refine ready_f 5 (o := { dst := some 104, op := Op.call { callee := Callee.value (Operand.func 14), args := #[Operand.tmp 101, Operand.tmp 103], argTypes := #[29, 3] }, type := 49, pos := "law.go:124", after := #[{ on := 2, ground := Ground.data }, { on := 4, ground := Ground.data }], guard := none }) (by kernel_rfl) rfl (fun K hK => ?_)
    go_simp
    refine (kD _).out.mono ?_
    rintro e w1 ⟨rfl, hb1⟩
    refine hK.out _ _ (fun _ h => ⟨h.1.below hb1, h.2.below hb1⟩) ?_
    clear hK K
    try simp only [Act.put, List.setIfInBounds_toArray, List.set_cons_zero, List.set_cons_succ]
    refine take_p 6 98 (.tuple #[.agg #[.string s, .int .i64 (k1 : Int), .int .i64 c'], .string t]) rfl rfl (by kernel_rfl) (by kernel_rfl) (by kernel_rfl) (fun _ _ _ h => h) rfl (fun w => by go_simp) ?_
    try simp only [List.setIfInBounds_toArray, List.set_cons_zero, List.set_cons_succ]
    refine take_p 7 105 (.agg #[.string s, .int .i64 (k1 : Int), .int .i64 c']) rfl rfl (by kernel_rfl) (by kernel_rfl) (by kernel_rfl) (fun _ _ _ h => h) rfl (fun w => by go_simp) ?_
    try simp only [List.setIfInBounds_toArray, List.set_cons_zero, List.set_cons_succ]
    refine take_p 8 106 (.string t) rfl rfl (by kernel_rfl) (by kernel_rfl) (by kernel_rfl) (fun _ _ _ h => h) rfl (fun w => by go_simp) ?_
    try simp only [List.setIfInBounds_toArray, List.set_cons_zero, List.set_cons_succ]
    refine ready_f 10 (o := { dst := none, op := Op.store 27 (Operand.tmp 17) (Operand.tmp 105), type := 0, pos := "law.go:124", after := #[{ on := 9, ground := Ground.data }, { on := 7, ground := Ground.data }, { on := 5, ground := Ground.chain }, { on := 0, ground := Ground.phase }, { on := 1, ground := Ground.phase }, { on := 2, ground := Ground.phase }, { on := 3, ground := Ground.phase }, { on := 4, ground := Ground.phase }, { on := 5, ground := Ground.phase }, { on := 6, ground := Ground.phase }, { on := 7, ground := Ground.phase }, { on := 8, ground := Ground.textOnly Departure.lateStores }, { on := 9, ground := Ground.phase }], guard := none }) (by kernel_rfl) rfl (fun K hK => ?_)
    rw [if_pos (by rfl)]
    refine wp_store_row 27 _ _ rfl X.heap.size _ rfl rfl 27 _ (after_b hb1) (by kernel_rfl) rfl (by kernel_rfl) ?_
    refine hK.out _ _ (fun h => absurd (by decide) h) ?_
    clear hK K
    refine take_p 11 18 (.string t) rfl rfl (by kernel_rfl) (by kernel_rfl) (by kernel_rfl) (fun _ _ _ h => h) rfl (fun w => by go_simp) ?_
    try simp only [List.setIfInBounds_toArray, List.set_cons_zero, List.set_cons_succ]
    refine done_f (by kernel_rfl) ?_ _
    have MID := hide1 (mid_b (k1 := k1) (c' := c') (z := .cells #[.string ⟨#[]⟩, .int .i64 0, .int .i64 0] 27 (0, 0)) (o := #[.string ⟨#[]⟩, .int .i64 0, .int .i64 0]) HX.out H0.out H1.out H2.out H3.out hb1)
    revert MID
    generalize hY : World.setRow _ _ _ = Y
    generalize hnb : X.heap.size = nb
    intro MID
    clear hnb hY hb1 HX H0 H1 H2 H3 hS HS
    go_upto_region 20 with (fail)
    have gb := MID.out.gb
    have kP' := kP Y.drew MID.out.r
    have HS2 : Shy ((fun W => At3 nb (.string s) (.int .i64 (k1 : Int)) (.int .i64 c') W ∧ At3 cb (.int .i64 4) (.int .i64 mo) (.int .i64 wi) W) Y) := ⟨MID.out.s2⟩
    refine region_f (F := []) (S := fun W => At3 nb (.string s) (.int .i64 (k1 : Int)) (.int .i64 c') W ∧ At3 cb (.int .i64 4) (.int .i64 mo) (.int .i64 wi) W) (by kernel_rfl) HS2.out (fun hS => ?_)
    refine take_f 0 107 (.agg #[.string s, .int .i64 (k1 : Int), .int .i64 c']) [7, 8] rfl rfl (by kernel_rfl) (by kernel_rfl) (by kernel_rfl) (by kernel_rfl) (by kernel_rfl) (by kernel_rfl) (fun _ _ _ h => h) rfl (fun w hSw => by obtain ⟨⟨⟨r0, r1, r2⟩, rl⟩, ⟨⟨q0, q1, q2⟩, ql⟩⟩ := hSw; go_simp) hS ?_
    try simp only [List.setIfInBounds_toArray, List.set_cons_zero, List.set_cons_succ]
    refine take_p 1 108 (.pointer (some ⟨g, 0, none⟩)) rfl rfl (by kernel_rfl) (by kernel_rfl) (by kernel_rfl) (fun _ _ _ h => h) rfl (fun w => by go_simp) ?_
    try simp only [List.setIfInBounds_toArray, List.set_cons_zero, List.set_cons_succ]
    refine take_p 2 109 (.pointer (some ⟨cb, 1, none⟩)) rfl rfl (by kernel_rfl) (by kernel_rfl) (by kernel_rfl) (fun _ _ _ h => h) rfl (fun w => by go_simp) ?_
    try simp only [List.setIfInBounds_toArray, List.set_cons_zero, List.set_cons_succ]
    refine take_f 3 110 (.int .i64 mo) [4, 6, 7, 8] rfl rfl (by kernel_rfl) (by kernel_rfl) (by kernel_rfl) (by kernel_rfl) (by kernel_rfl) (by kernel_rfl) (fun _ _ _ h => h) rfl (fun w hSw => by obtain ⟨⟨⟨r0, r1, r2⟩, rl⟩, ⟨⟨q0, q1, q2⟩, ql⟩⟩ := hSw; go_simp) hS ?_
    try simp only [List.setIfInBounds_toArray, List.set_cons_zero, List.set_cons_succ]
    refine take_p 5 112 (.string t) rfl rfl (by kernel_rfl) (by kernel_rfl) (by kernel_rfl) (fun _ _ _ h => h) rfl (fun w => by go_simp) ?_
    try simp only [List.setIfInBounds_toArray, List.set_cons_zero, List.set_cons_succ]
    refine ready_f 4 (o := { dst := some 111, op := Op.call { callee := Callee.value (Operand.func 15), args := #[Operand.tmp 108, Operand.const (Value.string { data := #[101] }), Operand.tmp 110], argTypes := #[24, 9, 3] }, type := 9, pos := "law.go:125", after := #[{ on := 1, ground := Ground.data }, { on := 3, ground := Ground.data }], guard := none }) (by kernel_rfl) rfl (fun K hK => ?_)
    go_simp
    refine kP'.out.mono ?_
    rintro e w2 ⟨rfl, hr2, hb2⟩
    refine hK.out _ _ (fun _ h => ⟨h.1.but hb2 gb.1, h.2.but hb2 gb.2⟩) ?_
    clear hK K
    try simp only [Act.put, List.setIfInBounds_toArray, List.set_cons_zero, List.set_cons_succ]
    obtain ⟨J1, J2, J3, BT2⟩ := mid_next MID.out hr2 hb2 ld lg hne
    clear hr2 hb2
    refine take_p 6 113 (.bool true) rfl rfl (by kernel_rfl) (by kernel_rfl) (by kernel_rfl) (fun _ _ _ h => h) rfl (fun w => by go_simp) ?_
    try simp only [List.setIfInBounds_toArray, List.set_cons_zero, List.set_cons_succ]
    have H1J := hide1 J1
    have H2J := hide1 J2
    have H3J := hide1 J3
    have HB2 := hide1 BT2
    clear J1 J2 J3 BT2
    refine ready_f 7 (o := { dst := none, op := Op.store 27 (Operand.tmp 7) (Operand.tmp 107), type := 0, pos := "law.go:125", after := #[{ on := 0, ground := Ground.data }, { on := 4, ground := Ground.chain }, { on := 0, ground := Ground.phase }, { on := 1, ground := Ground.textOnly Departure.lateStores }, { on := 2, ground := Ground.textOnly Departure.lateStores }, { on := 3, ground := Ground.textOnly Departure.lateStores }, { on := 4, ground := Ground.textOnly Departure.lateStoresUnsure }, { on := 5, ground := Ground.textOnly Departure.lateStores }, { on := 6, ground := Ground.textOnly Departure.lateStores }], guard := none }) (by kernel_rfl) rfl (fun K hK => ?_)
    rw [if_pos (by rfl)]
    refine wp_store_row 27 _ _ rfl xb _ rfl rfl 27 _ H1J.out (by kernel_rfl) rfl (by kernel_rfl) ?_
    refine hK.out _ _ (fun _ h => ⟨h.1.row MID.out.nx _, h.2.row MID.out.cx _⟩) ?_
    clear hK K
    refine take_p 8 8 (.bool true) rfl rfl (by kernel_rfl) (by kernel_rfl) (by kernel_rfl) (fun _ _ _ h => h) rfl (fun w => by go_simp) ?_
    try simp only [List.setIfInBounds_toArray, List.set_cons_zero, List.set_cons_succ]
    refine done_f (by kernel_rfl) ?_ _
    generalize hW : World.setRow _ _ _ = W
    have BTW : Hid (Bt g dd w W) := by rw [← hW]; exact HB2.out.row_new MID.out.wx _
    have hn := hW ▸ setRow_heap w2 xb _ _ _ _ H1J.out
    have hdd : W.heap[dd]? = some (.cells #[.string s, .int .i64 (k : Int), .int .i64 c] 27 (0, 0)) := by rw [← hW]; exact (setRow_other _ xb dd _ (by have := MID.out.wx; omega)).trans H2J.out
    have hgg : W.heap[g]? = some (rdr s k1 c' f1) := by rw [← hW]; exact (setRow_other _ xb g _ (by have := MID.out.wx; omega)).trans H3J.out
    obtain ⟨n0, n1', n2', _, _, _, _⟩ := box3 hn
    obtain ⟨m0, m1, m2, p0', p1', p2', l5⟩ := box3 hdd
    have HDW := hide1 hdd
    have HGW := hide1 hgg
    clear hn hdd hgg hW H1J H2J H3J kP' hS HS2 MID HB2 gb
    go_upto_region 31 with (fail)
    generalize hV : World.setCell (World.setCell (World.setCell W _ _) _ _) _ _ = V
    have BTV : Hid (Bt g dd w V) := by rw [← hV]; exact ((BTW.out.trans (Bt.of_but' (But.set dd 0 _ _))).trans (Bt.of_but' (But.set dd 1 _ _))).trans (Bt.of_but' (But.set dd 2 _ _))
    have hd5 := hV ▸ set_box3 HDW.out
    have hg5 : V.heap[g]? = some (rdr s k1 c' f1) := by rw [← hV]; exact keep_box3 HGW.out hne
    obtain ⟨m0, m1, m2, _, _, _, l5⟩ := box3 hd5
    have HD5 := hide1 hd5
    have HG5 := hide1 hg5
    clear hd5 hg5 hV n0 n1' n2' p0' p1' p2'
    have HS : Shy (At3 dd (.string s) (.int .i64 (k1 : Int)) (.int .i64 c') V) := ⟨⟨m0, m1, m2⟩, l5⟩
    have kA := hide1 (at_any g k1 s f1 c' V.drew HG5.out)
    have kE := hide1 (err_is g k1 s f1 c' V.drew HG5.out)
    have ETV : Hid (F.Et V) := by
      have e := BTV.out.block 0 hw0 (by omega) (by omega)
      show V.cell? ⟨0, 0, none⟩ = _
      have h := HET.out
      unfold F.Et at h
      rw [← h]
      simp only [World.cell?, e]
    refine region_f (F := []) (S := At3 dd (.string s) (.int .i64 (k1 : Int)) (.int .i64 c')) (by kernel_rfl) HS.out (fun hS => ?_)
    refine take_p 0 170 (.bool true) rfl rfl (by kernel_rfl) (by kernel_rfl) (by kernel_rfl) (fun _ _ _ h => h) rfl (fun w => by go_simp) ?_
    try simp only [List.setIfInBounds_toArray, List.set_cons_zero, List.set_cons_succ]
    refine take_p 1 171 (.bool true) rfl rfl (by kernel_rfl) (by kernel_rfl) (by kernel_rfl) (fun _ _ _ h => h) rfl (fun w => by go_simp) ?_
    try simp only [List.setIfInBounds_toArray, List.set_cons_zero, List.set_cons_succ]
    refine take_p 2 172 (.pointer (some ⟨g, 0, none⟩)) rfl rfl (by kernel_rfl) (by kernel_rfl) (by kernel_rfl) (fun _ _ _ h => h) rfl (fun w => by go_simp) ?_
    try simp only [List.setIfInBounds_toArray, List.set_cons_zero, List.set_cons_succ]
    refine take_p 4 174 (.pointer (some ⟨dd, 0, none⟩)) rfl rfl (by kernel_rfl) (by kernel_rfl) (by kernel_rfl) (fun _ _ _ h => h) rfl (fun w => by go_simp) ?_
    try simp only [List.setIfInBounds_toArray, List.set_cons_zero, List.set_cons_succ]
    refine take_p 5 175 (.pointer (some ⟨dd, 0, none⟩)) rfl rfl (by kernel_rfl) (by kernel_rfl) (by kernel_rfl) (fun _ _ _ h => h) rfl (fun w => by go_simp) ?_
    try simp only [List.setIfInBounds_toArray, List.set_cons_zero, List.set_cons_succ]
    refine take_p 6 176 (.pointer (some ⟨dd, 1, none⟩)) rfl rfl (by kernel_rfl) (by kernel_rfl) (by kernel_rfl) (fun _ _ _ h => h) rfl (fun w => by go_simp) ?_
    try simp only [List.setIfInBounds_toArray, List.set_cons_zero, List.set_cons_succ]
    refine take_f 7 177 (.int .i64 (k1 : Int)) [8, 9, 10, 11, 12, 13, 14, 15, 16, 17, 18, 19, 20] rfl rfl (by kernel_rfl) (by kernel_rfl) (by kernel_rfl) (by kernel_rfl) (by kernel_rfl) (by kernel_rfl) (fun _ _ _ h => h) rfl (fun w hSw => by obtain ⟨⟨r0, r1, r2⟩, rl⟩ := hSw; go_simp) hS ?_
    try simp only [List.setIfInBounds_toArray, List.set_cons_zero, List.set_cons_succ]
    refine ready_f 3 (o := { dst := some 173, op := Op.call { callee := Callee.value (Operand.func 28), args := #[Operand.tmp 172], argTypes := #[24] }, type := 3, pos := "law.go:140", after := #[{ on := 2, ground := Ground.data }, { on := 1, ground := Ground.chain }, { on := 1, ground := Ground.guard }], guard := some (1, true) }) (by kernel_rfl) rfl (fun K hK => ?_)
    go_simp
    refine kA.out.mono ?_
    rintro e w' ⟨rfl, hw'⟩
    cases hw'
    refine hK.out _ _ (fun _ h => h) ?_
    clear hK K
    try simp only [Act.put, List.setIfInBounds_toArray, List.set_cons_zero, List.set_cons_succ]
    refine take_p 8 178 (.bool true) rfl rfl (by kernel_rfl) (by kernel_rfl) (by kernel_rfl) (fun _ _ _ h => h) rfl (fun w => by go_simp) ?_
    try simp only [List.setIfInBounds_toArray, List.set_cons_zero, List.set_cons_succ]
    refine take_p 9 179 (.bool true) rfl rfl (by kernel_rfl) (by kernel_rfl) (by kernel_rfl) (fun _ _ _ h => h) rfl (fun w => by go_simp) ?_
    try simp only [List.setIfInBounds_toArray, List.set_cons_zero, List.set_cons_succ]
    refine take_p 10 180 (.bool true) rfl rfl (by kernel_rfl) (by kernel_rfl) (by kernel_rfl) (fun _ _ _ h => h) rfl (fun w => by go_simp) ?_
    try simp only [List.setIfInBounds_toArray, List.set_cons_zero, List.set_cons_succ]
    refine take_p 11 181 (.pointer (some ⟨g, 0, none⟩)) rfl rfl (by kernel_rfl) (by kernel_rfl) (by kernel_rfl) (fun _ _ _ h => h) rfl (fun w => by go_simp) ?_
    try simp only [List.setIfInBounds_toArray, List.set_cons_zero, List.set_cons_succ]
    refine take_p 14 184 (.pointer (some ⟨dd, 0, none⟩)) rfl rfl (by kernel_rfl) (by kernel_rfl) (by kernel_rfl) (fun _ _ _ h => h) rfl (fun w => by go_simp) ?_
    try simp only [List.setIfInBounds_toArray, List.set_cons_zero, List.set_cons_succ]
    refine take_p 15 185 (.pointer (some ⟨dd, 0, none⟩)) rfl rfl (by kernel_rfl) (by kernel_rfl) (by kernel_rfl) (fun _ _ _ h => h) rfl (fun w => by go_simp) ?_
    try simp only [List.setIfInBounds_toArray, List.set_cons_zero, List.set_cons_succ]
    refine take_p 16 186 (.pointer (some ⟨dd, 2, none⟩)) rfl rfl (by kernel_rfl) (by kernel_rfl) (by kernel_rfl) (fun _ _ _ h => h) rfl (fun w => by go_simp) ?_
    try simp only [List.setIfInBounds_toArray, List.set_cons_zero, List.set_cons_succ]
    refine take_f 17 187 (.int .i64 c') [18, 19, 20] rfl rfl (by kernel_rfl) (by kernel_rfl) (by kernel_rfl) (by kernel_rfl) (by kernel_rfl) (by kernel_rfl) (fun _ _ _ h => h) rfl (fun w hSw => by obtain ⟨⟨r0, r1, r2⟩, rl⟩ := hSw; go_simp) hS ?_
    try simp only [List.setIfInBounds_toArray, List.set_cons_zero, List.set_cons_succ]
    refine ready_f 12 (o := { dst := some 182, op := Op.call { callee := Callee.value (Operand.func 29), args := #[Operand.tmp 181], argTypes := #[24] }, type := 66, pos := "law.go:140", after := #[{ on := 11, ground := Ground.data }, { on := 10, ground := Ground.chain }, { on := 10, ground := Ground.guard }], guard := some (10, true) }) (by kernel_rfl) rfl (fun K hK => ?_)
    go_simp
    refine kE.out.mono ?_
    rintro e w5 ⟨v, rfl, hv, hb5⟩
    refine hK.out _ _ (fun _ h => h.below hb5) ?_
    clear hK K
    try simp only [Act.put, List.setIfInBounds_toArray, List.set_cons_zero, List.set_cons_succ]
    have HV := hide1 hv
    have J1 := hide1 ((hb5.block _ (lt_heap HG5.out)).trans HG5.out)
    have J2 := hide1 ((hb5.block _ (lt_heap HD5.out)).trans HD5.out)
    have BT5 := hide1 (BTV.out.drew.trans (Bt.of_below hb5))
    have ET5 : Hid (F.Et w5) := (show F.Et V.drew from ETV.out).below hb5 (by have := BTV.out.size; show 0 < V.heap.size; omega)
    clear hv hb5
    refine ready_f 13 (o := { dst := some 183, op := Op.call { callee := Callee.value (Operand.func 24), args := #[Operand.tmp 182], argTypes := #[66] }, type := 40, pos := "law.go:140", after := #[{ on := 12, ground := Ground.data }, { on := 12, ground := Ground.chain }, { on := 10, ground := Ground.guard }], guard := some (10, true) }) (by kernel_rfl) rfl (fun K hK => ?_)
    go_simp
    refine (F.code_any w5 c' v ET5.out HV.out).mono ?_
    rintro e w6 ⟨rfl, hb6⟩
    refine hK.out _ _ (fun _ h => h.below hb6) ?_
    clear hK K
    try simp only [Act.put, List.setIfInBounds_toArray, List.set_cons_zero, List.set_cons_succ]
    have I1 := hide1 ((hb6.block _ (lt_heap J1.out)).trans J1.out)
    have I2 := hide1 ((hb6.block _ (lt_heap J2.out)).trans J2.out)
    have BT6 := hide1 (BT5.out.trans (Bt.of_below hb6))
    clear hb6
    refine take_p 18 188 (.bool true) rfl rfl (by kernel_rfl) (by kernel_rfl) (by kernel_rfl) (fun _ _ _ h => h) rfl (fun w => by go_simp) ?_
    try simp only [List.setIfInBounds_toArray, List.set_cons_zero, List.set_cons_succ]
    refine take_p 19 189 (.bool true) rfl rfl (by kernel_rfl) (by kernel_rfl) (by kernel_rfl) (fun _ _ _ h => h) rfl (fun w => by go_simp) ?_
    try simp only [List.setIfInBounds_toArray, List.set_cons_zero, List.set_cons_succ]
    refine take_p 20 6 (.bool true) rfl rfl (by kernel_rfl) (by kernel_rfl) (by kernel_rfl) (fun _ _ _ h => h) rfl (fun w => by go_simp) ?_
    try simp only [List.setIfInBounds_toArray, List.set_cons_zero, List.set_cons_succ]
    refine done_f (by kernel_rfl) ?_ _
    go_wp2
    go_ret
    exact ⟨rfl, I1.out, I2.out, BT6.out⟩

end Go.Proofs.YtmmhfipdolbinaaGreatDoor
