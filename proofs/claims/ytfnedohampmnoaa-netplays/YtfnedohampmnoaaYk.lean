/- NetPlays: both networks alike, call by call. -/
import Derived.Test.YtfnedohampmnoaaYna
namespace Go.Proofs.Ytfnedohampmnoaa
open Go.RowKit
set_option maxRecDepth 100000
attribute [local go_sem] not_any

theorem does_any {B t r : Nat} {x y : Nat → Value} {N : Nat → List ByteArray} {w : World} (h : Tr B t r 27 x y N N w) (hs : Sm N) (kd q i k : Int) (s : ByteArray) (b : Nat) (hb : b < 256) :
    Calls Try.prog 7 #[.pointer (some ⟨t, 0, none⟩), .pointer (some ⟨r, 0, none⟩), .agg #[.int .i64 kd, .int .i64 q, .int .i64 i, .int .i64 k, .string s, .int .u8 (b : Int)]] w fun e w' => e = .returned (.bool true) ∧ ∃ x' y', Tr B t r 27 x' y' (actN N kd q i k s b) (actN N kd q i k s b) w' ∧ Below B w w' := by
  unfold actN
  by_cases h0 : kd = 0
  · subst h0
    rw [if_pos rfl]
    exact does_0 h hs q i k s b hb
  · rw [if_neg h0]
    by_cases h1 : kd = 1
    · subst h1
      rw [if_pos rfl]
      exact does_1 h hs q i k s b hb
    · rw [if_neg h1]
      by_cases h2 : kd = 2
      · subst h2
        rw [if_pos rfl]
        exact does_2 h hs q i k s b hb
      · rw [if_neg h2]
        by_cases h3 : kd = 3
        · subst h3
          rw [if_pos rfl]
          exact does_3 h hs q i k s b hb
        · rw [if_neg h3]
          by_cases h4 : kd = 4
          · subst h4
            rw [if_pos rfl]
            exact does_4 h hs q i k s b hb
          · rw [if_neg h4]
            by_cases h5 : kd = 5
            · subst h5
              rw [if_pos rfl]
              exact does_5 h hs q i k s b hb
            · rw [if_neg h5]
              by_cases h6 : kd = 6
              · subst h6
                rw [if_pos rfl]
                exact does_6 h hs q i k s b hb
              · rw [if_neg h6]
                by_cases hq : q < 0 ∨ 1 < q
                · exact does_bad h hs kd h0 h1 h2 h3 h4 h5 h6 q i k s b hq
                · rcases (show q = 0 ∨ q = 1 by omega) with rfl | rfl
                  · exact does_clear0 h hs kd h0 h1 h2 h3 h4 h5 h6 i k s b
                  · exact does_clear1 h hs kd h0 h1 h2 h3 h4 h5 h6 i k s b

set_option maxHeartbeats 8000000 in
theorem plays_all (w : World) (m cap : Nat) (a : Option Addr) (hA : Ac w m a) :
    Calls Try.prog 3 #[.slice a m cap] w fun e w' => e = .returned (.bool true) ∧ Below w.heap.size w w' := by
  have HA := hide1 hA
  have kN := hide1 (new_any w)
  have mx := mixed
  clear hA
  go_enter Try.func3, Try.ntmps3
  go_wp2_with fail
  refine kN.out.mono ?_
  rintro e w1 ⟨rfl, n1, b1⟩
  obtain ⟨t, ht⟩ : ∃ t, w.heap.size = t := ⟨_, rfl⟩
  have HT := hide1 ht
  have ST : Hid (Tr t t w1.heap.size 27 (fun _ => .slice none 0 0) (fun _ => .slice none 0 0) (fun _ => []) (fun _ => []) (w1.alloc (.cells #[.slice none 0 0, .slice none 0 0] 27))) := by
    have hlt := lt_heap n1.row
    rw [ht] at n1 hlt
    exact ⟨n1.below (below1 _) (Nat.le_refl _), heap_alloc_new _ _, fun _ _ => Lst.nil _ _, fun _ _ h => (by cases h), fun _ _ h => (by cases h), fun _ _ h => (by cases h), fun _ _ _ _ _ h => (by cases h), by omega, by omega⟩
  have SB : Hid (Below w.heap.size w (w1.alloc (.cells #[.slice none 0 0, .slice none 0 0] 27))) := b1.trans ((below1 _).mono b1.size)
  rw [ht]
  clear kN n1 b1 ht
  go_wp2_with fail
  generalize World.alloc w1 _ = X at ST SB ⊢
  generalize w1.heap.size = r at *
  go_loopw [5] (fun v wr => ∃ (j : Nat) (x y : Nat → Value) (N : Nat → List ByteArray), j ≤ m ∧ j ≤ 100 ∧ v = .int .i64 (j : Int) ∧ Tr t t r 27 x y N N wr ∧ Sm N ∧ Below w.heap.size w wr) (fun v _ => 100 - (intOf v).toNat)
  case atStart => exact ⟨0, _, _, _, Nat.zero_le _, Nat.zero_le _, rfl, ST.out, Sm.none, SB.out⟩
  case round =>
    obtain ⟨j, x, y, N, hjm, hj1, rfl, hT, hSm, hB⟩ := hrel
    have T0 := hide1 hT
    have SS := hide1 hSm
    have B0 := hide1 hB
    by_cases hend : j < m ∧ j < 100
    · obtain ⟨hjm', hj100⟩ := hend
      have hj100i : (j : Int) < 100 := by omega
      have hjmi : (j : Int) < (m : Int) := by omega
      obtain ⟨g, o, kd, q, i, kk, s, b, rfl, hb256, h6⟩ := (HA.out.next hB) j hjm'
      obtain ⟨c0, c1, c2, c3, c4, c5⟩ := h6
      by_cases hlong : 1000 < s.size
      · have h1i : (1000 : Int) < (s.size : Int) := by omega
        have FIN : Hid (∃ (j' : Nat) (x y : Nat → Value) (N : Nat → List ByteArray), j' ≤ m ∧ j' ≤ 100 ∧ Value.int .i64 ((j : Int) + 1) = .int .i64 (j' : Int) ∧ Tr t t r 27 x y N N wr ∧ Sm N ∧ Below w.heap.size w wr) := ⟨j + 1, x, y, N, by omega, by omega, by go_num, T0.out, SS.out, B0.out⟩
        clear hT hSm hB
        go_wp2
        exact ⟨FIN.out, by simp [intOf]; omega⟩
      · have h1i : ¬ (1000 : Int) < (s.size : Int) := by omega
        have kD := hide1 (does_any (w := wr.drew) (hT.below ((Below.refl _ _).drew)) hSm kd q i kk s b hb256)
        have SS' := hide1 (hSm.act kd q i kk s b)
        generalize actN N kd q i kk s b = N' at kD SS'
        clear hT hSm hB hlong
        go_upto_region 7 with (fail)
        refine region_f (F := []) (S := fun _ => True) (by kernel_rfl) trivial (fun hS => ?_)
        have e0 : (World.drew wr).cell? ⟨g, o + j * 6, none⟩ = _ := c0
        have e1 : (World.drew wr).cell? ⟨g, o + j * 6 + 1, none⟩ = _ := c1
        have e2 : (World.drew wr).cell? ⟨g, o + j * 6 + 2, none⟩ = _ := c2
        have e3 : (World.drew wr).cell? ⟨g, o + j * 6 + 3, none⟩ = _ := c3
        have e4 : (World.drew wr).cell? ⟨g, o + j * 6 + 4, none⟩ = _ := c4
        have e5 : (World.drew wr).cell? ⟨g, o + j * 6 + 5, none⟩ = _ := c5
        have bU : Hid (Below w.heap.size w (World.drew wr)) := B0.out.drew
        generalize World.drew wr = U at e0 e1 e2 e3 e4 e5 kD bU hS ⊢
        clear c0 c1 c2 c3 c4 c5
        refine take_p 0 24 (.pointer (some ⟨t, 0, none⟩)) rfl rfl (by kernel_rfl) (by kernel_rfl) (by kernel_rfl) (fun _ _ _ h => h) rfl (fun w => by go_simp) ?_
        try simp only [List.setIfInBounds_toArray, List.set_cons_zero, List.set_cons_succ]
        refine take_p 1 25 (.slice (some ⟨g, o, none⟩) m cap) rfl rfl (by kernel_rfl) (by kernel_rfl) (by kernel_rfl) (fun _ _ _ h => h) rfl (fun w => by go_simp) ?_
        try simp only [List.setIfInBounds_toArray, List.set_cons_zero, List.set_cons_succ]
        refine take_p 2 26 (.int .i64 (j : Int)) rfl rfl (by kernel_rfl) (by kernel_rfl) (by kernel_rfl) (fun _ _ _ h => h) rfl (fun w => by go_simp) ?_
        try simp only [List.setIfInBounds_toArray, List.set_cons_zero, List.set_cons_succ]
        refine take_p 3 27 (.pointer (some ⟨g, o + j * 6, none⟩)) rfl rfl (by kernel_rfl) (by kernel_rfl) (by kernel_rfl) (fun _ _ _ h => h) rfl (fun w => by go_simp) ?_
        try simp only [List.setIfInBounds_toArray, List.set_cons_zero, List.set_cons_succ]
        refine ready_f 4 (o := { dst := some 28, op := Op.load 29 (Operand.tmp 27), type := 29, pos := "law.go:78", after := #[{ on := 3, ground := Ground.data }], guard := none }) (by kernel_rfl) rfl (fun K hK => ?_)
        go_simp
        refine hK.out _ _ (fun _ h => h) ?_
        clear hK K
        try simp only [Act.put, List.setIfInBounds_toArray, List.set_cons_zero, List.set_cons_succ]
        clear e0 e1 e2 e3 e4 e5
        refine ready_f 5 (o := { dst := some 29, op := Op.call { callee := Callee.value (Operand.func 7), args := #[Operand.tmp 24, Operand.tmp 4, Operand.tmp 28], argTypes := #[23, 31, 29] }, type := 4, pos := "law.go:78", after := #[{ on := 0, ground := Ground.data }, { on := 4, ground := Ground.data }], guard := none }) (by kernel_rfl) rfl (fun K hK => ?_)
        go_simp
        refine kD.out.mono ?_
        rintro e U2 ⟨rfl, x', y', hT', hB'⟩
        refine hK.out _ _ (fun _ _ => trivial) ?_
        clear hK K
        try simp only [Act.put, List.setIfInBounds_toArray, List.set_cons_zero, List.set_cons_succ]
        have T2 := hide1 hT'
        have B2 : Hid (Below w.heap.size w U2) := bU.out.trans (HT.out ▸ hB')
        obtain ⟨a0, y0c, hy0⟩ := (hT'.own 0 (by omega)).form
        obtain ⟨a1, y1c, hy1⟩ := (hT'.own 1 (by omega)).form
        obtain ⟨n0, hn0⟩ : ∃ n0, (N' 0).length = n0 := ⟨_, rfl⟩
        obtain ⟨n1, hn1⟩ : ∃ n1, (N' 1).length = n1 := ⟨_, rfl⟩
        rw [hn0] at hy0
        rw [hn1] at hy1
        have hrow := hT'.row
        rw [hy0, hy1] at hrow
        have HRW := hide1 hrow
        have HY0 := hide1 hy0
        have HY1 := hide1 hy1
        have HN0 := hide1 hn0
        have HN1 := hide1 hn1
        clear hT' hB' kD bU hS hy0 hy1 hn0 hn1 hrow
        refine take_p 6 30 (.bool false) rfl rfl (by kernel_rfl) (by kernel_rfl) (by kernel_rfl) (fun _ _ _ h => h) rfl (fun w => by go_simp) ?_
        try simp only [List.setIfInBounds_toArray, List.set_cons_zero, List.set_cons_succ]
        refine take_p 7 31 (.bool false) rfl rfl (by kernel_rfl) (by kernel_rfl) (by kernel_rfl) (fun _ _ _ h => h) rfl (fun w => by go_simp) ?_
        try simp only [List.setIfInBounds_toArray, List.set_cons_zero, List.set_cons_succ]
        refine take_p 8 32 (.pointer (some ⟨t, 0, none⟩)) rfl rfl (by kernel_rfl) (by kernel_rfl) (by kernel_rfl) (fun _ _ _ h => h) rfl (fun w => by go_simp) ?_
        try simp only [List.setIfInBounds_toArray, List.set_cons_zero, List.set_cons_succ]
        refine hold_f (S := fun W => W.cell? ⟨r, 0, none⟩ = some (.slice a0 n0 y0c) ∧ W.cell? ⟨r, 1, none⟩ = some (.slice a1 n1 y1c) ∧ r < W.heap.size) (F := []) _ _ _ _ ?_
        have hS : U2.cell? ⟨r, 0, none⟩ = some (.slice a0 n0 y0c) ∧ U2.cell? ⟨r, 1, none⟩ = some (.slice a1 n1 y1c) ∧ r < U2.heap.size := ⟨(box2 HRW.out).1, (box2 HRW.out).2.1, (box2 HRW.out).2.2.2.2⟩
        refine take_p 10 34 (.pointer (some ⟨r, 0, none⟩)) rfl rfl (by kernel_rfl) (by kernel_rfl) (by kernel_rfl) (fun _ _ _ h => h) rfl (fun w => by go_simp) ?_
        try simp only [List.setIfInBounds_toArray, List.set_cons_zero, List.set_cons_succ]
        refine take_f 11 35 (.slice a0 n0 y0c) [12, 13, 14, 15, 16, 17, 18, 19, 20, 21, 22, 23, 24, 25, 26, 27, 28, 29, 30, 31, 32, 33, 34, 35, 36, 37, 38] rfl rfl (by kernel_rfl) (by kernel_rfl) (by kernel_rfl) (by kernel_rfl) (by kernel_rfl) (by kernel_rfl) (fun _ _ _ h => h) rfl (fun w hSw => by obtain ⟨g0, g1, g2⟩ := hSw; go_simp) hS ?_
        try simp only [List.setIfInBounds_toArray, List.set_cons_zero, List.set_cons_succ]
        refine ready_f 9 (o := { dst := some 33, op := Op.call { callee := Callee.value (Operand.func 9), args := #[Operand.tmp 32, Operand.const (Value.int IntKind.i64 0)], argTypes := #[23, 3] }, type := 25, pos := "law.go:78", after := #[{ on := 8, ground := Ground.data }, { on := 7, ground := Ground.chain }, { on := 7, ground := Ground.guard }], guard := some (7, false) }) (by kernel_rfl) rfl (fun K hK => ?_)
        go_simp
        refine (all_ok0 T2.out.net SS'.out).mono ?_
        rintro e V0a ⟨l0, rfl, ho, hb⟩
        refine hK.out _ _ (fun _ h => ⟨(hb.cell (p := ⟨r, 0, none⟩) h.2.2).trans h.1, (hb.cell (p := ⟨r, 1, none⟩) h.2.2).trans h.2.1, Nat.lt_of_lt_of_le h.2.2 hb.size⟩) ?_
        clear hK K
        try simp only [Act.put, List.setIfInBounds_toArray, List.set_cons_zero, List.set_cons_succ]
        obtain ⟨la0, lc0, rfl⟩ := ho.form
        have HO := hide1 ho.rd
        rw [HN0.out] at HO ⊢
        clear ho
        replace hS : V0a.cell? ⟨r, 0, none⟩ = some (.slice a0 n0 y0c) ∧ V0a.cell? ⟨r, 1, none⟩ = some (.slice a1 n1 y1c) ∧ r < V0a.heap.size := ⟨(hb.cell (p := ⟨r, 0, none⟩) hS.2.2).trans hS.1, (hb.cell (p := ⟨r, 1, none⟩) hS.2.2).trans hS.2.1, Nat.lt_of_lt_of_le hS.2.2 hb.size⟩
        replace T2 := hide1 (T2.out.below hb)
        replace B2 : Hid (Below w.heap.size w V0a) := B2.out.trans (hb.mono B2.out.size)
        clear hb
        have RY : Hid (Rdl V0a (.slice a0 n0 y0c) (N' 0)) := HY0.out ▸ (T2.out.own 0 (by omega)).rd
        refine ready_f 12 (o := { dst := some 36, op := Op.call { callee := Callee.value (Operand.func 8), args := #[Operand.tmp 33, Operand.tmp 35], argTypes := #[25, 25] }, type := 4, pos := "law.go:78", after := #[{ on := 9, ground := Ground.data }, { on := 11, ground := Ground.data }, { on := 9, ground := Ground.chain }, { on := 7, ground := Ground.guard }], guard := some (7, false) }) (by kernel_rfl) rfl (fun K hK => ?_)
        go_simp
        refine (texts_any HO.out RY.out (by have := SS'.out.len 0; omega)).mono ?_
        rintro e V0b ⟨rfl, hb⟩
        refine hK.out _ _ (fun _ h => ⟨(hb.cell (p := ⟨r, 0, none⟩) h.2.2).trans h.1, (hb.cell (p := ⟨r, 1, none⟩) h.2.2).trans h.2.1, Nat.lt_of_lt_of_le h.2.2 hb.size⟩) ?_
        clear hK K
        try simp only [Act.put, List.setIfInBounds_toArray, List.set_cons_zero, List.set_cons_succ]
        clear HO RY
        replace hS : V0b.cell? ⟨r, 0, none⟩ = some (.slice a0 n0 y0c) ∧ V0b.cell? ⟨r, 1, none⟩ = some (.slice a1 n1 y1c) ∧ r < V0b.heap.size := ⟨(hb.cell (p := ⟨r, 0, none⟩) hS.2.2).trans hS.1, (hb.cell (p := ⟨r, 1, none⟩) hS.2.2).trans hS.2.1, Nat.lt_of_lt_of_le hS.2.2 hb.size⟩
        replace T2 := hide1 (T2.out.below hb)
        replace B2 : Hid (Below w.heap.size w V0b) := B2.out.trans (hb.mono B2.out.size)
        clear hb
        refine take_p 13 37 (.bool false) rfl rfl (by kernel_rfl) (by kernel_rfl) (by kernel_rfl) (fun _ _ _ h => h) rfl (fun w => by go_simp) ?_
        try simp only [List.setIfInBounds_toArray, List.set_cons_zero, List.set_cons_succ]
        refine take_p 14 38 (.bool false) rfl rfl (by kernel_rfl) (by kernel_rfl) (by kernel_rfl) (fun _ _ _ h => h) rfl (fun w => by go_simp) ?_
        try simp only [List.setIfInBounds_toArray, List.set_cons_zero, List.set_cons_succ]
        refine take_p 15 39 (.bool false) rfl rfl (by kernel_rfl) (by kernel_rfl) (by kernel_rfl) (fun _ _ _ h => h) rfl (fun w => by go_simp) ?_
        try simp only [List.setIfInBounds_toArray, List.set_cons_zero, List.set_cons_succ]
        refine take_p 16 40 (.pointer (some ⟨t, 0, none⟩)) rfl rfl (by kernel_rfl) (by kernel_rfl) (by kernel_rfl) (fun _ _ _ h => h) rfl (fun w => by go_simp) ?_
        try simp only [List.setIfInBounds_toArray, List.set_cons_zero, List.set_cons_succ]
        refine take_p 18 42 (.pointer (some ⟨r, 1, none⟩)) rfl rfl (by kernel_rfl) (by kernel_rfl) (by kernel_rfl) (fun _ _ _ h => h) rfl (fun w => by go_simp) ?_
        try simp only [List.setIfInBounds_toArray, List.set_cons_zero, List.set_cons_succ]
        refine take_f 19 43 (.slice a1 n1 y1c) [20, 21, 22, 23, 24, 25, 26, 27, 28, 29, 30, 31, 32, 33, 34, 35, 36, 37, 38] rfl rfl (by kernel_rfl) (by kernel_rfl) (by kernel_rfl) (by kernel_rfl) (by kernel_rfl) (by kernel_rfl) (fun _ _ _ h => h) rfl (fun w hSw => by obtain ⟨g0, g1, g2⟩ := hSw; go_simp) hS ?_
        try simp only [List.setIfInBounds_toArray, List.set_cons_zero, List.set_cons_succ]
        refine ready_f 17 (o := { dst := some 41, op := Op.call { callee := Callee.value (Operand.func 9), args := #[Operand.tmp 40, Operand.const (Value.int IntKind.i64 1)], argTypes := #[23, 3] }, type := 25, pos := "law.go:78", after := #[{ on := 16, ground := Ground.data }, { on := 15, ground := Ground.chain }, { on := 15, ground := Ground.guard }], guard := some (15, false) }) (by kernel_rfl) rfl (fun K hK => ?_)
        go_simp
        refine (all_ok1 T2.out.net SS'.out).mono ?_
        rintro e V1a ⟨l1, rfl, ho, hb⟩
        refine hK.out _ _ (fun _ h => ⟨(hb.cell (p := ⟨r, 0, none⟩) h.2.2).trans h.1, (hb.cell (p := ⟨r, 1, none⟩) h.2.2).trans h.2.1, Nat.lt_of_lt_of_le h.2.2 hb.size⟩) ?_
        clear hK K
        try simp only [Act.put, List.setIfInBounds_toArray, List.set_cons_zero, List.set_cons_succ]
        obtain ⟨la1, lc1, rfl⟩ := ho.form
        have HO := hide1 ho.rd
        rw [HN1.out] at HO ⊢
        clear ho
        replace hS : V1a.cell? ⟨r, 0, none⟩ = some (.slice a0 n0 y0c) ∧ V1a.cell? ⟨r, 1, none⟩ = some (.slice a1 n1 y1c) ∧ r < V1a.heap.size := ⟨(hb.cell (p := ⟨r, 0, none⟩) hS.2.2).trans hS.1, (hb.cell (p := ⟨r, 1, none⟩) hS.2.2).trans hS.2.1, Nat.lt_of_lt_of_le hS.2.2 hb.size⟩
        replace T2 := hide1 (T2.out.below hb)
        replace B2 : Hid (Below w.heap.size w V1a) := B2.out.trans (hb.mono B2.out.size)
        clear hb
        have RY : Hid (Rdl V1a (.slice a1 n1 y1c) (N' 1)) := HY1.out ▸ (T2.out.own 1 (by omega)).rd
        refine ready_f 20 (o := { dst := some 44, op := Op.call { callee := Callee.value (Operand.func 8), args := #[Operand.tmp 41, Operand.tmp 43], argTypes := #[25, 25] }, type := 4, pos := "law.go:78", after := #[{ on := 17, ground := Ground.data }, { on := 19, ground := Ground.data }, { on := 17, ground := Ground.chain }, { on := 15, ground := Ground.guard }], guard := some (15, false) }) (by kernel_rfl) rfl (fun K hK => ?_)
        go_simp
        refine (texts_any HO.out RY.out (by have := SS'.out.len 1; omega)).mono ?_
        rintro e V1b ⟨rfl, hb⟩
        refine hK.out _ _ (fun _ h => ⟨(hb.cell (p := ⟨r, 0, none⟩) h.2.2).trans h.1, (hb.cell (p := ⟨r, 1, none⟩) h.2.2).trans h.2.1, Nat.lt_of_lt_of_le h.2.2 hb.size⟩) ?_
        clear hK K
        try simp only [Act.put, List.setIfInBounds_toArray, List.set_cons_zero, List.set_cons_succ]
        clear HO RY
        replace hS : V1b.cell? ⟨r, 0, none⟩ = some (.slice a0 n0 y0c) ∧ V1b.cell? ⟨r, 1, none⟩ = some (.slice a1 n1 y1c) ∧ r < V1b.heap.size := ⟨(hb.cell (p := ⟨r, 0, none⟩) hS.2.2).trans hS.1, (hb.cell (p := ⟨r, 1, none⟩) hS.2.2).trans hS.2.1, Nat.lt_of_lt_of_le hS.2.2 hb.size⟩
        replace T2 := hide1 (T2.out.below hb)
        replace B2 : Hid (Below w.heap.size w V1b) := B2.out.trans (hb.mono B2.out.size)
        clear hb
        refine take_p 21 45 (.bool false) rfl rfl (by kernel_rfl) (by kernel_rfl) (by kernel_rfl) (fun _ _ _ h => h) rfl (fun w => by go_simp) ?_
        try simp only [List.setIfInBounds_toArray, List.set_cons_zero, List.set_cons_succ]
        refine take_p 22 46 (.bool false) rfl rfl (by kernel_rfl) (by kernel_rfl) (by kernel_rfl) (fun _ _ _ h => h) rfl (fun w => by go_simp) ?_
        try simp only [List.setIfInBounds_toArray, List.set_cons_zero, List.set_cons_succ]
        refine take_p 23 47 (.bool false) rfl rfl (by kernel_rfl) (by kernel_rfl) (by kernel_rfl) (fun _ _ _ h => h) rfl (fun w => by go_simp) ?_
        try simp only [List.setIfInBounds_toArray, List.set_cons_zero, List.set_cons_succ]
        refine take_p 24 48 (.pointer (some ⟨t, 0, none⟩)) rfl rfl (by kernel_rfl) (by kernel_rfl) (by kernel_rfl) (fun _ _ _ h => h) rfl (fun w => by go_simp) ?_
        try simp only [List.setIfInBounds_toArray, List.set_cons_zero, List.set_cons_succ]
        refine take_p 26 50 (.pointer (some ⟨r, 0, none⟩)) rfl rfl (by kernel_rfl) (by kernel_rfl) (by kernel_rfl) (fun _ _ _ h => h) rfl (fun w => by go_simp) ?_
        try simp only [List.setIfInBounds_toArray, List.set_cons_zero, List.set_cons_succ]
        refine take_f 27 51 (.slice a0 n0 y0c) [28, 29, 30, 31, 32, 33, 34, 35, 36, 37, 38] rfl rfl (by kernel_rfl) (by kernel_rfl) (by kernel_rfl) (by kernel_rfl) (by kernel_rfl) (by kernel_rfl) (fun _ _ _ h => h) rfl (fun w hSw => by obtain ⟨g0, g1, g2⟩ := hSw; go_simp) hS ?_
        try simp only [List.setIfInBounds_toArray, List.set_cons_zero, List.set_cons_succ]
        refine take_p 28 52 (.int .i64 (n0 : Int)) rfl rfl (by kernel_rfl) (by kernel_rfl) (by kernel_rfl) (fun _ _ _ h => h) rfl (fun w => by go_simp) ?_
        try simp only [List.setIfInBounds_toArray, List.set_cons_zero, List.set_cons_succ]
        have kL := len_any T2.out.net 0 (by omega)
        rw [HN0.out] at kL
        change Calls _ _ #[_, .int .i64 0] _ _ at kL
        refine ready_f 25 (o := { dst := some 49, op := Op.call { callee := Callee.value (Operand.func 10), args := #[Operand.tmp 48, Operand.const (Value.int IntKind.i64 0)], argTypes := #[23, 3] }, type := 3, pos := "law.go:78", after := #[{ on := 24, ground := Ground.data }, { on := 23, ground := Ground.chain }, { on := 23, ground := Ground.guard }], guard := some (23, false) }) (by kernel_rfl) rfl (fun K hK => ?_)
        go_simp
        refine kL.mono ?_
        rintro e V9 ⟨rfl, hV9⟩
        obtain rfl := hV9.symm
        refine hK.out _ _ (fun _ h => h) ?_
        clear hK K
        try simp only [Act.put, List.setIfInBounds_toArray, List.set_cons_zero, List.set_cons_succ]
        clear kL
        refine take_p 29 53 (.bool false) rfl rfl (by kernel_rfl) (by kernel_rfl) (by kernel_rfl) (fun _ _ _ h => h) rfl (fun w => by go_simp) ?_
        try simp only [List.setIfInBounds_toArray, List.set_cons_zero, List.set_cons_succ]
        refine take_p 30 54 (.bool false) rfl rfl (by kernel_rfl) (by kernel_rfl) (by kernel_rfl) (fun _ _ _ h => h) rfl (fun w => by go_simp) ?_
        try simp only [List.setIfInBounds_toArray, List.set_cons_zero, List.set_cons_succ]
        refine take_p 31 55 (.bool false) rfl rfl (by kernel_rfl) (by kernel_rfl) (by kernel_rfl) (fun _ _ _ h => h) rfl (fun w => by go_simp) ?_
        try simp only [List.setIfInBounds_toArray, List.set_cons_zero, List.set_cons_succ]
        refine take_p 32 56 (.pointer (some ⟨t, 0, none⟩)) rfl rfl (by kernel_rfl) (by kernel_rfl) (by kernel_rfl) (fun _ _ _ h => h) rfl (fun w => by go_simp) ?_
        try simp only [List.setIfInBounds_toArray, List.set_cons_zero, List.set_cons_succ]
        refine take_p 34 58 (.pointer (some ⟨r, 1, none⟩)) rfl rfl (by kernel_rfl) (by kernel_rfl) (by kernel_rfl) (fun _ _ _ h => h) rfl (fun w => by go_simp) ?_
        try simp only [List.setIfInBounds_toArray, List.set_cons_zero, List.set_cons_succ]
        refine take_f 35 59 (.slice a1 n1 y1c) [36, 37, 38] rfl rfl (by kernel_rfl) (by kernel_rfl) (by kernel_rfl) (by kernel_rfl) (by kernel_rfl) (by kernel_rfl) (fun _ _ _ h => h) rfl (fun w hSw => by obtain ⟨g0, g1, g2⟩ := hSw; go_simp) hS ?_
        try simp only [List.setIfInBounds_toArray, List.set_cons_zero, List.set_cons_succ]
        refine take_p 36 60 (.int .i64 (n1 : Int)) rfl rfl (by kernel_rfl) (by kernel_rfl) (by kernel_rfl) (fun _ _ _ h => h) rfl (fun w => by go_simp) ?_
        try simp only [List.setIfInBounds_toArray, List.set_cons_zero, List.set_cons_succ]
        have kL := len_any T2.out.net 1 (by omega)
        rw [HN1.out] at kL
        change Calls _ _ #[_, .int .i64 1] _ _ at kL
        refine ready_f 33 (o := { dst := some 57, op := Op.call { callee := Callee.value (Operand.func 10), args := #[Operand.tmp 56, Operand.const (Value.int IntKind.i64 1)], argTypes := #[23, 3] }, type := 3, pos := "law.go:78", after := #[{ on := 32, ground := Ground.data }, { on := 31, ground := Ground.chain }, { on := 31, ground := Ground.guard }], guard := some (31, false) }) (by kernel_rfl) rfl (fun K hK => ?_)
        go_simp
        refine kL.mono ?_
        rintro e V9 ⟨rfl, hV9⟩
        obtain rfl := hV9.symm
        refine hK.out _ _ (fun _ h => h) ?_
        clear hK K
        try simp only [Act.put, List.setIfInBounds_toArray, List.set_cons_zero, List.set_cons_succ]
        clear kL
        refine take_p 37 61 (.bool false) rfl rfl (by kernel_rfl) (by kernel_rfl) (by kernel_rfl) (fun _ _ _ h => h) rfl (fun w => by go_simp) ?_
        try simp only [List.setIfInBounds_toArray, List.set_cons_zero, List.set_cons_succ]
        refine take_p 38 62 (.bool false) rfl rfl (by kernel_rfl) (by kernel_rfl) (by kernel_rfl) (fun _ _ _ h => h) rfl (fun w => by go_simp) ?_
        try simp only [List.setIfInBounds_toArray, List.set_cons_zero, List.set_cons_succ]
        refine done_f (by kernel_rfl) ?_ _
        have FIN : Hid (∃ (j' : Nat) (x y : Nat → Value) (N : Nat → List ByteArray), j' ≤ m ∧ j' ≤ 100 ∧ Value.int .i64 ((j : Int) + 1) = .int .i64 (j' : Int) ∧ Tr t t r 27 x y N N V1b ∧ Sm N ∧ Below w.heap.size w V1b) := ⟨j + 1, x', y', N', by omega, by omega, by go_num, T2.out, SS'.out, B2.out⟩
        clear hS
        go_wp2
        exact ⟨FIN.out, by simp [intOf]; omega⟩
    · clear hT hSm hB
      by_cases h100 : j < 100
      · have hjm0 : j = m := by omega
        subst hjm0
        have h100i : (j : Int) < 100 := by omega
        have k1 := hide1 (all_none T0.out.net 2 (by omega))
        have k2 := hide1 (len_none T0.out.net (-1) (by omega))
        have kA := hide1 (awake_any wr)
        go_wp2_with fail
        refine k1.out.mono ?_
        rintro e w2 ⟨rfl, hw2⟩
        obtain rfl := hw2.symm
        go_wp2_with fail
        refine k2.out.mono ?_
        rintro e w2 ⟨rfl, hw2⟩
        obtain rfl := hw2.symm
        go_wp2_with fail
        refine kA.out.mono ?_
        rintro e w2 ⟨rfl, hb2⟩
        have HB2 := hide1 hb2
        clear hb2
        go_wp2
        go_ret
        exact ⟨rfl, B0.out.trans (HB2.out.mono B0.out.size)⟩
      · have h100i : ¬ (j : Int) < 100 := by omega
        by_cases hjm2 : j < m
        · have hjmi : (j : Int) < (m : Int) := by omega
          have k1 := hide1 (all_none T0.out.net 2 (by omega))
          have k2 := hide1 (len_none T0.out.net (-1) (by omega))
          have kA := hide1 (awake_any wr)
          go_wp2_with fail
          refine k1.out.mono ?_
          rintro e w2 ⟨rfl, hw2⟩
          obtain rfl := hw2.symm
          go_wp2_with fail
          refine k2.out.mono ?_
          rintro e w2 ⟨rfl, hw2⟩
          obtain rfl := hw2.symm
          go_wp2_with fail
          refine kA.out.mono ?_
          rintro e w2 ⟨rfl, hb2⟩
          have HB2 := hide1 hb2
          clear hb2
          go_wp2
          go_ret
          exact ⟨rfl, B0.out.trans (HB2.out.mono B0.out.size)⟩
        · have hjmi : ¬ (j : Int) < (m : Int) := by omega
          have k1 := hide1 (all_none T0.out.net 2 (by omega))
          have k2 := hide1 (len_none T0.out.net (-1) (by omega))
          have kA := hide1 (awake_any wr)
          go_wp2_with fail
          refine k1.out.mono ?_
          rintro e w2 ⟨rfl, hw2⟩
          obtain rfl := hw2.symm
          go_wp2_with fail
          refine k2.out.mono ?_
          rintro e w2 ⟨rfl, hw2⟩
          obtain rfl := hw2.symm
          go_wp2_with fail
          refine kA.out.mono ?_
          rintro e w2 ⟨rfl, hb2⟩
          have HB2 := hide1 hb2
          clear hb2
          go_wp2
          go_ret
          exact ⟨rfl, B0.out.trans (HB2.out.mono B0.out.size)⟩

end Go.Proofs.Ytfnedohampmnoaa
