/- NetTrue: all that is on its way was sent. -/
import Derived.Test.YtfnedohampmnoaaYy
namespace Go.Proofs.Ytfnedohampmnoaa
open Go.RowKit
set_option maxRecDepth 100000
attribute [local go_sem] not_any

theorem box_act {w : World} {g : Nat} {kd q i k : Int} {s : ByteArray} {b : Nat} {ty : TypeId} (h : w.heap[g]? = some (.cells #[.int .i64 kd, .int .i64 q, .int .i64 i, .int .i64 k, .string s, .int .u8 (b : Int)] ty (0, 0))) : A6 w g 0 kd q i k s b ∧ g < w.heap.size :=
  ⟨⟨by rw [cell_of_row w g _ _ _ _ h]; rfl, by rw [cell_of_row w g _ _ _ _ h]; rfl, by rw [cell_of_row w g _ _ _ _ h]; rfl, by rw [cell_of_row w g _ _ _ _ h]; rfl, by rw [cell_of_row w g _ _ _ _ h]; rfl, by rw [cell_of_row w g _ _ _ _ h]; rfl⟩, lt_heap h⟩
set_option maxHeartbeats 8000000 in
theorem true_all (w : World) (m cap : Nat) (a : Option Addr) (hA : Ac w m a) :
    Calls Try.prog 4 #[.slice a m cap] w fun e w' => e = .returned (.bool true) ∧ Below w.heap.size w w' := by
  have HA := hide1 hA
  have kN := hide1 (new_any w)
  clear hA
  go_enter Try.func4, Try.ntmps4
  go_wp2_with fail
  refine kN.out.mono ?_
  rintro e w1 ⟨rfl, n1, b1⟩
  have HN1 := hide1 n1
  have HB1 := hide1 b1
  obtain ⟨t, ht⟩ : ∃ t, w.heap.size = t := ⟨_, rfl⟩
  have HT := hide1 ht
  have ST : Hid (Tr t t w1.heap.size 37 (fun _ => .slice none 0 0) (fun _ => .slice none 0 0) (fun _ => []) (fun _ => []) (w1.alloc (.cells #[.slice none 0 0, .slice none 0 0] 37))) := by
    have hlt := lt_heap n1.row
    rw [ht] at n1 hlt
    exact ⟨n1.below (below1 _) (Nat.le_refl _), heap_alloc_new _ _, fun _ _ => Lst.nil _ _, fun _ _ h => (by cases h), fun _ _ h => (by cases h), fun _ _ h => (by cases h), fun _ _ _ _ _ h => (by cases h), by omega, by omega⟩
  have SB : Hid (Below w.heap.size w (w1.alloc (.cells #[.slice none 0 0, .slice none 0 0] 37))) := b1.trans ((below1 _).mono b1.size)
  rw [ht]
  clear kN n1 b1 ht
  go_wp2_with fail
  generalize World.alloc w1 _ = X at ST SB ⊢
  generalize w1.heap.size = r at *
  clear HN1 HB1
  go_loopw [5] (fun v wr => ∃ (j : Nat) (x y : Nat → Value) (N M : Nat → List ByteArray), j ≤ m ∧ j ≤ 100 ∧ v = .int .i64 (j : Int) ∧ Tr t t r 37 x y N M wr ∧ Apt y ∧ Sm N ∧ Sub N M ∧ (∀ k, (M k).length ≤ j) ∧ Below w.heap.size w wr) (fun v _ => 100 - (intOf v).toNat)
  case atStart => exact ⟨0, _, _, _, _, Nat.zero_le _, Nat.zero_le _, rfl, ST.out, fun g h => (by cases h), Sm.none, fun _ _ h => h, fun _ => Nat.le_refl _, SB.out⟩
  case round =>
    obtain ⟨j, x, y, N, M, hjm, hj1, rfl, hT, hAp, hSm, hSu, hFe, hB⟩ := hrel
    have T0 := hide1 hT
    have AA := hide1 hAp
    have SS := hide1 hSm
    have UU := hide1 hSu
    have FF0 := hide1 hFe
    have B0 := hide1 hB
    by_cases hend : j < m ∧ j < 100
    · obtain ⟨hjm', hj100⟩ := hend
      have hj100i : (j : Int) < 100 := by omega
      have hjmi : (j : Int) < (m : Int) := by omega
      have HJ := hide1 hj100
      obtain ⟨g, o, kd, q, i, kk, s, b, rfl, hb256, h6⟩ := (HA.out.next hB) j hjm'
      obtain ⟨c0, c1, c2, c3, c4, c5⟩ := h6
      clear hT hAp hSm hSu hFe hB
      go_upto_region 7 with (fail)
      generalize hX : World.alloc wr _ = Y
      have bY : Hid (Below wr.heap.size wr Y) := by rw [← hX]; exact below1 _
      have GG : Hid (A6 Y wr.heap.size 0 kd q i kk s b ∧ wr.heap.size < Y.heap.size) := by rw [← hX]; exact box_act (heap_alloc_new _ _)
      have T1 := hide1 (T0.out.below bY.out)
      have B1 : Hid (Below w.heap.size w Y) := B0.out.trans (bY.out.mono B0.out.size)
      have LA : Hid (t < wr.heap.size ∧ r < wr.heap.size ∧ (∀ k, k < 2 → ∀ g, (x k).ownBlock = some g → g < wr.heap.size) ∧ (∀ k, k < 2 → ∀ g, (y k).ownBlock = some g → g < wr.heap.size)) := ⟨lt_heap T0.out.net.row, lt_heap T0.out.row, fun k hk g hg => ((T0.out.net.own k hk).lt hg).2, fun k hk g hg => ((T0.out.own k hk).lt hg).2⟩
      generalize wr.heap.size = ab at *
      clear hX bY T0 B0 c0 c1 c2 c3 c4 c5
      obtain ⟨d0, d1, d2, d3, d4, d5⟩ := GG.out.1
      rw [Nat.zero_add] at d1 d2 d3 d4 d5
      by_cases hskip : kd = 5 ∨ kd = 6 ∨ 200 < s.size ∨ q < 0 ∨ 1 < q
      · have FIN : Hid (∃ (j' : Nat) (x y : Nat → Value) (N M : Nat → List ByteArray), j' ≤ m ∧ j' ≤ 100 ∧ Value.int .i64 ((j : Int) + 1) = .int .i64 (j' : Int) ∧ Tr t t r 37 x y N M Y ∧ Apt y ∧ Sm N ∧ Sub N M ∧ (∀ k, (M k).length ≤ j') ∧ Below w.heap.size w Y) := ⟨j + 1, x, y, N, M, by omega, by omega, by go_num, T1.out, AA.out, SS.out, UU.out, fun k => Nat.le_succ_of_le (FF0.out k), B1.out⟩
        by_cases h5 : kd = 5
        · subst h5
          go_wp2
          exact ⟨FIN.out, by simp [intOf]; omega⟩
        · have h5b : (kd == 5) = false := by simpa using h5
          by_cases h6 : kd = 6
          · subst h6
            go_wp2
            exact ⟨FIN.out, by simp [intOf]; omega⟩
          · have h6b : (kd == 6) = false := by simpa using h6
            by_cases h7 : 200 < s.size
            · have h7i : (200 : Int) < (s.size : Int) := by omega
              go_wp2
              exact ⟨FIN.out, by simp [intOf]; omega⟩
            · have h7i : ¬ (200 : Int) < (s.size : Int) := by omega
              by_cases h8 : q < 0
              · go_wp2
                exact ⟨FIN.out, by simp [intOf]; omega⟩
              · have h9 : 1 < q := by omega
                go_wp2
                exact ⟨FIN.out, by simp [intOf]; omega⟩
      · have h5 : kd ≠ 5 := fun h => hskip (by simp [h])
        have h6 : kd ≠ 6 := fun h => hskip (by simp [h])
        have h7 : ¬ 200 < s.size := fun h => hskip (by simp [h])
        have h8 : ¬ q < 0 := fun h => hskip (by simp [h])
        have h9 : ¬ 1 < q := fun h => hskip (by simp [h])
        have h5b : (kd == 5) = false := by simpa using h5
        have h6b : (kd == 6) = false := by simpa using h6
        have h7i : ¬ (200 : Int) < (s.size : Int) := by omega
        obtain ⟨k, rfl⟩ : ∃ k : Nat, q = k := ⟨q.toNat, by omega⟩
        have hk : k < 2 := by omega
        have HK := hide1 hk
        have hk2 : (k : Int) < 2 := by omega
        clear hskip
        go_upto_region 9 with (fail)
        have FF : Hid (∀ k, (M k).length ≤ j + 1) := fun k => Nat.le_succ_of_le (FF0.out k)
        by_cases e2 : kd = 2
        · subst e2
          clear h5 h6 h5b h6b h7 h8 h9 h7i
          go_wp2_with fail
          refine (drop_any T1.out.net k i SS.out.len).mono ?_
          rintro e W ⟨rfl, x', hn, hv⟩
          have TT := hide1 (T1.out.called hn hv)
          have BB : Hid (Below w.heap.size w W) := B1.out.trans (HT.out ▸ hv.below T1.out.net)
          have GG2 : Hid (A6 W ab 0 2 k i kk s b ∧ ab < W.heap.size) := by
            have l := LA.out
            have gg := GG.out
            exact ⟨gg.1.same (hv.kept ab gg.2 (by omega) (fun k' hk' e => by have := l.2.2.1 k' hk' ab e; omega)), Nat.lt_of_lt_of_le gg.2 hv.size⟩
          have SS' := hide1 (SS.out.tak (k : Int) i)
          have UU' := hide1 (UU.out.tak (k : Int) i)
          clear hn hv T1 B1 GG SS UU LA
          have SS := SS'
          have UU := UU'
          have GG := GG2
          clear SS' UU' GG2 d0 d1 d2 d3 d4 d5
          obtain ⟨d0, d1, d2, d3, d4, d5⟩ := GG.out.1
          rw [Nat.zero_add] at d1 d2 d3 d4 d5
          generalize takN N (k : Int) i = N' at *
          generalize hy' : y = y' at *
          generalize hM' : M = M' at *
          clear hy' hM'
          go_wp2_with fail
          have hAl := all_any TT.out.net SS.out k HK.out
          refine hAl.mono ?_
          rintro e W7 ⟨l, rfl, hl, hb7⟩
          have h64 := SS.out.len k
          obtain ⟨la, lc, rfl⟩ := hl.form
          obtain ⟨n', hn'⟩ : ∃ n', (N' k).length = n' := ⟨_, rfl⟩
          have HL := hide1 hl
          have HN' := hide1 hn'
          rw [hn'] at HL h64 ⊢
          have HB7 := hide1 hb7
          have h64i : ¬ (64 : Int) < (n' : Int) := by omega
          clear hAl hl hb7 hn'
          go_wp2_with fail
          go_loopw [10] (fun v wr => ∃ p : Nat, p ≤ n' ∧ v = .int .i64 (p : Int) ∧ Below W7.heap.size W7 wr) (fun v _ => n' - (intOf v).toNat)
          case atStart => exact ⟨0, Nat.zero_le _, rfl, Below.refl _ _⟩
          case round =>
            obtain ⟨p, hp, rfl, hBp⟩ := hrel
            have HBp := hide1 hBp
            have BW : Below W.heap.size W wr := HB7.out.trans (hBp.mono HB7.out.size)
            have HBW := hide1 BW
            by_cases hpn : p < n'
            · have gin : (p : Int) < (n' : Int) := by omega
              have hpA : p < (N' k).length := by have := HN'.out; omega
              obtain ⟨lg, lc2, e2, hcc, _, _⟩ := (HL.out.below hBp (Nat.le_refl _)).cell hpA
              rw [HN'.out] at e2
              cases e2
              have hT := TT.out.below BW
              have h6 := GG.out.1.same (BW.block ab GG.out.2)
              have c1 := h6.c1
              rw [Nat.zero_add] at c1
              have hyc : wr.cell? ⟨r, k, none⟩ = some (y' k) := by
                rw [cell_of_row wr r k _ _ _ hT.row]
                rcases (show k = 0 ∨ k = 1 by have := HK.out; omega) with rfl | rfl <;> rfl
              have hmem : (N' k).getD p ByteArray.empty ∈ M' k := UU.out k _ (getD_mem hpA)
              have kH : ∀ W, Below wr.heap.size wr W → Hid (Calls Try.prog 14 #[y' k, .string ((N' k).getD p ByteArray.empty)] W fun e w' => e = .returned (.bool true) ∧ w' = W) := fun W hW => has_any ((hT.below hW).own k HK.out).rd _ hmem (by have := FF.out k; have := HJ.out; omega)
              obtain ⟨ya, yc, hy⟩ := (hT.own k HK.out).form
              rw [hy] at hyc kH
              generalize (M' k).length = ny at *
              generalize (N' k).getD p ByteArray.empty = s' at *
              have KH := hide1 kH
              have C1 := hide1 c1
              have CY := hide1 hyc
              have CL := hide1 hcc
              have hk2 : (k : Int) < 2 := by have := HK.out; omega
              clear hT h6 hmem hy BW hBp kH c1 hyc hcc
              go_upto_region 26 with (fail)
              refine region_f (F := []) (S := fun W => W.cell? ⟨ab, 1, none⟩ = some (.int .i64 (k : Int)) ∧ W.cell? ⟨r, k, none⟩ = some (.slice ya ny yc) ∧ W.cell? ⟨lg, p, none⟩ = some (.string s')) (by kernel_rfl) ⟨C1.out, CY.out, CL.out⟩ (fun hS => ?_)
              refine take_p 0 129 (.pointer (some ⟨ab, 1, none⟩)) rfl rfl (by kernel_rfl) (by kernel_rfl) (by kernel_rfl) (fun _ _ _ h => h) rfl (fun w => by go_simp) ?_
              try simp only [List.setIfInBounds_toArray, List.set_cons_zero, List.set_cons_succ]
              refine take_f 1 130 (.int .i64 (k : Int)) [2, 3, 8, 9] rfl rfl (by kernel_rfl) (by kernel_rfl) (by kernel_rfl) (by kernel_rfl) (by kernel_rfl) (by kernel_rfl) (fun _ _ _ h => h) rfl (fun w hSw => by obtain ⟨g0, g1, g2⟩ := hSw; go_simp) hS ?_
              try simp only [List.setIfInBounds_toArray, List.set_cons_zero, List.set_cons_succ]
              refine take_p 2 131 (.pointer (some ⟨r, k, none⟩)) rfl rfl (by kernel_rfl) (by kernel_rfl) (by kernel_rfl) (fun _ _ _ h => h) rfl (fun w => by go_simp) ?_
              try simp only [List.setIfInBounds_toArray, List.set_cons_zero, List.set_cons_succ]
              refine take_f 3 132 (.slice ya ny yc) [8, 9] rfl rfl (by kernel_rfl) (by kernel_rfl) (by kernel_rfl) (by kernel_rfl) (by kernel_rfl) (by kernel_rfl) (fun _ _ _ h => h) rfl (fun w hSw => by obtain ⟨g0, g1, g2⟩ := hSw; go_simp) hS ?_
              try simp only [List.setIfInBounds_toArray, List.set_cons_zero, List.set_cons_succ]
              refine take_p 4 133 (.slice (some ⟨lg, 0, none⟩) n' lc) rfl rfl (by kernel_rfl) (by kernel_rfl) (by kernel_rfl) (fun _ _ _ h => h) rfl (fun w => by go_simp) ?_
              try simp only [List.setIfInBounds_toArray, List.set_cons_zero, List.set_cons_succ]
              refine take_p 5 134 (.int .i64 (p : Int)) rfl rfl (by kernel_rfl) (by kernel_rfl) (by kernel_rfl) (fun _ _ _ h => h) rfl (fun w => by go_simp) ?_
              try simp only [List.setIfInBounds_toArray, List.set_cons_zero, List.set_cons_succ]
              refine take_p 6 135 (.pointer (some ⟨lg, p, none⟩)) rfl rfl (by kernel_rfl) (by kernel_rfl) (by kernel_rfl) (fun _ _ _ h => h) rfl (fun w => by go_simp) ?_
              try simp only [List.setIfInBounds_toArray, List.set_cons_zero, List.set_cons_succ]
              refine take_f 7 136 (.string s') [8, 9] rfl rfl (by kernel_rfl) (by kernel_rfl) (by kernel_rfl) (by kernel_rfl) (by kernel_rfl) (by kernel_rfl) (fun _ _ _ h => h) rfl (fun w hSw => by obtain ⟨g0, g1, g2⟩ := hSw; go_simp) hS ?_
              try simp only [List.setIfInBounds_toArray, List.set_cons_zero, List.set_cons_succ]
              refine ready_f 8 (o := { dst := some 137, op := Op.call { callee := Callee.value (Operand.func 14), args := #[Operand.tmp 132, Operand.tmp 136], argTypes := #[25, 9] }, type := 4, pos := "law.go:112", after := #[{ on := 3, ground := Ground.data }, { on := 7, ground := Ground.data }], guard := none }) (by kernel_rfl) rfl (fun K hK => ?_)
              go_simp
              refine (KH.out _ (Below.refl _ _).drew).out.mono ?_
              rintro e W9 ⟨rfl, hw9⟩
              obtain rfl := hw9.symm
              refine hK.out _ _ (fun _ h => h) ?_
              clear hK K
              try simp only [Act.put, List.setIfInBounds_toArray, List.set_cons_zero, List.set_cons_succ]
              refine take_p 9 138 (.bool false) rfl rfl (by kernel_rfl) (by kernel_rfl) (by kernel_rfl) (fun _ _ _ h => h) rfl (fun w => by go_simp) ?_
              try simp only [List.setIfInBounds_toArray, List.set_cons_zero, List.set_cons_succ]
              refine done_f (by kernel_rfl) ?_ _
              clear hS
              go_wp2
              go_roundw
              case rel => exact ⟨p + 1, by omega, by go_num, HBp.out.drew⟩
              case measure => simp [intOf]; omega
            · have gin : ¬ (p : Int) < (n' : Int) := by omega
              clear hBp BW
              go_wp2
              go_roundw
              case rel => exact ⟨j + 1, x', y', N', M', by omega, by omega, by go_num, TT.out.below HBW.out, AA.out, SS.out, UU.out, FF.out, BB.out.trans (HBW.out.mono BB.out.size)⟩
              case measure => simp [intOf]; omega
        by_cases e3 : kd = 3
        · subst e3
          clear h5 h6 h5b h6b h7 h8 h9 h7i
          go_wp2_with fail
          refine (double_any T1.out.net k i SS.out.len).mono ?_
          rintro e W ⟨rfl, x', hn, hv⟩
          have TT := hide1 (T1.out.called hn hv)
          have BB : Hid (Below w.heap.size w W) := B1.out.trans (HT.out ▸ hv.below T1.out.net)
          have GG2 : Hid (A6 W ab 0 3 k i kk s b ∧ ab < W.heap.size) := by
            have l := LA.out
            have gg := GG.out
            exact ⟨gg.1.same (hv.kept ab gg.2 (by omega) (fun k' hk' e => by have := l.2.2.1 k' hk' ab e; omega)), Nat.lt_of_lt_of_le gg.2 hv.size⟩
          have SS' := hide1 (SS.out.dbl (k : Int) i)
          have UU' := hide1 (UU.out.dbl (k : Int) i)
          clear hn hv T1 B1 GG SS UU LA
          have SS := SS'
          have UU := UU'
          have GG := GG2
          clear SS' UU' GG2 d0 d1 d2 d3 d4 d5
          obtain ⟨d0, d1, d2, d3, d4, d5⟩ := GG.out.1
          rw [Nat.zero_add] at d1 d2 d3 d4 d5
          generalize dblN N (k : Int) i = N' at *
          generalize hy' : y = y' at *
          generalize hM' : M = M' at *
          clear hy' hM'
          go_wp2_with fail
          have hAl := all_any TT.out.net SS.out k HK.out
          refine hAl.mono ?_
          rintro e W7 ⟨l, rfl, hl, hb7⟩
          have h64 := SS.out.len k
          obtain ⟨la, lc, rfl⟩ := hl.form
          obtain ⟨n', hn'⟩ : ∃ n', (N' k).length = n' := ⟨_, rfl⟩
          have HL := hide1 hl
          have HN' := hide1 hn'
          rw [hn'] at HL h64 ⊢
          have HB7 := hide1 hb7
          have h64i : ¬ (64 : Int) < (n' : Int) := by omega
          clear hAl hl hb7 hn'
          go_wp2_with fail
          go_loopw [10] (fun v wr => ∃ p : Nat, p ≤ n' ∧ v = .int .i64 (p : Int) ∧ Below W7.heap.size W7 wr) (fun v _ => n' - (intOf v).toNat)
          case atStart => exact ⟨0, Nat.zero_le _, rfl, Below.refl _ _⟩
          case round =>
            obtain ⟨p, hp, rfl, hBp⟩ := hrel
            have HBp := hide1 hBp
            have BW : Below W.heap.size W wr := HB7.out.trans (hBp.mono HB7.out.size)
            have HBW := hide1 BW
            by_cases hpn : p < n'
            · have gin : (p : Int) < (n' : Int) := by omega
              have hpA : p < (N' k).length := by have := HN'.out; omega
              obtain ⟨lg, lc2, e2, hcc, _, _⟩ := (HL.out.below hBp (Nat.le_refl _)).cell hpA
              rw [HN'.out] at e2
              cases e2
              have hT := TT.out.below BW
              have h6 := GG.out.1.same (BW.block ab GG.out.2)
              have c1 := h6.c1
              rw [Nat.zero_add] at c1
              have hyc : wr.cell? ⟨r, k, none⟩ = some (y' k) := by
                rw [cell_of_row wr r k _ _ _ hT.row]
                rcases (show k = 0 ∨ k = 1 by have := HK.out; omega) with rfl | rfl <;> rfl
              have hmem : (N' k).getD p ByteArray.empty ∈ M' k := UU.out k _ (getD_mem hpA)
              have kH : ∀ W, Below wr.heap.size wr W → Hid (Calls Try.prog 14 #[y' k, .string ((N' k).getD p ByteArray.empty)] W fun e w' => e = .returned (.bool true) ∧ w' = W) := fun W hW => has_any ((hT.below hW).own k HK.out).rd _ hmem (by have := FF.out k; have := HJ.out; omega)
              obtain ⟨ya, yc, hy⟩ := (hT.own k HK.out).form
              rw [hy] at hyc kH
              generalize (M' k).length = ny at *
              generalize (N' k).getD p ByteArray.empty = s' at *
              have KH := hide1 kH
              have C1 := hide1 c1
              have CY := hide1 hyc
              have CL := hide1 hcc
              have hk2 : (k : Int) < 2 := by have := HK.out; omega
              clear hT h6 hmem hy BW hBp kH c1 hyc hcc
              go_upto_region 26 with (fail)
              refine region_f (F := []) (S := fun W => W.cell? ⟨ab, 1, none⟩ = some (.int .i64 (k : Int)) ∧ W.cell? ⟨r, k, none⟩ = some (.slice ya ny yc) ∧ W.cell? ⟨lg, p, none⟩ = some (.string s')) (by kernel_rfl) ⟨C1.out, CY.out, CL.out⟩ (fun hS => ?_)
              refine take_p 0 129 (.pointer (some ⟨ab, 1, none⟩)) rfl rfl (by kernel_rfl) (by kernel_rfl) (by kernel_rfl) (fun _ _ _ h => h) rfl (fun w => by go_simp) ?_
              try simp only [List.setIfInBounds_toArray, List.set_cons_zero, List.set_cons_succ]
              refine take_f 1 130 (.int .i64 (k : Int)) [2, 3, 8, 9] rfl rfl (by kernel_rfl) (by kernel_rfl) (by kernel_rfl) (by kernel_rfl) (by kernel_rfl) (by kernel_rfl) (fun _ _ _ h => h) rfl (fun w hSw => by obtain ⟨g0, g1, g2⟩ := hSw; go_simp) hS ?_
              try simp only [List.setIfInBounds_toArray, List.set_cons_zero, List.set_cons_succ]
              refine take_p 2 131 (.pointer (some ⟨r, k, none⟩)) rfl rfl (by kernel_rfl) (by kernel_rfl) (by kernel_rfl) (fun _ _ _ h => h) rfl (fun w => by go_simp) ?_
              try simp only [List.setIfInBounds_toArray, List.set_cons_zero, List.set_cons_succ]
              refine take_f 3 132 (.slice ya ny yc) [8, 9] rfl rfl (by kernel_rfl) (by kernel_rfl) (by kernel_rfl) (by kernel_rfl) (by kernel_rfl) (by kernel_rfl) (fun _ _ _ h => h) rfl (fun w hSw => by obtain ⟨g0, g1, g2⟩ := hSw; go_simp) hS ?_
              try simp only [List.setIfInBounds_toArray, List.set_cons_zero, List.set_cons_succ]
              refine take_p 4 133 (.slice (some ⟨lg, 0, none⟩) n' lc) rfl rfl (by kernel_rfl) (by kernel_rfl) (by kernel_rfl) (fun _ _ _ h => h) rfl (fun w => by go_simp) ?_
              try simp only [List.setIfInBounds_toArray, List.set_cons_zero, List.set_cons_succ]
              refine take_p 5 134 (.int .i64 (p : Int)) rfl rfl (by kernel_rfl) (by kernel_rfl) (by kernel_rfl) (fun _ _ _ h => h) rfl (fun w => by go_simp) ?_
              try simp only [List.setIfInBounds_toArray, List.set_cons_zero, List.set_cons_succ]
              refine take_p 6 135 (.pointer (some ⟨lg, p, none⟩)) rfl rfl (by kernel_rfl) (by kernel_rfl) (by kernel_rfl) (fun _ _ _ h => h) rfl (fun w => by go_simp) ?_
              try simp only [List.setIfInBounds_toArray, List.set_cons_zero, List.set_cons_succ]
              refine take_f 7 136 (.string s') [8, 9] rfl rfl (by kernel_rfl) (by kernel_rfl) (by kernel_rfl) (by kernel_rfl) (by kernel_rfl) (by kernel_rfl) (fun _ _ _ h => h) rfl (fun w hSw => by obtain ⟨g0, g1, g2⟩ := hSw; go_simp) hS ?_
              try simp only [List.setIfInBounds_toArray, List.set_cons_zero, List.set_cons_succ]
              refine ready_f 8 (o := { dst := some 137, op := Op.call { callee := Callee.value (Operand.func 14), args := #[Operand.tmp 132, Operand.tmp 136], argTypes := #[25, 9] }, type := 4, pos := "law.go:112", after := #[{ on := 3, ground := Ground.data }, { on := 7, ground := Ground.data }], guard := none }) (by kernel_rfl) rfl (fun K hK => ?_)
              go_simp
              refine (KH.out _ (Below.refl _ _).drew).out.mono ?_
              rintro e W9 ⟨rfl, hw9⟩
              obtain rfl := hw9.symm
              refine hK.out _ _ (fun _ h => h) ?_
              clear hK K
              try simp only [Act.put, List.setIfInBounds_toArray, List.set_cons_zero, List.set_cons_succ]
              refine take_p 9 138 (.bool false) rfl rfl (by kernel_rfl) (by kernel_rfl) (by kernel_rfl) (fun _ _ _ h => h) rfl (fun w => by go_simp) ?_
              try simp only [List.setIfInBounds_toArray, List.set_cons_zero, List.set_cons_succ]
              refine done_f (by kernel_rfl) ?_ _
              clear hS
              go_wp2
              go_roundw
              case rel => exact ⟨p + 1, by omega, by go_num, HBp.out.drew⟩
              case measure => simp [intOf]; omega
            · have gin : ¬ (p : Int) < (n' : Int) := by omega
              clear hBp BW
              go_wp2
              go_roundw
              case rel => exact ⟨j + 1, x', y', N', M', by omega, by omega, by go_num, TT.out.below HBW.out, AA.out, SS.out, UU.out, FF.out, BB.out.trans (HBW.out.mono BB.out.size)⟩
              case measure => simp [intOf]; omega
        by_cases e4 : kd = 4
        · subst e4
          clear h5 h6 h5b h6b h7 h8 h9 h7i
          go_wp2_with fail
          refine (swap_any T1.out.net k i kk).mono ?_
          rintro e W ⟨rfl, x', hn, hv⟩
          have TT := hide1 (T1.out.called hn hv)
          have BB : Hid (Below w.heap.size w W) := B1.out.trans (HT.out ▸ hv.below T1.out.net)
          have GG2 : Hid (A6 W ab 0 4 k i kk s b ∧ ab < W.heap.size) := by
            have l := LA.out
            have gg := GG.out
            exact ⟨gg.1.same (hv.kept ab gg.2 (by omega) (fun k' hk' e => by have := l.2.2.1 k' hk' ab e; omega)), Nat.lt_of_lt_of_le gg.2 hv.size⟩
          have SS' := hide1 (SS.out.swp (k : Int) i kk)
          have UU' := hide1 (UU.out.swp (k : Int) i kk)
          clear hn hv T1 B1 GG SS UU LA
          have SS := SS'
          have UU := UU'
          have GG := GG2
          clear SS' UU' GG2 d0 d1 d2 d3 d4 d5
          obtain ⟨d0, d1, d2, d3, d4, d5⟩ := GG.out.1
          rw [Nat.zero_add] at d1 d2 d3 d4 d5
          generalize swpN N (k : Int) i kk = N' at *
          generalize hy' : y = y' at *
          generalize hM' : M = M' at *
          clear hy' hM'
          go_wp2_with fail
          have hAl := all_any TT.out.net SS.out k HK.out
          refine hAl.mono ?_
          rintro e W7 ⟨l, rfl, hl, hb7⟩
          have h64 := SS.out.len k
          obtain ⟨la, lc, rfl⟩ := hl.form
          obtain ⟨n', hn'⟩ : ∃ n', (N' k).length = n' := ⟨_, rfl⟩
          have HL := hide1 hl
          have HN' := hide1 hn'
          rw [hn'] at HL h64 ⊢
          have HB7 := hide1 hb7
          have h64i : ¬ (64 : Int) < (n' : Int) := by omega
          clear hAl hl hb7 hn'
          go_wp2_with fail
          go_loopw [10] (fun v wr => ∃ p : Nat, p ≤ n' ∧ v = .int .i64 (p : Int) ∧ Below W7.heap.size W7 wr) (fun v _ => n' - (intOf v).toNat)
          case atStart => exact ⟨0, Nat.zero_le _, rfl, Below.refl _ _⟩
          case round =>
            obtain ⟨p, hp, rfl, hBp⟩ := hrel
            have HBp := hide1 hBp
            have BW : Below W.heap.size W wr := HB7.out.trans (hBp.mono HB7.out.size)
            have HBW := hide1 BW
            by_cases hpn : p < n'
            · have gin : (p : Int) < (n' : Int) := by omega
              have hpA : p < (N' k).length := by have := HN'.out; omega
              obtain ⟨lg, lc2, e2, hcc, _, _⟩ := (HL.out.below hBp (Nat.le_refl _)).cell hpA
              rw [HN'.out] at e2
              cases e2
              have hT := TT.out.below BW
              have h6 := GG.out.1.same (BW.block ab GG.out.2)
              have c1 := h6.c1
              rw [Nat.zero_add] at c1
              have hyc : wr.cell? ⟨r, k, none⟩ = some (y' k) := by
                rw [cell_of_row wr r k _ _ _ hT.row]
                rcases (show k = 0 ∨ k = 1 by have := HK.out; omega) with rfl | rfl <;> rfl
              have hmem : (N' k).getD p ByteArray.empty ∈ M' k := UU.out k _ (getD_mem hpA)
              have kH : ∀ W, Below wr.heap.size wr W → Hid (Calls Try.prog 14 #[y' k, .string ((N' k).getD p ByteArray.empty)] W fun e w' => e = .returned (.bool true) ∧ w' = W) := fun W hW => has_any ((hT.below hW).own k HK.out).rd _ hmem (by have := FF.out k; have := HJ.out; omega)
              obtain ⟨ya, yc, hy⟩ := (hT.own k HK.out).form
              rw [hy] at hyc kH
              generalize (M' k).length = ny at *
              generalize (N' k).getD p ByteArray.empty = s' at *
              have KH := hide1 kH
              have C1 := hide1 c1
              have CY := hide1 hyc
              have CL := hide1 hcc
              have hk2 : (k : Int) < 2 := by have := HK.out; omega
              clear hT h6 hmem hy BW hBp kH c1 hyc hcc
              go_upto_region 26 with (fail)
              refine region_f (F := []) (S := fun W => W.cell? ⟨ab, 1, none⟩ = some (.int .i64 (k : Int)) ∧ W.cell? ⟨r, k, none⟩ = some (.slice ya ny yc) ∧ W.cell? ⟨lg, p, none⟩ = some (.string s')) (by kernel_rfl) ⟨C1.out, CY.out, CL.out⟩ (fun hS => ?_)
              refine take_p 0 129 (.pointer (some ⟨ab, 1, none⟩)) rfl rfl (by kernel_rfl) (by kernel_rfl) (by kernel_rfl) (fun _ _ _ h => h) rfl (fun w => by go_simp) ?_
              try simp only [List.setIfInBounds_toArray, List.set_cons_zero, List.set_cons_succ]
              refine take_f 1 130 (.int .i64 (k : Int)) [2, 3, 8, 9] rfl rfl (by kernel_rfl) (by kernel_rfl) (by kernel_rfl) (by kernel_rfl) (by kernel_rfl) (by kernel_rfl) (fun _ _ _ h => h) rfl (fun w hSw => by obtain ⟨g0, g1, g2⟩ := hSw; go_simp) hS ?_
              try simp only [List.setIfInBounds_toArray, List.set_cons_zero, List.set_cons_succ]
              refine take_p 2 131 (.pointer (some ⟨r, k, none⟩)) rfl rfl (by kernel_rfl) (by kernel_rfl) (by kernel_rfl) (fun _ _ _ h => h) rfl (fun w => by go_simp) ?_
              try simp only [List.setIfInBounds_toArray, List.set_cons_zero, List.set_cons_succ]
              refine take_f 3 132 (.slice ya ny yc) [8, 9] rfl rfl (by kernel_rfl) (by kernel_rfl) (by kernel_rfl) (by kernel_rfl) (by kernel_rfl) (by kernel_rfl) (fun _ _ _ h => h) rfl (fun w hSw => by obtain ⟨g0, g1, g2⟩ := hSw; go_simp) hS ?_
              try simp only [List.setIfInBounds_toArray, List.set_cons_zero, List.set_cons_succ]
              refine take_p 4 133 (.slice (some ⟨lg, 0, none⟩) n' lc) rfl rfl (by kernel_rfl) (by kernel_rfl) (by kernel_rfl) (fun _ _ _ h => h) rfl (fun w => by go_simp) ?_
              try simp only [List.setIfInBounds_toArray, List.set_cons_zero, List.set_cons_succ]
              refine take_p 5 134 (.int .i64 (p : Int)) rfl rfl (by kernel_rfl) (by kernel_rfl) (by kernel_rfl) (fun _ _ _ h => h) rfl (fun w => by go_simp) ?_
              try simp only [List.setIfInBounds_toArray, List.set_cons_zero, List.set_cons_succ]
              refine take_p 6 135 (.pointer (some ⟨lg, p, none⟩)) rfl rfl (by kernel_rfl) (by kernel_rfl) (by kernel_rfl) (fun _ _ _ h => h) rfl (fun w => by go_simp) ?_
              try simp only [List.setIfInBounds_toArray, List.set_cons_zero, List.set_cons_succ]
              refine take_f 7 136 (.string s') [8, 9] rfl rfl (by kernel_rfl) (by kernel_rfl) (by kernel_rfl) (by kernel_rfl) (by kernel_rfl) (by kernel_rfl) (fun _ _ _ h => h) rfl (fun w hSw => by obtain ⟨g0, g1, g2⟩ := hSw; go_simp) hS ?_
              try simp only [List.setIfInBounds_toArray, List.set_cons_zero, List.set_cons_succ]
              refine ready_f 8 (o := { dst := some 137, op := Op.call { callee := Callee.value (Operand.func 14), args := #[Operand.tmp 132, Operand.tmp 136], argTypes := #[25, 9] }, type := 4, pos := "law.go:112", after := #[{ on := 3, ground := Ground.data }, { on := 7, ground := Ground.data }], guard := none }) (by kernel_rfl) rfl (fun K hK => ?_)
              go_simp
              refine (KH.out _ (Below.refl _ _).drew).out.mono ?_
              rintro e W9 ⟨rfl, hw9⟩
              obtain rfl := hw9.symm
              refine hK.out _ _ (fun _ h => h) ?_
              clear hK K
              try simp only [Act.put, List.setIfInBounds_toArray, List.set_cons_zero, List.set_cons_succ]
              refine take_p 9 138 (.bool false) rfl rfl (by kernel_rfl) (by kernel_rfl) (by kernel_rfl) (fun _ _ _ h => h) rfl (fun w => by go_simp) ?_
              try simp only [List.setIfInBounds_toArray, List.set_cons_zero, List.set_cons_succ]
              refine done_f (by kernel_rfl) ?_ _
              clear hS
              go_wp2
              go_roundw
              case rel => exact ⟨p + 1, by omega, by go_num, HBp.out.drew⟩
              case measure => simp [intOf]; omega
            · have gin : ¬ (p : Int) < (n' : Int) := by omega
              clear hBp BW
              go_wp2
              go_roundw
              case rel => exact ⟨j + 1, x', y', N', M', by omega, by omega, by go_num, TT.out.below HBW.out, AA.out, SS.out, UU.out, FF.out, BB.out.trans (HBW.out.mono BB.out.size)⟩
              case measure => simp [intOf]; omega
        by_cases e0 : kd = 0
        · subst e0
          clear h5 h6 h5b h6b h7 h8 h9 h7i
          go_wp2_with fail
          refine (send_any T1.out.net k s).mono ?_
          rintro e W1 ⟨rfl, x1, hn, hv⟩
          have TT1 := hide1 (T1.out.called hn hv)
          have BB1 : Hid (Below w.heap.size w W1) := B1.out.trans (HT.out ▸ hv.below T1.out.net)
          have G1 : Hid (A6 W1 ab 0 0 k i kk s b ∧ ab < W1.heap.size) := by
            have l := LA.out
            have gg := GG.out
            exact ⟨gg.1.same (hv.kept ab gg.2 (by omega) (fun k' hk' e => by have := l.2.2.1 k' hk' ab e; omega)), Nat.lt_of_lt_of_le gg.2 hv.size⟩
          have SS1 := hide1 (SS.out.snd (k : Int) s)
          have UU1 := hide1 (UU.out.snd k s)
          clear hn hv T1 B1 GG d0 d1 d2 d3 d4 d5
          obtain ⟨e0, e1, e2, e3, e4, e5⟩ := G1.out.1
          rw [Nat.zero_add] at e1 e2 e3 e4 e5
          have C1 := hide1 e1
          have C4 := hide1 e4
          have LL : Hid (ab < W1.heap.size ∧ r < W1.heap.size) := ⟨G1.out.2, lt_heap TT1.out.row⟩
          have CY : Hid (W1.cell? ⟨r, k, none⟩ = some (y k)) := by
            show W1.cell? ⟨r, k, none⟩ = some (y k)
            rw [cell_of_row W1 r k _ _ _ TT1.out.row]
            rcases (show k = 0 ∨ k = 1 by omega) with rfl | rfl <;> rfl
          obtain ⟨ya, yc, hy⟩ := (TT1.out.own k hk).form
          have HY := hide1 hy
          rw [hy] at CY
          obtain ⟨ny, hny⟩ : ∃ ny, (M k).length = ny := ⟨_, rfl⟩
          rw [hny] at CY HY
          have NE1 : Hid (some ab ≠ (y k).ownBlock) := fun e => by have := LA.out.2.2.2 k HK.out ab e.symm; omega
          have NE2 : Hid (some r ≠ (y k).ownBlock) := fun e => TT1.out.yr k HK.out e.symm
          clear e0 e1 e2 e3 e4 e5 hy hny SS UU
          go_upto_region 11 with (fail)
          refine region_f (F := [11]) (S := fun W => W.cell? ⟨ab, 1, none⟩ = some (.int .i64 (k : Int)) ∧ W.cell? ⟨r, k, none⟩ = some (.slice ya ny yc) ∧ W.cell? ⟨ab, 4, none⟩ = some (.string s) ∧ ab < W.heap.size ∧ r < W.heap.size) (by kernel_rfl) ⟨C1.out, CY.out, C4.out, LL.out⟩ (fun hS => ?_)
          generalize hU : World.drew W1 = U at hS ⊢
          have bU : Hid (Below W1.heap.size W1 U) := by rw [← hU]; exact (Below.refl _ _).drew
          clear hU
          refine take_p 0 60 (.pointer (some ⟨ab, 1, none⟩)) rfl rfl (by kernel_rfl) (by kernel_rfl) (by kernel_rfl) (fun _ _ _ h => h) rfl (fun w => by go_simp) ?_
          try simp only [List.setIfInBounds_toArray, List.set_cons_zero, List.set_cons_succ]
          refine take_f 1 61 (.int .i64 (k : Int)) [10, 11] rfl rfl (by kernel_rfl) (by kernel_rfl) (by kernel_rfl) (by kernel_rfl) (by kernel_rfl) (by kernel_rfl) (fun _ _ _ h => h) rfl (fun w hSw => by obtain ⟨g0, g1, g2, g3, g4⟩ := hSw; go_simp) hS ?_
          try simp only [List.setIfInBounds_toArray, List.set_cons_zero, List.set_cons_succ]
          refine take_p 2 62 (.pointer (some ⟨ab, 1, none⟩)) rfl rfl (by kernel_rfl) (by kernel_rfl) (by kernel_rfl) (fun _ _ _ h => h) rfl (fun w => by go_simp) ?_
          try simp only [List.setIfInBounds_toArray, List.set_cons_zero, List.set_cons_succ]
          refine take_f 3 63 (.int .i64 (k : Int)) [4, 5, 9, 10, 11] rfl rfl (by kernel_rfl) (by kernel_rfl) (by kernel_rfl) (by kernel_rfl) (by kernel_rfl) (by kernel_rfl) (fun _ _ _ h => h) rfl (fun w hSw => by obtain ⟨g0, g1, g2, g3, g4⟩ := hSw; go_simp) hS ?_
          try simp only [List.setIfInBounds_toArray, List.set_cons_zero, List.set_cons_succ]
          refine take_p 4 64 (.pointer (some ⟨r, k, none⟩)) rfl rfl (by kernel_rfl) (by kernel_rfl) (by kernel_rfl) (fun _ _ _ h => h) rfl (fun w => by go_simp) ?_
          try simp only [List.setIfInBounds_toArray, List.set_cons_zero, List.set_cons_succ]
          refine take_f 5 65 (.slice ya ny yc) [9, 10, 11] rfl rfl (by kernel_rfl) (by kernel_rfl) (by kernel_rfl) (by kernel_rfl) (by kernel_rfl) (by kernel_rfl) (fun _ _ _ h => h) rfl (fun w hSw => by obtain ⟨g0, g1, g2, g3, g4⟩ := hSw; go_simp) hS ?_
          try simp only [List.setIfInBounds_toArray, List.set_cons_zero, List.set_cons_succ]
          refine take_p 6 66 (.pointer (some ⟨ab, 4, none⟩)) rfl rfl (by kernel_rfl) (by kernel_rfl) (by kernel_rfl) (fun _ _ _ h => h) rfl (fun w => by go_simp) ?_
          try simp only [List.setIfInBounds_toArray, List.set_cons_zero, List.set_cons_succ]
          refine take_f 7 67 (.string s) [8, 9, 10, 11] rfl rfl (by kernel_rfl) (by kernel_rfl) (by kernel_rfl) (by kernel_rfl) (by kernel_rfl) (by kernel_rfl) (fun _ _ _ h => h) rfl (fun w hSw => by obtain ⟨g0, g1, g2, g3, g4⟩ := hSw; go_simp) hS ?_
          try simp only [List.setIfInBounds_toArray, List.set_cons_zero, List.set_cons_succ]
          refine ready_f 8 (o := { dst := some 68, op := Op.buildSlice 25 1 #[(0, Operand.tmp 67)], type := 25, pos := "law.go:97", after := #[{ on := 7, ground := Ground.data }], guard := none }) (by kernel_rfl) rfl (fun K hK => ?_)
          go_simp
          refine hK.out _ _ (fun _ h => ⟨((below1 _).cell (p := ⟨ab, _, none⟩) h.2.2.2.1).trans h.1, ((below1 _).cell (p := ⟨r, _, none⟩) h.2.2.2.2).trans h.2.1, ((below1 _).cell (p := ⟨ab, _, none⟩) h.2.2.2.1).trans h.2.2.1, Nat.lt_of_lt_of_le h.2.2.2.1 (below1 _).size, Nat.lt_of_lt_of_le h.2.2.2.2 (below1 _).size⟩) ?_
          clear hK K
          try simp only [Act.put, List.setIfInBounds_toArray, List.set_cons_zero, List.set_cons_succ]
          generalize hU : World.alloc U _ = U2
          have b2 : Hid (Below W1.heap.size W1 U2) := by rw [← hU]; exact bU.out.alloc bU.out.size _
          have rd : Hid (Rdl U2 (.slice (some ⟨U.heap.size, 0, none⟩) 1 1) [s]) := by rw [← hU]; exact Rdl.one _ _
          clear hU bU
          refine ready_f 9 (o := { dst := some 69, op := Op.call { callee := Callee.builtin Builtin.append, args := #[Operand.tmp 65, Operand.tmp 68], argTypes := #[25, 25] }, type := 25, pos := "law.go:97", after := #[{ on := 5, ground := Ground.data }, { on := 8, ground := Ground.data }], guard := none }) (by kernel_rfl) rfl (fun K hK => ?_)
          rw [if_pos (by rfl)]
          refine wp_append_lst (B := t) (A := M k) (C := [s]) _ _ rfl rfl rfl (HY.out ▸ (TT1.out.below b2.out).own k HK.out) rd.out (by have := FF0.out k; have := HJ.out; simp; omega) (by have := BB1.out.size; have := b2.out.size; have := HT.out; omega) ?_
          intro v' W3 ho hg hf
          rw [← HY.out] at hg hf
          refine hK.out _ _ (fun _ h => ⟨hg.cell (a := ⟨ab, _, none⟩) h.1 NE1.out, hg.cell (a := ⟨r, _, none⟩) h.2.1 NE2.out, hg.cell (a := ⟨ab, _, none⟩) h.2.2.1 NE1.out, Nat.lt_of_lt_of_le h.2.2.2.1 hg.size, Nat.lt_of_lt_of_le h.2.2.2.2 hg.size⟩) ?_
          clear hK K
          try simp only [Act.put, List.setIfInBounds_toArray, List.set_cons_zero, List.set_cons_succ]
          have FI := TT1.out.sent AA.out HK.out b2.out hg ho hf
          obtain ⟨⟨fz, fc⟩, tr, ap, kp⟩ := FI
          have hbt : Below w.heap.size W1 (W3.setCell ⟨r, k, none⟩ v') := (b2.out.mono BB1.out.size).trans (((Below.refl _ _).grown hg (Nat.le_trans BB1.out.size b2.out.size) (fun g hgg => by have := ((TT1.out.own k HK.out).lt hgg).1; have := HT.out; omega)).setCell (p := ⟨r, k, none⟩) (by have := TT1.out.low; have := HT.out; simp; omega) _)
          obtain ⟨a', c', rfl⟩ := ho.form
          generalize (M k ++ [s]).length = m' at *
          have TR := hide1 tr
          have AP := hide1 ap
          have KP := hide1 kp
          have HBT := hide1 hbt
          clear hg hf ho tr ap kp hbt hS rd
          refine take_p 10 70 (.pointer (some ⟨r, k, none⟩)) rfl rfl (by kernel_rfl) (by kernel_rfl) (by kernel_rfl) (fun _ _ _ h => h) rfl (fun w => by go_simp) ?_
          try simp only [List.setIfInBounds_toArray, List.set_cons_zero, List.set_cons_succ]
          refine ready_f 11 (o := { dst := none, op := Op.store 25 (Operand.tmp 70) (Operand.tmp 69), type := 0, pos := "law.go:97", after := #[{ on := 10, ground := Ground.data }, { on := 9, ground := Ground.data }, { on := 9, ground := Ground.chain }, { on := 0, ground := Ground.phase }, { on := 1, ground := Ground.phase }, { on := 2, ground := Ground.phase }, { on := 3, ground := Ground.phase }, { on := 4, ground := Ground.phase }, { on := 5, ground := Ground.phase }, { on := 6, ground := Ground.phase }, { on := 7, ground := Ground.phase }, { on := 8, ground := Ground.phase }, { on := 9, ground := Ground.phase }], guard := none }) (by kernel_rfl) rfl (fun K hK => ?_)
          go_simp
          refine hK.out _ _ (fun h => absurd (by decide) h) ?_
          clear hK K
          refine done_f (by kernel_rfl) ?_ _
          generalize hW : World.setCell _ _ _ = W
          rw [hW] at TR HBT
          have KP' : Hid (∀ g, g < W1.heap.size → g ≠ r → (y k).ownBlock ≠ some g → W.heap[g]? = W1.heap[g]?) := fun g => by rw [← hW]; exact KP.out g
          have TT := TR
          have AA2 := AP
          have BB : Hid (Below w.heap.size w W) := BB1.out.trans HBT.out
          have GG : Hid (A6 W ab 0 0 k i kk s b ∧ ab < W.heap.size) := by
            have l := LA.out
            exact ⟨G1.out.1.same (KP'.out ab G1.out.2 (by omega) (fun e => by have := l.2.2.2 k HK.out ab e; omega)), Nat.lt_of_lt_of_le G1.out.2 HBT.out.size⟩
          have FF2 : Hid (∀ k', (upd M k (M k ++ [s]) k').length ≤ j + 1) := fun k' => by
            by_cases hkk : k' = k
            · rw [hkk, upd_same]
              have := FF0.out k
              simp
              omega
            · rw [upd_other _ _ hkk]
              exact FF.out k'
          clear hW TR AP KP KP' HBT TT1 BB1 G1 LA FF AA C1 C4 LL CY HY FF0 fz fc b2
          have SS := SS1
          have UU := UU1
          have AA := AA2
          have FF := FF2
          clear SS1 UU1 AA2 FF2
          obtain ⟨d0, d1, d2, d3, d4, d5⟩ := GG.out.1
          rw [Nat.zero_add] at d1 d2 d3 d4 d5
          generalize sndN N (k : Int) s = N' at *
          generalize upd y k _ = y' at *
          generalize upd M k (M k ++ [s]) = M' at *
          generalize hx' : x1 = x' at *
          clear hx'
          go_wp2_with fail
          have hAl := all_any TT.out.net SS.out k HK.out
          refine hAl.mono ?_
          rintro e W7 ⟨l, rfl, hl, hb7⟩
          have h64 := SS.out.len k
          obtain ⟨la, lc, rfl⟩ := hl.form
          obtain ⟨n', hn'⟩ : ∃ n', (N' k).length = n' := ⟨_, rfl⟩
          have HL := hide1 hl
          have HN' := hide1 hn'
          rw [hn'] at HL h64 ⊢
          have HB7 := hide1 hb7
          have h64i : ¬ (64 : Int) < (n' : Int) := by omega
          clear hAl hl hb7 hn'
          go_wp2_with fail
          go_loopw [10] (fun v wr => ∃ p : Nat, p ≤ n' ∧ v = .int .i64 (p : Int) ∧ Below W7.heap.size W7 wr) (fun v _ => n' - (intOf v).toNat)
          case atStart => exact ⟨0, Nat.zero_le _, rfl, Below.refl _ _⟩
          case round =>
            obtain ⟨p, hp, rfl, hBp⟩ := hrel
            have HBp := hide1 hBp
            have BW : Below W.heap.size W wr := HB7.out.trans (hBp.mono HB7.out.size)
            have HBW := hide1 BW
            by_cases hpn : p < n'
            · have gin : (p : Int) < (n' : Int) := by omega
              have hpA : p < (N' k).length := by have := HN'.out; omega
              obtain ⟨lg, lc2, e2, hcc, _, _⟩ := (HL.out.below hBp (Nat.le_refl _)).cell hpA
              rw [HN'.out] at e2
              cases e2
              have hT := TT.out.below BW
              have h6 := GG.out.1.same (BW.block ab GG.out.2)
              have c1 := h6.c1
              rw [Nat.zero_add] at c1
              have hyc : wr.cell? ⟨r, k, none⟩ = some (y' k) := by
                rw [cell_of_row wr r k _ _ _ hT.row]
                rcases (show k = 0 ∨ k = 1 by have := HK.out; omega) with rfl | rfl <;> rfl
              have hmem : (N' k).getD p ByteArray.empty ∈ M' k := UU.out k _ (getD_mem hpA)
              have kH : ∀ W, Below wr.heap.size wr W → Hid (Calls Try.prog 14 #[y' k, .string ((N' k).getD p ByteArray.empty)] W fun e w' => e = .returned (.bool true) ∧ w' = W) := fun W hW => has_any ((hT.below hW).own k HK.out).rd _ hmem (by have := FF.out k; have := HJ.out; omega)
              obtain ⟨ya, yc, hy⟩ := (hT.own k HK.out).form
              rw [hy] at hyc kH
              generalize (M' k).length = ny at *
              generalize (N' k).getD p ByteArray.empty = s' at *
              have KH := hide1 kH
              have C1 := hide1 c1
              have CY := hide1 hyc
              have CL := hide1 hcc
              have hk2 : (k : Int) < 2 := by have := HK.out; omega
              clear hT h6 hmem hy BW hBp kH c1 hyc hcc
              go_upto_region 26 with (fail)
              refine region_f (F := []) (S := fun W => W.cell? ⟨ab, 1, none⟩ = some (.int .i64 (k : Int)) ∧ W.cell? ⟨r, k, none⟩ = some (.slice ya ny yc) ∧ W.cell? ⟨lg, p, none⟩ = some (.string s')) (by kernel_rfl) ⟨C1.out, CY.out, CL.out⟩ (fun hS => ?_)
              refine take_p 0 129 (.pointer (some ⟨ab, 1, none⟩)) rfl rfl (by kernel_rfl) (by kernel_rfl) (by kernel_rfl) (fun _ _ _ h => h) rfl (fun w => by go_simp) ?_
              try simp only [List.setIfInBounds_toArray, List.set_cons_zero, List.set_cons_succ]
              refine take_f 1 130 (.int .i64 (k : Int)) [2, 3, 8, 9] rfl rfl (by kernel_rfl) (by kernel_rfl) (by kernel_rfl) (by kernel_rfl) (by kernel_rfl) (by kernel_rfl) (fun _ _ _ h => h) rfl (fun w hSw => by obtain ⟨g0, g1, g2⟩ := hSw; go_simp) hS ?_
              try simp only [List.setIfInBounds_toArray, List.set_cons_zero, List.set_cons_succ]
              refine take_p 2 131 (.pointer (some ⟨r, k, none⟩)) rfl rfl (by kernel_rfl) (by kernel_rfl) (by kernel_rfl) (fun _ _ _ h => h) rfl (fun w => by go_simp) ?_
              try simp only [List.setIfInBounds_toArray, List.set_cons_zero, List.set_cons_succ]
              refine take_f 3 132 (.slice ya ny yc) [8, 9] rfl rfl (by kernel_rfl) (by kernel_rfl) (by kernel_rfl) (by kernel_rfl) (by kernel_rfl) (by kernel_rfl) (fun _ _ _ h => h) rfl (fun w hSw => by obtain ⟨g0, g1, g2⟩ := hSw; go_simp) hS ?_
              try simp only [List.setIfInBounds_toArray, List.set_cons_zero, List.set_cons_succ]
              refine take_p 4 133 (.slice (some ⟨lg, 0, none⟩) n' lc) rfl rfl (by kernel_rfl) (by kernel_rfl) (by kernel_rfl) (fun _ _ _ h => h) rfl (fun w => by go_simp) ?_
              try simp only [List.setIfInBounds_toArray, List.set_cons_zero, List.set_cons_succ]
              refine take_p 5 134 (.int .i64 (p : Int)) rfl rfl (by kernel_rfl) (by kernel_rfl) (by kernel_rfl) (fun _ _ _ h => h) rfl (fun w => by go_simp) ?_
              try simp only [List.setIfInBounds_toArray, List.set_cons_zero, List.set_cons_succ]
              refine take_p 6 135 (.pointer (some ⟨lg, p, none⟩)) rfl rfl (by kernel_rfl) (by kernel_rfl) (by kernel_rfl) (fun _ _ _ h => h) rfl (fun w => by go_simp) ?_
              try simp only [List.setIfInBounds_toArray, List.set_cons_zero, List.set_cons_succ]
              refine take_f 7 136 (.string s') [8, 9] rfl rfl (by kernel_rfl) (by kernel_rfl) (by kernel_rfl) (by kernel_rfl) (by kernel_rfl) (by kernel_rfl) (fun _ _ _ h => h) rfl (fun w hSw => by obtain ⟨g0, g1, g2⟩ := hSw; go_simp) hS ?_
              try simp only [List.setIfInBounds_toArray, List.set_cons_zero, List.set_cons_succ]
              refine ready_f 8 (o := { dst := some 137, op := Op.call { callee := Callee.value (Operand.func 14), args := #[Operand.tmp 132, Operand.tmp 136], argTypes := #[25, 9] }, type := 4, pos := "law.go:112", after := #[{ on := 3, ground := Ground.data }, { on := 7, ground := Ground.data }], guard := none }) (by kernel_rfl) rfl (fun K hK => ?_)
              go_simp
              refine (KH.out _ (Below.refl _ _).drew).out.mono ?_
              rintro e W9 ⟨rfl, hw9⟩
              obtain rfl := hw9.symm
              refine hK.out _ _ (fun _ h => h) ?_
              clear hK K
              try simp only [Act.put, List.setIfInBounds_toArray, List.set_cons_zero, List.set_cons_succ]
              refine take_p 9 138 (.bool false) rfl rfl (by kernel_rfl) (by kernel_rfl) (by kernel_rfl) (fun _ _ _ h => h) rfl (fun w => by go_simp) ?_
              try simp only [List.setIfInBounds_toArray, List.set_cons_zero, List.set_cons_succ]
              refine done_f (by kernel_rfl) ?_ _
              clear hS
              go_wp2
              go_roundw
              case rel => exact ⟨p + 1, by omega, by go_num, HBp.out.drew⟩
              case measure => simp [intOf]; omega
            · have gin : ¬ (p : Int) < (n' : Int) := by omega
              clear hBp BW
              go_wp2
              go_roundw
              case rel => exact ⟨j + 1, x', y', N', M', by omega, by omega, by go_num, TT.out.below HBW.out, AA.out, SS.out, UU.out, FF.out, BB.out.trans (HBW.out.mono BB.out.size)⟩
              case measure => simp [intOf]; omega
        by_cases e1 : kd = 1
        · subst e1
          clear h5 h6 h5b h6b h7 h8 h9 h7i
          go_wp2_with fail
          refine (take_any T1.out.net k i SS.out.len).mono ?_
          rintro e W ⟨rfl, x', hn, hv⟩
          have TT := hide1 (T1.out.called hn hv)
          have BB : Hid (Below w.heap.size w W) := B1.out.trans (HT.out ▸ hv.below T1.out.net)
          have GG2 : Hid (A6 W ab 0 1 k i kk s b ∧ ab < W.heap.size) := by
            have l := LA.out
            have gg := GG.out
            exact ⟨gg.1.same (hv.kept ab gg.2 (by omega) (fun k' hk' e => by have := l.2.2.1 k' hk' ab e; omega)), Nat.lt_of_lt_of_le gg.2 hv.size⟩
          have SS' := hide1 (SS.out.tak (k : Int) i)
          have UU' := hide1 (UU.out.tak (k : Int) i)
          have MM : Hid (plc N (k : Int) i = 0 → takS N (k : Int) i ∈ M k) := fun hc => UU.out k _ (takS_mem hc)
          clear hn hv T1 B1 GG SS UU LA
          have SS := SS'
          have UU := UU'
          have GG := GG2
          clear SS' UU' GG2 d0 d1 d2 d3 d4 d5
          obtain ⟨d0, d1, d2, d3, d4, d5⟩ := GG.out.1
          rw [Nat.zero_add] at d1 d2 d3 d4 d5
          have hyc : W.cell? ⟨r, k, none⟩ = some (y k) := by
            rw [cell_of_row W r k _ _ _ TT.out.row]
            rcases (show k = 0 ∨ k = 1 by omega) with rfl | rfl <;> rfl
          have kH : Hid (takS N (k : Int) i ∈ M k → Calls Try.prog 14 #[y k, .string (takS N (k : Int) i)] W fun e w' => e = .returned (.bool true) ∧ w' = W) := fun hmem => has_any (TT.out.own k HK.out).rd _ hmem (by have := FF.out k; have := HJ.out; omega)
          obtain ⟨ya, yc, hy⟩ := (TT.out.own k HK.out).form
          rw [hy] at hyc kH
          generalize (M k).length = ny at *
          generalize takN N (k : Int) i = N' at *
          generalize takS N (k : Int) i = s' at *
          generalize hM' : M = M' at *
          generalize hy' : y = y' at *
          clear hM' hy hy'
          by_cases hc : plc N (k : Int) i = 0
          · have kH' := hide1 (kH.out (MM.out hc))
            rw [hc]
            clear kH MM hc
            go_wp2_with fail
            refine kH'.out.mono ?_
            rintro e W' ⟨rfl, hW'⟩
            obtain rfl := hW'.symm
            clear hyc kH'
            go_wp2_with fail
            have hAl := all_any TT.out.net SS.out k HK.out
            refine hAl.mono ?_
            rintro e W7 ⟨l, rfl, hl, hb7⟩
            have h64 := SS.out.len k
            obtain ⟨la, lc, rfl⟩ := hl.form
            obtain ⟨n', hn'⟩ : ∃ n', (N' k).length = n' := ⟨_, rfl⟩
            have HL := hide1 hl
            have HN' := hide1 hn'
            rw [hn'] at HL h64 ⊢
            have HB7 := hide1 hb7
            have h64i : ¬ (64 : Int) < (n' : Int) := by omega
            clear hAl hl hb7 hn'
            go_wp2_with fail
            go_loopw [10] (fun v wr => ∃ p : Nat, p ≤ n' ∧ v = .int .i64 (p : Int) ∧ Below W7.heap.size W7 wr) (fun v _ => n' - (intOf v).toNat)
            case atStart => exact ⟨0, Nat.zero_le _, rfl, Below.refl _ _⟩
            case round =>
              obtain ⟨p, hp, rfl, hBp⟩ := hrel
              have HBp := hide1 hBp
              have BW : Below W.heap.size W wr := HB7.out.trans (hBp.mono HB7.out.size)
              have HBW := hide1 BW
              by_cases hpn : p < n'
              · have gin : (p : Int) < (n' : Int) := by omega
                have hpA : p < (N' k).length := by have := HN'.out; omega
                obtain ⟨lg, lc2, e2, hcc, _, _⟩ := (HL.out.below hBp (Nat.le_refl _)).cell hpA
                rw [HN'.out] at e2
                cases e2
                have hT := TT.out.below BW
                have h6 := GG.out.1.same (BW.block ab GG.out.2)
                have c1 := h6.c1
                rw [Nat.zero_add] at c1
                have hyc : wr.cell? ⟨r, k, none⟩ = some (y' k) := by
                  rw [cell_of_row wr r k _ _ _ hT.row]
                  rcases (show k = 0 ∨ k = 1 by have := HK.out; omega) with rfl | rfl <;> rfl
                have hmem : (N' k).getD p ByteArray.empty ∈ M' k := UU.out k _ (getD_mem hpA)
                have kH : ∀ W, Below wr.heap.size wr W → Hid (Calls Try.prog 14 #[y' k, .string ((N' k).getD p ByteArray.empty)] W fun e w' => e = .returned (.bool true) ∧ w' = W) := fun W hW => has_any ((hT.below hW).own k HK.out).rd _ hmem (by have := FF.out k; have := HJ.out; omega)
                obtain ⟨ya, yc, hy⟩ := (hT.own k HK.out).form
                rw [hy] at hyc kH
                generalize (M' k).length = ny at *
                generalize (N' k).getD p ByteArray.empty = s' at *
                have KH := hide1 kH
                have C1 := hide1 c1
                have CY := hide1 hyc
                have CL := hide1 hcc
                have hk2 : (k : Int) < 2 := by have := HK.out; omega
                clear hT h6 hmem hy BW hBp kH c1 hyc hcc
                go_upto_region 26 with (fail)
                refine region_f (F := []) (S := fun W => W.cell? ⟨ab, 1, none⟩ = some (.int .i64 (k : Int)) ∧ W.cell? ⟨r, k, none⟩ = some (.slice ya ny yc) ∧ W.cell? ⟨lg, p, none⟩ = some (.string s')) (by kernel_rfl) ⟨C1.out, CY.out, CL.out⟩ (fun hS => ?_)
                refine take_p 0 129 (.pointer (some ⟨ab, 1, none⟩)) rfl rfl (by kernel_rfl) (by kernel_rfl) (by kernel_rfl) (fun _ _ _ h => h) rfl (fun w => by go_simp) ?_
                try simp only [List.setIfInBounds_toArray, List.set_cons_zero, List.set_cons_succ]
                refine take_f 1 130 (.int .i64 (k : Int)) [2, 3, 8, 9] rfl rfl (by kernel_rfl) (by kernel_rfl) (by kernel_rfl) (by kernel_rfl) (by kernel_rfl) (by kernel_rfl) (fun _ _ _ h => h) rfl (fun w hSw => by obtain ⟨g0, g1, g2⟩ := hSw; go_simp) hS ?_
                try simp only [List.setIfInBounds_toArray, List.set_cons_zero, List.set_cons_succ]
                refine take_p 2 131 (.pointer (some ⟨r, k, none⟩)) rfl rfl (by kernel_rfl) (by kernel_rfl) (by kernel_rfl) (fun _ _ _ h => h) rfl (fun w => by go_simp) ?_
                try simp only [List.setIfInBounds_toArray, List.set_cons_zero, List.set_cons_succ]
                refine take_f 3 132 (.slice ya ny yc) [8, 9] rfl rfl (by kernel_rfl) (by kernel_rfl) (by kernel_rfl) (by kernel_rfl) (by kernel_rfl) (by kernel_rfl) (fun _ _ _ h => h) rfl (fun w hSw => by obtain ⟨g0, g1, g2⟩ := hSw; go_simp) hS ?_
                try simp only [List.setIfInBounds_toArray, List.set_cons_zero, List.set_cons_succ]
                refine take_p 4 133 (.slice (some ⟨lg, 0, none⟩) n' lc) rfl rfl (by kernel_rfl) (by kernel_rfl) (by kernel_rfl) (fun _ _ _ h => h) rfl (fun w => by go_simp) ?_
                try simp only [List.setIfInBounds_toArray, List.set_cons_zero, List.set_cons_succ]
                refine take_p 5 134 (.int .i64 (p : Int)) rfl rfl (by kernel_rfl) (by kernel_rfl) (by kernel_rfl) (fun _ _ _ h => h) rfl (fun w => by go_simp) ?_
                try simp only [List.setIfInBounds_toArray, List.set_cons_zero, List.set_cons_succ]
                refine take_p 6 135 (.pointer (some ⟨lg, p, none⟩)) rfl rfl (by kernel_rfl) (by kernel_rfl) (by kernel_rfl) (fun _ _ _ h => h) rfl (fun w => by go_simp) ?_
                try simp only [List.setIfInBounds_toArray, List.set_cons_zero, List.set_cons_succ]
                refine take_f 7 136 (.string s') [8, 9] rfl rfl (by kernel_rfl) (by kernel_rfl) (by kernel_rfl) (by kernel_rfl) (by kernel_rfl) (by kernel_rfl) (fun _ _ _ h => h) rfl (fun w hSw => by obtain ⟨g0, g1, g2⟩ := hSw; go_simp) hS ?_
                try simp only [List.setIfInBounds_toArray, List.set_cons_zero, List.set_cons_succ]
                refine ready_f 8 (o := { dst := some 137, op := Op.call { callee := Callee.value (Operand.func 14), args := #[Operand.tmp 132, Operand.tmp 136], argTypes := #[25, 9] }, type := 4, pos := "law.go:112", after := #[{ on := 3, ground := Ground.data }, { on := 7, ground := Ground.data }], guard := none }) (by kernel_rfl) rfl (fun K hK => ?_)
                go_simp
                refine (KH.out _ (Below.refl _ _).drew).out.mono ?_
                rintro e W9 ⟨rfl, hw9⟩
                obtain rfl := hw9.symm
                refine hK.out _ _ (fun _ h => h) ?_
                clear hK K
                try simp only [Act.put, List.setIfInBounds_toArray, List.set_cons_zero, List.set_cons_succ]
                refine take_p 9 138 (.bool false) rfl rfl (by kernel_rfl) (by kernel_rfl) (by kernel_rfl) (fun _ _ _ h => h) rfl (fun w => by go_simp) ?_
                try simp only [List.setIfInBounds_toArray, List.set_cons_zero, List.set_cons_succ]
                refine done_f (by kernel_rfl) ?_ _
                clear hS
                go_wp2
                go_roundw
                case rel => exact ⟨p + 1, by omega, by go_num, HBp.out.drew⟩
                case measure => simp [intOf]; omega
              · have gin : ¬ (p : Int) < (n' : Int) := by omega
                clear hBp BW
                go_wp2
                go_roundw
                case rel => exact ⟨j + 1, x', y', N', M', by omega, by omega, by go_num, TT.out.below HBW.out, AA.out, SS.out, UU.out, FF.out, BB.out.trans (HBW.out.mono BB.out.size)⟩
                case measure => simp [intOf]; omega
          · have hcb : (plc N (k : Int) i == 0) = false := by simpa using hc
            generalize plc N (k : Int) i = cc at *
            clear kH MM
            go_wp2_with fail
            have hAl := all_any TT.out.net SS.out k HK.out
            refine hAl.mono ?_
            rintro e W7 ⟨l, rfl, hl, hb7⟩
            have h64 := SS.out.len k
            obtain ⟨la, lc, rfl⟩ := hl.form
            obtain ⟨n', hn'⟩ : ∃ n', (N' k).length = n' := ⟨_, rfl⟩
            have HL := hide1 hl
            have HN' := hide1 hn'
            rw [hn'] at HL h64 ⊢
            have HB7 := hide1 hb7
            have h64i : ¬ (64 : Int) < (n' : Int) := by omega
            clear hAl hl hb7 hn'
            go_wp2_with fail
            go_loopw [10] (fun v wr => ∃ p : Nat, p ≤ n' ∧ v = .int .i64 (p : Int) ∧ Below W7.heap.size W7 wr) (fun v _ => n' - (intOf v).toNat)
            case atStart => exact ⟨0, Nat.zero_le _, rfl, Below.refl _ _⟩
            case round =>
              obtain ⟨p, hp, rfl, hBp⟩ := hrel
              have HBp := hide1 hBp
              have BW : Below W.heap.size W wr := HB7.out.trans (hBp.mono HB7.out.size)
              have HBW := hide1 BW
              by_cases hpn : p < n'
              · have gin : (p : Int) < (n' : Int) := by omega
                have hpA : p < (N' k).length := by have := HN'.out; omega
                obtain ⟨lg, lc2, e2, hcc, _, _⟩ := (HL.out.below hBp (Nat.le_refl _)).cell hpA
                rw [HN'.out] at e2
                cases e2
                have hT := TT.out.below BW
                have h6 := GG.out.1.same (BW.block ab GG.out.2)
                have c1 := h6.c1
                rw [Nat.zero_add] at c1
                have hyc : wr.cell? ⟨r, k, none⟩ = some (y' k) := by
                  rw [cell_of_row wr r k _ _ _ hT.row]
                  rcases (show k = 0 ∨ k = 1 by have := HK.out; omega) with rfl | rfl <;> rfl
                have hmem : (N' k).getD p ByteArray.empty ∈ M' k := UU.out k _ (getD_mem hpA)
                have kH : ∀ W, Below wr.heap.size wr W → Hid (Calls Try.prog 14 #[y' k, .string ((N' k).getD p ByteArray.empty)] W fun e w' => e = .returned (.bool true) ∧ w' = W) := fun W hW => has_any ((hT.below hW).own k HK.out).rd _ hmem (by have := FF.out k; have := HJ.out; omega)
                obtain ⟨ya, yc, hy⟩ := (hT.own k HK.out).form
                rw [hy] at hyc kH
                generalize (M' k).length = ny at *
                generalize (N' k).getD p ByteArray.empty = s' at *
                have KH := hide1 kH
                have C1 := hide1 c1
                have CY := hide1 hyc
                have CL := hide1 hcc
                have hk2 : (k : Int) < 2 := by have := HK.out; omega
                clear hT h6 hmem hy BW hBp kH c1 hyc hcc
                go_upto_region 26 with (fail)
                refine region_f (F := []) (S := fun W => W.cell? ⟨ab, 1, none⟩ = some (.int .i64 (k : Int)) ∧ W.cell? ⟨r, k, none⟩ = some (.slice ya ny yc) ∧ W.cell? ⟨lg, p, none⟩ = some (.string s')) (by kernel_rfl) ⟨C1.out, CY.out, CL.out⟩ (fun hS => ?_)
                refine take_p 0 129 (.pointer (some ⟨ab, 1, none⟩)) rfl rfl (by kernel_rfl) (by kernel_rfl) (by kernel_rfl) (fun _ _ _ h => h) rfl (fun w => by go_simp) ?_
                try simp only [List.setIfInBounds_toArray, List.set_cons_zero, List.set_cons_succ]
                refine take_f 1 130 (.int .i64 (k : Int)) [2, 3, 8, 9] rfl rfl (by kernel_rfl) (by kernel_rfl) (by kernel_rfl) (by kernel_rfl) (by kernel_rfl) (by kernel_rfl) (fun _ _ _ h => h) rfl (fun w hSw => by obtain ⟨g0, g1, g2⟩ := hSw; go_simp) hS ?_
                try simp only [List.setIfInBounds_toArray, List.set_cons_zero, List.set_cons_succ]
                refine take_p 2 131 (.pointer (some ⟨r, k, none⟩)) rfl rfl (by kernel_rfl) (by kernel_rfl) (by kernel_rfl) (fun _ _ _ h => h) rfl (fun w => by go_simp) ?_
                try simp only [List.setIfInBounds_toArray, List.set_cons_zero, List.set_cons_succ]
                refine take_f 3 132 (.slice ya ny yc) [8, 9] rfl rfl (by kernel_rfl) (by kernel_rfl) (by kernel_rfl) (by kernel_rfl) (by kernel_rfl) (by kernel_rfl) (fun _ _ _ h => h) rfl (fun w hSw => by obtain ⟨g0, g1, g2⟩ := hSw; go_simp) hS ?_
                try simp only [List.setIfInBounds_toArray, List.set_cons_zero, List.set_cons_succ]
                refine take_p 4 133 (.slice (some ⟨lg, 0, none⟩) n' lc) rfl rfl (by kernel_rfl) (by kernel_rfl) (by kernel_rfl) (fun _ _ _ h => h) rfl (fun w => by go_simp) ?_
                try simp only [List.setIfInBounds_toArray, List.set_cons_zero, List.set_cons_succ]
                refine take_p 5 134 (.int .i64 (p : Int)) rfl rfl (by kernel_rfl) (by kernel_rfl) (by kernel_rfl) (fun _ _ _ h => h) rfl (fun w => by go_simp) ?_
                try simp only [List.setIfInBounds_toArray, List.set_cons_zero, List.set_cons_succ]
                refine take_p 6 135 (.pointer (some ⟨lg, p, none⟩)) rfl rfl (by kernel_rfl) (by kernel_rfl) (by kernel_rfl) (fun _ _ _ h => h) rfl (fun w => by go_simp) ?_
                try simp only [List.setIfInBounds_toArray, List.set_cons_zero, List.set_cons_succ]
                refine take_f 7 136 (.string s') [8, 9] rfl rfl (by kernel_rfl) (by kernel_rfl) (by kernel_rfl) (by kernel_rfl) (by kernel_rfl) (by kernel_rfl) (fun _ _ _ h => h) rfl (fun w hSw => by obtain ⟨g0, g1, g2⟩ := hSw; go_simp) hS ?_
                try simp only [List.setIfInBounds_toArray, List.set_cons_zero, List.set_cons_succ]
                refine ready_f 8 (o := { dst := some 137, op := Op.call { callee := Callee.value (Operand.func 14), args := #[Operand.tmp 132, Operand.tmp 136], argTypes := #[25, 9] }, type := 4, pos := "law.go:112", after := #[{ on := 3, ground := Ground.data }, { on := 7, ground := Ground.data }], guard := none }) (by kernel_rfl) rfl (fun K hK => ?_)
                go_simp
                refine (KH.out _ (Below.refl _ _).drew).out.mono ?_
                rintro e W9 ⟨rfl, hw9⟩
                obtain rfl := hw9.symm
                refine hK.out _ _ (fun _ h => h) ?_
                clear hK K
                try simp only [Act.put, List.setIfInBounds_toArray, List.set_cons_zero, List.set_cons_succ]
                refine take_p 9 138 (.bool false) rfl rfl (by kernel_rfl) (by kernel_rfl) (by kernel_rfl) (fun _ _ _ h => h) rfl (fun w => by go_simp) ?_
                try simp only [List.setIfInBounds_toArray, List.set_cons_zero, List.set_cons_succ]
                refine done_f (by kernel_rfl) ?_ _
                clear hS
                go_wp2
                go_roundw
                case rel => exact ⟨p + 1, by omega, by go_num, HBp.out.drew⟩
                case measure => simp [intOf]; omega
              · have gin : ¬ (p : Int) < (n' : Int) := by omega
                clear hBp BW
                go_wp2
                go_roundw
                case rel => exact ⟨j + 1, x', y', N', M', by omega, by omega, by go_num, TT.out.below HBW.out, AA.out, SS.out, UU.out, FF.out, BB.out.trans (HBW.out.mono BB.out.size)⟩
                case measure => simp [intOf]; omega
        have e0b : (kd == 0) = false := by simpa using e0
        have e1b : (kd == 1) = false := by simpa using e1
        have e2b : (kd == 2) = false := by simpa using e2
        have e3b : (kd == 3) = false := by simpa using e3
        have e4b : (kd == 4) = false := by simpa using e4
        have TT := T1
        have BB := B1
        clear T1 B1 LA
        generalize hx' : x = x' at *
        generalize hy' : y = y' at *
        generalize hN' : N = N' at *
        generalize hM' : M = M' at *
        generalize hW : Y = W at *
        clear hx' hy' hN' hM' hW
        go_wp2_with fail
        have hAl := all_any TT.out.net SS.out k HK.out
        refine hAl.mono ?_
        rintro e W7 ⟨l, rfl, hl, hb7⟩
        have h64 := SS.out.len k
        obtain ⟨la, lc, rfl⟩ := hl.form
        obtain ⟨n', hn'⟩ : ∃ n', (N' k).length = n' := ⟨_, rfl⟩
        have HL := hide1 hl
        have HN' := hide1 hn'
        rw [hn'] at HL h64 ⊢
        have HB7 := hide1 hb7
        have h64i : ¬ (64 : Int) < (n' : Int) := by omega
        clear hAl hl hb7 hn'
        go_wp2_with fail
        go_loopw [10] (fun v wr => ∃ p : Nat, p ≤ n' ∧ v = .int .i64 (p : Int) ∧ Below W7.heap.size W7 wr) (fun v _ => n' - (intOf v).toNat)
        case atStart => exact ⟨0, Nat.zero_le _, rfl, Below.refl _ _⟩
        case round =>
          obtain ⟨p, hp, rfl, hBp⟩ := hrel
          have HBp := hide1 hBp
          have BW : Below W.heap.size W wr := HB7.out.trans (hBp.mono HB7.out.size)
          have HBW := hide1 BW
          by_cases hpn : p < n'
          · have gin : (p : Int) < (n' : Int) := by omega
            have hpA : p < (N' k).length := by have := HN'.out; omega
            obtain ⟨lg, lc2, e2, hcc, _, _⟩ := (HL.out.below hBp (Nat.le_refl _)).cell hpA
            rw [HN'.out] at e2
            cases e2
            have hT := TT.out.below BW
            have h6 := GG.out.1.same (BW.block ab GG.out.2)
            have c1 := h6.c1
            rw [Nat.zero_add] at c1
            have hyc : wr.cell? ⟨r, k, none⟩ = some (y' k) := by
              rw [cell_of_row wr r k _ _ _ hT.row]
              rcases (show k = 0 ∨ k = 1 by have := HK.out; omega) with rfl | rfl <;> rfl
            have hmem : (N' k).getD p ByteArray.empty ∈ M' k := UU.out k _ (getD_mem hpA)
            have kH : ∀ W, Below wr.heap.size wr W → Hid (Calls Try.prog 14 #[y' k, .string ((N' k).getD p ByteArray.empty)] W fun e w' => e = .returned (.bool true) ∧ w' = W) := fun W hW => has_any ((hT.below hW).own k HK.out).rd _ hmem (by have := FF.out k; have := HJ.out; omega)
            obtain ⟨ya, yc, hy⟩ := (hT.own k HK.out).form
            rw [hy] at hyc kH
            generalize (M' k).length = ny at *
            generalize (N' k).getD p ByteArray.empty = s' at *
            have KH := hide1 kH
            have C1 := hide1 c1
            have CY := hide1 hyc
            have CL := hide1 hcc
            have hk2 : (k : Int) < 2 := by have := HK.out; omega
            clear hT h6 hmem hy BW hBp kH c1 hyc hcc
            go_upto_region 26 with (fail)
            refine region_f (F := []) (S := fun W => W.cell? ⟨ab, 1, none⟩ = some (.int .i64 (k : Int)) ∧ W.cell? ⟨r, k, none⟩ = some (.slice ya ny yc) ∧ W.cell? ⟨lg, p, none⟩ = some (.string s')) (by kernel_rfl) ⟨C1.out, CY.out, CL.out⟩ (fun hS => ?_)
            refine take_p 0 129 (.pointer (some ⟨ab, 1, none⟩)) rfl rfl (by kernel_rfl) (by kernel_rfl) (by kernel_rfl) (fun _ _ _ h => h) rfl (fun w => by go_simp) ?_
            try simp only [List.setIfInBounds_toArray, List.set_cons_zero, List.set_cons_succ]
            refine take_f 1 130 (.int .i64 (k : Int)) [2, 3, 8, 9] rfl rfl (by kernel_rfl) (by kernel_rfl) (by kernel_rfl) (by kernel_rfl) (by kernel_rfl) (by kernel_rfl) (fun _ _ _ h => h) rfl (fun w hSw => by obtain ⟨g0, g1, g2⟩ := hSw; go_simp) hS ?_
            try simp only [List.setIfInBounds_toArray, List.set_cons_zero, List.set_cons_succ]
            refine take_p 2 131 (.pointer (some ⟨r, k, none⟩)) rfl rfl (by kernel_rfl) (by kernel_rfl) (by kernel_rfl) (fun _ _ _ h => h) rfl (fun w => by go_simp) ?_
            try simp only [List.setIfInBounds_toArray, List.set_cons_zero, List.set_cons_succ]
            refine take_f 3 132 (.slice ya ny yc) [8, 9] rfl rfl (by kernel_rfl) (by kernel_rfl) (by kernel_rfl) (by kernel_rfl) (by kernel_rfl) (by kernel_rfl) (fun _ _ _ h => h) rfl (fun w hSw => by obtain ⟨g0, g1, g2⟩ := hSw; go_simp) hS ?_
            try simp only [List.setIfInBounds_toArray, List.set_cons_zero, List.set_cons_succ]
            refine take_p 4 133 (.slice (some ⟨lg, 0, none⟩) n' lc) rfl rfl (by kernel_rfl) (by kernel_rfl) (by kernel_rfl) (fun _ _ _ h => h) rfl (fun w => by go_simp) ?_
            try simp only [List.setIfInBounds_toArray, List.set_cons_zero, List.set_cons_succ]
            refine take_p 5 134 (.int .i64 (p : Int)) rfl rfl (by kernel_rfl) (by kernel_rfl) (by kernel_rfl) (fun _ _ _ h => h) rfl (fun w => by go_simp) ?_
            try simp only [List.setIfInBounds_toArray, List.set_cons_zero, List.set_cons_succ]
            refine take_p 6 135 (.pointer (some ⟨lg, p, none⟩)) rfl rfl (by kernel_rfl) (by kernel_rfl) (by kernel_rfl) (fun _ _ _ h => h) rfl (fun w => by go_simp) ?_
            try simp only [List.setIfInBounds_toArray, List.set_cons_zero, List.set_cons_succ]
            refine take_f 7 136 (.string s') [8, 9] rfl rfl (by kernel_rfl) (by kernel_rfl) (by kernel_rfl) (by kernel_rfl) (by kernel_rfl) (by kernel_rfl) (fun _ _ _ h => h) rfl (fun w hSw => by obtain ⟨g0, g1, g2⟩ := hSw; go_simp) hS ?_
            try simp only [List.setIfInBounds_toArray, List.set_cons_zero, List.set_cons_succ]
            refine ready_f 8 (o := { dst := some 137, op := Op.call { callee := Callee.value (Operand.func 14), args := #[Operand.tmp 132, Operand.tmp 136], argTypes := #[25, 9] }, type := 4, pos := "law.go:112", after := #[{ on := 3, ground := Ground.data }, { on := 7, ground := Ground.data }], guard := none }) (by kernel_rfl) rfl (fun K hK => ?_)
            go_simp
            refine (KH.out _ (Below.refl _ _).drew).out.mono ?_
            rintro e W9 ⟨rfl, hw9⟩
            obtain rfl := hw9.symm
            refine hK.out _ _ (fun _ h => h) ?_
            clear hK K
            try simp only [Act.put, List.setIfInBounds_toArray, List.set_cons_zero, List.set_cons_succ]
            refine take_p 9 138 (.bool false) rfl rfl (by kernel_rfl) (by kernel_rfl) (by kernel_rfl) (fun _ _ _ h => h) rfl (fun w => by go_simp) ?_
            try simp only [List.setIfInBounds_toArray, List.set_cons_zero, List.set_cons_succ]
            refine done_f (by kernel_rfl) ?_ _
            clear hS
            go_wp2
            go_roundw
            case rel => exact ⟨p + 1, by omega, by go_num, HBp.out.drew⟩
            case measure => simp [intOf]; omega
          · have gin : ¬ (p : Int) < (n' : Int) := by omega
            clear hBp BW
            go_wp2
            go_roundw
            case rel => exact ⟨j + 1, x', y', N', M', by omega, by omega, by go_num, TT.out.below HBW.out, AA.out, SS.out, UU.out, FF.out, BB.out.trans (HBW.out.mono BB.out.size)⟩
            case measure => simp [intOf]; omega
    · have kA := hide1 (awake_any wr)
      clear hT hAp hSm hSu hFe hB T0 AA SS UU FF0
      by_cases h100 : j < 100
      · have hjm0 : j = m := by omega
        subst hjm0
        have h100i : (j : Int) < 100 := by omega
        go_wp2_with (go_at_call 11; refine kA.out.mono ?_; rintro e w2 ⟨rfl, hb2⟩)
        go_ret
        exact ⟨rfl, B0.out.trans (hb2.mono B0.out.size)⟩
      · have h100i : ¬ (j : Int) < 100 := by omega
        by_cases hjm2 : j < m
        · have hjmi : (j : Int) < (m : Int) := by omega
          go_wp2_with (go_at_call 11; refine kA.out.mono ?_; rintro e w2 ⟨rfl, hb2⟩)
          go_ret
          exact ⟨rfl, B0.out.trans (hb2.mono B0.out.size)⟩
        · have hjmi : ¬ (j : Int) < (m : Int) := by omega
          go_wp2_with (go_at_call 11; refine kA.out.mono ?_; rintro e w2 ⟨rfl, hb2⟩)
          go_ret
          exact ⟨rfl, B0.out.trans (hb2.mono B0.out.size)⟩

end Go.Proofs.Ytfnedohampmnoaa
