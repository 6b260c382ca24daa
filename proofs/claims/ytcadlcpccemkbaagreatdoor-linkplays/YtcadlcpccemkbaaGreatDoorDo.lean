/- The document's Out: Ack, Pending. -/
import Derived.Test.YtcadlcpccemkbaaGreatDoorMDcDj
namespace Go.Proofs.YtcadlcpccemkbaaGreatDoor
open Go.RowKit
set_option maxRecDepth 100000
attribute [local go_sem] not_any

theorem rack_none (b n c cp : Nat) (a : Option Addr) (w : World) :
    Calls Tryz.prog 60 #[.agg #[.int .i64 (b : Int), .slice a n cp, .int .i64 (c : Int)], .int .i64 0] w fun e w' => e = .returned (.tuple #[.agg #[.int .i64 (b : Int), .slice a n cp, .int .i64 (c : Int)], .int .i64 22]) ∧ Below w.heap.size w w' := by
  go_enter Tryz.func60, Tryz.ntmps60
  go_wp2
  exact ret_o2 Tryz.results60 (w.heap.size + 1) _ _ _ _ rfl rfl (two_new _ _ _).2 rfl ⟨rfl, below2 _ _⟩

theorem rack_gap (b n c cp : Nat) (a : Option Addr) (q : Nat) (w : World) (hb : b ≤ 4294967296) (hn : n ≤ 1000) (hq : b + n + 1 < q) :
    Calls Tryz.prog 60 #[.agg #[.int .i64 (b : Int), .slice a n cp, .int .i64 (c : Int)], .int .i64 (q : Int)] w fun e w' => e = .returned (.tuple #[.agg #[.int .i64 (b : Int), .slice a n cp, .int .i64 (c : Int)], .int .i64 22]) ∧ Below w.heap.size w w' := by
  have kN := fun w => hide1 (rnext_any b n c cp a w hb hn)
  obtain ⟨m, hm⟩ : ∃ m, b + n + 1 = m := ⟨_, rfl⟩
  rw [hm] at kN hq
  have h0b : ((q : Int) == 0) = false := by simp; omega
  have h1 : (m : Int) < (q : Int) := by omega
  clear hm hb hq
  go_enter Tryz.func60, Tryz.ntmps60
  go_wp2_with fail
  have T2 := hide1 (two_new w (.cells #[.int .i64 (b : Int), .slice a n cp, .int .i64 (c : Int)] 34) (.cells #[.int .i64 0, .slice none 0 0, .int .i64 0] 34))
  have B2 := hide1 (below2 (w := w) (.cells #[.int .i64 (b : Int), .slice a n cp, .int .i64 (c : Int)] 34) (.cells #[.int .i64 0, .slice none 0 0, .int .i64 0] 34))
  obtain ⟨b0, hb0⟩ : ∃ b0, w.heap.size = b0 := ⟨_, rfl⟩
  obtain ⟨b1, hb1⟩ : ∃ b1, w.heap.size + 1 = b1 := ⟨_, rfl⟩
  rw [hb1, hb0] at T2
  rw [hb1, hb0]
  generalize (w.alloc _).alloc _ = X at T2 B2 ⊢
  have HS : Hid (w.heap.size = b0 ∧ b0 + 1 = b1) := ⟨hb0, by omega⟩
  clear hb0 hb1
  refine (kN _).out.mono ?_
  rintro e W1 ⟨rfl, hb1⟩
  have r0 := hide1 ((hb1.block b0 (lt_heap T2.out.1)).trans T2.out.1)
  have r1 := hide1 ((hb1.block b1 (lt_heap T2.out.2)).trans T2.out.2)
  have B3 : Hid (Below w.heap.size w W1) := B2.out.trans (hb1.mono B2.out.size)
  obtain ⟨c0, c1, c2, _, _, x2⟩ := box3 r0.out
  obtain ⟨d0, _, _, f0, _, _⟩ := box3 r1.out
  obtain ⟨f1, d1, f2, d2⟩ := free3 (x' := .int .i64 (b : Int)) (y' := .slice a n cp) r1.out
  clear hb1 kN T2 B2
  go_wp2
  exact ret_o2 Tryz.results60 b1 _ _ _ _ rfl rfl (set_box3 r1.out) rfl ⟨rfl, below_set3 B3.out (by have := HS.out; omega)⟩

theorem rack_old (b n c cp : Nat) (a : Option Addr) (q : Nat) (w : World) (hb : b ≤ 4294967296) (hn : n ≤ 1000) (h0 : q ≠ 0) (hq : q ≤ b + n + 1) (hq2 : q < 4294967296) (ho : q - 1 - b ≤ c) :
    Calls Tryz.prog 60 #[.agg #[.int .i64 (b : Int), .slice a n cp, .int .i64 (c : Int)], .int .i64 (q : Int)] w fun e w' => e = .returned (.tuple #[.agg #[.int .i64 (b : Int), .slice a n cp, .int .i64 (c : Int)], .int .i64 0]) ∧ Below w.heap.size w w' := by
  have kN := fun w => hide1 (rnext_any b n c cp a w hb hn)
  obtain ⟨m, hm⟩ : ∃ m, b + n + 1 = m := ⟨_, rfl⟩
  rw [hm] at kN hq
  have h0b : ((q : Int) == 0) = false := by simp; omega
  have h1 : ¬ (m : Int) < (q : Int) := by omega
  have h2 : ¬ (c : Int) < (q : Int) - 1 - (b : Int) := by omega
  have h5 : IntKind.i64.wrap ((q : Int) - 1) = (q : Int) - 1 := by rw [IntKind.wrap_i64]; omega
  have h6 : IntKind.i64.wrap ((q : Int) - 1 - (b : Int)) = (q : Int) - 1 - (b : Int) := by rw [IntKind.wrap_i64]; omega
  clear hm hb hq h0 ho hq2
  go_enter Tryz.func60, Tryz.ntmps60
  go_wp2_with fail
  have T2 := hide1 (two_new w (.cells #[.int .i64 (b : Int), .slice a n cp, .int .i64 (c : Int)] 34) (.cells #[.int .i64 0, .slice none 0 0, .int .i64 0] 34))
  have B2 := hide1 (below2 (w := w) (.cells #[.int .i64 (b : Int), .slice a n cp, .int .i64 (c : Int)] 34) (.cells #[.int .i64 0, .slice none 0 0, .int .i64 0] 34))
  obtain ⟨b0, hb0⟩ : ∃ b0, w.heap.size = b0 := ⟨_, rfl⟩
  obtain ⟨b1, hb1⟩ : ∃ b1, w.heap.size + 1 = b1 := ⟨_, rfl⟩
  rw [hb1, hb0] at T2
  rw [hb1, hb0]
  generalize (w.alloc _).alloc _ = X at T2 B2 ⊢
  have HS : Hid (w.heap.size = b0 ∧ b0 + 1 = b1) := ⟨hb0, by omega⟩
  clear hb0 hb1
  refine (kN _).out.mono ?_
  rintro e W1 ⟨rfl, hb1⟩
  have r0 := hide1 ((hb1.block b0 (lt_heap T2.out.1)).trans T2.out.1)
  have r1 := hide1 ((hb1.block b1 (lt_heap T2.out.2)).trans T2.out.2)
  have B3 : Hid (Below w.heap.size w W1) := B2.out.trans (hb1.mono B2.out.size)
  obtain ⟨c0, c1, c2, _, _, x2⟩ := box3 r0.out
  obtain ⟨d0, _, _, f0, _, _⟩ := box3 r1.out
  obtain ⟨f1, d1, f2, d2⟩ := free3 (x' := .int .i64 (b : Int)) (y' := .slice a n cp) r1.out
  clear hb1 kN T2 B2
  go_wp2
  exact ret_o2 Tryz.results60 b1 _ _ _ _ rfl rfl (set_box3 r1.out) rfl ⟨rfl, below_set3 B3.out (by have := HS.out; omega)⟩

theorem rack_new (b n c cp : Nat) (a : Option Addr) (q : Nat) (w : World) (hb : b ≤ 4294967296) (hn : n ≤ 1000) (h0 : q ≠ 0) (hq : q ≤ b + n + 1) (hq2 : q < 4294967296) (ho : c < q - 1 - b) :
    Calls Tryz.prog 60 #[.agg #[.int .i64 (b : Int), .slice a n cp, .int .i64 (c : Int)], .int .i64 (q : Int)] w fun e w' => e = .returned (.tuple #[.agg #[.int .i64 (b : Int), .slice a n cp, .int .i64 ((q - 1 - b : Nat) : Int)], .int .i64 0]) ∧ Below w.heap.size w w' := by
  have kN := fun w => hide1 (rnext_any b n c cp a w hb hn)
  obtain ⟨m, hm⟩ : ∃ m, b + n + 1 = m := ⟨_, rfl⟩
  rw [hm] at kN hq
  have h0b : ((q : Int) == 0) = false := by simp; omega
  have h1 : ¬ (m : Int) < (q : Int) := by omega
  have h2 : (c : Int) < (q : Int) - 1 - (b : Int) := by omega
  have h5 : IntKind.i64.wrap ((q : Int) - 1) = (q : Int) - 1 := by rw [IntKind.wrap_i64]; omega
  have h6 : IntKind.i64.wrap ((q : Int) - 1 - (b : Int)) = (q : Int) - 1 - (b : Int) := by rw [IntKind.wrap_i64]; omega
  have HE : Hid (((q - 1 - b : Nat) : Int) = (q : Int) - 1 - (b : Int)) := by unfold Hid; omega
  rw [HE.out]
  clear hm hb hq h0 ho hq2 HE
  go_enter Tryz.func60, Tryz.ntmps60
  go_wp2_with fail
  have T2 := hide1 (two_new w (.cells #[.int .i64 (b : Int), .slice a n cp, .int .i64 (c : Int)] 34) (.cells #[.int .i64 0, .slice none 0 0, .int .i64 0] 34))
  have B2 := hide1 (below2 (w := w) (.cells #[.int .i64 (b : Int), .slice a n cp, .int .i64 (c : Int)] 34) (.cells #[.int .i64 0, .slice none 0 0, .int .i64 0] 34))
  obtain ⟨b0, hb0⟩ : ∃ b0, w.heap.size = b0 := ⟨_, rfl⟩
  obtain ⟨b1, hb1⟩ : ∃ b1, w.heap.size + 1 = b1 := ⟨_, rfl⟩
  rw [hb1, hb0] at T2
  rw [hb1, hb0]
  generalize (w.alloc _).alloc _ = X at T2 B2 ⊢
  have HS : Hid (w.heap.size = b0 ∧ b0 + 1 = b1) := ⟨hb0, by omega⟩
  clear hb0 hb1
  refine (kN _).out.mono ?_
  rintro e W1 ⟨rfl, hb1⟩
  have r0 := hide1 ((hb1.block b0 (lt_heap T2.out.1)).trans T2.out.1)
  have r1 := hide1 ((hb1.block b1 (lt_heap T2.out.2)).trans T2.out.2)
  have B3 : Hid (Below w.heap.size w W1) := B2.out.trans (hb1.mono B2.out.size)
  obtain ⟨c0, c1, c2, _, _, x2⟩ := box3 r0.out
  obtain ⟨d0, _, _, f0, _, _⟩ := box3 r1.out
  obtain ⟨f1, d1, f2, d2⟩ := free3 (x' := .int .i64 (b : Int)) (y' := .slice a n cp) r1.out
  clear hb1 kN T2 B2
  have e0 : Hid ((W1.setCell ⟨b0, 2, none⟩ (.int .i64 ((q : Int) - 1 - (b : Int)))).heap[b0]? = some (.cells #[.int .i64 (b : Int), .slice a n cp, .int .i64 ((q : Int) - 1 - (b : Int))] 34 (0, 0))) := by unfold Hid; rw [heap_setCell_same _ b0 2 _ _ _ r0.out]; rfl
  have e1 : Hid ((W1.setCell ⟨b0, 2, none⟩ (.int .i64 ((q : Int) - 1 - (b : Int)))).heap[b1]? = some (.cells #[.int .i64 0, .slice none 0 0, .int .i64 0] 34 (0, 0))) := by unfold Hid; rw [heap_setCell_other _ _ _ _ (show b1 ≠ b0 by have := HS.out; omega)]; exact r1.out
  have B4 : Hid (Below w.heap.size w (W1.setCell ⟨b0, 2, none⟩ (.int .i64 ((q : Int) - 1 - (b : Int))))) := B3.out.setCell (p := ⟨b0, 2, none⟩) (by have := HS.out; simp only; omega) _
  obtain ⟨g0, g1, g2, _, _, _⟩ := box3 e0.out
  obtain ⟨h0, _, _, i0, _, _⟩ := box3 e1.out
  obtain ⟨i1, j1, i2, j2⟩ := free3 (x' := .int .i64 (b : Int)) (y' := .slice a n cp) e1.out
  clear d0 f0 f1 d1 f2 d2
  go_wp2
  exact ret_o2 Tryz.results60 b1 _ _ _ _ rfl rfl (set_box3 e1.out) rfl ⟨rfl, below_set3 B4.out (by have := HS.out; omega)⟩

set_option maxHeartbeats 2000000 in
theorem rpending_any (b n c cp : Nat) (a : Option Addr) {LL : List ByteArray} {w : World} (hL : Rdl w (.slice a n cp) LL) (hb : b + n + 1 < 4294967296) (hn : n ≤ 1000) (hc : c ≤ n) :
    Calls Tryz.prog 56 #[.agg #[.int .i64 (b : Int), .slice a n cp, .int .i64 (c : Int)]] w fun e w' => ∃ z, e = .returned z ∧ Nls 175 w.heap.size w' z (pend (b + c + 1) (LL.drop c)) ∧ Below w.heap.size w w' := by
  have HLN : Hid (LL.length = n) := by obtain ⟨_, _, e, _⟩ := hL; cases e; rfl
  have HL := hide1 (hL.below (below1 (.cells #[.int .i64 (b : Int), .slice a n cp, .int .i64 (c : Int)] 34)) (Nat.le_refl _))
  have HK : Hid (b + n + 1 < 4294967296 ∧ n ≤ 1000 ∧ c ≤ n) := ⟨hb, hn, hc⟩
  have R0 := hide1 (heap_alloc_new w (.cells #[.int .i64 (b : Int), .slice a n cp, .int .i64 (c : Int)] 34))
  have B0 := hide1 (below1 (w := w) (.cells #[.int .i64 (b : Int), .slice a n cp, .int .i64 (c : Int)] 34))
  obtain ⟨c0, c1, c2, _, _, _⟩ := box3 R0.out
  clear hL
  go_enter Tryz.func56, Tryz.ntmps56
  go_wp2_with fail
  generalize w.alloc _ = X at HL R0 B0 c0 c1 c2 ⊢
  obtain ⟨b0, hb0⟩ : ∃ b0, w.heap.size = b0 := ⟨_, rfl⟩
  have HS := hide1 hb0
  rw [hb0] at R0 c0 c1 c2
  rw [hb0]
  clear hb0 hb hc c0 c1 c2
  go_loopw [3, 4] (fun p i wr => ∃ (j : Nat) (u : Value), c + j ≤ n ∧ i = .int .i64 ((c + j : Nat) : Int) ∧ p = u ∧ Nls 175 X.heap.size wr u (pend (b + c + 1) ((LL.drop c).take j)) ∧ Below X.heap.size X wr) (fun _ i _ => n - (intOf i).toNat)
  case atStart => exact ⟨0, _, HK.out.2.2, rfl, rfl, Nls.nil _ _ _, Below.refl _ _⟩
  case round =>
    obtain ⟨j, u, hj, rfl, hu, hN, hB⟩ := hrel
    obtain rfl := hu.symm
    have HN := hide1 hN
    have HB := hide1 hB
    have r0 := hide1 ((hB.block b0 (lt_heap R0.out)).trans R0.out)
    obtain ⟨c0, c1, c2, _, _, _⟩ := box3 r0.out
    obtain ⟨i, hi⟩ : ∃ i, c + j = i := ⟨_, rfl⟩
    have HIJ := hide1 hi
    rw [hi] at hj ⊢
    by_cases hjn : i < n
    · have gin : (i : Int) < (n : Int) := by omega
      have hjA : j < (LL.drop c).length := by have := HLN.out; rw [List.length_drop]; omega
      obtain ⟨a', c', e1, h1⟩ := HL.out.below hB (Nat.le_refl _)
      rw [HLN.out] at e1
      cases e1
      obtain ⟨g1, o1, rfl, k1⟩ := h1 i (by have := HLN.out; omega)
      have PN := hide1 (pend_snoc (b + c + 1) (LL.drop c) j hjA)
      have hge : (LL.drop c).getD j ByteArray.empty = LL.getD i ByteArray.empty := by simp only [List.getD, List.getElem?_drop, hi]
      rw [hge, show b + c + 1 + j = b + i + 1 by omega] at PN
      generalize LL.getD i ByteArray.empty = s at k1 PN
      obtain ⟨m, hm⟩ : ∃ m, b + i + 1 = m := ⟨_, rfl⟩
      rw [hm] at PN
      obtain ⟨m0, hm0⟩ : ∃ m, b + i = m := ⟨_, rfl⟩
      have HM : Hid (b + i = m0 ∧ m0 + 1 = m ∧ m < 4294967296) := by have := HK.out; exact ⟨hm0, by omega, by omega⟩
      have SS : Hid (wr.cell? ⟨b0, 0, none⟩ = some (.int .i64 (b : Int)) ∧ wr.cell? ⟨b0, 1, none⟩ = some (.slice (some ⟨g1, o1, none⟩) n cp) ∧ wr.cell? ⟨g1, o1 + i, none⟩ = some (.string s)) := ⟨c0, c1, k1⟩
      have HLE : Hid ((pend (b + c + 1) ((LL.drop c).take j)).length ≤ 1000000) := by
        have h1 := HLN.out
        have h2 := HK.out
        unfold Hid
        rw [pend_length, List.length_take, List.length_drop]
        omega
      clear hN hB hu hi hm hm0 hge h1 k1
      go_upto_region 5 with (fail)
      clear c0 c1 c2
      refine region_f (F := [13, 14]) (S := fun W => W.cell? ⟨b0, 0, none⟩ = some (.int .i64 (b : Int)) ∧ W.cell? ⟨b0, 1, none⟩ = some (.slice (some ⟨g1, o1, none⟩) n cp) ∧ W.cell? ⟨g1, o1 + i, none⟩ = some (.string s)) (by kernel_rfl) SS.out (fun hS => ?_)
      generalize hU : World.drew wr = U at hS ⊢
      have bU : Hid (Below wr.heap.size wr U) := by rw [← hU]; exact (Below.refl _ _).drew
      clear hU
      refine take_p 0 14 (u) rfl rfl (by kernel_rfl) (by kernel_rfl) (by kernel_rfl) (fun _ _ _ h => h) rfl (fun w => by go_simp) ?_
      try simp only [List.setIfInBounds_toArray, List.set_cons_zero, List.set_cons_succ]
      refine take_p 1 15 (.pointer (some ⟨b0, 0, none⟩)) rfl rfl (by kernel_rfl) (by kernel_rfl) (by kernel_rfl) (fun _ _ _ h => h) rfl (fun w => by go_simp) ?_
      try simp only [List.setIfInBounds_toArray, List.set_cons_zero, List.set_cons_succ]
      refine take_f 2 16 (.int .i64 (b : Int)) [4, 5, 6, 12, 13, 14, 15] rfl rfl (by kernel_rfl) (by kernel_rfl) (by kernel_rfl) (by kernel_rfl) (by kernel_rfl) (by kernel_rfl) (fun _ _ _ h => h) rfl (fun w hSw => by obtain ⟨g0, g1, g2⟩ := hSw; go_simp) hS ?_
      try simp only [List.setIfInBounds_toArray, List.set_cons_zero, List.set_cons_succ]
      refine take_p 3 17 (.int .i64 (i : Int)) rfl rfl (by kernel_rfl) (by kernel_rfl) (by kernel_rfl) (fun _ _ _ h => h) rfl (fun w => by go_simp) ?_
      try simp only [List.setIfInBounds_toArray, List.set_cons_zero, List.set_cons_succ]
      refine take_p 4 18 (.int .i64 (m0 : Int)) rfl rfl (by kernel_rfl) (by kernel_rfl) (by kernel_rfl) (fun _ _ _ h => h) rfl (fun w => by obtain ⟨x1, x2, x3⟩ := HM.out; go_simp; rw [IntKind.wrap_i64]; omega) ?_
      try simp only [List.setIfInBounds_toArray, List.set_cons_zero, List.set_cons_succ]
      refine take_p 5 19 (.int .i64 (m : Int)) rfl rfl (by kernel_rfl) (by kernel_rfl) (by kernel_rfl) (fun _ _ _ h => h) rfl (fun w => by obtain ⟨x1, x2, x3⟩ := HM.out; go_simp; rw [IntKind.wrap_i64]; omega) ?_
      try simp only [List.setIfInBounds_toArray, List.set_cons_zero, List.set_cons_succ]
      refine take_p 6 20 (.int .u32 (m : Int)) rfl rfl (by kernel_rfl) (by kernel_rfl) (by kernel_rfl) (fun _ _ _ h => h) rfl (fun w => by obtain ⟨x1, x2, x3⟩ := HM.out; go_simp; rw [IntKind.wrap_u32]; omega) ?_
      try simp only [List.setIfInBounds_toArray, List.set_cons_zero, List.set_cons_succ]
      refine take_p 7 21 (.pointer (some ⟨b0, 1, none⟩)) rfl rfl (by kernel_rfl) (by kernel_rfl) (by kernel_rfl) (fun _ _ _ h => h) rfl (fun w => by go_simp) ?_
      try simp only [List.setIfInBounds_toArray, List.set_cons_zero, List.set_cons_succ]
      refine take_f 8 22 (.slice (some ⟨g1, o1, none⟩) n cp) [10, 11, 12, 13, 14, 15] rfl rfl (by kernel_rfl) (by kernel_rfl) (by kernel_rfl) (by kernel_rfl) (by kernel_rfl) (by kernel_rfl) (fun _ _ _ h => h) rfl (fun w hSw => by obtain ⟨g0, g1, g2⟩ := hSw; go_simp) hS ?_
      try simp only [List.setIfInBounds_toArray, List.set_cons_zero, List.set_cons_succ]
      refine take_p 9 23 (.int .i64 (i : Int)) rfl rfl (by kernel_rfl) (by kernel_rfl) (by kernel_rfl) (fun _ _ _ h => h) rfl (fun w => by go_simp) ?_
      try simp only [List.setIfInBounds_toArray, List.set_cons_zero, List.set_cons_succ]
      refine take_p 10 24 (.pointer (some ⟨g1, o1 + i, none⟩)) rfl rfl (by kernel_rfl) (by kernel_rfl) (by kernel_rfl) (fun _ _ _ h => h) rfl (fun w => by go_simp) ?_
      try simp only [List.setIfInBounds_toArray, List.set_cons_zero, List.set_cons_succ]
      refine take_f 11 25 (.string s) [12, 13, 14, 15] rfl rfl (by kernel_rfl) (by kernel_rfl) (by kernel_rfl) (by kernel_rfl) (by kernel_rfl) (by kernel_rfl) (fun _ _ _ h => h) rfl (fun w hSw => by obtain ⟨g0, g1, g2⟩ := hSw; go_simp) hS ?_
      try simp only [List.setIfInBounds_toArray, List.set_cons_zero, List.set_cons_succ]
      refine take_p 12 26 (.agg #[.int .u32 (m : Int), .string s]) rfl rfl (by kernel_rfl) (by kernel_rfl) (by kernel_rfl) (fun _ _ _ h => h) rfl (fun w => by go_simp) ?_
      try simp only [List.setIfInBounds_toArray, List.set_cons_zero, List.set_cons_succ]
      refine ready_f 13 (o := { dst := some 27, op := Op.buildSlice 35 1 #[(0, Operand.tmp 26)], type := 35, pos := "ref.go:59", after := #[{ on := 12, ground := Ground.data }], guard := none }) (by kernel_rfl) rfl (fun K hK => ?_)
      go_simp
      refine hK.out _ _ (fun h => absurd (by decide) h) ?_
      clear hK K
      try simp only [Act.put, List.setIfInBounds_toArray, List.set_cons_zero, List.set_cons_succ]
      have RC := hide1 (Rnl.one U 175 m s)
      have bC : Hid (Below wr.heap.size wr (U.alloc (.cells #[.int .u32 (m : Int), .string s] 175))) := bU.out.alloc bU.out.size _
      have LC := hide1 (HN.out.below bC.out (Nat.le_refl _))
      have HQ : Hid (X.heap.size ≤ (U.alloc (.cells #[.int .u32 (m : Int), .string s] 175)).heap.size) := by have := bC.out.size; have := HB.out.size; unfold Hid; omega
      clear bU hS
      refine ready_f 14 (o := { dst := some 28, op := Op.call { callee := Callee.builtin Builtin.append, args := #[Operand.tmp 14, Operand.tmp 27], argTypes := #[35, 35] }, type := 35, pos := "ref.go:59", after := #[{ on := 0, ground := Ground.data }, { on := 13, ground := Ground.data }], guard := none }) (by kernel_rfl) rfl (fun K hK => ?_)
      rw [if_pos (by rfl)]
      refine wp_append_nls ntyR _ _ rfl rfl rfl LC.out RC.out HLE.out HQ.out ?_
      intro v2 WE ho hg hf
      refine hK.out _ _ (fun h => absurd (by decide) h) ?_
      clear hK K
      try simp only [Act.put, List.setIfInBounds_toArray, List.set_cons_zero, List.set_cons_succ]
      refine take_p 15 3 (v2) rfl rfl (by kernel_rfl) (by kernel_rfl) (by kernel_rfl) (fun _ _ _ h => h) rfl (fun w => by go_simp) ?_
      try simp only [List.setIfInBounds_toArray, List.set_cons_zero, List.set_cons_succ]
      refine done_f (by kernel_rfl) ?_ _
      have HO := hide1 ho
      have HG := hide1 hg
      clear ho hg hf
      go_wp2
      go_roundw
      case rel =>
        have hij := HIJ.out
        refine ⟨j + 1, v2, by omega, by rw [show c + (j + 1) = i + 1 by omega]; go_num, rfl, ?_, ?_⟩
        · rw [← PN.out]
          exact HO.out
        · exact (HB.out.trans (bC.out.mono HB.out.size)).grown HG.out HQ.out (fun k hk => (HN.out.lt hk).1)
      case measure => simp [intOf]; omega
    · have gin : ¬ (i : Int) < (n : Int) := by omega
      clear hN hB
      go_wp2
      go_ret
      have e : (LL.drop c).take j = LL.drop c := List.take_of_length_le (by have := HLN.out; have := HIJ.out; rw [List.length_drop]; omega)
      have h9 := HN.out
      rw [e] at h9
      exact ⟨_, rfl, h9.mono B0.out.size, B0.out.trans (HB.out.mono B0.out.size)⟩

end Go.Proofs.YtcadlcpccemkbaaGreatDoor
