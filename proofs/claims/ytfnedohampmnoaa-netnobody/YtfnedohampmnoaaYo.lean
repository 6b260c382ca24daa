/- No network has anything on its way. -/
import Derived.Test.YtfnedohampmnoaaYx
namespace Go.Proofs.Ytfnedohampmnoaa
open Go.RowKit
set_option maxRecDepth 100000
attribute [local go_sem] not_any

/- nil, or what no call made -/
def Nob (w : World) (p : Value) : Prop := p = .pointer none ∨ ∃ g, p = .pointer (some ⟨g, 0, none⟩) ∧ w.cell? ⟨g, 0, none⟩ = some (.bool false)

theorem party_no {w : World} {p : Value} (h : Nob w p) (q : Int) : Calls Try.prog 28 #[p, .int .i64 q] w fun e w' => e = .returned (.int .i64 3) ∧ w' = w := by
  rcases h with rfl | ⟨g, rfl, hc⟩
  · go_enter Try.func28, Try.ntmps28
    go_wp2
    go_ret
    exact ⟨rfl, rfl⟩
  · go_enter Try.func28, Try.ntmps28
    go_wp2
    go_ret
    exact ⟨rfl, rfl⟩
theorem place_no {w : World} {p : Value} (h : Nob w p) (q i : Int) : Calls Try.prog 31 #[p, .int .i64 q, .int .i64 i] w fun e w' => e = .returned (.int .i64 3) ∧ w' = w := by
  have k := hide1 (party_no h q)
  clear h
  go_enter Try.func31, Try.ntmps31
  go_wp2_with (go_at_call 28; refine k.out.mono ?_; rintro e w1 ⟨rfl, rfl⟩)
  go_ret
  exact ⟨rfl, rfl⟩
theorem send_no {w : World} {p : Value} (h : Nob w p) (q : Int) (s : ByteArray) : Calls Try.prog 12 #[p, .int .i64 q, .string s] w fun e w' => e = .returned (.int .i64 3) ∧ w' = w := by
  have k := hide1 (party_no h q)
  clear h
  go_enter Try.func12, Try.ntmps12
  go_wp2_with (go_at_call 28; refine k.out.mono ?_; rintro e w1 ⟨rfl, rfl⟩)
  go_ret
  exact ⟨rfl, rfl⟩
theorem len_no {w : World} {p : Value} (h : Nob w p) (q : Int) : Calls Try.prog 10 #[p, .int .i64 q] w fun e w' => e = .returned (.int .i64 0) ∧ w' = w := by
  have k := hide1 (party_no h q)
  clear h
  go_enter Try.func10, Try.ntmps10
  go_wp2_with (go_at_call 28; refine k.out.mono ?_; rintro e w1 ⟨rfl, rfl⟩)
  go_ret
  exact ⟨rfl, rfl⟩
theorem clear_no {w : World} {p : Value} (h : Nob w p) (q : Int) : Calls Try.prog 20 #[p, .int .i64 q] w fun e w' => e = .returned (.int .i64 3) ∧ w' = w := by
  have k := hide1 (party_no h q)
  clear h
  go_enter Try.func20, Try.ntmps20
  go_wp2_with (go_at_call 28; refine k.out.mono ?_; rintro e w1 ⟨rfl, rfl⟩)
  go_ret
  exact ⟨rfl, rfl⟩
theorem all_no {w : World} {p : Value} (h : Nob w p) (q : Int) : Calls Try.prog 9 #[p, .int .i64 q] w fun e w' => e = .returned (.slice none 0 0) ∧ w' = w := by
  have k := hide1 (party_no h q)
  clear h
  go_enter Try.func9, Try.ntmps9
  go_wp2_with (go_at_call 28; refine k.out.mono ?_; rintro e w1 ⟨rfl, rfl⟩)
  go_ret
  exact ⟨rfl, rfl⟩
theorem take_no {w : World} {p : Value} (h : Nob w p) (q i : Int) : Calls Try.prog 13 #[p, .int .i64 q, .int .i64 i] w fun e w' => e = .returned (.tuple #[.string ⟨#[]⟩, .int .i64 3]) ∧ w' = w := by
  have k := hide1 (place_no h q i)
  clear h
  go_enter Try.func13, Try.ntmps13
  go_wp2_with (go_at_call 31; refine k.out.mono ?_; rintro e w1 ⟨rfl, rfl⟩)
  exact ret_t2 Try.results13 rfl rfl rfl ⟨rfl, rfl⟩
theorem drop_no {w : World} {p : Value} (h : Nob w p) (q i : Int) : Calls Try.prog 15 #[p, .int .i64 q, .int .i64 i] w fun e w' => e = .returned (.int .i64 3) ∧ w' = w := by
  have k := hide1 (take_no h q i)
  clear h
  go_enter Try.func15, Try.ntmps15
  go_wp2_with (go_at_call 13; refine k.out.mono ?_; rintro e w1 ⟨rfl, rfl⟩)
  go_ret
  exact ⟨rfl, rfl⟩
theorem double_no {w : World} {p : Value} (h : Nob w p) (q i : Int) : Calls Try.prog 16 #[p, .int .i64 q, .int .i64 i] w fun e w' => e = .returned (.int .i64 3) ∧ w' = w := by
  have k := hide1 (place_no h q i)
  clear h
  go_enter Try.func16, Try.ntmps16
  go_wp2_with (go_at_call 31; refine k.out.mono ?_; rintro e w1 ⟨rfl, rfl⟩)
  go_ret
  exact ⟨rfl, rfl⟩
theorem swap_no {w : World} {p : Value} (h : Nob w p) (q i j : Int) : Calls Try.prog 17 #[p, .int .i64 q, .int .i64 i, .int .i64 j] w fun e w' => e = .returned (.int .i64 3) ∧ w' = w := by
  have k := hide1 (place_no h q i)
  clear h
  go_enter Try.func17, Try.ntmps17
  go_wp2_with (go_at_call 31; refine k.out.mono ?_; rintro e w1 ⟨rfl, rfl⟩)
  go_ret
  exact ⟨rfl, rfl⟩
theorem forge_no {w : World} {p : Value} (h : Nob w p) (q i : Int) (s : ByteArray) : Calls Try.prog 18 #[p, .int .i64 q, .int .i64 i, .string s] w fun e w' => e = .returned (.int .i64 3) ∧ w' = w := by
  have k := hide1 (place_no h q i)
  clear h
  go_enter Try.func18, Try.ntmps18
  go_wp2_with (go_at_call 31; refine k.out.mono ?_; rintro e w1 ⟨rfl, rfl⟩)
  go_ret
  exact ⟨rfl, rfl⟩
theorem turn_no {w : World} {p : Value} (h : Nob w p) (q i j b : Int) : Calls Try.prog 19 #[p, .int .i64 q, .int .i64 i, .int .i64 j, .int .u8 b] w fun e w' => e = .returned (.int .i64 3) ∧ w' = w := by
  have k := hide1 (place_no h q i)
  clear h
  go_enter Try.func19, Try.ntmps19
  go_wp2_with (go_at_call 31; refine k.out.mono ?_; rintro e w1 ⟨rfl, rfl⟩)
  go_ret
  exact ⟨rfl, rfl⟩

theorem alloc3 (w : World) (a b c : Obj) : (((w.alloc a).alloc b).alloc c).heap[w.heap.size]? = some a ∧ (((w.alloc a).alloc b).alloc c).heap[w.heap.size + 1]? = some b ∧ (((w.alloc a).alloc b).alloc c).heap[w.heap.size + 2]? = some c := by
  have s1 : (w.alloc a).heap.size = w.heap.size + 1 := by simp
  have s2 : ((w.alloc a).alloc b).heap.size = w.heap.size + 2 := by simp
  refine ⟨?_, ?_, ?_⟩
  · rw [Below.heap_alloc _ _ _ (by omega), Below.heap_alloc _ _ _ (by omega), heap_alloc_new]
  · rw [Below.heap_alloc _ _ _ (by omega), ← s1, heap_alloc_new]
  · rw [← s2, heap_alloc_new]

set_option maxHeartbeats 4000000 in
theorem nobody_all (w : World) (kd q i k : Int) (s : ByteArray) (b : Nat) :
    Calls Try.prog 5 #[.agg #[.int .i64 kd, .int .i64 q, .int .i64 i, .int .i64 k, .string s, .int .u8 (b : Int)]] w fun e w' => e = .returned (.bool true) ∧ Below w.heap.size w w' := by
  have a3 := alloc3 w (.cells #[.int .i64 kd, .int .i64 q, .int .i64 i, .int .i64 k, .string s, .int .u8 (b : Int)] 29) (.cells #[.bool false, .slice none 0 0, .slice none 0 0] 46) (.cells #[.pointer none, .pointer (some ⟨w.heap.size + 1, 0, none⟩)] 23)
  have H3 := hide1 a3
  clear a3
  go_enter Try.func5, Try.ntmps5
  go_wp2_with fail
  have hB : Below w.heap.size w (((w.alloc (.cells #[.int .i64 kd, .int .i64 q, .int .i64 i, .int .i64 k, .string s, .int .u8 (b : Int)] 29)).alloc (.cells #[.bool false, .slice none 0 0, .slice none 0 0] 46)).alloc (.cells #[.pointer none, .pointer (some ⟨w.heap.size + 1, 0, none⟩)] 23)) := ((below1 _).alloc (by simp) _).alloc (by simp; omega) _
  have HB := hide1 hB
  clear hB
  generalize ((w.alloc _).alloc _).alloc _ = W at H3 HB ⊢
  obtain ⟨b0, hb0⟩ : ∃ b0, w.heap.size = b0 := ⟨_, rfl⟩
  obtain ⟨b1, hb1⟩ : ∃ b1, w.heap.size + 1 = b1 := ⟨_, rfl⟩
  obtain ⟨b2, hb2⟩ : ∃ b2, w.heap.size + 2 = b2 := ⟨_, rfl⟩
  rw [hb1, hb2, hb0] at H3
  have hb3 : b1 + 1 = b2 := by omega
  rw [hb1, hb3, hb0]
  obtain ⟨r0, r1, r2⟩ := H3.out
  have c1 : W.cell? ⟨b0, 1, none⟩ = some (.int .i64 q) := by rw [cell_of_row W b0 1 _ _ _ r0]; rfl
  have c2 : W.cell? ⟨b0, 2, none⟩ = some (.int .i64 i) := by rw [cell_of_row W b0 2 _ _ _ r0]; rfl
  have c3 : W.cell? ⟨b0, 3, none⟩ = some (.int .i64 k) := by rw [cell_of_row W b0 3 _ _ _ r0]; rfl
  have c4 : W.cell? ⟨b0, 4, none⟩ = some (.string s) := by rw [cell_of_row W b0 4 _ _ _ r0]; rfl
  have e0 : W.cell? ⟨b2, 0, none⟩ = some (.pointer none) := by rw [cell_of_row W b2 0 _ _ _ r2]; rfl
  have e1 : W.cell? ⟨b2, 1, none⟩ = some (.pointer (some ⟨b1, 0, none⟩)) := by rw [cell_of_row W b2 1 _ _ _ r2]; rfl
  have n0 : Hid (Nob W (.pointer none)) := .inl rfl
  have n1 : Hid (Nob W (.pointer (some ⟨b1, 0, none⟩))) := .inr ⟨b1, rfl, by rw [cell_of_row W b1 0 _ _ _ r1]; rfl⟩
  have kA := hide1 (awake_any W)
  clear H3 r0 r1 r2 hb0 hb1 hb2 hb3
  go_loopw [11] (fun v wr => ∃ j : Nat, j ≤ 2 ∧ v = .int .i64 (j : Int) ∧ wr = W) (fun v _ => 2 - (intOf v).toNat)
  case atStart => exact ⟨0, by omega, rfl, rfl⟩
  case round =>
    obtain ⟨j, hj, rfl, rfl⟩ := hrel
    rcases (show j = 0 ∨ j = 1 ∨ j = 2 by omega) with rfl | rfl | rfl
    · rw [show ((0 : Nat) : Int) = 0 from rfl]
      go_wp2_with (first | (go_at_call 13; refine (take_no n0.out q i).mono ?_; rintro e w1 ⟨rfl, hw1⟩; obtain rfl := hw1.symm) | (go_at_call 12; refine (send_no n0.out q s).mono ?_; rintro e w1 ⟨rfl, hw1⟩; obtain rfl := hw1.symm) | (go_at_call 15; refine (drop_no n0.out q i).mono ?_; rintro e w1 ⟨rfl, hw1⟩; obtain rfl := hw1.symm) | (go_at_call 16; refine (double_no n0.out q i).mono ?_; rintro e w1 ⟨rfl, hw1⟩; obtain rfl := hw1.symm) | (go_at_call 17; refine (swap_no n0.out q i k).mono ?_; rintro e w1 ⟨rfl, hw1⟩; obtain rfl := hw1.symm) | (go_at_call 18; refine (forge_no n0.out q i s).mono ?_; rintro e w1 ⟨rfl, hw1⟩; obtain rfl := hw1.symm) | (go_at_call 19; refine (turn_no n0.out q i k 1).mono ?_; rintro e w1 ⟨rfl, hw1⟩; obtain rfl := hw1.symm) | (go_at_call 20; refine (clear_no n0.out q).mono ?_; rintro e w1 ⟨rfl, hw1⟩; obtain rfl := hw1.symm) | (go_at_call 10; refine (len_no n0.out q).mono ?_; rintro e w1 ⟨rfl, hw1⟩; obtain rfl := hw1.symm) | (go_at_call 9; refine (all_no n0.out q).mono ?_; rintro e w1 ⟨rfl, hw1⟩; obtain rfl := hw1.symm))
      exact ⟨⟨1, by omega, rfl, trivial⟩, by simp [intOf]⟩
    · rw [show ((1 : Nat) : Int) = 1 from rfl]
      go_wp2_with (first | (go_at_call 13; refine (take_no n1.out q i).mono ?_; rintro e w1 ⟨rfl, hw1⟩; obtain rfl := hw1.symm) | (go_at_call 12; refine (send_no n1.out q s).mono ?_; rintro e w1 ⟨rfl, hw1⟩; obtain rfl := hw1.symm) | (go_at_call 15; refine (drop_no n1.out q i).mono ?_; rintro e w1 ⟨rfl, hw1⟩; obtain rfl := hw1.symm) | (go_at_call 16; refine (double_no n1.out q i).mono ?_; rintro e w1 ⟨rfl, hw1⟩; obtain rfl := hw1.symm) | (go_at_call 17; refine (swap_no n1.out q i k).mono ?_; rintro e w1 ⟨rfl, hw1⟩; obtain rfl := hw1.symm) | (go_at_call 18; refine (forge_no n1.out q i s).mono ?_; rintro e w1 ⟨rfl, hw1⟩; obtain rfl := hw1.symm) | (go_at_call 19; refine (turn_no n1.out q i k 1).mono ?_; rintro e w1 ⟨rfl, hw1⟩; obtain rfl := hw1.symm) | (go_at_call 20; refine (clear_no n1.out q).mono ?_; rintro e w1 ⟨rfl, hw1⟩; obtain rfl := hw1.symm) | (go_at_call 10; refine (len_no n1.out q).mono ?_; rintro e w1 ⟨rfl, hw1⟩; obtain rfl := hw1.symm) | (go_at_call 9; refine (all_no n1.out q).mono ?_; rintro e w1 ⟨rfl, hw1⟩; obtain rfl := hw1.symm))
      exact ⟨⟨2, by omega, rfl, trivial⟩, by simp [intOf]⟩
    · change Hid _ at kA
      rw [show ((2 : Nat) : Int) = 2 from rfl]
      go_wp2_with (go_at_call 11; refine kA.out.mono ?_; rintro e w2 ⟨rfl, hb2⟩)
      go_ret
      exact ⟨rfl, HB.out.trans (hb2.mono HB.out.size)⟩

end Go.Proofs.Ytfnedohampmnoaa
