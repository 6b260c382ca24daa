/- What no call made; the walk of StreamNobody. -/
import Derived.Test.YtceemkjmmfkmdaaJ06
namespace Go.Proofs.Ytceemkjmmfkmdaa.St
open Go.RowKit
set_option maxRecDepth 100000
attribute [local go_sem] not_any

/- a joiner that no call made -/
def zeroJ : Obj := .cells #[.bool false, .slice none 0 0] 66 (0, 0)
def Nob (w : World) (p : Value) : Prop := p = .pointer none ∨ ∃ g, p = .pointer (some ⟨g, 0, none⟩) ∧ w.heap[g]? = some zeroJ
theorem Nob.below {w w' : World} {p : Value} (h : Nob w p) (hb : Below w.heap.size w w') : Nob w' p := by
  rcases h with h | ⟨g, h, hh⟩
  · exact .inl h
  · exact .inr ⟨g, h, (hb.block _ (lt_heap hh)).trans hh⟩
theorem made_nob (w : World) (p : Value) (h : Nob w p) : Calls Try.prog 24 #[p] w fun e w' => e = .returned (.bool true) ∧ w' = w := by
  rcases h with rfl | ⟨g, rfl, hh⟩
  · go_enter Try.func24, Try.ntmps24
    go_wp2
    go_ret
    exact ⟨rfl, rfl⟩
  · have c0 : w.cell? ⟨g, 0, none⟩ = some (.bool false) := by rw [cell_of_row w g 0 _ _ _ hh]; rfl
    clear hh
    go_enter Try.func24, Try.ntmps24
    go_wp2
    go_ret
    exact ⟨rfl, rfl⟩
theorem add_nob (w : World) (p : Value) (i : Int) (m c : Nat) (a : Option Addr) (h : Nob w p) : Calls Try.prog 17 #[p, .int .i64 i, .slice a m c] w fun e w' => e = .returned (.int .i64 3) ∧ Below w.heap.size w w' := by
  have kM := fun w h => hide1 (made_nob w p h)
  go_enter Try.func17, Try.ntmps17
  go_wp2_with fail
  go_at_call 24
  refine (kM _ h).out.mono ?_
  rintro e w1 ⟨rfl, he⟩
  obtain rfl := he.symm
  go_wp2
  go_ret
  exact ⟨rfl, Below.refl _ _⟩
theorem left_nob (w : World) (p : Value) (h : Nob w p) : Calls Try.prog 18 #[p] w fun e w' => e = .returned (.int .i64 0) ∧ Below w.heap.size w w' := by
  have kM := fun w h => hide1 (made_nob w p h)
  go_enter Try.func18, Try.ntmps18
  go_wp2_with fail
  go_at_call 24
  refine (kM _ h).out.mono ?_
  rintro e w1 ⟨rfl, he⟩
  obtain rfl := he.symm
  go_wp2
  go_ret
  exact ⟨rfl, Below.refl _ _⟩
theorem all_nob (w : World) (p : Value) (h : Nob w p) : Calls Try.prog 19 #[p] w fun e w' => e = .returned (.tuple #[.slice none 0 0, .bool false]) ∧ Below w.heap.size w w' := by
  have kM := fun w h => hide1 (made_nob w p h)
  go_enter Try.func19, Try.ntmps19
  go_wp2_with fail
  go_at_call 24
  refine (kM _ h).out.mono ?_
  rintro e w1 ⟨rfl, he⟩
  obtain rfl := he.symm
  go_wp2
  go_ret2
  exact ⟨rfl, Below.refl _ _⟩

set_option maxHeartbeats 4000000 in
theorem nobody_all (i : Int) (m c : Nat) (a : Option Addr) (w : World) :
    Calls Try.prog 7 #[.int .i64 i, .slice a m c] w fun e w' => e = .returned (.bool true) ∧ Below w.heap.size w w' := by
  have kA := fun w => hide1 (awake_any w)
  have k1 := fun w p h => hide1 (add_nob w p i m c a h)
  have k2 := fun w p h => hide1 (left_nob w p h)
  have k3 := fun w p h => hide1 (all_nob w p h)
  go_enter Try.func7, Try.ntmps7
  go_upto_region 2 with (fail)
  generalize hX : World.alloc (World.alloc w _) _ = X
  have x0 : X.heap[w.heap.size]? = some zeroJ := by rw [← hX]; exact heap_alloc2_old _ _ _
  have x1 : X.heap[w.heap.size + 1]? = some (.cells #[.pointer none, .pointer (some ⟨w.heap.size, 0, none⟩)] 44 (0, 0)) := by rw [← hX]; exact heap_alloc2_new _ _ _
  have xb : Below w.heap.size w X := by rw [← hX]; exact (below1 _).trans (((Below.refl _ _).alloc (Nat.le_refl _) _).mono (by simp))
  obtain ⟨g, hg⟩ : ∃ g, g = w.heap.size := ⟨_, rfl⟩
  obtain ⟨g1, hg1⟩ : ∃ g, g = w.heap.size + 1 := ⟨_, rfl⟩
  rw [← hg1, ← hg] at x1
  rw [← hg] at x0
  rw [← hg1]
  have X0 := hide1 x0
  have X1 := hide1 x1
  have XB := hide1 xb
  clear hX x0 x1 xb hg hg1
  go_wp2
  go_loopw [13] (fun v13 wr => ∃ k : Nat, k ≤ 2 ∧ v13 = .int .i64 k ∧ Below X.heap.size X wr) (fun v13 _ => 2 - (intOf v13).toNat)
  case atStart => exact ⟨0, Nat.zero_le _, rfl, Below.refl _ _⟩
  case round =>
    obtain ⟨k, hk, rfl, hbe⟩ := hrel
    obtain ⟨c0, c1⟩ := (⟨by rw [cell_of_row wr g1 0 _ _ _ ((hbe.block _ (lt_heap X1.out)).trans X1.out)]; rfl, by rw [cell_of_row wr g1 1 _ _ _ ((hbe.block _ (lt_heap X1.out)).trans X1.out)]; rfl⟩ : wr.cell? ⟨g1, 0, none⟩ = some (.pointer none) ∧ wr.cell? ⟨g1, 1, none⟩ = some (.pointer (some ⟨g, 0, none⟩)))
    have HE := hide1 hbe
    by_cases hlt : k < 2
    · obtain ⟨p, hp, hn⟩ : ∃ p, wr.cell? ⟨g1, k, none⟩ = some p ∧ Nob wr p := by
        rcases (by omega : k = 0 ∨ k = 1) with rfl | rfl
        · exact ⟨_, c0, .inl rfl⟩
        · exact ⟨_, c1, .inr ⟨g, rfl, (hbe.block _ (lt_heap X0.out)).trans X0.out⟩⟩
      have bk : (k : Int) < 2 := by omega
      have HN := hide1 hn
      clear c0 c1 hbe hn
      go_wp2_with fail
      go_at_call 19
      refine (k3 _ p HN.out).out.mono ?_
      rintro e w3 ⟨rfl, hb3⟩
      have H3 := hide1 (HE.out.trans (hb3.mono HE.out.size))
      have N3 := hide1 (HN.out.below hb3)
      clear hb3 HE HN hp
      go_wp2_with fail
      go_at_call 17
      refine (k1 _ p N3.out).out.mono ?_
      rintro e w4 ⟨rfl, hb4⟩
      have H4 := hide1 (H3.out.trans (hb4.mono H3.out.size))
      have N4 := hide1 (N3.out.below hb4)
      clear hb4 H3 N3
      go_wp2_with fail
      go_at_call 18
      refine (k2 _ p N4.out).out.mono ?_
      rintro e w5 ⟨rfl, hb5⟩
      have H5 := hide1 (H4.out.trans (hb5.mono H4.out.size))
      clear hb5 H4 N4
      go_wp2
      go_roundw
      case rel => exact ⟨k + 1, by omega, by go_num, H5.out⟩
      case measure => simp [intOf]; omega
    · obtain rfl : k = 2 := by omega
      clear c0 c1 hbe
      go_wp2_with fail
      go_at_call 11
      refine (kA _).out.mono ?_
      rintro e w6 ⟨rfl, hb6⟩
      have B6 := hide1 ((XB.out.trans (HE.out.mono XB.out.size)).trans (hb6.mono (Nat.le_trans XB.out.size HE.out.size)))
      clear hb6
      go_wp2
      go_ret
      exact ⟨rfl, B6.out⟩
end Go.Proofs.Ytceemkjmmfkmdaa.St
