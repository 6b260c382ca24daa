/- New, checkParty, checkPlace, Len, Clear. -/
import Derived.Test.YtfnedohampmnoaaYa
namespace Go.Proofs.Ytfnedohampmnoaa
open Go.RowKit
set_option maxRecDepth 100000
attribute [local go_sem] not_any

/- what is wrong with a party; with a party and a place -/
def pty (to : Int) : Int := if to < 0 ∨ 1 < to then 1 else 0
def plc (N : Nat → List ByteArray) (to i : Int) : Int := if to < 0 ∨ 1 < to then 1 else if i < 0 ∨ ((N to.toNat).length : Int) ≤ i then 6 else 0

theorem nw_cells {B t : Nat} {x : Nat → Value} {N : Nat → List ByteArray} {w : World} (h : Nw B t x N w) : w.cell? ⟨t, 0, none⟩ = some (.bool true) ∧ w.cell? ⟨t, 1, none⟩ = some (x 0) ∧ w.cell? ⟨t, 2, none⟩ = some (x 1) ∧ w.frozen? ⟨t, 1, none⟩ = false ∧ w.frozen? ⟨t, 2, none⟩ = false :=
  ⟨by rw [cell_of_row w t 0 _ _ _ h.row]; rfl, by rw [cell_of_row w t 1 _ _ _ h.row]; rfl, by rw [cell_of_row w t 2 _ _ _ h.row]; rfl, frozen_of_row w t 1 _ _ h.row, frozen_of_row w t 2 _ _ h.row⟩

theorem new_any (w : World) : Calls Try.prog 6 #[] w fun e w' => e = .returned (.pointer (some ⟨w.heap.size, 0, none⟩)) ∧ Nw w.heap.size w.heap.size (fun _ => .slice none 0 0) (fun _ => []) w' ∧ Below w.heap.size w w' := by
  go_enter Try.func6, Try.ntmps6
  go_wp2
  go_ret
  exact ⟨rfl, ⟨heap_alloc_new _ _, fun _ _ => Lst.nil _ _, fun g h => (by cases h), fun _ _ h => (by cases h), Nat.le_refl _⟩, below1 _⟩

theorem party_any {B t : Nat} {x : Nat → Value} {N : Nat → List ByteArray} {w : World} (h : Nw B t x N w) (to : Int) :
    Calls Try.prog 28 #[.pointer (some ⟨t, 0, none⟩), .int .i64 to] w fun e w' => e = .returned (.int .i64 (pty to)) ∧ w' = w := by
  obtain ⟨c0, _, _, _, _⟩ := nw_cells h
  clear h
  unfold pty
  by_cases h0 : to < 0
  · rw [if_pos (.inl h0)]
    go_enter Try.func28, Try.ntmps28
    go_wp2
    go_ret
    exact ⟨rfl, rfl⟩
  · by_cases h1 : 2 ≤ to
    · rw [if_pos (.inr (by omega))]
      go_enter Try.func28, Try.ntmps28
      go_wp2
      go_ret
      exact ⟨rfl, rfl⟩
    · rw [if_neg (by omega)]
      go_enter Try.func28, Try.ntmps28
      go_wp2
      go_ret
      exact ⟨rfl, rfl⟩

theorem place_any {B t : Nat} {x : Nat → Value} {N : Nat → List ByteArray} {w : World} (h : Nw B t x N w) (to i : Int) :
    Calls Try.prog 31 #[.pointer (some ⟨t, 0, none⟩), .int .i64 to, .int .i64 i] w fun e w' => e = .returned (.int .i64 (plc N to i)) ∧ w' = w := by
  have kP := hide1 (party_any h to)
  obtain ⟨c0, c1, c2, _, _⟩ := nw_cells h
  unfold pty at kP
  unfold plc
  by_cases hb : to < 0 ∨ 1 < to
  · rw [if_pos hb] at *
    go_enter Try.func31, Try.ntmps31
    go_wp2_with (go_at_call 28; refine kP.out.mono ?_; rintro e w1 ⟨rfl, rfl⟩)
    go_ret
    exact ⟨rfl, rfl⟩
  · rw [if_neg hb] at *
    by_cases hi : i < 0
    · rw [if_pos (.inl hi)]
      go_enter Try.func31, Try.ntmps31
      go_wp2_with (go_at_call 28; refine kP.out.mono ?_; rintro e w1 ⟨rfl, rfl⟩)
      go_ret
      exact ⟨rfl, rfl⟩
    · rcases (show to = 0 ∨ to = 1 by omega) with rfl | rfl
      · obtain ⟨a, c, hx⟩ := (h.own 0 (by omega)).form
        rw [hx] at c1
        change Calls _ _ _ _ (fun e w' => e = .returned (.int .i64 (if i < 0 ∨ ((N 0).length : Int) ≤ i then 6 else 0)) ∧ _)
        generalize (N 0).length = n at *
        clear h hx c2
        by_cases hn : (n : Int) ≤ i
        · rw [if_pos (.inr hn)]
          go_enter Try.func31, Try.ntmps31
          go_wp2_with (go_at_call 28; refine kP.out.mono ?_; rintro e w1 ⟨rfl, rfl⟩)
          go_ret
          exact ⟨rfl, rfl⟩
        · rw [if_neg (by omega)]
          go_enter Try.func31, Try.ntmps31
          go_wp2_with (go_at_call 28; refine kP.out.mono ?_; rintro e w1 ⟨rfl, rfl⟩)
          go_ret
          exact ⟨rfl, rfl⟩
      · obtain ⟨a, c, hx⟩ := (h.own 1 (by omega)).form
        rw [hx] at c2
        change Calls _ _ _ _ (fun e w' => e = .returned (.int .i64 (if i < 0 ∨ ((N 1).length : Int) ≤ i then 6 else 0)) ∧ _)
        generalize (N 1).length = n at *
        clear h hx c1
        by_cases hn : (n : Int) ≤ i
        · rw [if_pos (.inr hn)]
          go_enter Try.func31, Try.ntmps31
          go_wp2_with (go_at_call 28; refine kP.out.mono ?_; rintro e w1 ⟨rfl, rfl⟩)
          go_ret
          exact ⟨rfl, rfl⟩
        · rw [if_neg (by omega)]
          go_enter Try.func31, Try.ntmps31
          go_wp2_with (go_at_call 28; refine kP.out.mono ?_; rintro e w1 ⟨rfl, rfl⟩)
          go_ret
          exact ⟨rfl, rfl⟩

theorem len_any {B t : Nat} {x : Nat → Value} {N : Nat → List ByteArray} {w : World} (h : Nw B t x N w) (k : Nat) (hk : k < 2) :
    Calls Try.prog 10 #[.pointer (some ⟨t, 0, none⟩), .int .i64 (k : Int)] w fun e w' => e = .returned (.int .i64 ((N k).length : Int)) ∧ w' = w := by
  have kP := hide1 (party_any h (k : Int))
  obtain ⟨c0, c1, c2, _, _⟩ := nw_cells h
  unfold pty at kP
  rw [if_neg (by omega)] at kP
  obtain ⟨a, c, hx⟩ := (h.own k hk).form
  rcases (show k = 0 ∨ k = 1 by omega) with rfl | rfl
  · rw [hx] at c1
    generalize (N 0).length = n at *
    clear h hx c2
    change Hid (Calls _ _ #[_, .int .i64 0] _ _) at kP
    go_enter Try.func10, Try.ntmps10
    go_wp2_with (go_at_call 28; refine kP.out.mono ?_; rintro e w1 ⟨rfl, rfl⟩)
    go_ret
    exact ⟨rfl, rfl⟩
  · rw [hx] at c2
    generalize (N 1).length = n at *
    clear h hx c1
    change Hid (Calls _ _ #[_, .int .i64 1] _ _) at kP
    go_enter Try.func10, Try.ntmps10
    go_wp2_with (go_at_call 28; refine kP.out.mono ?_; rintro e w1 ⟨rfl, rfl⟩)
    go_ret
    exact ⟨rfl, rfl⟩

theorem len_none {B t : Nat} {x : Nat → Value} {N : Nat → List ByteArray} {w : World} (h : Nw B t x N w) (to : Int) (hb : to < 0 ∨ 1 < to) :
    Calls Try.prog 10 #[.pointer (some ⟨t, 0, none⟩), .int .i64 to] w fun e w' => e = .returned (.int .i64 0) ∧ w' = w := by
  have kP := hide1 (party_any h to)
  unfold pty at kP
  rw [if_pos hb] at kP
  clear h hb
  go_enter Try.func10, Try.ntmps10
  go_wp2_with (go_at_call 28; refine kP.out.mono ?_; rintro e w1 ⟨rfl, rfl⟩)
  go_ret
  exact ⟨rfl, rfl⟩

theorem clear_bad {B t : Nat} {x : Nat → Value} {N : Nat → List ByteArray} {w : World} (h : Nw B t x N w) (to : Int) (hb : to < 0 ∨ 1 < to) :
    Calls Try.prog 20 #[.pointer (some ⟨t, 0, none⟩), .int .i64 to] w fun e w' => e = .returned (.int .i64 1) ∧ w' = w := by
  have kP := hide1 (party_any h to)
  unfold pty at kP
  rw [if_pos hb] at kP
  clear h hb
  go_enter Try.func20, Try.ntmps20
  go_wp2_with (go_at_call 28; refine kP.out.mono ?_; rintro e w1 ⟨rfl, rfl⟩)
  go_ret
  exact ⟨rfl, rfl⟩

theorem clear_any {B t : Nat} {x : Nat → Value} {N : Nat → List ByteArray} {w : World} (h : Nw B t x N w) (k : Nat) (hk : k < 2) :
    Calls Try.prog 20 #[.pointer (some ⟨t, 0, none⟩), .int .i64 (k : Int)] w fun e w' => e = .returned (.int .i64 0) ∧ ∃ x', Nw B t x' (upd N k []) w' ∧ Mv t x x' w w' := by
  have kP := hide1 (party_any h (k : Int))
  obtain ⟨c0, c1, c2, z1, z2⟩ := nw_cells h
  have H := hide1 h
  unfold pty at kP
  rw [if_neg (by omega)] at kP
  clear h
  rcases (show k = 0 ∨ k = 1 by omega) with rfl | rfl
  · change Hid (Calls _ _ #[_, .int .i64 0] _ _) at kP
    go_enter Try.func20, Try.ntmps20
    go_wp2_with (go_at_call 28; refine kP.out.mono ?_; rintro e w1 ⟨rfl, rfl⟩)
    go_ret
    refine ⟨rfl, upd x 0 (.slice none 0 0), H.out.put hk ?_ (Lst.nil _ _) (by simp) rfl rfl rfl (fun g _ ht _ => heap_setCell_other _ _ _ _ ht) (fun g hg => by cases hg)⟩
    rw [heap_setCell_same _ t 1 _ _ _ H.out.row]
    rfl
  · change Hid (Calls _ _ #[_, .int .i64 1] _ _) at kP
    go_enter Try.func20, Try.ntmps20
    go_wp2_with (go_at_call 28; refine kP.out.mono ?_; rintro e w1 ⟨rfl, rfl⟩)
    go_ret
    refine ⟨rfl, upd x 1 (.slice none 0 0), H.out.put hk ?_ (Lst.nil _ _) (by simp) rfl rfl rfl (fun g _ ht _ => heap_setCell_other _ _ _ _ ht) (fun g hg => by cases hg)⟩
    rw [heap_setCell_same _ t 2 _ _ _ H.out.row]
    rfl

end Go.Proofs.Ytfnedohampmnoaa
