/- How great things of a class are, and what they cost. -/
import Derived.Test.YtnkdbkhgfakjaaaDoorKa
namespace Go.Proofs.YtnkdbkhgfakjaaaDoor
open Go.RowKit
set_option maxRecDepth 100000
attribute [local go_sem] not_any mf_any

theorem box5 {w : World} {g : Nat} {x y z u v : Value} {t : TypeId} (h : w.heap[g]? = some (.cells #[x, y, z, u, v] t (0, 0))) :
    w.cell? ⟨g, 0, none⟩ = some x ∧ w.cell? ⟨g, 1, none⟩ = some y ∧ w.cell? ⟨g, 2, none⟩ = some z ∧ w.cell? ⟨g, 3, none⟩ = some u ∧ w.cell? ⟨g, 4, none⟩ = some v ∧ g < w.heap.size :=
  ⟨by rw [cell_of_row w g 0 _ _ _ h]; rfl, by rw [cell_of_row w g 1 _ _ _ h]; rfl, by rw [cell_of_row w g 2 _ _ _ h]; rfl, by rw [cell_of_row w g 3 _ _ _ h]; rfl, by rw [cell_of_row w g 4 _ _ _ h]; rfl, lt_heap h⟩

theorem belowN {B : Nat} {w w' : World} (h : Below B w w') (q : Nat) : Below B w (w'.drewN q) := ⟨h.1, h.2, h.3, h.4, h.5⟩

theorem mayBe_any (k b m q n : Int) (w : World) :
    Calls Tryd.prog 16 #[cls k b m q n] w fun e w' => e = .returned (.bool (decide (May k b m q n))) ∧ Below w.heap.size w w' := by
  have kC := fun w => hide1 (check_any k b m q n w)
  have hd : (chk k b m q n == 0) = decide (May k b m q n) := by
    by_cases h : May k b m q n
    · rw [chk_ok h, decide_eq_true h]; rfl
    · rw [decide_eq_false h]; simpa using chk_not h
  generalize chk k b m q n = c at *
  generalize decide (May k b m q n) = d at *
  unfold cls at *
  go_enter Tryd.func16, Tryd.ntmps16
  go_upto_region 1 with (fail)
  generalize hX : World.alloc w _ = X
  have HX : Hid (Below w.heap.size w X) := by rw [← hX]; exact below1 _
  have h0 := hX ▸ heap_alloc_new w _
  obtain ⟨c0, c1, c2, c3, c4, l0⟩ := box5 h0
  clear hX h0
  go_wp2_with (go_at_call 15; refine (kC _).out.mono ?_; rintro e w1 ⟨rfl, hb1⟩)
  go_ret
  exact ⟨by trivial, HX.out.trans (hb1.mono HX.out.size)⟩

theorem may_ways {k b m q n : Int} (h : May k b m q n) :
    ((k = 1 ∨ k = 4) ∧ m = 0 ∧ q = 0 ∧ n = 0) ∨ (k = 3 ∧ b = 1 ∧ m = 0 ∧ q = 0 ∧ n = 0) ∨ (k = 2 ∧ (1 ≤ m ∧ m ≤ 6) ∧ (1 ≤ q ∧ q ≤ 6) ∧ (1 ≤ n ∧ n ≤ 6)) := by
  unfold May at h; omega

def sz1 (k b m q n : Int) : Int := if May k b m q n then if k = 2 then m * q else 1 else 0
def sz2 (k b m q n : Int) : Int := if May k b m q n then if k = 2 then q * n else 1 else 0
def sz3 (k b m q n : Int) : Int := if May k b m q n then if k = 2 then m * n else if k = 4 then 0 else 1 else 0
def wd1 (k b m q n : Int) : Int := if May k b m q n then if k = 4 then 1 else b else 0
def wd2 (k b m q n : Int) : Int := if May k b m q n then b else 0
def tr1 (k b m q n : Int) : Int := if May k b m q n then if k = 2 then m * q * b else if k = 1 then b else 1 else 0
def tr2 (k b m q n : Int) : Int := if May k b m q n then if k = 2 then n else 1 else 0
def wds (k b m q n : Int) : Int := if k = 4 then sz1 k b m q n else sz1 k b m q n + sz2 k b m q n

theorem prod6 {x y : Int} (hx : 1 ≤ x ∧ x ≤ 6) (hy : 1 ≤ y ∧ y ≤ 6) : 1 ≤ x * y ∧ x * y ≤ 36 := by
  have h : (x = 1 ∨ x = 2 ∨ x = 3 ∨ x = 4 ∨ x = 5 ∨ x = 6) := by omega
  rcases h with rfl | rfl | rfl | rfl | rfl | rfl <;> omega
theorem wrap6 {x y : Int} (hx : 1 ≤ x ∧ x ≤ 6) (hy : 1 ≤ y ∧ y ≤ 6) : IntKind.i64.wrap (x * y) = x * y := by
  have := prod6 hx hy
  rw [IntKind.wrap_i64]; omega
theorem prod64 {x y : Int} (hx : 1 ≤ x ∧ x ≤ 36) (hy : 1 ≤ y ∧ y ≤ 64) : 1 ≤ x * y ∧ x * y ≤ 2304 := by
  constructor
  · exact Int.le_trans (by omega) (Int.mul_le_mul hx.1 hy.1 (by omega) (by omega))
  · exact Int.le_trans (Int.mul_le_mul hx.2 hy.2 (by omega) (by omega)) (by omega)
theorem wrap64 {x y : Int} (hx : 1 ≤ x ∧ x ≤ 36) (hy : 1 ≤ y ∧ y ≤ 64) : IntKind.i64.wrap (x * y) = x * y := by
  have := prod64 hx hy
  rw [IntKind.wrap_i64]; omega
theorem sz1_le (k b m q n : Int) : 0 ≤ sz1 k b m q n ∧ sz1 k b m q n ≤ 36 := by
  unfold sz1; split
  · split
    · rename_i h h2; have := h.2.2.2.1 h2; have := prod6 this.1 this.2.1; omega
    · omega
  · omega
theorem sz2_le (k b m q n : Int) : 0 ≤ sz2 k b m q n ∧ sz2 k b m q n ≤ 36 := by
  unfold sz2; split
  · split
    · rename_i h h2; have := h.2.2.2.1 h2; have := prod6 this.2.1 this.2.2; omega
    · omega
  · omega
theorem sz3_le (k b m q n : Int) : 0 ≤ sz3 k b m q n ∧ sz3 k b m q n ≤ 36 := by
  unfold sz3; split
  · split
    · rename_i h h2; have := h.2.2.2.1 h2; have := prod6 this.1 this.2.2; omega
    · split <;> omega
  · omega
theorem wd1_le {k b m q n : Int} (h : May k b m q n) : 1 ≤ wd1 k b m q n ∧ wd1 k b m q n ≤ 64 := by
  unfold wd1; rw [if_pos h]; have := h.2.1; split <;> omega
theorem wd2_le {k b m q n : Int} (h : May k b m q n) : 1 ≤ wd2 k b m q n ∧ wd2 k b m q n ≤ 64 := by
  unfold wd2; rw [if_pos h]; exact h.2.1

end Go.Proofs.YtnkdbkhgfakjaaaDoor
