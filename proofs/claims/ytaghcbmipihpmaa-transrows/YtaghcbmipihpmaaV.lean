/- The walk of BitsGets. -/
import Derived.Test.YtaghcbmipihpmaaT
import Derived.Test.YtaghcbmipihpmaaG
namespace Go.Proofs.Ytaghcbmipihpmaa
open Go.RowKit
set_option maxRecDepth 100000
attribute [local go_sem] not_any mf_any field_words

theorem info4 : (Try.prog.info? 4).map (fun i => (i.zero, i.size, i.bytes)) = some (some (.bool false), 1, 1) := by kernel_rfl

theorem int_odd (x : Nat) : ((x : Int) % 2 == 1) = decide (x % 2 = 1) := by
  by_cases h : x % 2 = 1
  · have : (x : Int) % 2 = 1 := by omega
    simp [h, this]
  · have : ¬ (x : Int) % 2 = 1 := by omega
    simp [h, this]

theorem below_alloc1 (w : World) (o : Obj) : Below w.heap.size w (w.alloc o) := (Below.refl _ _).alloc (Nat.le_refl _) _

theorem own_bl {w : World} {base n : Nat} {a : Option Addr} {c : Nat} {l : List Bool} (h : w.ownsRow base 4 1 (.slice a n c) n (bools l)) (hl : l.length = n) : Bl w n a l :=
  ⟨hl, fun j x hj => by
    have hjn : j < n := by rw [← hl]; exact (List.getElem?_eq_some_iff.1 hj).1
    obtain ⟨g, c', hv, _⟩ := row_some h (by omega)
    cases hv
    refine ⟨g, 0, rfl, ?_⟩
    rw [Nat.zero_add, h.cellAt j (by omega)]
    simp [bools, hj]⟩

theorem bools_set (l : List Bool) (j : Nat) (x : Bool) : (bools l).set j (.bool x) = bools (l.set j x) := by simp [bools]
theorem bools_one (l : List Bool) : ∀ v ∈ bools l, v.oneCell' = true := by
  intro v hv
  obtain ⟨x, _, rfl⟩ := List.mem_map.1 hv
  rfl

theorem count_bl (b : Nat) (w : World) (n : Nat) (a : Option Addr) (l : List Bool) (hv : Vc b w n a l) (hn : n ≤ 4194304) :
    Calls Try.prog 18 #[.agg #[.int .i64 n, .slice a (need n 64) (need n 64)]] w fun e w' => e = .returned (.int .i64 (l.count true : Nat)) ∧ Below w.heap.size w w' := by
  refine (count_any b w n a l hv hn).mono ?_
  rintro e w' ⟨rfl, rfl⟩
  exact ⟨rfl, below_alloc1 _ _⟩
theorem get_bl (b : Nat) (w : World) (n : Nat) (a : Option Addr) (l : List Bool) (i : Int) (hv : Vc b w n a l) (hn : n ≤ 4194304) :
    Calls Try.prog 27 #[.agg #[.int .i64 n, .slice a (need n 64) (need n 64)], .int .i64 i] w fun e w' => e = .returned (.bool (getI l i)) ∧ Below w.heap.size w w' := by
  refine (get_any b w n a l i hv hn).mono ?_
  rintro e w' ⟨rfl, hq⟩
  exact ⟨rfl, gr_below hq⟩
theorem len_bl (n : Int) (s : Value) (w : World) (hs : s.oneCell' = true) :
    Calls Try.prog 29 #[.agg #[.int .i64 n, s]] w fun e w' => e = .returned (.int .i64 n) ∧ Below w.heap.size w w' := by
  refine (len_any n s w hs).mono ?_
  rintro e w' ⟨rfl, rfl⟩
  exact ⟨rfl, below_alloc1 _ _⟩
end Go.Proofs.Ytaghcbmipihpmaa
