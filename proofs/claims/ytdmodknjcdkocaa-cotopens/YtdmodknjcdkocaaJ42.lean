/- Ones counted: Count, Odd. The walk of BitsGets. -/
import Derived.Test.YtdmodknjcdkocaaJ27
import Derived.Test.YtdmodknjcdkocaaJ41
namespace Go.Proofs.Ytdmodknjcdkocaa.T
open Go.RowKit
set_option maxRecDepth 100000
attribute [local go_sem] not_any mf_any

theorem wrap_small {x : Nat} (h : x < 18446744073709551616) : IntKind.u64.wrap (x : Int) = (x : Int) := by
  rw [IntKind.wrap_u64]; omega

theorem wraps_i64 (n : Int) (h₀ : 0 ≤ n) (h₁ : n < 2 ^ 63) : IntKind.i64.wrap n = n := by rw [IntKind.wrap_i64]; omega

theorem and_127 {c : Nat} (h : c < 9223372036854775808) : bits .and .i64 (c : Int) 127 = ((c % 128 : Nat) : Int) := by
  have := bits_mask .i64 63 (by decide) wraps_i64 7 (by decide) (c : Int) (by omega) (by omega)
  simpa using this

theorem pk_lt (k : Nat) : ∀ (ds : List Nat), (∀ d ∈ ds, d < 2 ^ k) → pk k ds < 2 ^ (k * ds.length)
  | [], _ => by simp [pk]
  | d :: ds, h => by
    have h1 := pk_lt k ds (fun x hx => h x (by simp [hx]))
    have h2 := h d (by simp)
    rw [pk, List.length_cons, Nat.mul_add, Nat.mul_one, Nat.pow_add, Nat.mul_comm (2 ^ (k * ds.length))]
    have : 2 ^ k * pk k ds + 2 ^ k ≤ 2 ^ k * 2 ^ (k * ds.length) := by
      rw [← Nat.mul_succ]
      exact Nat.mul_le_mul_left _ h1
    omega

theorem chunk_pad (l : List Bool) (k : Nat) : ∃ l', l'.length = 64 ∧ pack l' = chunk 64 l k ∧ l'.count true = ((l.drop (64 * k)).take 64).count true := by
  refine ⟨(l.drop (64 * k)).take 64 ++ List.replicate (64 - ((l.drop (64 * k)).take 64).length) false, ?_, pack_falses _ _, ?_⟩
  · have : ((l.drop (64 * k)).take 64).length ≤ 64 := by simp; omega
    rw [List.length_append, List.length_replicate]
    omega
  · rw [List.count_append, List.count_replicate]
    simp

theorem and_lit (x m : Nat) (M : Int) (hM : M = (m : Int)) (hx : x < 18446744073709551616) (hm : m < 18446744073709551616) : bits .and .u64 (x : Int) M = ((x &&& m : Nat) : Int) := by rw [hM, u64_and_nat _ _ hx hm]

theorem and_le {x m : Nat} : x &&& m ≤ m := Nat.and_le_right

theorem count_step (l : List Bool) (k : Nat) : (l.take (64 * (k + 1))).count true = (l.take (64 * k)).count true + ((l.drop (64 * k)).take 64).count true := by
  rw [← List.count_append, ← List.take_add]
  congr 2

end Go.Proofs.Ytdmodknjcdkocaa.T

namespace Go.Proofs.Ytdmodknjcdkocaa.T
open Go.RowKit
set_option maxRecDepth 100000
attribute [local go_sem] not_any mf_any field_words

theorem info4 : (Try.prog.info? 4).map (fun i => (i.zero, i.size, i.bytes)) = some (some (.bool false), 1, 1) := by kernel_rfl

theorem int_odd (x : Nat) : ((x : Int) % 2 == 1) = decide (x % 2 = 1) := by
  by_cases h : x % 2 = 1
  · have : (x : Int) % 2 = 1 := by omega
    simp [h, this]
  · have : ¬ (x : Int) % 2 = 1 := by omega
    simp [h, this]

theorem below_alloc1 (w : World) (o : Obj) : Below w.heap.size w (w.alloc o) := (Below.refl _ _).alloc (Nat.le_refl _) _

theorem own_bl {w : World} {base n : Nat} {a : Option Addr} {c : Nat} {l : List Bool} (h : w.ownsRow base 4 1 (.slice a n c) n (bools l)) (hl : l.length = n) : Bl w n a l :=
  ⟨hl, fun j x hj => by
    have hjn : j < n := by rw [← hl]; exact (List.getElem?_eq_some_iff.1 hj).1
    obtain ⟨g, c', hv, _⟩ := row_some h (by omega)
    cases hv
    refine ⟨g, 0, rfl, ?_⟩
    rw [Nat.zero_add, h.cellAt j (by omega)]
    simp [bools, hj]⟩

theorem bools_set (l : List Bool) (j : Nat) (x : Bool) : (bools l).set j (.bool x) = bools (l.set j x) := by simp [bools]
theorem bools_one (l : List Bool) : ∀ v ∈ bools l, v.oneCell' = true := by
  intro v hv
  obtain ⟨x, _, rfl⟩ := List.mem_map.1 hv
  rfl

theorem get_bl (b : Nat) (w : World) (n : Nat) (a : Option Addr) (l : List Bool) (i : Int) (hv : Vc b w n a l) (hn : n ≤ 4194304) :
    Calls Try.prog 34 #[.agg #[.int .i64 n, .slice a (need n 64) (need n 64)], .int .i64 i] w fun e w' => e = .returned (.bool (getI l i)) ∧ Below w.heap.size w w' := by
  refine (get_any b w n a l i hv hn).mono ?_
  rintro e w' ⟨rfl, hq⟩
  exact ⟨rfl, gr_below hq⟩
theorem len_bl (n : Int) (s : Value) (w : World) (hs : s.oneCell' = true) :
    Calls Try.prog 32 #[.agg #[.int .i64 n, s]] w fun e w' => e = .returned (.int .i64 n) ∧ Below w.heap.size w w' := by
  refine (len_any n s w hs).mono ?_
  rintro e w' ⟨rfl, rfl⟩
  exact ⟨rfl, below_alloc1 _ _⟩
end Go.Proofs.Ytdmodknjcdkocaa.T
