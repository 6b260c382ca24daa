/- The document's own words of truths. The document's own bytes of truths. Ones counted: Count, Odd. The walk of BitsGets. -/
import Derived.Test.YtlkkninnfiaedaaDoorJ37
import Derived.Test.YtlkkninnfiaedaaDoorJ34
namespace Go.Proofs.YtlkkninnfiaedaaDoor.T
open Go.RowKit
set_option maxRecDepth 100000
attribute [local go_sem] not_any mf_any

theorem info55 : (Tryd.prog.info? 22).map (fun i => (i.zero, i.size, i.bytes)) = some (some (.int .u64 0), 1, 8) := by kernel_rfl

theorem row_form {w : World} {base : Nat} {e : TypeId} {size n : Nat} {v : Value} {xs : List Value} (h : w.ownsRow base e size v n xs) : ∃ a c, v = .slice a n c := by
  rcases h.2 with ⟨h1, h2⟩ | ⟨g, cap, cur, h1, _⟩
  · exact ⟨none, 0, by rw [h1, h2]⟩
  · exact ⟨_, _, h1⟩

theorem row_some {w : World} {base : Nat} {e : TypeId} {size n : Nat} {v : Value} {xs : List Value} (h : w.ownsRow base e size v n xs) (hn : 0 < n) : ∃ g c, v = .slice (some ⟨g, 0, none⟩) n c ∧ base ≤ g ∧ g < w.heap.size := by
  rcases h.2 with ⟨h1, h2⟩ | ⟨g, cap, cur, h1, h2, h3, _⟩
  · omega
  · exact ⟨g, cap, h1, h2, lt_heap h3⟩

theorem own_nl {w : World} {base n : Nat} {a : Option Addr} {c : Nat} {ws : List Nat} (h : w.ownsRow base 22 1 (.slice a n c) n (u64s ws)) (hl : ws.length = n) : Nl w n a ws :=
  ⟨hl, fun j x hj => by
    have hjn : j < n := by rw [← hl]; exact (List.getElem?_eq_some_iff.1 hj).1
    obtain ⟨g, c', hv, _⟩ := row_some h (by omega)
    cases hv
    refine ⟨g, 0, rfl, ?_⟩
    rw [Nat.zero_add, h.cellAt j (by omega)]
    simp [u64s, hj]⟩

theorem u64s_snoc (ws : List Nat) : u64s ws ++ [.int .u64 0] = u64s (ws ++ [0]) := by simp [u64s]
theorem u64s_set (ws : List Nat) (j x : Nat) : (u64s ws).set j (.int .u64 (x : Int)) = u64s (ws.set j x) := by simp [u64s]

end Go.Proofs.YtlkkninnfiaedaaDoor.T

namespace Go.Proofs.YtlkkninnfiaedaaDoor.T
open Go.RowKit
set_option maxRecDepth 100000
attribute [local go_sem] not_any mf_any

theorem info5' : (Tryd.prog.info? 5).map (fun i => (i.zero, i.size, i.bytes)) = some (some (.int .u8 0), 1, 1) := by kernel_rfl
theorem u8s_snoc (ws : List Nat) : u8s ws ++ [.int .u8 0] = u8s (ws ++ [0]) := by simp [u8s]
theorem u8s_set (ws : List Nat) (j x : Nat) : (u8s ws).set j (.int .u8 (x : Int)) = u8s (ws.set j x) := by simp [u8s]
theorem wrap_pow8 {j : Nat} (h : j < 8) : IntKind.u8.wrap (2 ^ j) = ((2 ^ j : Nat) : Int) := by
  rw [IntKind.wrap_u8]
  have : 2 ^ j < 2 ^ 8 := Nat.pow_lt_pow_right (by omega) h
  have e : ((2 : Int) ^ j) = ((2 ^ j : Nat) : Int) := by simp
  rw [e]
  obtain ⟨p, hp⟩ : ∃ p, p = 2 ^ j := ⟨_, rfl⟩
  rw [← hp] at this ⊢
  omega

end Go.Proofs.YtlkkninnfiaedaaDoor.T

namespace Go.Proofs.YtlkkninnfiaedaaDoor.T
open Go.RowKit
set_option maxRecDepth 100000
attribute [local go_sem] not_any mf_any

theorem wrap_small {x : Nat} (h : x < 18446744073709551616) : IntKind.u64.wrap (x : Int) = (x : Int) := by
  rw [IntKind.wrap_u64]; omega

theorem wraps_i64 (n : Int) (h₀ : 0 ≤ n) (h₁ : n < 2 ^ 63) : IntKind.i64.wrap n = n := by rw [IntKind.wrap_i64]; omega

theorem and_127 {c : Nat} (h : c < 9223372036854775808) : bits .and .i64 (c : Int) 127 = ((c % 128 : Nat) : Int) := by
  have := bits_mask .i64 63 (by decide) wraps_i64 7 (by decide) (c : Int) (by omega) (by omega)
  simpa using this

theorem pk_lt (k : Nat) : ∀ (ds : List Nat), (∀ d ∈ ds, d < 2 ^ k) → pk k ds < 2 ^ (k * ds.length)
  | [], _ => by simp [pk]
  | d :: ds, h => by
    have h1 := pk_lt k ds (fun x hx => h x (by simp [hx]))
    have h2 := h d (by simp)
    rw [pk, List.length_cons, Nat.mul_add, Nat.mul_one, Nat.pow_add, Nat.mul_comm (2 ^ (k * ds.length))]
    have : 2 ^ k * pk k ds + 2 ^ k ≤ 2 ^ k * 2 ^ (k * ds.length) := by
      rw [← Nat.mul_succ]
      exact Nat.mul_le_mul_left _ h1
    omega

theorem chunk_pad (l : List Bool) (k : Nat) : ∃ l', l'.length = 64 ∧ pack l' = chunk 64 l k ∧ l'.count true = ((l.drop (64 * k)).take 64).count true := by
  refine ⟨(l.drop (64 * k)).take 64 ++ List.replicate (64 - ((l.drop (64 * k)).take 64).length) false, ?_, pack_falses _ _, ?_⟩
  · have : ((l.drop (64 * k)).take 64).length ≤ 64 := by simp; omega
    rw [List.length_append, List.length_replicate]
    omega
  · rw [List.count_append, List.count_replicate]
    simp

theorem and_lit (x m : Nat) (M : Int) (hM : M = (m : Int)) (hx : x < 18446744073709551616) (hm : m < 18446744073709551616) : bits .and .u64 (x : Int) M = ((x &&& m : Nat) : Int) := by rw [hM, u64_and_nat _ _ hx hm]

theorem and_le {x m : Nat} : x &&& m ≤ m := Nat.and_le_right

theorem count_step (l : List Bool) (k : Nat) : (l.take (64 * (k + 1))).count true = (l.take (64 * k)).count true + ((l.drop (64 * k)).take 64).count true := by
  rw [← List.count_append, ← List.take_add]
  congr 2

end Go.Proofs.YtlkkninnfiaedaaDoor.T

namespace Go.Proofs.YtlkkninnfiaedaaDoor.T
open Go.RowKit
set_option maxRecDepth 100000
attribute [local go_sem] not_any mf_any field_words

theorem info4 : (Tryd.prog.info? 4).map (fun i => (i.zero, i.size, i.bytes)) = some (some (.bool false), 1, 1) := by kernel_rfl

theorem int_odd (x : Nat) : ((x : Int) % 2 == 1) = decide (x % 2 = 1) := by
  by_cases h : x % 2 = 1
  · have : (x : Int) % 2 = 1 := by omega
    simp [h, this]
  · have : ¬ (x : Int) % 2 = 1 := by omega
    simp [h, this]

theorem below_alloc1 (w : World) (o : Obj) : Below w.heap.size w (w.alloc o) := (Below.refl _ _).alloc (Nat.le_refl _) _

theorem own_bl {w : World} {base n : Nat} {a : Option Addr} {c : Nat} {l : List Bool} (h : w.ownsRow base 4 1 (.slice a n c) n (bools l)) (hl : l.length = n) : Bl w n a l :=
  ⟨hl, fun j x hj => by
    have hjn : j < n := by rw [← hl]; exact (List.getElem?_eq_some_iff.1 hj).1
    obtain ⟨g, c', hv, _⟩ := row_some h (by omega)
    cases hv
    refine ⟨g, 0, rfl, ?_⟩
    rw [Nat.zero_add, h.cellAt j (by omega)]
    simp [bools, hj]⟩

theorem bools_set (l : List Bool) (j : Nat) (x : Bool) : (bools l).set j (.bool x) = bools (l.set j x) := by simp [bools]
theorem bools_one (l : List Bool) : ∀ v ∈ bools l, v.oneCell' = true := by
  intro v hv
  obtain ⟨x, _, rfl⟩ := List.mem_map.1 hv
  rfl

theorem get_bl (b : Nat) (w : World) (n : Nat) (a : Option Addr) (l : List Bool) (i : Int) (hv : Vc b w n a l) (hn : n ≤ 4194304) :
    Calls Tryd.prog 21 #[.agg #[.int .i64 n, .slice a (need n 64) (need n 64)], .int .i64 i] w fun e w' => e = .returned (.bool (getI l i)) ∧ Below w.heap.size w w' := by
  refine (get_any b w n a l i hv hn).mono ?_
  rintro e w' ⟨rfl, hq⟩
  exact ⟨rfl, gr_below hq⟩
theorem len_bl (n : Int) (s : Value) (w : World) (hs : s.oneCell' = true) :
    Calls Tryd.prog 17 #[.agg #[.int .i64 n, s]] w fun e w' => e = .returned (.int .i64 n) ∧ Below w.heap.size w w' := by
  refine (len_any n s w hs).mono ?_
  rintro e w' ⟨rfl, rfl⟩
  exact ⟨rfl, below_alloc1 _ _⟩
end Go.Proofs.YtlkkninnfiaedaaDoor.T
