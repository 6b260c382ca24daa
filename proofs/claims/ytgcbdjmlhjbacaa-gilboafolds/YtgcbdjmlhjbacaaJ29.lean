/- What GilboaFolds rests on: shares added up; two lists of the call's own. -/
import Derived.Test.YtgcbdjmlhjbacaaJ28
namespace Go.Proofs.Ytgcbdjmlhjbacaa.Gi
open Go.RowKit Ri
set_option maxRecDepth 100000
attribute [local go_sem] Ri.not_any Ri.mf_any

theorem dbl_sum (X Y L : Nat) : ∀ K, sumTo (fun k => if bitAt X k then Y * 2 ^ k % 2 ^ L else 0) K % 2 ^ L = Y * (X % 2 ^ K) % 2 ^ L
  | 0 => by rw [sumTo, Nat.pow_zero, Nat.mod_one, Nat.mul_zero]
  | K + 1 => by
    rw [sumTo, Nat.add_mod, dbl_sum X Y L K, mod_succ]
    by_cases h : X / 2 ^ K % 2 = 1
    · rw [if_pos (show bitAt X K = true from decide_eq_true h), h, Nat.one_mul, Nat.mul_add, Nat.mod_mod, ← Nat.add_mod]
    · rw [if_neg (show ¬ bitAt X K = true from fun e => h (of_decide_eq_true e)), show X / 2 ^ K % 2 = 0 by omega, Nat.zero_mul, Nat.add_zero, Nat.zero_mod, Nat.add_zero, Nat.mod_mod]
theorem shares_sum {L : Nat} (hL : L ≤ 64) (f g : Nat → Nat) (K : Nat) (hf : ∀ k, k < K → f k < 18446744073709551616) :
    (sumTo f K % 2 ^ L + sumTo (fun k => (g k + (18446744073709551616 - f k)) % 2 ^ L) K % 2 ^ L) % 2 ^ L = sumTo g K % 2 ^ L := by
  obtain ⟨c, hc⟩ := pow_dvd64 hL
  rw [sumTo_mod (fun k => g k + (18446744073709551616 - f k)) (2 ^ L) K, ← Nat.add_mod, ← sumTo_add, ← sumTo_mod, ← sumTo_mod g]
  congr 1
  refine sumTo_ext fun k hk => ?_
  show (f k + (g k + (18446744073709551616 - f k))) % 2 ^ L = g k % 2 ^ L
  have := hf k hk
  rw [show f k + (g k + (18446744073709551616 - f k)) = g k + 18446744073709551616 by omega, hc, Nat.add_mul_mod_self_left]

/- the numbers of GilboaFolds -/
def cutF (L : Nat) (l : List Nat) (t : Nat) : Nat := at0 l t % 2 ^ L
def mineF (L u : Nat) (ns : List Nat) (t : Nat) : Nat := at0 ns (t % u) % 2 ^ L
def wantF (L n : Nat) (xs ys : List Nat) (t : Nat) : Nat := if chF L xs (t / n) then spF L n ys t else 0
def othF (L n u : Nat) (xs ys ns : List Nat) (t : Nat) : Nat := (wantF L n xs ys t + (18446744073709551616 - mineF L u ns t)) % 2 ^ L
theorem mine_lt {L : Nat} (h : L ≤ 64) (u : Nat) (ns : List Nat) (t : Nat) : mineF L u ns t < 18446744073709551616 := cut_lt h _
theorem want_at {L n : Nat} (xs ys : List Nat) (i k j : Nat) (hk : k < L) (hj : j < n) : wantF L n xs ys ((i * L + k) * n + j) = if bitAt (at0 xs i) k then at0 ys (i * n + j) * 2 ^ k % 2 ^ L else 0 := by
  rw [wantF, spF, place_div hj, place_mod hj, chF, place_div hk, place_mod hk]
/- both folded shares come to the product -/
theorem folds_come {L n q u : Nat} (_h1 : 1 ≤ L) (h2 : L ≤ 64) (h3 : 1 ≤ n) (xs ys ns : List Nat) (hx : ∀ i, at0 xs i < 2 ^ L) {t : Nat} (ht : t < q * n) :
    (foF L n (tl (mineF L u ns) (q * (L * n))) t + foF L n (tl (othF L n u xs ys ns) (q * (L * n))) t) % 2 ^ L = roF L n xs ys t := by
  obtain ⟨i, hi⟩ : ∃ i, i = t / n := ⟨_, rfl⟩
  obtain ⟨j, hj⟩ : ∃ j, j = t % n := ⟨_, rfl⟩
  have hjn : j < n := by rw [hj]; exact Nat.mod_lt _ h3
  have hiq : i < q := by rw [hi]; exact Nat.div_lt_of_lt_mul (by rw [Nat.mul_comm]; exact ht)
  have htt : i * n + j = t := by rw [hi, hj, Nat.mul_comm]; exact Nat.div_add_mod t n
  have hlt : ∀ k, k < L → (i * L + k) * n + j < q * (L * n) := fun k hk => by
    rw [← Nat.mul_assoc]
    exact place_lt (place_lt hiq hk) hjn
  unfold foF roF
  rw [← hi, ← hj, sumTo_ext (g := fun k => mineF L u ns ((i * L + k) * n + j)) (fun k hk => tl_at (hlt k hk)), sumTo_ext (f := fun k => at0 (tl (othF L n u xs ys ns) (q * (L * n))) ((i * L + k) * n + j)) (g := fun k => (wantF L n xs ys ((i * L + k) * n + j) + (18446744073709551616 - mineF L u ns ((i * L + k) * n + j))) % 2 ^ L) (fun k hk => tl_at (hlt k hk)),
    shares_sum h2 (fun k => mineF L u ns ((i * L + k) * n + j)) (fun k => wantF L n xs ys ((i * L + k) * n + j)) L (fun k _ => mine_lt h2 _ _ _),
    sumTo_ext (g := fun k => if bitAt (at0 xs i) k then at0 ys t * 2 ^ k % 2 ^ L else 0) (fun k hk => by rw [want_at xs ys i k j hk hjn, htt]), dbl_sum, Nat.mod_eq_of_lt (hx i), Nat.mul_comm]

theorem Wo.cap {B n c : Nat} {w : World} {a : Option Addr} {A : List Nat} (h : Wo B w (.slice a n c) A) : n ≤ c := by
  rcases h.2 with ⟨h1, _⟩ | ⟨g, cap, cur, h1, _, _, hn, _⟩
  · cases h1
    exact Nat.le_refl _
  · have hl := h.len
    cases h1
    omega
/- two lists of words, as they grow -/
structure Tw (w : World) (B : Nat) (vA : Value) (A : List Nat) (vC : Value) (C : List Nat) : Prop where
  a : Wo B w vA A
  c : Wo B w vC C
  ap : ∀ x, vA.ownBlock = some x → vC.ownBlock ≠ some x
theorem Tw.swap {w : World} {B : Nat} {vA vC : Value} {A C : List Nat} (h : Tw w B vA A vC C) : Tw w B vC C vA A := ⟨h.c, h.a, fun x e h9 => h.ap x h9 e⟩
theorem Tw.below {w w' : World} {B : Nat} {vA vC : Value} {A C : List Nat} (h : Tw w B vA A vC C) (hb : Below w.heap.size w w') : Tw w' B vA A vC C := ⟨h.a.below hb, h.c.below hb, h.ap⟩
theorem Tw.nil (w : World) (B : Nat) : Tw w B (.slice none 0 0) [] (.slice none 0 0) [] := ⟨Wo.nil _ _, Wo.nil _ _, fun x e => by cases e⟩
theorem Tw.add {w w' : World} {B n c : Nat} {vA vC : Value} {A C D : List Nat} {a : Option Addr} (h : Tw w B vA A vC C) (ho : Wo B w' (.slice a n c) D) (hg : w.grownBy w' vA.ownBlock) (hl : ∀ g o, a = some ⟨g, o, none⟩ → vA.ownBlock = some g ∨ w.heap.size ≤ g) : Tw w' B (.slice a n c) D vC C := by
  refine ⟨ho, own_kept h.c fun g cc hb hh => (hg.block g (lt_heap hh) (fun e => h.ap g e.symm hb)).trans hh, fun x e h9 => ?_⟩
  have h5 : ∃ o, a = some ⟨x, o, none⟩ := by
    rcases ho.2 with ⟨h1, _⟩ | ⟨g, cap, cur, h1, _⟩
    · rw [h1] at e
      cases e
    · rw [h1] at e
      cases e
      cases h1
      exact ⟨0, rfl⟩
  obtain ⟨o, h5⟩ := h5
  rcases hl x o h5 with h6 | h6
  · exact h.ap x h6 h9
  · have := (h.c.lt h9).2
    omega
end Go.Proofs.Ytgcbdjmlhjbacaa.Gi
