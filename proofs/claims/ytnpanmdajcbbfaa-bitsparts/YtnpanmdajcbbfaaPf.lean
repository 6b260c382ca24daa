/- Bits laid into others from a place on: word by word. -/
import Derived.Test.YtnpanmdajcbbfaaPe
namespace Go.Proofs.Ytnpanmdajcbbfaa
open Go.RowKit
set_option maxRecDepth 100000

/- N bits: those of D ahead of a place, behind it those of the first i words of P -/
def laid (D P : List Bool) (N s i : Nat) : List Bool := (List.range N).map (fun x => if x < s then D.getD x false else decide (x < s + 64 * i) && P.getD (x - s) false)

theorem laid_length (D P : List Bool) (N s i : Nat) : (laid D P N s i).length = N := by simp [laid]
theorem laid_getD (D P : List Bool) {N s i x : Nat} (h : x < N) : (laid D P N s i).getD x false = if x < s then D.getD x false else decide (x < s + 64 * i) && P.getD (x - s) false := by
  rw [List.getD_eq_getElem?_getD]
  simp [laid, h]
theorem laid_out (D P : List Bool) {N s i x : Nat} (h : N ≤ x) : (laid D P N s i).getD x false = false := by
  rw [List.getD_eq_getElem?_getD, List.getElem?_eq_none (by rw [laid_length]; exact h)]
  rfl

/- words with their places changed in one, then in the next -/
theorem chunks_two {l l' : List Bool} {k y z : Nat} (hl : l'.length = l.length) (hy : y < 18446744073709551616) (hz : z < 18446744073709551616)
    (h1 : ∀ j, j < 64 → y.testBit j = l'.getD (64 * k + j) false) (h2 : ∀ j, j < 64 → z.testBit j = l'.getD (64 * (k + 1) + j) false)
    (h3 : ∀ q, q ≠ k → q ≠ k + 1 → ∀ j, j < 64 → l'.getD (64 * q + j) false = l.getD (64 * q + j) false) :
    chunks 64 l' = ((chunks 64 l).set k y).set (k + 1) z := by
  symm
  apply chunks_ext (by simp [chunks_length, hl])
  intro q x hx
  rw [List.getElem?_set] at hx
  by_cases hq : k + 1 = q
  · rw [if_pos hq] at hx
    split at hx
    · cases hx
      subst hq
      exact ⟨hz, h2⟩
    · cases hx
  · rw [if_neg hq, List.getElem?_set] at hx
    by_cases hq' : k = q
    · rw [if_pos hq'] at hx
      split at hx
      · cases hx
        subst hq'
        exact ⟨hy, h1⟩
      · cases hx
    · rw [if_neg hq'] at hx
      obtain ⟨_, rfl⟩ := chunks_get' hx
      refine ⟨chunk_lt _ _ _, fun j hj => ?_⟩
      rw [chunk_testBit, h3 q (fun e => hq' e.symm) (fun e => hq e.symm) j hj]
      simp [hj]

theorem laid_step (D P : List Bool) (N q low i : Nat) (hlow : low < 64) (hP : 64 * q + low + P.length ≤ N) :
    chunks 64 (laid D P N (64 * q + low) (i + 1)) = ((chunks 64 (laid D P N (64 * q + low) i)).set (q + i) (chunk 64 (laid D P N (64 * q + low) i) (q + i) ||| chunk 64 P i * 2 ^ low % 18446744073709551616)).set (q + i + 1) (chunk 64 (laid D P N (64 * q + low) i) (q + i + 1) ||| chunk 64 P i / 2 ^ (64 - low)) := by
  have hg : ∀ x, P.length ≤ x → P.getD x false = false := fun x hx => by rw [List.getD_eq_getElem?_getD, List.getElem?_eq_none hx]; rfl
  have hval : ∀ i x, (laid D P N (64 * q + low) i).getD x false = if x < 64 * q + low then (decide (x < N) && D.getD x false) else decide (x < 64 * q + low + 64 * i) && P.getD (x - (64 * q + low)) false := by
    intro i x
    by_cases hx : x < N
    · rw [laid_getD _ _ hx]
      simp [hx]
    · rw [laid_out _ _ (by omega)]
      by_cases h : x < 64 * q + low
      · simp [h, hx]
      · rw [if_neg h, hg _ (by omega)]
        simp
  refine chunks_two (by rw [laid_length, laid_length]) ?_ ?_ ?_ ?_ ?_
  · exact Nat.or_lt_two_pow (n := 64) (chunk64_lt _ _) (Nat.mod_lt _ (by omega))
  · exact Nat.or_lt_two_pow (n := 64) (chunk64_lt _ _) (Nat.lt_of_le_of_lt (Nat.div_le_self _ _) (chunk64_lt _ _))
  · intro j hj
    rw [Nat.testBit_or, chunk_testBit, hval, hval, show (18446744073709551616 : Nat) = 2 ^ 64 by rfl, Nat.testBit_mod_two_pow, Nat.mul_comm (chunk 64 P i), Nat.testBit_two_pow_mul, chunk_testBit]
    by_cases h : j < low
    · have a1 : ¬ low ≤ j := by omega
      have a2 : 64 * (q + i) + j < 64 * q + low + 64 * i := by omega
      have a3 : 64 * (q + i) + j < 64 * q + low + 64 * (i + 1) := by omega
      simp [hj, a1, a2, a3]
    · have a1 : low ≤ j := by omega
      have a2 : ¬ 64 * (q + i) + j < 64 * q + low + 64 * i := by omega
      have a3 : 64 * (q + i) + j < 64 * q + low + 64 * (i + 1) := by omega
      have a4 : ¬ 64 * (q + i) + j < 64 * q + low := by omega
      have a5 : 64 * (q + i) + j - (64 * q + low) = 64 * i + (j - low) := by omega
      have a6 : j - low < 64 := by omega
      simp [hj, a1, a2, a3, a4, a5, a6]
  · intro j hj
    rw [Nat.testBit_or, chunk_testBit, hval, hval, Nat.testBit_div_two_pow, chunk_testBit]
    have a4 : ¬ 64 * (q + i + 1) + j < 64 * q + low := by omega
    have a2 : ¬ 64 * (q + i + 1) + j < 64 * q + low + 64 * i := by omega
    by_cases h : j < low
    · have a3 : 64 * (q + i + 1) + j < 64 * q + low + 64 * (i + 1) := by omega
      have a5 : 64 * (q + i + 1) + j - (64 * q + low) = 64 * i + (j + (64 - low)) := by omega
      have a6 : j + (64 - low) < 64 := by omega
      simp [hj, a2, a3, a4, a5, a6]
    · have a3 : ¬ 64 * (q + i + 1) + j < 64 * q + low + 64 * (i + 1) := by omega
      have a6 : ¬ j + (64 - low) < 64 := by omega
      simp [a2, a3, a4, a6]
  · intro q' h1 h2 j hj
    rw [hval, hval]
    by_cases h : 64 * q' + j < 64 * q + low
    · simp [h]
    · have : (64 * q' + j < 64 * q + low + 64 * (i + 1)) ↔ (64 * q' + j < 64 * q + low + 64 * i) := by omega
      simp [this]

end Go.Proofs.Ytnpanmdajcbbfaa
