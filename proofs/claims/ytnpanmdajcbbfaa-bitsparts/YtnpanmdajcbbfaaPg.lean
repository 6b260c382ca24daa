/- Bits laid into others: what stands behind it. -/
import Derived.Test.YtnpanmdajcbbfaaPf
namespace Go.Proofs.Ytnpanmdajcbbfaa
open Go.RowKit
set_option maxRecDepth 100000

theorem getD_none {l : List Bool} {x : Nat} (h : l.length ≤ x) : l.getD x false = false := by
  rw [List.getD_eq_getElem?_getD, List.getElem?_eq_none h]
  rfl

theorem laid_zero {L : List Bool} (P : List Bool) {N s : Nat} (hl : L.length = N) (hz : ∀ x, s ≤ x → L.getD x false = false) : laid L P N s 0 = L := by
  apply bool_ext (by rw [laid_length, hl])
  intro x hx
  rw [laid_length] at hx
  rw [laid_getD _ _ hx]
  by_cases h : x < s
  · rw [if_pos h]
  · have a1 : ¬ x < s + 64 * 0 := by omega
    rw [if_neg h, hz x (by omega), decide_eq_false a1]
    rfl

theorem append_getD (A B : List Bool) (x : Nat) : (A ++ B).getD x false = if x < A.length then A.getD x false else B.getD (x - A.length) false := by
  simp only [List.getD_eq_getElem?_getD, List.getElem?_append]
  split <;> rfl

theorem falses_getD (n x : Nat) : (List.replicate n false).getD x false = false := by
  rw [List.getD_eq_getElem?_getD, List.getElem?_replicate]
  split <;> rfl

theorem laid_all (D P : List Bool) {N : Nat} (h : D.length + P.length ≤ N) :
    laid (D ++ List.replicate (N - D.length) false) P N D.length (need P.length 64) = (D ++ P) ++ List.replicate (N - (D ++ P).length) false := by
  apply bool_ext
  · rw [laid_length]
    simp
    omega
  intro x hx
  rw [laid_length] at hx
  rw [laid_getD _ _ hx, append_getD, append_getD (D ++ P), append_getD D P, falses_getD, falses_getD, List.length_append]
  by_cases h1 : x < D.length
  · have h2 : x < D.length + P.length := by omega
    simp [h1, h2]
  · by_cases h2 : x < D.length + P.length
    · have h3 : x < D.length + 64 * need P.length 64 := by rw [need64]; omega
      simp [h1, h2, h3]
    · rw [getD_none (l := P) (by omega)]
      simp [h1, h2]

theorem laid_copy {L : List Bool} (P : List Bool) {N q : Nat} (hl : L.length = N) (hz : ∀ x, 64 * q ≤ x → L.getD x false = false) (hP : 64 * q + P.length ≤ N) :
    (chunks 64 L).take q ++ chunks 64 P ++ (chunks 64 L).drop (q + need P.length 64) = chunks 64 (laid L P N (64 * q) (need P.length 64)) := by
  have hq : q + need P.length 64 ≤ need N 64 := by rw [need64, need64]; omega
  have hlen : ((chunks 64 L).take q).length = q := by rw [List.length_take, chunks_length, hl]; omega
  have hval : ∀ x, (laid L P N (64 * q) (need P.length 64)).getD x false = if x < 64 * q then L.getD x false else P.getD (x - 64 * q) false := by
    intro x
    by_cases hx : x < N
    · rw [laid_getD _ _ hx]
      by_cases h : x < 64 * q
      · rw [if_pos h, if_pos h]
      · rw [if_neg h, if_neg h]
        by_cases h' : x < 64 * q + 64 * need P.length 64
        · simp [h']
        · rw [getD_none (l := P) (by rw [need64] at h'; omega)]
          simp
    · rw [laid_out _ _ (by omega), if_neg (by omega), getD_none (l := P) (by omega)]
  apply chunks_ext
  · simp only [List.length_append, hlen, chunks_length, List.length_drop, laid_length, hl]
    omega
  intro k x hx
  rw [List.append_assoc, List.getElem?_append, hlen] at hx
  by_cases h1 : k < q
  · rw [if_pos h1, List.getElem?_take_of_lt h1] at hx
    obtain ⟨_, rfl⟩ := chunks_get' hx
    refine ⟨chunk_lt _ _ _, fun j hj => ?_⟩
    rw [chunk_testBit, hval, if_pos (by omega)]
    simp [hj]
  · rw [if_neg h1, List.getElem?_append, chunks_length] at hx
    by_cases h2 : k - q < need P.length 64
    · rw [if_pos h2] at hx
      obtain ⟨_, rfl⟩ := chunks_get' hx
      refine ⟨chunk_lt _ _ _, fun j hj => ?_⟩
      rw [chunk_testBit, hval, if_neg (by omega), show 64 * k + j - 64 * q = 64 * (k - q) + j by omega]
      simp [hj]
    · rw [if_neg h2, List.getElem?_drop, show q + need P.length 64 + (k - q - need P.length 64) = k by omega] at hx
      obtain ⟨_, rfl⟩ := chunks_get' hx
      refine ⟨chunk_lt _ _ _, fun j hj => ?_⟩
      rw [chunk_testBit, hval, if_neg (by omega), hz _ (by omega), getD_none (l := P) (by rw [need64] at h2; omega)]
      simp

/- where nothing goes over into the next word -/
theorem laid_step_none (D P : List Bool) (N q low i : Nat) (hlow : low < 64) (hP : 64 * q + low + P.length ≤ N) (h0 : chunk 64 P i / 2 ^ (64 - low) = 0) :
    chunks 64 (laid D P N (64 * q + low) (i + 1)) = (chunks 64 (laid D P N (64 * q + low) i)).set (q + i) (chunk 64 (laid D P N (64 * q + low) i) (q + i) ||| chunk 64 P i * 2 ^ low % 18446744073709551616) := by
  rw [laid_step D P N q low i hlow hP, h0, Nat.or_zero]
  apply List.ext_getElem?
  intro j
  rw [List.getElem?_set]
  by_cases h : q + i + 1 = j
  · rw [if_pos h]
    subst h
    rw [List.getElem?_set_ne (by omega), List.length_set]
    by_cases h' : q + i + 1 < (chunks 64 (laid D P N (64 * q + low) i)).length
    · rw [if_pos h', chunks_get (by rw [chunks_length] at h'; exact h')]
    · rw [if_neg h', List.getElem?_eq_none (by omega)]
  · rw [if_neg h]

/- what goes over has a place -/
theorem over_place (P : List Bool) {N q low i : Nat} (hlow : low < 64) (hP : 64 * q + low + P.length ≤ N) (h0 : chunk 64 P i / 2 ^ (64 - low) ≠ 0) : q + i + 1 < need N 64 := by
  obtain ⟨j, hj⟩ := Nat.exists_testBit_of_ne_zero h0
  rw [Nat.testBit_div_two_pow, chunk_testBit] at hj
  have hj' : P.getD (64 * i + (j + (64 - low))) false = true := by
    simp only [Bool.and_eq_true] at hj
    exact hj.2
  have : 64 * i + (j + (64 - low)) < P.length := by
    apply Classical.byContradiction
    intro hn
    rw [getD_none (by omega)] at hj'
    cases hj'
  rw [need64]
  omega

end Go.Proofs.Ytnpanmdajcbbfaa
