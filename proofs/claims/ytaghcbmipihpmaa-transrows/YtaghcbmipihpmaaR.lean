/- The document's own answers: words and bytes of truths, and how many are true. -/
import Derived.Test.YtaghcbmipihpmaaM
import Derived.Test.YtaghcbmipihpmaaL
import Derived.Deep.DeepMust
namespace Go.Proofs.Ytaghcbmipihpmaa
open Go.RowKit
set_option maxRecDepth 100000
attribute [local go_sem] not_any mf_any

theorem take_snoc {l : List Bool} {k : Nat} {b : Bool} (h : l[k]? = some b) : l.take (k + 1) = l.take k ++ [b] := by
  rw [List.take_add_one, h]
  rfl

theorem chunks_snoc_false {s : Nat} (hs : 0 < s) (A : List Bool) : chunks s (A ++ [false]) = if A.length % s = 0 then chunks s A ++ [0] else chunks s A := by
  have hg : ∀ i, (A ++ [false]).getD i false = A.getD i false := by
    intro i
    simp only [List.getD_eq_getElem?_getD, List.getElem?_append]
    by_cases h : i < A.length
    · simp [h]
    · rw [if_neg h, List.getElem?_eq_none (show A.length ≤ i by omega)]
      match h' : i - A.length with
      | 0 => rfl
      | j + 1 => rfl
  symm
  split
  · rename_i h
    apply chunks_ext
    · rw [List.length_append, chunks_length, List.length_append, List.length_singleton, List.length_singleton]
      unfold need
      obtain ⟨q, hq⟩ : ∃ q, A.length = s * q := ⟨A.length / s, by have := Nat.div_add_mod A.length s; omega⟩
      rw [hq, show s * q + 1 + s - 1 = s * (q + 1) by rw [Nat.mul_add]; omega, Nat.mul_div_cancel_left _ hs, show s * q + s - 1 = s * q + (s - 1) by omega, Nat.mul_add_div hs, Nat.div_eq_of_lt (show s - 1 < s by omega)]
    · intro k x hx
      rw [List.getElem?_append] at hx
      split at hx
      · obtain ⟨h1, rfl⟩ := chunks_get' hx
        refine ⟨chunk_lt _ _ _, fun j hj => ?_⟩
        rw [chunk_testBit, hg]
        simp [hj]
      · rename_i hk
        rw [chunks_length] at hk hx
        have hx0 : x = 0 := by
          match h' : k - need A.length s, hx with
          | 0, hx => simpa [h'] using hx.symm
          | j + 1, hx => simp at hx
        subst hx0
        refine ⟨Nat.two_pow_pos s, fun j hj => ?_⟩
        rw [Nat.zero_testBit, hg, List.getD_eq_getElem?_getD, List.getElem?_eq_none]
        · rfl
        · have h1 : A.length ≤ s * need A.length s := by
            unfold need
            have := Nat.div_add_mod (A.length + s - 1) s
            have := Nat.mod_lt (A.length + s - 1) hs
            omega
          have h2 : s * need A.length s ≤ s * k := Nat.mul_le_mul_left _ (by omega)
          omega
  · rename_i h
    apply chunks_ext
    · rw [chunks_length, List.length_append, List.length_singleton]
      unfold need
      have h0 := Nat.div_add_mod A.length s
      have h1 := Nat.mod_lt A.length hs
      rw [show A.length + s - 1 = s * (A.length / s) + (A.length % s + s - 1) by omega, show A.length + 1 + s - 1 = s * (A.length / s) + (A.length % s + s) by omega, Nat.mul_add_div hs, Nat.mul_add_div hs]
      congr 1
      rw [show A.length % s + s - 1 = s * 1 + (A.length % s - 1) by omega, show A.length % s + s = s * 1 + A.length % s by omega, Nat.mul_add_div hs, Nat.mul_add_div hs, Nat.div_eq_of_lt (by omega), Nat.div_eq_of_lt h1]
    · intro k x hx
      obtain ⟨h1, rfl⟩ := chunks_get' hx
      refine ⟨chunk_lt _ _ _, fun j hj => ?_⟩
      rw [chunk_testBit, hg]
      simp [hj]

theorem chunk_last_lt {s : Nat} (A : List Bool) : chunk s (A ++ [false]) (A.length / s) < 2 ^ (A.length % s) := by
  have h0 := Nat.div_add_mod A.length s
  apply Nat.lt_pow_two_of_testBit
  intro j hj
  rw [chunk_testBit, List.getD_eq_getElem?_getD, List.getElem?_append]
  split
  · omega
  · match h' : s * (A.length / s) + j - A.length with
    | 0 => simp
    | i + 1 => simp

theorem chunks_snoc_true {s : Nat} (hs : 0 < s) (A : List Bool) : chunks s (A ++ [true]) = (chunks s (A ++ [false])).set (A.length / s) (chunk s (A ++ [false]) (A.length / s) + 2 ^ (A.length % s)) := by
  have e : A ++ [true] = (A ++ [false]).set A.length true := by
    rw [List.set_append]
    simp
  rw [e, chunks_set_true hs _ _ (by simp), Nat.or_comm, nat_join (A.length % s) _ _ (Nat.mod_self _) (chunk_last_lt A), Nat.add_comm]

theorem need_snoc64 (k : Nat) : need (k + 1) 64 = if k % 64 = 0 then need k 64 + 1 else need k 64 := by
  rw [need64, need64]
  split <;> omega
theorem need_snoc8 (k : Nat) : need (k + 1) 8 = if k % 8 = 0 then need k 8 + 1 else need k 8 := by
  rw [need8, need8]
  split <;> omega

end Go.Proofs.Ytaghcbmipihpmaa
