/- Pure: streams of blocks. -/
import Derived.Test.YtpigbhmamaghgaaPgM
namespace Go.Proofs.Ytpigbhmamaghgaa.Pg
open Go.RowKit

def strT (kl n : List Nat) (c : Nat) : Nat → List Nat
  | 0 => []
  | k + 1 => strT kl n c k ++ blockP kl n (c + k)
theorem strT_length (kl n : List Nat) (c : Nat) : ∀ k, (strT kl n c k).length = 64 * k
  | 0 => rfl
  | k + 1 => by rw [strT, List.length_append, strT_length kl n c k, blockP_length]; omega
theorem strT_lt (kl n : List Nat) (c : Nat) : ∀ k, Lt 256 (strT kl n c k)
  | 0 => lt_nil
  | k + 1 => by
    rw [strT]
    exact (strT_lt kl n c k).app (blockP_lt _ _ _)
/- a stream goes on -/
theorem strT_add (kl n : List Nat) (c j : Nat) : ∀ k, strT kl n c (j + k) = strT kl n c j ++ strT kl n (c + j) k
  | 0 => by rw [Nat.add_zero, strT, List.append_nil]
  | k + 1 => by rw [← Nat.add_assoc, strT, strT_add kl n c j k, strT, List.append_assoc, Nat.add_assoc]
theorem strT_take {kl n : List Nat} {c N k : Nat} : ∀ j, N ≤ 64 * k → (strT kl n c (k + j)).take N = (strT kl n c k).take N := by
  intro j h
  rw [strT_add, List.take_append_of_le_length (by rw [strT_length]; exact h)]

def need (N : Nat) : Nat := (N + 63) / 64
def streamP (kl n : List Nat) (c N : Nat) : List Nat := (strT kl n c (need N)).take N
theorem streamP_length (kl n : List Nat) (c N : Nat) : (streamP kl n c N).length = N := by
  rw [streamP, List.length_take, strT_length, need]
  omega
theorem streamP_lt (kl n : List Nat) (c N : Nat) : Lt 256 (streamP kl n c N) := (strT_lt _ _ _ _).take _
theorem need_le {N k : Nat} (h : N ≤ 64 * k) : need N ≤ k := by unfold need; omega
theorem streamP_of {kl n : List Nat} {c N k : Nat} (h : N ≤ 64 * k) : (strT kl n c k).take N = streamP kl n c N := by
  obtain ⟨j, rfl⟩ : ∃ j, k = need N + j := ⟨k - need N, by have := need_le h; omega⟩
  exact strT_take j (by unfold need; omega)
theorem streamP_on (kl n : List Nat) (c k m : Nat) : (streamP kl n c (64 * k + m)).drop (64 * k) = streamP kl n (c + k) m := by
  rw [← streamP_of (k := k + need m) (by unfold need; omega), strT_add, List.drop_take, List.drop_left' (strT_length _ _ _ _), Nat.add_sub_cancel_left, streamP]

/- the row behind k blocks -/
def stm (kl n : List Nat) (c N k : Nat) : List Nat := (strT kl n c k).take N ++ zeros (N - 64 * k)
theorem stm_length (kl n : List Nat) (c N k : Nat) : (stm kl n c N k).length = N := by
  rw [stm, List.length_append, List.length_take, strT_length, zeros_length]
  omega
theorem stm_end {kl n : List Nat} {c N k : Nat} (h : N ≤ 64 * k) : stm kl n c N k = streamP kl n c N := by
  rw [stm, show N - 64 * k = 0 by omega, streamP_of h]
  simp [zeros]
theorem stm_zero (kl n : List Nat) (c N : Nat) : stm kl n c N 0 = zeros N := by simp [stm, strT]
theorem u8s_app (a b : List Nat) : u8s (a ++ b) = u8s a ++ u8s b := by simp [u8s]
theorem stm_splice {kl n : List Nat} {c N k : Nat} (h : 64 * k < N) :
    splice (u8s (stm kl n c N k)) (64 * k) (u8s ((blockP kl n (c + k)).take (min 64 (N - 64 * k)))) = u8s (stm kl n c N (k + 1)) := by
  have e1 := strT_length kl n c k
  have e2 := blockP_length kl n (c + k)
  rw [splice, u8s_length, List.length_take, e2]
  unfold stm
  rw [List.take_of_length_le (show (strT kl n c k).length ≤ N by omega), strT]
  generalize strT kl n c k = A at *
  generalize blockP kl n (c + k) = Bk at *
  rw [u8s_app, List.take_append_of_le_length (by rw [u8s_length]; omega), List.take_of_length_le (by rw [u8s_length]; omega)]
  rw [List.take_append, List.take_of_length_le (show A.length ≤ N by omega), u8s_app, u8s_app, List.append_assoc, e1]
  congr 1
  rw [List.drop_append, List.drop_eq_nil_of_le (by rw [u8s_length]; omega), List.nil_append, u8s_length, e1]
  by_cases h64 : 64 ≤ N - 64 * k
  · rw [Nat.min_eq_left h64, Nat.min_self, List.take_of_length_le (show Bk.length ≤ 64 by omega), List.take_of_length_le (show Bk.length ≤ N - 64 * k by omega)]
    congr 1
    unfold zeros u8s
    rw [← List.map_drop, List.drop_replicate]
    congr 2
    omega
  · rw [Nat.min_eq_right (by omega), Nat.min_eq_left (by omega)]
    congr 1
    unfold zeros u8s
    rw [← List.map_drop, List.drop_replicate]
    congr 2
    omega

theorem lay_set (kl n : List Nat) (c d : Nat) : (layP kl n c).set 12 d = layP kl n d := by
  rw [← gP_all, ← gP_all, List.set_append_right _ _ (by rw [gP_length]; omega), gP_length]
  rfl
theorem lay_at (kl n : List Nat) (c : Nat) : at0 (layP kl n c) 12 = c := by
  rw [← gP_all, at0_append_right (by rw [gP_length]; omega), gP_length]
  rfl
end Go.Proofs.Ytpigbhmamaghgaa.Pg
