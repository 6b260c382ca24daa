/- Pure: bytes taken part by part. -/
import Derived.Test.YtjcfllidandeiaaDoorI
namespace Go.Proofs.YtjcfllidandeiaaDoor
open Go.RowKit

def blockAt (l : List Nat) (n : Nat) : List Nat := (l.drop (64 * n)).take 64
def growN (l : List Nat) : Nat → List Nat
  | 0 => zeros 8
  | n + 1 => foldP (growN l n) (wordsOf (blockAt l n))
def grownP (l : List Nat) : List Nat := growN l (l.length / 64)
def restP (l : List Nat) : List Nat := l.drop (64 * (l.length / 64)) ++ zeros (64 - l.length % 64)
def midP (l u : List Nat) : List Nat := l.drop (64 * (l.length / 64)) ++ u ++ zeros (64 - l.length % 64 - u.length)

theorem growN_length (l : List Nat) : ∀ n, (growN l n).length = 8
  | 0 => rfl
  | _ + 1 => addW_length _ _
theorem growN_lt (l : List Nat) : ∀ n, Lt 4294967296 (growN l n)
  | 0 => lt_replicate (by omega) 8
  | _ + 1 => addW_lt _ _
theorem blockAt_app {l u : List Nat} {n : Nat} (h : 64 * (n + 1) ≤ l.length) : blockAt (l ++ u) n = blockAt l n := by
  unfold blockAt
  rw [List.drop_append_of_le_length (by omega), List.take_append_of_le_length (by rw [List.length_drop]; omega)]
theorem growN_app {l u : List Nat} : ∀ {n : Nat}, 64 * n ≤ l.length → growN (l ++ u) n = growN l n
  | 0, _ => rfl
  | n + 1, h => by rw [growN, growN, growN_app (by omega), blockAt_app h]
theorem grownP_length (l : List Nat) : (grownP l).length = 8 := growN_length _ _
theorem grownP_lt (l : List Nat) : Lt 4294967296 (grownP l) := growN_lt _ _
theorem drop_length (l : List Nat) : (l.drop (64 * (l.length / 64))).length = l.length % 64 := by
  rw [List.length_drop]; omega
theorem restP_length (l : List Nat) : (restP l).length = 64 := by
  rw [restP, List.length_append, drop_length, zeros_length]; omega
theorem restP_lt {l : List Nat} (h : Lt 256 l) : Lt 256 (restP l) := (h.drop _).app (lt_replicate (by omega) _)
theorem midP_length {l u : List Nat} (h : l.length % 64 + u.length ≤ 64) : (midP l u).length = 64 := by
  rw [midP, List.length_append, List.length_append, drop_length, zeros_length]; omega
theorem midP_lt {l u : List Nat} (h : Lt 256 l) (hu : Lt 256 u) : Lt 256 (midP l u) := ((h.drop _).app hu).app (lt_replicate (by omega) _)

theorem splice_rest {l u : List Nat} (_h : l.length % 64 + u.length ≤ 64) : splice (restP l) (l.length % 64) u = midP l u := by
  have e := drop_length l
  unfold splice restP midP
  generalize l.drop (64 * (l.length / 64)) = d at *
  rw [List.take_append_of_le_length (by omega), List.take_of_length_le (by omega), List.drop_append, e, List.drop_eq_nil_of_le (by omega)]
  simp [zeros]

theorem len_app {l u : List Nat} (h : l.length % 64 + u.length < 64) : (l ++ u).length / 64 = l.length / 64 ∧ (l ++ u).length % 64 = l.length % 64 + u.length := by
  rw [List.length_append]; omega
theorem len_full {l u : List Nat} (h : l.length % 64 + u.length = 64) : (l ++ u).length / 64 = l.length / 64 + 1 ∧ (l ++ u).length % 64 = 0 := by
  rw [List.length_append]; omega

theorem mid_part {l u : List Nat} (h : l.length % 64 + u.length < 64) : midP l u = restP (l ++ u) ∧ grownP l = grownP (l ++ u) := by
  obtain ⟨e1, e2⟩ := len_app h
  refine ⟨?_, ?_⟩
  · unfold midP restP
    rw [e1, e2, List.drop_append_of_le_length (by omega), Nat.sub_sub]
  · unfold grownP
    rw [e1, growN_app (by omega)]

theorem mid_full {l u : List Nat} (h : l.length % 64 + u.length = 64) : zeros 64 = restP (l ++ u) ∧ foldP (grownP l) (wordsOf (midP l u)) = grownP (l ++ u) := by
  obtain ⟨e1, e2⟩ := len_full h
  refine ⟨?_, ?_⟩
  · unfold restP
    rw [e1, e2, List.drop_eq_nil_of_le (by rw [List.length_append]; omega)]
    rfl
  · unfold grownP
    rw [e1, growN, growN_app (by omega)]
    congr 2
    unfold midP blockAt
    rw [List.drop_append_of_le_length (by omega), List.take_of_length_le (by rw [List.length_append, drop_length]; omega), show 64 - l.length % 64 - u.length = 0 by omega]
    simp [zeros]

/- a text's bytes -/
def nums (s : ByteArray) : List Nat := s.data.toList.map (fun b => b.toNat)
theorem nums_length (s : ByteArray) : (nums s).length = s.size := by
  rw [nums, List.length_map]
  exact Array.length_toList
theorem nums_lt (s : ByteArray) : Lt 256 (nums s) := by
  intro x hx
  simp only [nums, List.mem_map] at hx
  obtain ⟨b, _, rfl⟩ := hx
  exact b.toNat_lt
theorem nums_extract (s : ByteArray) (a b : Nat) : nums (s.extract a b) = ((nums s).drop a).take (b - a) := by
  obtain ⟨⟨l⟩⟩ := s
  rw [nums, nums, ByteArray.extract_mk]
  simp
theorem nums_append (s t : ByteArray) : nums (s ++ t) = nums s ++ nums t := by
  unfold nums
  rw [ByteArray.data_append]
  simp

end Go.Proofs.YtjcfllidandeiaaDoor
