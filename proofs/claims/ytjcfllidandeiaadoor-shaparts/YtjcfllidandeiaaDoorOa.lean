/- Pure: the document's reckoning comes to the program's. -/
import Derived.Test.YtjcfllidandeiaaDoorNa
namespace Go.Proofs.YtjcfllidandeiaaDoor
open Go.RowKit

def chainP (l : List Nat) : Nat → List Nat
  | 0 => FIRST
  | n + 1 => comp ROOTS (chainP l n) (wordsOf (blockAt l n))
def refP (l : List Nat) : List Nat := dig (chainP (padP l) ((padP l).length / 64))

theorem addW_comm (g h : List Nat) : addW g h = addW h g := by
  unfold addW
  apply List.map_congr_left
  intro i _
  rw [Nat.add_comm]
theorem addW_assoc (f g h : List Nat) : addW (addW f g) h = addW f (addW g h) := by
  apply at0_ext
  · rw [addW_length, addW_length]
  · intro i hi
    rw [addW_length] at hi
    rw [at0_addW hi, at0_addW hi, at0_addW hi, at0_addW hi]
    omega
theorem first_zero : FIRST = addW FIRST (zeros 8) := by decide +kernel
theorem chain_grow (l : List Nat) : ∀ n, chainP l n = addW FIRST (growN l n)
  | 0 => first_zero
  | n + 1 => by rw [chainP, growN, chain_grow l n, comp, foldP, addW_assoc, addW_comm (growN l n) FIRST]
theorem chain_length (l : List Nat) (n : Nat) : (chainP l n).length = 8 := by rw [chain_grow, addW_length]
theorem chain_lt (l : List Nat) (n : Nat) : Lt 4294967296 (chainP l n) := by rw [chain_grow]; exact addW_lt _ _

theorem lenTo_eight (n : Nat) : lenTo n 8 = [lenB n 0, lenB n 1, lenB n 2, lenB n 3, lenB n 4, lenB n 5, lenB n 6, lenB n 7] := rfl
theorem padP_length (l : List Nat) : (padP l).length = l.length + 9 + padZ l.length := by
  rw [padP, lenTo_eight, List.length_append, List.length_append, List.length_cons, zeros_length]
  simp
  omega

theorem wordsOf_congr {b c : List Nat} (h : ∀ j, j < 64 → at0 b j = at0 c j) : wordsOf b = wordsOf c := by
  unfold wordsOf
  apply List.map_congr_left
  intro i hi
  rw [List.mem_range] at hi
  unfold wordAt
  rw [h _ (by omega), h _ (by omega), h _ (by omega), h _ (by omega)]
theorem at0_pad (a : List Nat) (z j : Nat) : at0 (a ++ zeros z) j = at0 a j := by
  by_cases h : j < a.length
  · exact at0_append_left h
  · rw [at0_append_right (by omega), at0_none (l := a) (by omega)]
    exact at0_replicate
theorem at0_block {l : List Nat} {n j : Nat} (h : j < 64) : at0 (blockAt l n) j = at0 l (64 * n + j) := by
  rw [blockAt, at0_take h, at0_drop]

theorem pad_split (l : List Nat) : padP l = l.take (64 * (l.length / 64)) ++ (tailP l ++ zeros (padZ l.length) ++ lenTo l.length 8) := by
  have e := List.take_append_drop (64 * (l.length / 64)) l
  rw [padP, tailP]
  generalize zeros (padZ l.length) = Z
  generalize lenTo l.length 8 = L
  generalize l.take (64 * (l.length / 64)) = t at *
  generalize l.drop (64 * (l.length / 64)) = d at *
  rw [← e]
  simp
theorem pad_front (l : List Nat) (j : Nat) (h : j < l.length % 64 + 1 + padZ l.length) : at0 (padP l) (64 * (l.length / 64) + j) = at0 (tailP l) j := by
  have e : (l.take (64 * (l.length / 64))).length = 64 * (l.length / 64) := by rw [List.length_take]; omega
  rw [pad_split, at0_append_right (by omega), e, Nat.add_sub_cancel_left, at0_append_left (by rw [List.length_append, tailP_length, zeros_length]; exact h), at0_pad]
theorem pad_end (l : List Nat) (i : Nat) (_h : i < 8) : at0 (padP l) (64 * (l.length / 64) + (l.length % 64 + 1 + padZ l.length + i)) = at0 (lenTo l.length 8) i := by
  have e : (l.take (64 * (l.length / 64))).length = 64 * (l.length / 64) := by rw [List.length_take]; omega
  rw [pad_split, at0_append_right (by omega), e, Nat.add_sub_cancel_left, at0_append_right (by rw [List.length_append, tailP_length, zeros_length]; omega), List.length_append, tailP_length, zeros_length, Nat.add_sub_cancel_left]

theorem len_hi (n : Nat) : be (lenB n 0) (lenB n 1) (lenB n 2) (lenB n 3) = n * 8 % 18446744073709551616 / 4294967296 := by
  unfold be lenB
  simp only [Nat.reduceSub, Nat.reduceMul, Nat.reducePow]
  omega
theorem len_lo (n : Nat) : be (lenB n 4) (lenB n 5) (lenB n 6) (lenB n 7) = n * 8 % 18446744073709551616 % 4294967296 := by
  unfold be lenB
  simp only [Nat.reduceSub, Nat.reduceMul, Nat.reducePow]
  omega

theorem words_end {n : Nat} {b c : List Nat} (hc : c.length = 16) (h1 : ∀ k, k < 14 → wordAt b (4 * k) = at0 c k) (h2 : ∀ i, i < 8 → at0 b (56 + i) = at0 (lenTo n 8) i) : wordsOf b = withLen n c := by
  apply at0_ext
  · rw [wordsOf_length, withLen, List.length_set, List.length_set, hc]
  · intro k hk
    rw [wordsOf_length] at hk
    rw [wordsOf, at0_map_range hk]
    have a0 := h2 0 (by omega)
    have a1 := h2 1 (by omega)
    have a2 := h2 2 (by omega)
    have a3 := h2 3 (by omega)
    have a4 := h2 4 (by omega)
    have a5 := h2 5 (by omega)
    have a6 := h2 6 (by omega)
    have a7 := h2 7 (by omega)
    rw [lenTo_eight] at a0 a1 a2 a3 a4 a5 a6 a7
    rcases Nat.lt_or_ge k 14 with hk14 | hk14
    · rw [h1 k hk14]
      unfold withLen at0
      rw [List.getElem?_set_ne (by omega), List.getElem?_set_ne (by omega)]
    · have : k = 14 ∨ k = 15 := by omega
      rcases this with rfl | rfl
      · show be (at0 b (56 + 0)) (at0 b (56 + 1)) (at0 b (56 + 2)) (at0 b (56 + 3)) = _
        rw [a0, a1, a2, a3]
        refine (len_hi n).trans ?_
        unfold withLen at0
        rw [List.getElem?_set_ne (by omega), List.getElem?_set_self (by omega)]
        rfl
      · show be (at0 b (56 + 4)) (at0 b (56 + 5)) (at0 b (56 + 6)) (at0 b (56 + 7)) = _
        rw [a4, a5, a6, a7]
        refine (len_lo n).trans ?_
        unfold withLen at0
        rw [List.getElem?_set_self (by rw [List.length_set]; omega)]
        rfl

theorem words_at {l : List Nat} {k : Nat} (h : k < 16) : at0 (wordsOf l) k = wordAt l (4 * k) := by rw [wordsOf, at0_map_range h]
theorem grow_pad (l : List Nat) : growN (padP l) (l.length / 64) = grownP l := by
  have e : padP l = l ++ (128 :: zeros (padZ l.length) ++ lenTo l.length 8) := by rw [padP, List.append_assoc]
  rw [e, growN_app (by omega)]
  rfl

theorem ref_sum (l : List Nat) : refP l = sumP l := by
  have hz : padZ l.length = (119 - l.length % 64) % 64 := rfl
  have hL := padP_length l
  unfold refP sumP
  by_cases h : l.length % 64 < 56
  · have e : wordsOf (blockAt (padP l) (l.length / 64)) = withLen l.length (wordsOf (tailP l)) := by
      refine words_end (wordsOf_length _) (fun k hk => ?_) (fun i hi => ?_)
      · rw [words_at (by omega)]
        unfold wordAt
        rw [at0_block (by omega), at0_block (by omega), at0_block (by omega), at0_block (by omega), pad_front l _ (by omega), pad_front l _ (by omega), pad_front l _ (by omega), pad_front l _ (by omega)]
      · rw [at0_block (by omega), ← pad_end l i hi, show l.length % 64 + 1 + padZ l.length = 56 by omega]
    rw [if_pos h, show (padP l).length / 64 = l.length / 64 + 1 by omega, chain_grow, growN, grow_pad, e]
  · have e1 : wordsOf (blockAt (padP l) (l.length / 64)) = wordsOf (tailP l) := by
      apply wordsOf_congr
      intro j hj
      rw [at0_block hj, pad_front l j (by omega)]
    have e2 : wordsOf (blockAt (padP l) (l.length / 64 + 1)) = withLen l.length (zeros 16) := by
      refine words_end (by simp [zeros]) (fun k hk => ?_) (fun i hi => ?_)
      · have hb : ∀ j, j < 56 → at0 (blockAt (padP l) (l.length / 64 + 1)) j = 0 := fun j hj => by
          rw [at0_block (by omega), show 64 * (l.length / 64 + 1) + j = 64 * (l.length / 64) + (64 + j) by omega, pad_front l _ (by omega)]
          exact at0_none (by rw [tailP_length]; omega)
        unfold wordAt
        rw [hb _ (by omega), hb _ (by omega), hb _ (by omega), hb _ (by omega)]
        exact at0_replicate.symm
      · rw [at0_block (by omega), ← pad_end l i hi, show 64 * (l.length / 64 + 1) + (56 + i) = 64 * (l.length / 64) + (l.length % 64 + 1 + padZ l.length + i) by omega]
    rw [if_neg h, show (padP l).length / 64 = l.length / 64 + 1 + 1 by omega, chain_grow, growN, growN, grow_pad, e1, e2]

theorem flat_at : ∀ (h : List Nat) (i : Nat), i < 4 * h.length → at0 (h.flatMap bytesP) i = at0 h (i / 4) / 2 ^ (24 - 8 * (i % 4)) % 256
  | [], i, hi => by simp at hi
  | x :: h, i, hi => by
    rw [List.length_cons] at hi
    rw [List.flatMap_cons]
    rcases Nat.lt_or_ge i 4 with h4 | h4
    · rw [at0_append_left (by simpa [bytesP] using h4)]
      have : i = 0 ∨ i = 1 ∨ i = 2 ∨ i = 3 := by omega
      rcases this with rfl | rfl | rfl | rfl <;> simp [bytesP, at0]
    · rw [at0_append_right (by simpa [bytesP] using h4), show (bytesP x).length = 4 from rfl, flat_at h (i - 4) (by omega)]
      rw [show i / 4 = (i - 4) / 4 + 1 by omega, show (i - 4) % 4 = i % 4 by omega]
      rfl

def digTo (h : List Nat) (i : Nat) : List Nat := (dig h).take i ++ zeros (32 - i)
theorem digTo_length {h : List Nat} (hl : h.length = 8) {i : Nat} (hi : i ≤ 32) : (digTo h i).length = 32 := by
  rw [digTo, List.length_append, zeros_length, List.length_take, dig_length hl]; omega
theorem digTo_set {h : List Nat} (hl : h.length = 8) {i : Nat} (hi : i < 32) : (digTo h i).set i (at0 h (i / 4) / 2 ^ (24 - 8 * (i % 4)) % 256) = digTo h (i + 1) := by
  have e : ((dig h).take i).length = i := by rw [List.length_take, dig_length hl]; omega
  rw [← flat_at h i (by omega)]
  unfold digTo
  rw [List.set_append_right _ _ (by omega), e, Nat.sub_self, show 32 - i = (32 - (i + 1)) + 1 by omega, zeros, List.replicate_succ, List.set_cons_zero, List.take_add_one, get_at0 (by rw [dig_length hl]; omega)]
  simp [zeros, dig]
theorem digTo_all {h : List Nat} (hl : h.length = 8) : digTo h 32 = dig h := by
  rw [digTo, List.take_of_length_le (by rw [dig_length hl]; omega)]
  simp [zeros]

end Go.Proofs.YtjcfllidandeiaaDoor
