/- A part of bits: word by word. -/
import Derived.Test.YtldopgngbnjlnaaVK
namespace Go.Proofs.Ytldopgngbnjlnaa.V
open Go.RowKit
set_option maxRecDepth 100000
attribute [local go_sem] not_any mf_any field_words

theorem chunk_out {l : List Bool} {k : Nat} (h : need l.length 64 ≤ k) : chunk 64 l k = 0 := by
  apply Nat.eq_of_testBit_eq
  intro j
  rw [chunk_testBit, Nat.zero_testBit, List.getD_eq_getElem?_getD, List.getElem?_eq_none (by rw [need64] at h; omega)]
  simp

/- word i of the bits from a place on -/
def partWord (l : List Bool) (q low i : Nat) : Nat := (chunk 64 l (q + i) / 2 ^ low) ||| (chunk 64 l (q + i + 1) * 2 ^ (64 - low) % 18446744073709551616)

theorem partWord_lt (l : List Bool) (q low i : Nat) : partWord l q low i < 18446744073709551616 :=
  Nat.or_lt_two_pow (n := 64) (Nat.lt_of_le_of_lt (Nat.div_le_self _ _) (chunk64_lt _ _)) (Nat.mod_lt _ (by omega))

theorem partWord_bit (l : List Bool) (q low i j : Nat) (hlow : low < 64) (hj : j < 64) : (partWord l q low i).testBit j = l.getD (64 * q + low + (64 * i + j)) false := by
  unfold partWord
  rw [Nat.testBit_or, Nat.testBit_div_two_pow, show (18446744073709551616 : Nat) = 2 ^ 64 by rfl, Nat.testBit_mod_two_pow, Nat.mul_comm (chunk 64 l (q + i + 1)), Nat.testBit_two_pow_mul, chunk_testBit, chunk_testBit]
  by_cases h : j + low < 64
  · have a1 : ¬ 64 - low ≤ j := by omega
    have a2 : 64 * (q + i) + (j + low) = 64 * q + low + (64 * i + j) := by omega
    simp [h, a1, a2]
  · have a1 : 64 - low ≤ j := by omega
    have a2 : j - (64 - low) < 64 := by omega
    have a3 : 64 * (q + i + 1) + (j - (64 - low)) = 64 * q + low + (64 * i + j) := by omega
    simp [h, a1, a2, a3, hj]

def cutOut (l : List Bool) (p t : Nat) : List Bool := (l.drop p).take (t - p)

theorem cutOut_length {l : List Bool} {p t : Nat} (ht : t ≤ l.length) : (cutOut l p t).length = t - p := by simp [cutOut]; omega
theorem cutOut_getD {l : List Bool} {p t j : Nat} (h : j < t - p) : (cutOut l p t).getD j false = l.getD (p + j) false := by
  unfold cutOut
  rw [List.getD_eq_getElem?_getD, List.getD_eq_getElem?_getD, List.getElem?_take_of_lt h, List.getElem?_drop]

theorem wordAt_any (W : World) (g o m c : Nat) (l : List Bool) (q k : Nat) (hm : q + m = need l.length 64) (_hl : l.length ≤ 4194304) (ho : o = q) (hg : W.heap[g]? = some (wrow (chunks 64 l))) (_hk : k ≤ 4194304) :
    Calls Try.prog 48 #[.slice (some ⟨g, o, none⟩) m c, .int .i64 k] W fun e w' => e = .returned (.int .u64 (chunk 64 l (q + k) : Nat)) ∧ ∃ p os, w' = Sort.grow (W.drewN p) os := by
  subst ho
  by_cases h : k < m
  · have hc : W.cell? ⟨g, o + k, none⟩ = some (.int .u64 (chunk 64 l (o + k) : Nat)) := row_cell hg (chunks_get (by omega))
    have h1 : ¬ (m : Int) ≤ (k : Int) := by omega
    clear hg
    go_enter Try.func48, Try.ntmps48
    go_wp2
    go_ret
    exact ⟨rfl, gr_refl _⟩
  · have h1 : (m : Int) ≤ (k : Int) := by omega
    rw [chunk_out (by omega)]
    go_enter Try.func48, Try.ntmps48
    go_wp2
    go_ret
    exact ⟨rfl, gr_refl _⟩

end Go.Proofs.Ytldopgngbnjlnaa.V
