/- Pure: a square of 64 words of 64 bits, turned by quarters. -/
import Derived.Test.YtdahnbojnleboaaJ26
namespace Go.Proofs.Ytdahnbojnleboaa.T
set_option maxRecDepth 100000

def unl (h low x y : Nat) : Nat := (x / 2 ^ h ^^^ y) &&& low
def lv (h low : Nat) (f : Nat → Nat) (i : Nat) : Nat :=
  if i &&& h = 0 then f i ^^^ (unl h low (f i) (f (i + h)) * 2 ^ h % 18446744073709551616) else f i ^^^ unl h low (f (i - h)) (f i)
def lvTo (h low : Nat) (f : Nat → Nat) (J i : Nat) : Nat := if (if i &&& h = 0 then i else i - h) < J then lv h low f i else f i

/- which numbers a step may have -/
def goodAt (h low b : Nat) : Bool := (low.testBit b == (b &&& h == 0)) && (if b &&& h == 0 then ((b + h) &&& h != 0) && decide (b + h < 64) && (!(decide (h ≤ b)) || ((b - h) &&& h != 0)) else decide (h ≤ b) && ((b - h) &&& h == 0))
def good (h low : Nat) : Bool := (List.range 64).all (goodAt h low) && decide (0 < h) && decide (h < 64) && decide (low < 18446744073709551616)
theorem good.at {h low b : Nat} (H : good h low = true) (hb : b < 64) : goodAt h low b = true := by
  simp only [good, Bool.and_eq_true, List.all_eq_true] at H
  exact H.1.1.1 b (List.mem_range.2 hb)
theorem good.low {h low b : Nat} (H : good h low = true) (hb : b < 64) : low.testBit b = decide (b &&& h = 0) := by
  have := good.at H hb
  simp only [goodAt, Bool.and_eq_true, beq_iff_eq] at this
  rw [this.1]
  rfl
theorem good.up {h low b : Nat} (H : good h low = true) (hb : b < 64) (h0 : b &&& h = 0) : (b + h) &&& h ≠ 0 ∧ b + h < 64 := by
  have := good.at H hb
  simp [goodAt, h0] at this
  exact this.2.1
theorem good.back {h low b : Nat} (H : good h low = true) (hb : b < 64) (h0 : b &&& h = 0) (h1 : h ≤ b) : (b - h) &&& h ≠ 0 := by
  have := good.at H hb
  simp [goodAt, h0] at this
  rcases this.2.2 with h2 | h2
  · omega
  · exact h2
theorem good.down {h low b : Nat} (H : good h low = true) (hb : b < 64) (h0 : ¬ b &&& h = 0) : h ≤ b ∧ (b - h) &&& h = 0 := by
  have := good.at H hb
  simp [goodAt, h0] at this
  exact this.2
theorem good.pos {h low : Nat} (H : good h low = true) : 0 < h ∧ h < 64 ∧ low < 18446744073709551616 := by
  simp only [good, Bool.and_eq_true, decide_eq_true_eq] at H
  exact ⟨H.1.1.2, H.1.2, H.2⟩

def sw (h : Nat) (p : Nat × Nat) : Nat × Nat := if p.1 &&& h = 0 then (if p.2 &&& h = 0 then p else (p.1 + h, p.2 - h)) else (if p.2 &&& h = 0 then (p.1 - h, p.2 + h) else p)

theorem lv_bit {h low : Nat} (H : good h low = true) (f : Nat → Nat) {i b : Nat} (_hi : i < 64) (hb : b < 64) : (lv h low f i).testBit b = (f (sw h (i, b)).1).testBit (sw h (i, b)).2 := by
  have p64 : (18446744073709551616 : Nat) = 2 ^ 64 := rfl
  by_cases h0 : i &&& h = 0
  · rw [lv, if_pos h0, Nat.testBit_xor, p64, Nat.testBit_mod_two_pow, decide_eq_true hb, Bool.true_and, Nat.testBit_mul_two_pow, unl, Nat.testBit_and, Nat.testBit_xor, Nat.testBit_div_two_pow]
    by_cases h1 : b &&& h = 0
    · rw [show sw h (i, b) = (i, b) by simp [sw, h0, h1]]
      by_cases h2 : h ≤ b
      · rw [good.low H (show b - h < 64 by omega), decide_eq_false (good.back H hb h1 h2)]
        simp
      · simp [h2]
    · have h2 := good.down H hb h1
      rw [show sw h (i, b) = (i + h, b - h) by simp [sw, h0, h1], good.low H (show b - h < 64 by omega), decide_eq_true h2.2, decide_eq_true (show b ≥ h from h2.1), show b - h + h = b by omega]
      simp
  · rw [lv, if_neg h0, Nat.testBit_xor, unl, Nat.testBit_and, Nat.testBit_xor, Nat.testBit_div_two_pow, good.low H hb]
    by_cases h1 : b &&& h = 0
    · rw [show sw h (i, b) = (i - h, b + h) by simp [sw, h0, h1], decide_eq_true h1]
      simp
      cases (f i).testBit b <;> simp
    · rw [show sw h (i, b) = (i, b) by simp [sw, h0, h1], decide_eq_false h1]
      simp

theorem sw_lt {h low : Nat} (H : good h low = true) {i b : Nat} (hi : i < 64) (hb : b < 64) : (sw h (i, b)).1 < 64 ∧ (sw h (i, b)).2 < 64 := by
  unfold sw
  by_cases h0 : i &&& h = 0
  · by_cases h1 : b &&& h = 0
    · simp [h0, h1]; omega
    · have := good.up H hi h0
      simp [h0, h1]; omega
  · by_cases h1 : b &&& h = 0
    · have := good.up H hb h1
      simp [h0, h1]; omega
    · simp [h0, h1]; omega

theorem lv_lt {h low : Nat} (H : good h low = true) {f : Nat → Nat} (hf : ∀ i, i < 64 → f i < 18446744073709551616) {i : Nat} (hi : i < 64) : lv h low f i < 18446744073709551616 := by
  have hl := (good.pos H).2.2
  have hu : ∀ x y, unl h low x y < 2 ^ 64 := fun x y => Nat.lt_of_le_of_lt Nat.and_le_right hl
  unfold lv
  split
  · exact Nat.xor_lt_two_pow (n := 64) (hf i hi) (Nat.mod_lt _ (by omega))
  · exact Nat.xor_lt_two_pow (n := 64) (hf i hi) (hu _ _)

theorem lvTo_zero (h low : Nat) (f : Nat → Nat) (i : Nat) : lvTo h low f 0 i = f i := by simp [lvTo]
theorem lvTo_all {h low : Nat} {f : Nat → Nat} {i : Nat} (hi : i < 64) : lvTo h low f 64 i = lv h low f i := by
  rw [lvTo, if_pos (by split <;> omega)]
theorem lvTo_lt {h low : Nat} (H : good h low = true) {f : Nat → Nat} (hf : ∀ i, i < 64 → f i < 18446744073709551616) {i : Nat} (hi : i < 64) (J : Nat) : lvTo h low f J i < 18446744073709551616 := by
  by_cases h1 : (if i &&& h = 0 then i else i - h) < J
  · rw [lvTo, if_pos h1]; exact lv_lt H hf hi
  · rw [lvTo, if_neg h1]; exact hf i hi
theorem lvTo_pass {h low : Nat} (H : good h low = true) (f : Nat → Nat) {J i : Nat} (hJ : ¬ J &&& h = 0) (hi : i < 64) : lvTo h low f (J + 1) i = lvTo h low f J i := by
  have hne : (if i &&& h = 0 then i else i - h) ≠ J := by
    split
    · rename_i h0; intro e; rw [e] at h0; exact hJ h0
    · rename_i h0; intro e; exact hJ (by rw [← e]; exact (good.down H hi h0).2)
  unfold lvTo
  generalize (if i &&& h = 0 then i else i - h) = k at *
  by_cases h1 : k < J
  · rw [if_pos h1, if_pos (by omega)]
  · rw [if_neg h1, if_neg (by omega)]

/- the square as a list -/
def sq (f : Nat → Nat) : List Nat := (List.range 64).map f
theorem sq_length (f : Nat → Nat) : (sq f).length = 64 := by simp [sq]
theorem sq_get {f : Nat → Nat} {i : Nat} (h : i < 64) : (sq f)[i]? = some (f i) := by simp [sq, h]
theorem sq_congr {f g : Nat → Nat} (h : ∀ i, i < 64 → f i = g i) : sq f = sq g := List.map_congr_left fun i hi => h i (List.mem_range.1 hi)
theorem sq_set {f : Nat → Nat} {i : Nat} (x : Nat) : (sq f).set i x = sq (fun j => if j = i then x else f j) := by
  refine List.ext_getElem? fun j => ?_
  by_cases hj : j < 64
  · rw [sq_get hj, List.getElem?_set, sq_length]
    by_cases h : i = j
    · subst h; simp [hj]
    · rw [if_neg h, if_neg (fun e => h e.symm), sq_get hj]
  · rw [List.getElem?_eq_none (by rw [List.length_set, sq_length]; omega), List.getElem?_eq_none (by rw [sq_length]; omega)]

theorem cross_step {h low : Nat} (H : good h low = true) (f : Nat → Nat) {J : Nat} (hJ : J &&& h = 0) (hJ64 : J < 64) :
    lvTo h low f J J = f J ∧ lvTo h low f J (J + h) = f (J + h) ∧
    sq (lvTo h low f (J + 1)) = ((sq (lvTo h low f J)).set J (f J ^^^ (unl h low (f J) (f (J + h)) * 2 ^ h % 18446744073709551616))).set (J + h) (f (J + h) ^^^ unl h low (f J) (f (J + h))) := by
  obtain ⟨u1, u2⟩ := good.up H hJ64 hJ
  have hp := (good.pos H).1
  refine ⟨by simp [lvTo, hJ], by simp [lvTo, u1], ?_⟩
  rw [sq_set, sq_set]
  refine sq_congr fun i hi => ?_
  by_cases e1 : i = J + h
  · rw [if_pos e1, e1, lvTo, if_neg u1, if_pos (by omega), lv, if_neg u1, Nat.add_sub_cancel]
  · rw [if_neg e1]
    by_cases e2 : i = J
    · rw [if_pos e2, e2, lvTo, if_pos hJ, if_pos (by omega), lv, if_pos hJ]
    · rw [if_neg e2]
      have hne : (if i &&& h = 0 then i else i - h) ≠ J := by
        split
        · exact e2
        · rename_i h0; have := good.down H hi h0; omega
      unfold lvTo
      generalize (if i &&& h = 0 then i else i - h) = k at *
      by_cases h1 : k < J
      · rw [if_pos h1, if_pos (by omega)]
      · rw [if_neg h1, if_neg (by omega)]

/- the steps, one behind the other -/
def hv : Nat → Nat
  | 0 => 32 | 1 => 16 | 2 => 8 | 3 => 4 | 4 => 2 | 5 => 1 | _ => 0
def lw : Nat → Nat
  | 0 => 18446744073709551615 | 1 => 4294967295 | 2 => 281470681808895 | 3 => 71777214294589695 | 4 => 1085102592571150095 | 5 => 3689348814741910323 | _ => 6148914691236517205
theorem good_at : ∀ r, r < 6 → good (hv r) (lw (r + 1)) = true := by decide +kernel
theorem lw_next : ∀ r, r < 6 → lw r ^^^ (lw r * 2 ^ hv r % 18446744073709551616) = lw (r + 1) := by decide +kernel
theorem hv_next : ∀ r, r < 6 → hv r / 2 = hv (r + 1) := by decide +kernel
theorem lw_lt : ∀ r, r < 7 → lw r < 18446744073709551616 := by decide +kernel
def stg (f : Nat → Nat) : Nat → Nat → Nat
  | 0 => f
  | r + 1 => lv (hv r) (lw (r + 1)) (stg f r)
theorem stg_lt {f : Nat → Nat} (hf : ∀ i, i < 64 → f i < 18446744073709551616) : ∀ (r : Nat), r ≤ 6 → ∀ i, i < 64 → stg f r i < 18446744073709551616
  | 0, _, i, hi => hf i hi
  | r + 1, hr, i, hi => lv_lt (good_at r (by omega)) (stg_lt hf r (by omega)) hi
def sws : Nat → Nat × Nat → Nat × Nat
  | 0, p => p
  | r + 1, p => sws r (sw (hv r) p)
theorem stg_bit {f : Nat → Nat} : ∀ (r : Nat), r ≤ 6 → ∀ i b, i < 64 → b < 64 → (stg f r i).testBit b = (f (sws r (i, b)).1).testBit (sws r (i, b)).2
  | 0, _, _, _, _, _ => rfl
  | r + 1, hr, i, b, hi, hb => by
    have hg := good_at r (by omega)
    have hs := sw_lt hg hi hb
    rw [stg, lv_bit hg _ hi hb, sws, stg_bit r (by omega) _ _ hs.1 hs.2]
theorem sws_all : ∀ i, i < 64 → ∀ b, b < 64 → sws 6 (i, b) = (b, i) := by decide +kernel
def turned (f : Nat → Nat) : Nat → Nat := stg f 6
theorem turned_bit {f : Nat → Nat} {i b : Nat} (hi : i < 64) (hb : b < 64) : (turned f i).testBit b = (f b).testBit i := by
  rw [turned, stg_bit 6 (Nat.le_refl _) i b hi hb, sws_all i hi b hb]
theorem turned_lt {f : Nat → Nat} (hf : ∀ i, i < 64 → f i < 18446744073709551616) {i : Nat} (hi : i < 64) : turned f i < 18446744073709551616 := stg_lt hf 6 (Nat.le_refl _) i hi
end Go.Proofs.Ytdahnbojnleboaa.T
