/- Get: five bytes as a class. -/
import Derived.Test.YtnkdbkhgfakjaaaGreatDoorKn
import Derived.Test.YtnkdbkhgfakjaaaGreatDoorTa
namespace Go.Proofs.YtnkdbkhgfakjaaaGreatDoor
open Go.RowKit
set_option maxRecDepth 100000
attribute [local go_sem] not_any mf_any

/- the field's name -/
def CLASS : ByteArray := ⟨#[99, 108, 97, 115, 115]⟩
/- behind j bytes: the first fault, its field; byte i, or 0 -/
def cN (s : ByteArray) (j : Nat) : Int := if j ≤ s.size then 0 else 12
def fN (s : ByteArray) (j : Nat) : ByteArray := if j ≤ s.size then ⟨#[]⟩ else CLASS
def xN (s : ByteArray) (i : Nat) : Nat := (nums s).getD i 0
theorem xN_lt (s : ByteArray) (i : Nat) : xN s i < 256 := by
  unfold xN
  rw [List.getD_eq_getElem?_getD]
  cases h : (nums s)[i]? with
  | none => simp
  | some x => simpa using nums_all s x (List.mem_of_getElem? h)
theorem cN_ok {s : ByteArray} {j : Nat} (h : j ≤ s.size) : cN s j = 0 := if_pos h
theorem cN_no {s : ByteArray} {j : Nat} (h : ¬ j ≤ s.size) : cN s j = 12 := if_neg h
theorem fN_ok {s : ByteArray} {j : Nat} (h : j ≤ s.size) : fN s j = ⟨#[]⟩ := if_pos h
theorem fN_no {s : ByteArray} {j : Nat} (h : ¬ j ≤ s.size) : fN s j = CLASS := if_neg h
theorem num_in {s : ByteArray} {j : Nat} (h : j < s.size) : numC 1 (restOf s j) = 0 ∧ numX 1 (restOf s j) = xN s j := by
  have hl := restOf_length s j
  have h1 : 1 ≤ (restOf s j).length := by omega
  refine ⟨if_pos h1, ?_⟩
  rw [numX, if_pos h1, xN, restOf]
  have hj : j < (nums s).length := by rw [nums_length]; exact h
  rw [List.drop_eq_getElem_cons hj, List.getD_eq_getElem?_getD, List.getElem?_eq_getElem hj]
  show 256 * 0 + (nums s)[j] = (nums s)[j]
  omega
theorem num_out {s : ByteArray} {j : Nat} (h : j = s.size) : numC 1 (restOf s j) = 12 ∧ numX 1 (restOf s j) = 0 := by
  have hl := restOf_length s j
  have h1 : ¬ 1 ≤ (restOf s j).length := by omega
  exact ⟨if_neg h1, if_neg h1⟩
theorem xN_far {s : ByteArray} {j : Nat} (h : s.size ≤ j) : xN s j = 0 := by
  rw [xN, List.getD_eq_getElem?_getD, List.getElem?_eq_none (by rw [nums_length]; exact h)]
  rfl

theorem rU8_step (g j : Nat) (s : ByteArray) (w : World) (h : w.heap[g]? = some (rdr s (min j s.size) (cN s j) (fN s j))) (hs : s.size ≤ 281474976710656) :
    Calls Tryz.prog 17 #[.pointer (some ⟨g, 0, none⟩), .string CLASS] w fun e w' => e = .returned (.int .u8 (xN s j : Nat)) ∧ w'.heap[g]? = some (rdr s (min (j + 1) s.size) (cN s (j + 1)) (fN s (j + 1))) ∧ But g w w' := by
  by_cases h1 : j < s.size
  · rw [cN_ok (by omega), fN_ok (by omega), show min j s.size = j by omega] at h
    rw [cN_ok (by omega), fN_ok (by omega), show min (j + 1) s.size = j + 1 by omega]
    have k := rU8_any g j s ⟨#[]⟩ CLASS w h (by omega) hs
    rw [(num_in h1).1, (num_in h1).2] at k
    exact k
  · by_cases h2 : j = s.size
    · rw [cN_ok (by omega), fN_ok (by omega), show min j s.size = j by omega] at h
      rw [cN_no (by omega), fN_no (by omega), show min (j + 1) s.size = j by omega, xN_far (by omega)]
      have k := rU8_any g j s ⟨#[]⟩ CLASS w h (by omega) hs
      rw [(num_out h2).1, (num_out h2).2] at k
      exact k
    · rw [cN_no (by omega), fN_no (by omega), show min j s.size = s.size by omega] at h
      rw [cN_no (by omega), fN_no (by omega), show min (j + 1) s.size = s.size by omega, xN_far (by omega)]
      exact rU8_over g s.size s CLASS CLASS 12 w h (by decide)

theorem dnum_step (j : Nat) (s : ByteArray) (w : World) (hs : s.size ≤ 281474976710656) :
    Calls Tryz.prog 20 #[dv s (min j s.size) (cN s j), .int .i64 1] w fun en w' => en = .returned (.tuple #[dv s (min (j + 1) s.size) (cN s (j + 1)), .int .u64 (xN s j : Nat)]) ∧ Below w.heap.size w w' := by
  by_cases h1 : j < s.size
  · rw [cN_ok (show j ≤ s.size by omega), cN_ok (show j + 1 ≤ s.size by omega), show min j s.size = j by omega, show min (j + 1) s.size = j + 1 by omega]
    have k := dnumber_any s j 1 w (by omega) hs (by omega)
    rw [(num_in h1).1, (num_in h1).2] at k
    exact k
  · by_cases h2 : j = s.size
    · rw [cN_ok (show j ≤ s.size by omega), cN_no (show ¬ j + 1 ≤ s.size by omega), show min j s.size = j by omega, show min (j + 1) s.size = j by omega, xN_far (by omega)]
      have k := dnumber_any s j 1 w (by omega) hs (by omega)
      rw [(num_out h2).1, (num_out h2).2] at k
      exact k
    · rw [cN_no (show ¬ j ≤ s.size by omega), cN_no (show ¬ j + 1 ≤ s.size by omega), show min j s.size = s.size by omega, show min (j + 1) s.size = s.size by omega, xN_far (by omega)]
      exact dnumber_over s s.size 1 12 w (by decide)

theorem But.set_new {b k o : Nat} {w w' : World} (h : But b w w') (hk : w.heap.size ≤ k) (v : Value) : But b w (w'.setCell ⟨k, o, none⟩ v) := by
  have h2 := (Below.refl w.heap.size w').setCell (p := ⟨k, o, none⟩) hk v
  exact ⟨h2.1.trans h.1, h2.2.trans h.2, h2.3.trans h.3, Nat.le_trans h.4 h2.4, fun i hi hb => (h2.5 i hi).trans (h.5 i hi hb)⟩

/- the first j of five numbers -/
def five (f : Nat → Int) (j : Nat) : List Int := (List.range 5).map (fun i => if i < j then f i else 0)
theorem five_set (f : Nat → Int) (j : Nat) : (five f j).set j (f j) = five f (j + 1) := by
  apply List.ext_getElem?
  intro i
  rw [List.getElem?_set]
  simp only [five, List.getElem?_map, List.length_map, List.length_range]
  by_cases hi : i < 5
  · rw [List.getElem?_range hi]
    by_cases h : j = i
    · subst h; simp [hi]
    · rw [if_neg h]
      simp only [Option.map_some]
      congr 1
      by_cases h2 : i < j
      · rw [if_pos h2, if_pos (by omega)]
      · rw [if_neg h2, if_neg (by omega)]
  · by_cases h : j = i
    · subst h; simp [hi]
    · simp [h, hi]

end Go.Proofs.YtnkdbkhgfakjaaaGreatDoor
