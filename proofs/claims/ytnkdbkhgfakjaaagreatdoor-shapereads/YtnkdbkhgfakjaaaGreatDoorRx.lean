/- Words of a list. -/
import Derived.Test.YtnkdbkhgfakjaaaGreatDoorRw
namespace Go.Proofs.YtnkdbkhgfakjaaaGreatDoor
open Go.RowKit
set_option maxRecDepth 100000
attribute [local go_sem] not_any mf_any

theorem run_cut (s : ByteArray) (p q : Nat) (h1 : p ≤ q) (h2 : q ≤ s.size) (w : World) : (Instr.slice 9 (.string s) (some (.int .i64 (p : Int))) (some (.int .i64 (q : Int))) none).run Tryz.prog w = .ok (.string (s.extract p q)) w := by
  have := run_slice_string (P := Tryz.prog) w 9 s .i64 .i64 (p : Int) (q : Int) Tryz.underlying9 (by omega) (by omega) (by omega)
  simpa using this

/- the words that bytes say, n bytes each -/
def wordK (n : Nat) (H : List Nat) (i : Nat) : Nat := val ((H.drop (i * n)).take n)
def wordsP (n cnt : Nat) (H : List Nat) : List Nat := (List.range cnt).map (wordK n H)
theorem wordsP_length (n cnt : Nat) (H : List Nat) : (wordsP n cnt H).length = cnt := by simp [wordsP]
theorem wordsP_get {n cnt i : Nat} {H : List Nat} (h : i < cnt) : (wordsP n cnt H)[i]? = some (wordK n H i) := by simp [wordsP, h]
def FitsW (wd : Nat) (ws : List Nat) : Prop := ∀ x ∈ ws, x < 2 ^ wd
theorem wordK_lt {n i : Nat} {H : List Nat} (h : Lt 256 H) (hn : n ≤ 8) : wordK n H i < 18446744073709551616 :=
  val_lt64 ((h.drop _).take _) (by rw [List.length_take]; omega)

/- the first k words, the others 0 -/
def wordsTo (n cnt : Nat) (H : List Nat) (k : Nat) : List Nat := (List.range cnt).map (fun i => if i < k then wordK n H i else 0)
theorem wordsTo_length (n cnt : Nat) (H : List Nat) (k : Nat) : (wordsTo n cnt H k).length = cnt := by simp [wordsTo]
theorem wordsTo_zero (n cnt : Nat) (H : List Nat) : wordsTo n cnt H 0 = List.replicate cnt 0 := by
  unfold wordsTo
  apply List.ext_getElem?
  intro i
  by_cases h : i < cnt <;> simp [h]
theorem wordsTo_all (n cnt : Nat) (H : List Nat) : wordsTo n cnt H cnt = wordsP n cnt H := by
  unfold wordsTo wordsP
  apply List.map_congr_left
  intro i hi
  rw [if_pos (by simpa using hi)]
theorem wordsTo_succ {n cnt k : Nat} (H : List Nat) (hk : k < cnt) : wordsTo n cnt H (k + 1) = (wordsTo n cnt H k).set k (wordK n H k) := by
  apply List.ext_getElem?
  intro i
  rw [List.getElem?_set, wordsTo_length]
  by_cases hi : i < cnt
  · by_cases h : k = i
    · subst h
      simp [wordsTo, hi]
    · rw [if_neg h]
      have e : (i < k + 1) = (i < k) := by apply propext; omega
      simp [wordsTo, hi, e]
  · have h1 : ¬ k = i := by omega
    rw [if_neg h1, List.getElem?_eq_none (by rw [wordsTo_length]; omega), List.getElem?_eq_none (by rw [wordsTo_length]; omega)]

def WLPost (wd cnt : Nat) (ws : List Nat) (w : World) (e : Ending) (w' : World) : Prop :=
  (FitsW wd ws → ∃ a, e = .returned (.tuple #[.slice a cnt cnt, .int .i64 0]) ∧ Nl w' cnt a ws ∧ ∀ p, a = some p → w.heap.size ≤ p.block) ∧
  (¬ FitsW wd ws → e = .returned (.tuple #[.slice none 0 0, .int .i64 13])) ∧ Below w.heap.size w w'

theorem shr_zero {x wd : Nat} (h : x < 2 ^ wd) : ((x : Int) / 2 ^ wd != 0) = false := by
  have : (x : Int) / 2 ^ wd = ((x / 2 ^ wd : Nat) : Int) := by rw [Int.natCast_ediv, Int.natCast_pow]; rfl
  rw [this, Nat.div_eq_of_lt h]
  rfl
theorem shr_some {x wd : Nat} (h : ¬ x < 2 ^ wd) : ((x : Int) / 2 ^ wd != 0) = true := by
  have e : (x : Int) / 2 ^ wd = ((x / 2 ^ wd : Nat) : Int) := by rw [Int.natCast_ediv, Int.natCast_pow]; rfl
  have h1 : 0 < x / 2 ^ wd := Nat.div_pos (by omega) (Nat.pow_pos (by omega))
  rw [e, bne_iff_ne]
  omega

end Go.Proofs.YtnkdbkhgfakjaaaGreatDoor
