/- Pure: a square of 64 words of 64 bits, turned by quarters. The small functions of package bits: what each call does to the world. Bits told, one by one: Len, Get. Bits of truths: Of. -/
import Derived.Test.YtlkkninnfiaedaaDoorJ27
import Derived.Test.YtlkkninnfiaedaaDoorRows
import Derived.WalkKit
import Derived.WalkSpells
import Derived.WalkLawsBesides
import Derived.Deep.QuietTactic
import Derived.Deep.RegionWith
import Derived.Shelf.SlSortCmp.QuietGrown
import Derived.BigQuiet
import Derived.Deep.RegionHeld3
namespace Go.Proofs.YtlkkninnfiaedaaDoor.T
set_option maxRecDepth 100000

def unl (h low x y : Nat) : Nat := (x / 2 ^ h ^^^ y) &&& low
def lv (h low : Nat) (f : Nat → Nat) (i : Nat) : Nat :=
  if i &&& h = 0 then f i ^^^ (unl h low (f i) (f (i + h)) * 2 ^ h % 18446744073709551616) else f i ^^^ unl h low (f (i - h)) (f i)
def lvTo (h low : Nat) (f : Nat → Nat) (J i : Nat) : Nat := if (if i &&& h = 0 then i else i - h) < J then lv h low f i else f i

/- which numbers a step may have -/
def goodAt (h low b : Nat) : Bool := (low.testBit b == (b &&& h == 0)) && (if b &&& h == 0 then ((b + h) &&& h != 0) && decide (b + h < 64) && (!(decide (h ≤ b)) || ((b - h) &&& h != 0)) else decide (h ≤ b) && ((b - h) &&& h == 0))
def good (h low : Nat) : Bool := (List.range 64).all (goodAt h low) && decide (0 < h) && decide (h < 64) && decide (low < 18446744073709551616)
theorem good.at {h low b : Nat} (H : good h low = true) (hb : b < 64) : goodAt h low b = true := by
  simp only [good, Bool.and_eq_true, List.all_eq_true] at H
  exact H.1.1.1 b (List.mem_range.2 hb)
theorem good.low {h low b : Nat} (H : good h low = true) (hb : b < 64) : low.testBit b = decide (b &&& h = 0) := by
  have := good.at H hb
  simp only [goodAt, Bool.and_eq_true, beq_iff_eq] at this
  rw [this.1]
  rfl
theorem good.up {h low b : Nat} (H : good h low = true) (hb : b < 64) (h0 : b &&& h = 0) : (b + h) &&& h ≠ 0 ∧ b + h < 64 := by
  have := good.at H hb
  simp [goodAt, h0] at this
  exact this.2.1
theorem good.back {h low b : Nat} (H : good h low = true) (hb : b < 64) (h0 : b &&& h = 0) (h1 : h ≤ b) : (b - h) &&& h ≠ 0 := by
  have := good.at H hb
  simp [goodAt, h0] at this
  rcases this.2.2 with h2 | h2
  · omega
  · exact h2
theorem good.down {h low b : Nat} (H : good h low = true) (hb : b < 64) (h0 : ¬ b &&& h = 0) : h ≤ b ∧ (b - h) &&& h = 0 := by
  have := good.at H hb
  simp [goodAt, h0] at this
  exact this.2
theorem good.pos {h low : Nat} (H : good h low = true) : 0 < h ∧ h < 64 ∧ low < 18446744073709551616 := by
  simp only [good, Bool.and_eq_true, decide_eq_true_eq] at H
  exact ⟨H.1.1.2, H.1.2, H.2⟩

def sw (h : Nat) (p : Nat × Nat) : Nat × Nat := if p.1 &&& h = 0 then (if p.2 &&& h = 0 then p else (p.1 + h, p.2 - h)) else (if p.2 &&& h = 0 then (p.1 - h, p.2 + h) else p)

theorem lv_bit {h low : Nat} (H : good h low = true) (f : Nat → Nat) {i b : Nat} (_hi : i < 64) (hb : b < 64) : (lv h low f i).testBit b = (f (sw h (i, b)).1).testBit (sw h (i, b)).2 := by
  have p64 : (18446744073709551616 : Nat) = 2 ^ 64 := rfl
  by_cases h0 : i &&& h = 0
  · rw [lv, if_pos h0, Nat.testBit_xor, p64, Nat.testBit_mod_two_pow, decide_eq_true hb, Bool.true_and, Nat.testBit_mul_two_pow, unl, Nat.testBit_and, Nat.testBit_xor, Nat.testBit_div_two_pow]
    by_cases h1 : b &&& h = 0
    · rw [show sw h (i, b) = (i, b) by simp [sw, h0, h1]]
      by_cases h2 : h ≤ b
      · rw [good.low H (show b - h < 64 by omega), decide_eq_false (good.back H hb h1 h2)]
        simp
      · simp [h2]
    · have h2 := good.down H hb h1
      rw [show sw h (i, b) = (i + h, b - h) by simp [sw, h0, h1], good.low H (show b - h < 64 by omega), decide_eq_true h2.2, decide_eq_true (show b ≥ h from h2.1), show b - h + h = b by omega]
      simp
  · rw [lv, if_neg h0, Nat.testBit_xor, unl, Nat.testBit_and, Nat.testBit_xor, Nat.testBit_div_two_pow, good.low H hb]
    by_cases h1 : b &&& h = 0
    · rw [show sw h (i, b) = (i - h, b + h) by simp [sw, h0, h1], decide_eq_true h1]
      simp
      cases (f i).testBit b <;> simp
    · rw [show sw h (i, b) = (i, b) by simp [sw, h0, h1], decide_eq_false h1]
      simp

theorem sw_lt {h low : Nat} (H : good h low = true) {i b : Nat} (hi : i < 64) (hb : b < 64) : (sw h (i, b)).1 < 64 ∧ (sw h (i, b)).2 < 64 := by
  unfold sw
  by_cases h0 : i &&& h = 0
  · by_cases h1 : b &&& h = 0
    · simp [h0, h1]; omega
    · have := good.up H hi h0
      simp [h0, h1]; omega
  · by_cases h1 : b &&& h = 0
    · have := good.up H hb h1
      simp [h0, h1]; omega
    · simp [h0, h1]; omega

theorem lv_lt {h low : Nat} (H : good h low = true) {f : Nat → Nat} (hf : ∀ i, i < 64 → f i < 18446744073709551616) {i : Nat} (hi : i < 64) : lv h low f i < 18446744073709551616 := by
  have hl := (good.pos H).2.2
  have hu : ∀ x y, unl h low x y < 2 ^ 64 := fun x y => Nat.lt_of_le_of_lt Nat.and_le_right hl
  unfold lv
  split
  · exact Nat.xor_lt_two_pow (n := 64) (hf i hi) (Nat.mod_lt _ (by omega))
  · exact Nat.xor_lt_two_pow (n := 64) (hf i hi) (hu _ _)

theorem lvTo_zero (h low : Nat) (f : Nat → Nat) (i : Nat) : lvTo h low f 0 i = f i := by simp [lvTo]
theorem lvTo_all {h low : Nat} {f : Nat → Nat} {i : Nat} (hi : i < 64) : lvTo h low f 64 i = lv h low f i := by
  rw [lvTo, if_pos (by split <;> omega)]
theorem lvTo_lt {h low : Nat} (H : good h low = true) {f : Nat → Nat} (hf : ∀ i, i < 64 → f i < 18446744073709551616) {i : Nat} (hi : i < 64) (J : Nat) : lvTo h low f J i < 18446744073709551616 := by
  by_cases h1 : (if i &&& h = 0 then i else i - h) < J
  · rw [lvTo, if_pos h1]; exact lv_lt H hf hi
  · rw [lvTo, if_neg h1]; exact hf i hi
theorem lvTo_pass {h low : Nat} (H : good h low = true) (f : Nat → Nat) {J i : Nat} (hJ : ¬ J &&& h = 0) (hi : i < 64) : lvTo h low f (J + 1) i = lvTo h low f J i := by
  have hne : (if i &&& h = 0 then i else i - h) ≠ J := by
    split
    · rename_i h0; intro e; rw [e] at h0; exact hJ h0
    · rename_i h0; intro e; exact hJ (by rw [← e]; exact (good.down H hi h0).2)
  unfold lvTo
  generalize (if i &&& h = 0 then i else i - h) = k at *
  by_cases h1 : k < J
  · rw [if_pos h1, if_pos (by omega)]
  · rw [if_neg h1, if_neg (by omega)]

/- the square as a list -/
def sq (f : Nat → Nat) : List Nat := (List.range 64).map f
theorem sq_length (f : Nat → Nat) : (sq f).length = 64 := by simp [sq]
theorem sq_get {f : Nat → Nat} {i : Nat} (h : i < 64) : (sq f)[i]? = some (f i) := by simp [sq, h]
theorem sq_congr {f g : Nat → Nat} (h : ∀ i, i < 64 → f i = g i) : sq f = sq g := List.map_congr_left fun i hi => h i (List.mem_range.1 hi)
theorem sq_set {f : Nat → Nat} {i : Nat} (x : Nat) : (sq f).set i x = sq (fun j => if j = i then x else f j) := by
  refine List.ext_getElem? fun j => ?_
  by_cases hj : j < 64
  · rw [sq_get hj, List.getElem?_set, sq_length]
    by_cases h : i = j
    · subst h; simp [hj]
    · rw [if_neg h, if_neg (fun e => h e.symm), sq_get hj]
  · rw [List.getElem?_eq_none (by rw [List.length_set, sq_length]; omega), List.getElem?_eq_none (by rw [sq_length]; omega)]

theorem cross_step {h low : Nat} (H : good h low = true) (f : Nat → Nat) {J : Nat} (hJ : J &&& h = 0) (hJ64 : J < 64) :
    lvTo h low f J J = f J ∧ lvTo h low f J (J + h) = f (J + h) ∧
    sq (lvTo h low f (J + 1)) = ((sq (lvTo h low f J)).set J (f J ^^^ (unl h low (f J) (f (J + h)) * 2 ^ h % 18446744073709551616))).set (J + h) (f (J + h) ^^^ unl h low (f J) (f (J + h))) := by
  obtain ⟨u1, u2⟩ := good.up H hJ64 hJ
  have hp := (good.pos H).1
  refine ⟨by simp [lvTo, hJ], by simp [lvTo, u1], ?_⟩
  rw [sq_set, sq_set]
  refine sq_congr fun i hi => ?_
  by_cases e1 : i = J + h
  · rw [if_pos e1, e1, lvTo, if_neg u1, if_pos (by omega), lv, if_neg u1, Nat.add_sub_cancel]
  · rw [if_neg e1]
    by_cases e2 : i = J
    · rw [if_pos e2, e2, lvTo, if_pos hJ, if_pos (by omega), lv, if_pos hJ]
    · rw [if_neg e2]
      have hne : (if i &&& h = 0 then i else i - h) ≠ J := by
        split
        · exact e2
        · rename_i h0; have := good.down H hi h0; omega
      unfold lvTo
      generalize (if i &&& h = 0 then i else i - h) = k at *
      by_cases h1 : k < J
      · rw [if_pos h1, if_pos (by omega)]
      · rw [if_neg h1, if_neg (by omega)]

/- the steps, one behind the other -/
def hv : Nat → Nat
  | 0 => 32 | 1 => 16 | 2 => 8 | 3 => 4 | 4 => 2 | 5 => 1 | _ => 0
def lw : Nat → Nat
  | 0 => 18446744073709551615 | 1 => 4294967295 | 2 => 281470681808895 | 3 => 71777214294589695 | 4 => 1085102592571150095 | 5 => 3689348814741910323 | _ => 6148914691236517205
theorem good_at : ∀ r, r < 6 → good (hv r) (lw (r + 1)) = true := by decide +kernel
theorem lw_next : ∀ r, r < 6 → lw r ^^^ (lw r * 2 ^ hv r % 18446744073709551616) = lw (r + 1) := by decide +kernel
theorem hv_next : ∀ r, r < 6 → hv r / 2 = hv (r + 1) := by decide +kernel
theorem lw_lt : ∀ r, r < 7 → lw r < 18446744073709551616 := by decide +kernel
def stg (f : Nat → Nat) : Nat → Nat → Nat
  | 0 => f
  | r + 1 => lv (hv r) (lw (r + 1)) (stg f r)
theorem stg_lt {f : Nat → Nat} (hf : ∀ i, i < 64 → f i < 18446744073709551616) : ∀ (r : Nat), r ≤ 6 → ∀ i, i < 64 → stg f r i < 18446744073709551616
  | 0, _, i, hi => hf i hi
  | r + 1, hr, i, hi => lv_lt (good_at r (by omega)) (stg_lt hf r (by omega)) hi
def sws : Nat → Nat × Nat → Nat × Nat
  | 0, p => p
  | r + 1, p => sws r (sw (hv r) p)
theorem stg_bit {f : Nat → Nat} : ∀ (r : Nat), r ≤ 6 → ∀ i b, i < 64 → b < 64 → (stg f r i).testBit b = (f (sws r (i, b)).1).testBit (sws r (i, b)).2
  | 0, _, _, _, _, _ => rfl
  | r + 1, hr, i, b, hi, hb => by
    have hg := good_at r (by omega)
    have hs := sw_lt hg hi hb
    rw [stg, lv_bit hg _ hi hb, sws, stg_bit r (by omega) _ _ hs.1 hs.2]
theorem sws_all : ∀ i, i < 64 → ∀ b, b < 64 → sws 6 (i, b) = (b, i) := by decide +kernel
def turned (f : Nat → Nat) : Nat → Nat := stg f 6
theorem turned_bit {f : Nat → Nat} {i b : Nat} (hi : i < 64) (hb : b < 64) : (turned f i).testBit b = (f b).testBit i := by
  rw [turned, stg_bit 6 (Nat.le_refl _) i b hi hb, sws_all i hi b hb]
theorem turned_lt {f : Nat → Nat} (hf : ∀ i, i < 64 → f i < 18446744073709551616) {i : Nat} (hi : i < 64) : turned f i < 18446744073709551616 := stg_lt hf 6 (Nat.le_refl _) i hi
end Go.Proofs.YtlkkninnfiaedaaDoor.T

namespace Go.Proofs.YtlkkninnfiaedaaDoor.T
open Go.RowKit
set_option maxRecDepth 100000

theorem hide1 {p : Prop} (h : p) : Hid p := h
theorem not_any (x : Bool) (w : World) : (Op.unary .not (.bool x)).run Tryd.prog w = .ok (.bool (!x)) w := rfl
theorem mf_any (fn : Fn) (first cap : Array Value) (w : World) : (Instr.makeFunc fn first cap).run Tryd.prog w = .ok (.func fn first cap) w := rfl
attribute [local go_sem] not_any mf_any

theorem wrap_pow {j : Nat} (h : j < 64) : IntKind.u64.wrap (2 ^ j) = ((2 ^ j : Nat) : Int) := by
  rw [IntKind.wrap_u64]
  have : 2 ^ j < 2 ^ 64 := Nat.pow_lt_pow_right (by omega) h
  have e : ((2 : Int) ^ j) = ((2 ^ j : Nat) : Int) := by simp
  rw [e]
  obtain ⟨p, hp⟩ : ∃ p, p = 2 ^ j := ⟨_, rfl⟩
  rw [← hp] at this ⊢
  omega

theorem single_any (i : Nat) (w : World) (hi : i ≤ 4194304) :
    Calls Tryd.prog 39 #[.int .i64 i] w fun e w' => e = .returned (.int .u64 ((2 ^ (i % 64) : Nat) : Int)) ∧ w' = w := by
  go_enter Tryd.func39, Tryd.ntmps39
  go_wp2
  go_ret
  refine ⟨?_, rfl⟩
  show Ending.returned (.int .u64 (IntKind.u64.wrap (2 ^ (i % 64)))) = _
  rw [wrap_pow (Nat.mod_lt _ (by omega))]

theorem allowed_any (n : Int) (w : World) :
    Calls Tryd.prog 57 #[.int .i64 n] w fun e w' => e = .returned (.bool (decide (0 ≤ n) && decide (n ≤ 4194304))) ∧ w' = w := by
  go_enter Tryd.func57, Tryd.ntmps57
  go_wp2
  all_goals go_ret
  · exact ⟨by simp [*], rfl⟩
  · refine ⟨?_, rfl⟩
    have : ¬ 0 ≤ n := by omega
    simp [this]

theorem needed_any (n s : Nat) (w : World) (hn : n ≤ 4194304) (hs : s = 8 ∨ s = 64) :
    Calls Tryd.prog 83 #[.int .i64 n, .int .i64 s] w fun e w' => e = .returned (.int .i64 (need n s)) ∧ w' = w := by
  rcases hs with rfl | rfl
  · go_enter Tryd.func83, Tryd.ntmps83
    go_wp2
    go_ret
    refine ⟨?_, rfl⟩
    show Ending.returned (.int .i64 (((n : Int) + 8 - 1) / 8)) = _
    rw [need8, show ((n : Int) + 8 - 1) / 8 = (((n + 7) / 8 : Nat) : Int) by omega]
  · go_enter Tryd.func83, Tryd.ntmps83
    go_wp2
    go_ret
    refine ⟨?_, rfl⟩
    show Ending.returned (.int .i64 (((n : Int) + 64 - 1) / 64)) = _
    rw [need64, show ((n : Int) + 64 - 1) / 64 = (((n + 63) / 64 : Nat) : Int) by omega]

theorem bytePlace_any (i : Nat) (w : World) (hi : i ≤ 4194304) :
    Calls Tryd.prog 106 #[.int .i64 i] w fun e w' => e = .returned (.tuple #[.int .i64 ((i / 8 : Nat) : Int), .int .i64 ((8 * (i % 8) : Nat) : Int)]) ∧ w' = w := by
  go_enter Tryd.func106, Tryd.ntmps106
  go_wp2
  go_ret2
  refine ⟨?_, rfl⟩
  show Ending.returned (.tuple #[.int .i64 ((i : Int) * 8 / 64), .int .i64 ((i : Int) * 8 % 64)]) = _
  rw [show (i : Int) * 8 / 64 = ((i / 8 : Nat) : Int) by omega, show (i : Int) * 8 % 64 = ((8 * (i % 8) : Nat) : Int) by omega]

/- words in memory -/
def u64s (ws : List Nat) : List Value := ws.map (fun n : Nat => Value.int .u64 (n : Int))
def bools (l : List Bool) : List Value := l.map Value.bool
def wrow (ws : List Nat) : Obj := .cells (u64s ws).toArray 22 (0, 0)

/- bits: how many, and their words, in a block from b on -/
structure Vc (b : Nat) (w : World) (n : Nat) (a : Option Addr) (l : List Bool) : Prop where
  len : l.length = n
  at' : (n = 0 ∧ a = none) ∨ ∃ g, a = some ⟨g, 0, none⟩ ∧ b ≤ g ∧ w.heap[g]? = some (wrow (chunks 64 l))

theorem lt_heap {w : World} {k : Nat} {o : Obj} (h : w.heap[k]? = some o) : k < w.heap.size := (Array.getElem?_eq_some_iff.1 h).1

theorem row_cell {w : World} {g j x : Nat} {ws : List Nat} (h : w.heap[g]? = some (wrow ws)) (hj : ws[j]? = some x) : w.cell? ⟨g, j, none⟩ = some (.int .u64 (x : Int)) := by
  rw [cell_of_row w g j _ 22 (0, 0) h]
  simp [u64s, hj]

theorem Vc.mono {b b' : Nat} {w : World} {n : Nat} {a : Option Addr} {l : List Bool} (h : Vc b w n a l) (hb : b' ≤ b) : Vc b' w n a l := by
  obtain ⟨hl, h | ⟨g, h1, h2, h3⟩⟩ := h
  · exact ⟨hl, .inl h⟩
  · exact ⟨hl, .inr ⟨g, h1, by omega, h3⟩⟩

theorem Vc.below {b B : Nat} {w w' : World} {n : Nat} {a : Option Addr} {l : List Bool} (h : Vc b w n a l) (hB : Below B w w') (hs : w.heap.size ≤ B) : Vc b w' n a l := by
  obtain ⟨hl, h | ⟨g, h1, h2, h3⟩⟩ := h
  · exact ⟨hl, .inl h⟩
  · exact ⟨hl, .inr ⟨g, h1, h2, (hB.block g (by have := lt_heap h3; omega)).trans h3⟩⟩

theorem Vc.setCell {b : Nat} {w : World} {n : Nat} {a : Option Addr} {l : List Bool} (h : Vc b w n a l) {p : Addr} (hp : p.block < b) (u : Value) : Vc b (w.setCell p u) n a l := by
  obtain ⟨hl, h | ⟨g, h1, h2, h3⟩⟩ := h
  · exact ⟨hl, .inl h⟩
  · exact ⟨hl, .inr ⟨g, h1, h2, (Below.heap_setCell _ _ _ _ (by omega)).trans h3⟩⟩

theorem Vc.alloc {b : Nat} {w : World} {n : Nat} {a : Option Addr} {l : List Bool} (h : Vc b w n a l) (o : Obj) : Vc b (w.alloc o) n a l :=
  h.below (B := w.heap.size) ((Below.refl _ _).alloc (Nat.le_refl _) _) (Nat.le_refl _)

theorem below_after {w w1 : World} {o : Obj} (hb : Below (w.alloc o).heap.size (w.alloc o) w1) : Below w.heap.size w w1 :=
  ((Below.refl _ _).alloc (Nat.le_refl _) _).trans (hb.mono (by simp))

theorem after_alloc {w w1 : World} {o : Obj} (hb : Below (w.alloc o).heap.size (w.alloc o) w1) : w1.heap[w.heap.size]? = some o :=
  (hb.block w.heap.size (by simp)).trans (heap_alloc_new _ _)

theorem Vc.cell {b : Nat} {w : World} {n : Nat} {a : Option Addr} {l : List Bool} (h : Vc b w n a l) {j : Nat} (hj : j < need n 64) : ∃ g, a = some ⟨g, 0, none⟩ ∧ b ≤ g ∧ w.heap[g]? = some (wrow (chunks 64 l)) ∧ w.cell? ⟨g, j, none⟩ = some (.int .u64 (chunk 64 l j : Nat)) := by
  obtain ⟨hl, h | ⟨g, h1, h2, h3⟩⟩ := h
  · obtain ⟨rfl, _⟩ := h
    simp [need64] at hj
  · exact ⟨g, h1, h2, h3, row_cell h3 (chunks_get (by rw [hl]; exact hj))⟩

theorem box2 {w : World} {g : Nat} {x y : Value} {t : TypeId} (h : w.heap[g]? = some (.cells #[x, y] t (0, 0))) :
    w.cell? ⟨g, 0, none⟩ = some x ∧ w.cell? ⟨g, 1, none⟩ = some y ∧ w.frozen? ⟨g, 0, none⟩ = false ∧ w.frozen? ⟨g, 1, none⟩ = false ∧ g < w.heap.size :=
  ⟨by rw [cell_of_row w g 0 _ _ _ h]; rfl, by rw [cell_of_row w g 1 _ _ _ h]; rfl, frozen_of_row w g 0 _ _ h, frozen_of_row w g 1 _ _ h, lt_heap h⟩

theorem set_box2 {w : World} {g : Nat} {x y x' y' : Value} {t : TypeId} (h : w.heap[g]? = some (.cells #[x, y] t (0, 0))) : ((w.setCell ⟨g, 0, none⟩ x').setCell ⟨g, 1, none⟩ y').heap[g]? = some (.cells #[x', y'] t (0, 0)) := by
  rw [heap_setCell_same _ g 1 _ t y' (heap_setCell_same w g 0 _ t x' h)]
  rfl

theorem make_words (m : Nat) (hm : m ≤ 4194304) (w : World) : (Instr.makeSlice 39 (.int .i64 (m : Int)) (.int .i64 (m : Int))).run Tryd.prog w = .ok (.slice (some ⟨w.heap.size, 0, none⟩) m m) (w.alloc (wrow (List.replicate m 0))) := by
  have hi : (Tryd.prog.info? 22).map (fun i => (i.zero, i.size, i.bytes)) = some (some (.int .u64 0), 1, 8) := by kernel_rfl
  obtain ⟨i0, hi, hz0, hz1, hz2⟩ := info_parts hi
  have h := run_make (P := Tryd.prog) w 39 22 i0 _ Tryd.underlying39 hi hz0 .i64 .i64 (m : Int) (m : Int) (by omega) (by omega) (by rw [hz2]; omega) (by omega)
  rw [h, hz1]
  have e : madeCells (Value.int IntKind.u64 0).cells ((m : Int).toNat * 1) = (u64s (List.replicate m 0)).toArray := by
    apply Array.ext
    · simp [madeCells, u64s]
    · intro j h1 h2
      simp [madeCells, u64s, Value.cells, Nat.mod_one]
  rw [e]
  rfl

theorem ret_vec {fn : Func} {p : Tmp} (h : fn.results = #[.cell p 41]) {R : Ending → World → Prop} {a : Act} {w : World} (g : Nat) (x y : Value) (hp : a.tmps.getD p undef = .pointer (some ⟨g, 0, none⟩))
    (hg : w.heap[g]? = some (.cells #[x, y] 41 (0, 0))) (hd : a.defers = []) (hR : R (.returned (.agg #[x, y])) w) : bodyPost Tryd.prog fn R .ret a w :=
  bodyPost_ret_by (results_cell_row (P := Tryd.prog) h _ w g 41 #[x, y] (0, 0) _ hp hg Tryd.underlying41 rfl (by kernel_rfl)) hd hR

theorem ret_vec2 {fn : Func} {p u : Tmp} (h : fn.results = #[.cell p 41, .tmp u]) {R : Ending → World → Prop} {a : Act} {w : World} (g : Nat) (x y z : Value) (hp : a.tmps.getD p undef = .pointer (some ⟨g, 0, none⟩))
    (hu : a.tmps.getD u undef = z) (hg : w.heap[g]? = some (.cells #[x, y] 41 (0, 0))) (hd : a.defers = []) (hR : R (.returned (.tuple #[.agg #[x, y], z])) w) : bodyPost Tryd.prog fn R .ret a w := by
  refine bodyPost_ret_by (v := .tuple #[.agg #[x, y], z]) ?_ hd hR
  have hl := run_loadVar_row (P := Tryd.prog) w g 41 41 #[x, y] (0, 0) _ hg Tryd.underlying41 rfl (by kernel_rfl)
  rw [results_cell_tmp h, hp, hu]
  simp [asAddr, hl, Result.andThen]

theorem falses_at {w : World} {n g b : Nat} (hb : b ≤ g) (hg : w.heap[g]? = some (wrow (List.replicate (need n 64) 0))) :
    Vc b w n (some ⟨g, 0, none⟩) (List.replicate n false) := by
  refine ⟨by simp, .inr ⟨g, rfl, hb, ?_⟩⟩
  rw [chunks_falses]
  exact hg

theorem nil_at (b : Nat) (w : World) : Vc b w 0 none [] := ⟨rfl, .inl ⟨rfl, rfl⟩⟩

theorem blank_any (n : Nat) (w : World) (hn : n ≤ 4194304) :
    Calls Tryd.prog 58 #[.int .i64 n] w fun e w' => ∃ a, e = .returned (.agg #[.int .i64 n, .slice a (need n 64) (need n 64)]) ∧ Vc w.heap.size w' n a (List.replicate n false) ∧ Below w.heap.size w w' := by
  have hN := fun w => hide1 (needed_any n 64 w hn (.inr rfl))
  have hmk := make_words (need n 64) (by rw [need64]; omega)
  go_enter Tryd.func58, Tryd.ntmps58
  go_wp2_with (go_at_call 83; refine (hN _).out.mono ?_; rintro e w' ⟨rfl, rfl⟩)
  · rename_i h0
    have hn0 : n = 0 := by simpa using h0
    subst hn0
    refine ret_vec Tryd.results58 w.heap.size _ _ rfl (heap_alloc_new _ _) rfl ⟨_, rfl, nil_at _ _, (Below.refl _ _).alloc (Nat.le_refl _) _⟩
  · rename_i h0
    refine ret_vec Tryd.results58 w.heap.size _ _ rfl (heap_alloc2_old _ _ _) rfl ⟨_, rfl, falses_at (by omega) (heap_alloc2_new _ _ _), ((Below.refl _ _).alloc (Nat.le_refl _) _).alloc (by simp) _⟩

theorem new_any (n : Nat) (w : World) (hn : n ≤ 4194304) :
    Calls Tryd.prog 40 #[.int .i64 n] w fun e w' => ∃ a, e = .returned (.tuple #[.agg #[.int .i64 n, .slice a (need n 64) (need n 64)], .int .i64 0]) ∧ Vc w.heap.size w' n a (List.replicate n false) ∧ Below w.heap.size w w' := by
  have hA := fun w => hide1 (allowed_any n w)
  have hB := fun w => hide1 (blank_any n w hn)
  have e : (decide ((0 : Int) ≤ n) && decide ((n : Int) ≤ 4194304)) = true := by simp; omega
  rw [e] at hA
  clear e
  go_enter Tryd.func40, Tryd.ntmps40
  go_wp2_with (first | (go_at_call 57; refine (hA _).out.mono ?_; rintro e w' ⟨rfl, rfl⟩) | (go_at_call 58; refine (hB _).out.mono ?_; rintro e w1 ⟨a, rfl, hv, hb⟩; have hbx := after_alloc hb; obtain ⟨c0, c1, f0, f1, l0⟩ := box2 hbx))
  refine ret_vec2 Tryd.results40 w.heap.size _ _ _ rfl rfl (set_box2 hbx) rfl ⟨_, rfl, ?_, ?_⟩
  · exact ((hv.setCell (by simp) _).setCell (by simp) _).mono (by simp)
  · exact ((below_after hb).setCell (Nat.le_refl _) _).setCell (Nat.le_refl _) _

theorem new_no (n : Int) (w : World) (hn : n < 0 ∨ 4194304 < n) :
    Calls Tryd.prog 40 #[.int .i64 n] w fun e w' => e = .returned (.tuple #[.agg #[.int .i64 0, .slice none 0 0], .int .i64 2]) ∧ Below w.heap.size w w' := by
  have hA := fun w => hide1 (allowed_any n w)
  have e : (decide ((0 : Int) ≤ n) && decide ((n : Int) ≤ 4194304)) = false := by simp; omega
  rw [e] at hA
  go_enter Tryd.func40, Tryd.ntmps40
  go_wp2_with (first | (go_at_call 57; refine (hA _).out.mono ?_; rintro e w' ⟨rfl, rfl⟩))
  refine ret_vec2 Tryd.results40 w.heap.size _ _ _ rfl rfl (heap_alloc_new _ _) rfl ⟨rfl, (Below.refl _ _).alloc (Nat.le_refl _) _⟩

end Go.Proofs.YtlkkninnfiaedaaDoor.T

namespace Go.Proofs.YtlkkninnfiaedaaDoor.T
open Go.RowKit
set_option maxRecDepth 100000
attribute [local go_sem] not_any mf_any

theorem len_any (n : Int) (s : Value) (w : World) (_hs : s.oneCell' = true) :
    Calls Tryd.prog 17 #[.agg #[.int .i64 n, s]] w fun e w' => e = .returned (.int .i64 n) ∧ w' = w.alloc (.cells #[.int .i64 n, s] 41) := by
  go_enter Tryd.func17, Tryd.ntmps17
  go_wp2
  go_ret
  exact ⟨rfl, rfl⟩

theorem has_any (n i : Int) (s : Value) (w : World) :
    Calls Tryd.prog 38 #[.agg #[.int .i64 n, s], .int .i64 i] w fun e w' => e = .returned (.bool (decide (0 ≤ i) && decide (i < n))) ∧ w' = w.alloc (.cells #[.int .i64 n, s] 41) := by
  go_enter Tryd.func38, Tryd.ntmps38
  by_cases h : 0 ≤ i
  · go_wp2
    go_ret
    exact ⟨by simp [h], rfl⟩
  · have h' : i < 0 := by omega
    go_wp2
    go_ret
    exact ⟨by simp; omega, rfl⟩

def getI (l : List Bool) (i : Int) : Bool := decide (0 ≤ i) && l.getD i.toNat false

theorem getI_nat (l : List Bool) (i : Nat) : getI l (i : Int) = l.getD i false := by simp [getI]

theorem getI_out {l : List Bool} {i : Int} (h : i < 0 ∨ (l.length : Int) ≤ i) : getI l i = false := by
  unfold getI
  rcases h with h | h
  · have : ¬ 0 ≤ i := by omega
    simp [this]
  · by_cases h0 : 0 ≤ i
    · rw [List.getD_eq_getElem?_getD, List.getElem?_eq_none (by omega)]
      simp
    · simp [h0]

theorem mixed : Tryd.prog.follows .mixedOrders = true := by kernel_rfl

theorem heap_gr {w : World} {g : Nat} {o : Obj} (h : w.heap[g]? = some o) (n : Nat) (os : Array Obj) : (Sort.grow (w.drewN n) os).heap[g]? = some o :=
  (Sort.heap_grow_old (w.drewN n) os (lt_heap h)).trans h

theorem load_box {w : World} {g : Nat} {x y : Value} (h : w.heap[g]? = some (.cells #[x, y] 41 (0, 0))) (n : Nat) (os : Array Obj) :
    (loadVar 41 ⟨g, 0, none⟩).run Tryd.prog (Sort.grow (w.drewN n) os) = .ok (.agg #[x, y]) (Sort.grow (w.drewN n) os) :=
  run_loadVar_row (P := Tryd.prog) _ g 41 41 #[x, y] (0, 0) _ (heap_gr h n os) Tryd.underlying41 rfl (by kernel_rfl)

theorem gr_refl (w : World) : ∃ q os, w = Sort.grow (w.drewN q) os := ⟨0, #[], by rw [Sort.grow_empty]; rfl⟩
theorem gr_alloc (w : World) (o : Obj) : ∃ q os, w.alloc o = Sort.grow (w.drewN q) os := ⟨0, #[o], Sort.alloc_eq_grow w o⟩
theorem gr_trans {a b c : World} (h : ∃ q os, b = Sort.grow (a.drewN q) os) (h' : ∃ q os, c = Sort.grow (b.drewN q) os) : ∃ q os, c = Sort.grow (a.drewN q) os := by
  obtain ⟨q, os, rfl⟩ := h
  obtain ⟨q', os', rfl⟩ := h'
  refine ⟨q + q', os ++ os', ?_⟩
  show Sort.grow (Sort.grow ((a.drewN q).drewN q') os) os' = _
  rw [Sort.grow_grow, World.drewN_drewN]
theorem gr_below {w w' : World} (h : ∃ q os, w' = Sort.grow (w.drewN q) os) : Below w.heap.size w w' := by
  obtain ⟨q, os, rfl⟩ := h
  exact ⟨rfl, rfl, rfl, by simp [Sort.grow], fun k hk => Sort.heap_grow_old (w.drewN q) os hk⟩

theorem has_gr (n i : Int) (s : Value) (w : World) (t : Bool) (ht : (decide (0 ≤ i) && decide (i < n)) = t) :
    Calls Tryd.prog 38 #[.agg #[.int .i64 n, s], .int .i64 i] w fun e w' => e = .returned (.bool t) ∧ ∃ q os, w' = Sort.grow (w.drewN q) os := by
  refine (has_any n i s w).mono ?_
  rintro e w' ⟨rfl, rfl⟩
  exact ⟨by rw [ht], gr_alloc _ _⟩

theorem single_gr (i : Nat) (w : World) (hi : i ≤ 4194304) :
    Calls Tryd.prog 39 #[.int .i64 i] w fun e w' => e = .returned (.int .u64 ((2 ^ (i % 64) : Nat) : Int)) ∧ ∃ q os, w' = Sort.grow (w.drewN q) os := by
  refine (single_any i w hi).mono ?_
  rintro e w' ⟨rfl, rfl⟩
  exact ⟨rfl, gr_refl _⟩

theorem pow_lt {j : Nat} (h : j < 64) : 2 ^ j < 18446744073709551616 := Nat.pow_lt_pow_right (by omega) h
theorem pow_cast (j : Nat) : (2 : Int) ^ j = ((2 ^ j : Nat) : Int) := by simp

theorem and_pow {x j : Nat} (hx : x < 18446744073709551616) (hj : j < 64) : (bits .and .u64 (x : Int) (2 ^ j) != 0) = x.testBit j := by
  have e : x &&& 2 ^ j = if x.testBit j then 2 ^ j else 0 := by
    apply Nat.eq_of_testBit_eq
    intro i
    rw [Nat.testBit_and, Nat.testBit_two_pow]
    by_cases h : j = i
    · subst h
      cases hb : x.testBit j <;> simp
    · split
      · simp [h]
      · simp [h]
  rw [pow_cast, u64_and_nat _ _ hx (pow_lt hj), e]
  have := Nat.two_pow_pos j
  cases x.testBit j
  · simp
  · simp only [if_true]
    rw [bne_iff_ne]
    omega

set_option maxHeartbeats 1000000 in
theorem get_any (b : Nat) (w : World) (n : Nat) (a : Option Addr) (l : List Bool) (i : Int) (hv : Vc b w n a l) (hn : n ≤ 4194304) :
    Calls Tryd.prog 21 #[.agg #[.int .i64 n, .slice a (need n 64) (need n 64)], .int .i64 i] w fun e w' => e = .returned (.bool (getI l i)) ∧ ∃ q os, w' = Sort.grow (w.drewN q) os := by
  have mixed := mixed
  by_cases h : 0 ≤ i ∧ i < n
  · obtain ⟨k, rfl⟩ : ∃ k : Nat, i = k := ⟨i.toNat, by omega⟩
    have hk : k < n := by omega
    have hS := fun w => hide1 (single_gr k w (by omega))
    have hkd : k / 64 < need n 64 := by rw [need64]; omega
    obtain ⟨g, rfl, hb, hg, hc⟩ := hv.cell hkd
    have hH := fun w => hide1 (has_gr n k (.slice (some ⟨g, 0, none⟩) (need n 64) (need n 64)) w true (by simp; omega))
    have hk0 : (0 : Int) ≤ (k : Int) / 64 := by omega
    have hk1 : (k : Int) / 64 < (need n 64 : Int) := by omega
    have hk2 : ((k : Int) / 64).toNat = k / 64 := by omega
    have hkw : IntKind.i64.wrap ((k : Int) / 64) = (k : Int) / 64 := by rw [IntKind.wrap_i64]; omega
    obtain ⟨W, hW⟩ : ∃ W, w.alloc (.cells #[.int .i64 n, .slice (some ⟨g, 0, none⟩) (need n 64) (need n 64)] 41) = W := ⟨_, rfl⟩
    have hbx : W.heap[w.heap.size]? = some (.cells #[.int .i64 n, .slice (some ⟨g, 0, none⟩) (need n 64) (need n 64)] 41 (0, 0)) := by rw [← hW]; exact heap_alloc_new _ _
    have c0 := cell_grown (lt_heap hbx) (box2 hbx).1
    have c1 := cell_grown (lt_heap hbx) (box2 hbx).2.1
    have hgW : W.heap[g]? = some (wrow (chunks 64 l)) := by rw [← hW]; exact (Below.heap_alloc _ _ _ (lt_heap hg)).trans hg
    have c2 := cell_grown (lt_heap hgW) (row_cell hgW (chunks_get (by rw [hv.len]; exact hkd)))
    have HW := hide1 hW
    clear hW hgW hbx hc
    go_enter Tryd.func21, Tryd.ntmps21
    go_wp2
    rw [HW.out]
    go_quiet_grown (first | (go_at_call 38; exact Calls.grown_of (hH _).out) | (go_at_call 39; exact Calls.grown_of (hS _).out))
    go_wp2
    go_ret
    refine ⟨?_, gr_trans ⟨0, _, by rw [← HW.out]; exact Sort.alloc_eq_grow _ _⟩ ⟨nq, osq, rfl⟩⟩
    rw [getI_nat]
    show Ending.returned (.bool (bits .and .u64 ((chunk 64 l (k / 64) : Nat) : Int) (2 ^ (k % 64)) != 0)) = _
    rw [and_pow (chunk64_lt _ _) (Nat.mod_lt _ (by omega)), chunk_testBit, Nat.div_add_mod]
    simp [Nat.mod_lt]
  · have hH := fun w => hide1 (has_gr n i (.slice a (need n 64) (need n 64)) w false (by simp; omega))
    rw [getI_out (by rw [hv.len]; omega)]
    obtain ⟨W, hW⟩ : ∃ W, w.alloc (.cells #[.int .i64 n, .slice a (need n 64) (need n 64)] 41) = W := ⟨_, rfl⟩
    have hbx : W.heap[w.heap.size]? = some (.cells #[.int .i64 n, .slice a (need n 64) (need n 64)] 41 (0, 0)) := by rw [← hW]; exact heap_alloc_new _ _
    have c0 := cell_grown (lt_heap hbx) (box2 hbx).1
    have c1 := cell_grown (lt_heap hbx) (box2 hbx).2.1
    have HW := hide1 hW
    clear hW hbx h
    go_enter Tryd.func21, Tryd.ntmps21
    go_wp2
    rw [HW.out]
    refine wp_region_quiet_grown (by assumption) (by kernel_rfl) ?_
    iterate 2 quiet_step (fail)
    quiet_step ((go_at_call 38; exact Calls.grown_of (hH _).out))
    quiet_step (fail)
    iterate 10 go_big_quiet_skip
    iterate 2 quiet_step (fail)
    refine wpQuiet_nil ?_
    intro w1 hw1
    obtain ⟨⟨nq, osq⟩, rfl⟩ := hw1
    go_wp2
    go_ret
    exact ⟨rfl, gr_trans ⟨0, _, by rw [← HW.out]; exact Sort.alloc_eq_grow _ _⟩ ⟨nq, osq, rfl⟩⟩

end Go.Proofs.YtlkkninnfiaedaaDoor.T

namespace Go.Proofs.YtlkkninnfiaedaaDoor.T
open Go.RowKit
set_option maxRecDepth 100000
attribute [local go_sem] not_any mf_any

/- truths in memory -/
structure Bl (w : World) (n : Nat) (a : Option Addr) (l : List Bool) : Prop where
  len : l.length = n
  at' : ∀ (j : Nat) (x : Bool), l[j]? = some x → ∃ g o, a = some ⟨g, o, none⟩ ∧ w.cell? ⟨g, o + j, none⟩ = some (.bool x)

theorem lt_cell {w : World} {b o : Nat} {v : Value} (h : w.cell? ⟨b, o, none⟩ = some v) : b < w.heap.size := block_lt_of_cell h

theorem Bl.below {B : Nat} {w w' : World} {n : Nat} {a : Option Addr} {l : List Bool} (h : Bl w n a l) (hB : Below B w w') (hs : w.heap.size ≤ B) : Bl w' n a l :=
  ⟨h.len, fun j x hj => by
    obtain ⟨g, o, h1, h2⟩ := h.at' j x hj
    exact ⟨g, o, h1, (hB.cell (p := ⟨g, o + j, none⟩) (by have := lt_cell h2; simp; omega)).trans h2⟩⟩

theorem wrow_set (ws : List Nat) (j x : Nat) : Obj.cells ((u64s ws).toArray.setIfInBounds j (.int .u64 (x : Int))) 22 (0, 0) = wrow (ws.set j x) := by
  unfold wrow u64s
  congr 1
  simp

theorem wset {w : World} {g j x : Nat} {ws : List Nat} (h : w.heap[g]? = some (wrow ws)) : (w.setCell ⟨g, j, none⟩ (.int .u64 (x : Int))).heap[g]? = some (wrow (ws.set j x)) := by
  rw [heap_setCell_same w g j _ 22 _ h, wrow_set]

theorem bool_ext {l l' : List Bool} (h : l.length = l'.length) (h' : ∀ j, j < l.length → l.getD j false = l'.getD j false) : l = l' := by
  apply List.ext_getElem h
  intro j h1 h2
  have := h' j h1
  rw [List.getD_eq_getElem?_getD, List.getD_eq_getElem?_getD, List.getElem?_eq_getElem h1, List.getElem?_eq_getElem h2] at this
  exact this

theorem getD_of {l : List Bool} {k : Nat} {b : Bool} (h : l[k]? = some b) : l.getD k false = b := by rw [List.getD_eq_getElem?_getD, h]; rfl

/- the first k as they are, the others 0 -/
def firsts (l : List Bool) (k : Nat) : List Bool := (List.range l.length).map (fun j => decide (j < k) && l.getD j false)

theorem firsts_length (l : List Bool) (k : Nat) : (firsts l k).length = l.length := by simp [firsts]

theorem firsts_getD (l : List Bool) (k j : Nat) : (firsts l k).getD j false = (decide (j < k) && l.getD j false) := by
  rw [List.getD_eq_getElem?_getD]
  unfold firsts
  rw [List.getElem?_map]
  by_cases h : j < l.length
  · rw [List.getElem?_range h]
    rfl
  · rw [List.getElem?_eq_none (by simp; omega), List.getD_eq_getElem?_getD, List.getElem?_eq_none (by omega)]
    simp

theorem firsts_zero (l : List Bool) : firsts l 0 = List.replicate l.length false := by
  apply bool_ext
  · simp [firsts]
  · intro j hj
    rw [firsts_getD]
    simp [List.getD_eq_getElem?_getD, List.getElem?_replicate]
    split <;> rfl

theorem firsts_all {l : List Bool} {k : Nat} (h : l.length ≤ k) : firsts l k = l := by
  apply bool_ext (firsts_length _ _)
  intro j hj
  rw [firsts_length] at hj
  rw [firsts_getD]
  have : j < k := by omega
  simp [this]

theorem firsts_succ {l : List Bool} {k : Nat} {b : Bool} (h : l[k]? = some b) : firsts l (k + 1) = (firsts l k).set k b := by
  have hk : k < l.length := (List.getElem?_eq_some_iff.1 h).1
  apply bool_ext (by simp [firsts_length])
  intro j hj
  rw [getD_set _ _ _ _ (by rw [firsts_length]; exact hk), firsts_getD, firsts_getD]
  by_cases h1 : j = k
  · subst h1
    rw [if_pos rfl, getD_of h]
    simp
  · rw [if_neg h1]
    have : (j < k + 1) ↔ j < k := by omega
    simp [this]

theorem firsts_false {l : List Bool} {k : Nat} (h : l[k]? = some false) : firsts l (k + 1) = firsts l k := by
  apply bool_ext (by simp [firsts_length])
  intro j hj
  rw [firsts_getD, firsts_getD]
  by_cases h1 : j = k
  · subst h1
    rw [getD_of h]
    simp
  · have : (j < k + 1) ↔ j < k := by omega
    simp [this]

theorem Vc.set {b : Nat} {w : World} {n g k x : Nat} {l : List Bool} (h : Vc b w n (some ⟨g, 0, none⟩) l) (l' : List Bool) (hl : l'.length = n) (hx : chunks 64 l' = (chunks 64 l).set k x) : Vc b (w.setCell ⟨g, k, none⟩ (.int .u64 (x : Int))) n (some ⟨g, 0, none⟩) l' := by
  obtain ⟨_, h | ⟨g', h1, h2, h3⟩⟩ := h
  · cases h.2
  · cases h1
    refine ⟨hl, .inr ⟨g, rfl, h2, ?_⟩⟩
    rw [hx]
    exact wset h3

theorem Vc.drew {b : Nat} {w : World} {n : Nat} {a : Option Addr} {l : List Bool} (h : Vc b w n a l) : Vc b w.drew n a l := ⟨h.len, h.at'⟩
theorem Vc.drewN {b : Nat} {w : World} {n : Nat} {a : Option Addr} {l : List Bool} (h : Vc b w n a l) (k : Nat) : Vc b (w.drewN k) n a l := ⟨h.len, h.at'⟩

/- the block that a slice lies in -/
def blk (a : Option Addr) : Option Nat := a.map (·.block)

theorem Vc.blk {b : Nat} {w : World} {n : Nat} {a : Option Addr} {l : List Bool} (h : Vc b w n a l) : ∀ k, blk a = some k → b ≤ k ∧ k < w.heap.size := by
  intro k hk
  obtain ⟨_, h | ⟨g, h1, h2, h3⟩⟩ := h
  · rw [h.2] at hk; cases hk
  · rw [h1] at hk
    cases hk
    exact ⟨h2, lt_heap h3⟩

theorem or_pow {x j : Nat} (hx : x < 18446744073709551616) (hj : j < 64) : bits .or .u64 (x : Int) (2 ^ j) = ((x ||| 2 ^ j : Nat) : Int) := by
  rw [pow_cast, u64_or_nat _ _ hx (pow_lt hj)]

set_option maxHeartbeats 2000000 in
theorem of_any (w : World) (n cap : Nat) (a : Option Addr) (l : List Bool) (hl : Bl w n a l) (hn : n ≤ 4194304) :
    Calls Tryd.prog 22 #[.slice a n cap] w fun e w' => ∃ av, e = .returned (.tuple #[.agg #[.int .i64 n, .slice av (need n 64) (need n 64)], .int .i64 0]) ∧ Vc w.heap.size w' n av l ∧ Below w.heap.size w w' := by
  have hN := fun w => hide1 (new_any n w hn)
  have HL := hide1 hl
  have hS := fun k w h => hide1 (single_any k w h)
  clear hl
  go_enter Tryd.func22, Tryd.ntmps22
  go_wp2_with (first | (go_at_call 40; refine (hN _).out.mono ?_; rintro e w1 ⟨av, rfl, hv, hb⟩))
  have hbx := after_alloc hb
  have l0 := lt_heap hbx
  have HG : Hid (∀ g, av = some ⟨g, 0, none⟩ → w.heap.size < g ∧ g < w1.heap.size) := by
    intro g hg
    obtain ⟨_, h | ⟨g', h1, h2, h3⟩⟩ := hv
    · rw [h.2] at hg; cases hg
    · rw [h1] at hg
      cases hg
      exact ⟨by simp at h2; omega, lt_heap h3⟩
  go_loopw [20] (fun i wr => ∃ k : Nat, k ≤ n ∧ i = .int .i64 k ∧ Vc (w.heap.size + 1) wr n av (firsts l k) ∧ wr.heap[w.heap.size]? = some (.cells #[.int .i64 0, .slice none 0 0] 41 (0, 0)) ∧
      wr.heap[w1.heap.size]? = some (.cells #[.int .i64 n, .slice av (need n 64) (need n 64)] 41 (0, 0)) ∧ Below w.heap.size w wr) (fun i _ => n - (intOf i).toNat)
  case atStart =>
    refine ⟨0, Nat.zero_le _, rfl, ?_, (Below.heap_alloc _ _ _ l0).trans hbx, heap_alloc_new _ _, (below_after hb).alloc (by omega) _⟩
    rw [firsts_zero, HL.out.len]
    simpa using hv.alloc _
  case round =>
    obtain ⟨k, hk, rfl, hV, hs, ht, hB⟩ := hrel
    by_cases hlt : k < n
    · obtain ⟨x, hx⟩ : ∃ x, l[k]? = some x := ⟨_, List.getElem?_eq_getElem (by rw [HL.out.len]; exact hlt)⟩
      obtain ⟨gl, o, rfl, hcl⟩ := (HL.out.below hB (Nat.le_refl _)).at' k x hx
      cases x with
      | false =>
        have HF := hide1 (firsts_false hx)
        have HV := hide1 hV
        have HS := hide1 hs
        have HT := hide1 ht
        clear hx hV hs ht
        go_wp2
        go_roundw
        case rel => exact ⟨k + 1, by omega, by go_num, by rw [HF.out]; exact HV.out, HS.out, HT.out, hB⟩
        case measure => simp [intOf]; omega
      | true =>
        have HF := hide1 (firsts_succ hx)
        have hkd : k / 64 < need n 64 := by rw [need64]; omega
        obtain ⟨g, rfl, hbg, hg, hc⟩ := hV.cell hkd
        have hgg := HG.out g rfl
        have hfz : wr.frozen? ⟨g, k / 64, none⟩ = false := frozen_of_row wr g _ _ _ hg
        obtain ⟨d0, d1, _, _, ltt⟩ := box2 ht
        have hk0 : (0 : Int) ≤ (k : Int) / 64 := by omega
        have hk1 : (k : Int) / 64 < (need n 64 : Int) := by omega
        have hk2 : ((k : Int) / 64).toNat = k / 64 := by omega
        have hkw : IntKind.i64.wrap ((k : Int) / 64) = (k : Int) / 64 := by rw [IntKind.wrap_i64]; omega
        have HV := hide1 hV
        have HS := hide1 hs
        have HT := hide1 ht
        have hSk := fun w => hS k w (by omega)
        clear hx hV hs ht hg hS
        go_wp2
        go_region_with (first | (go_at_call 39; refine (hSk _).out.mono ?_; rintro e w' ⟨rfl, rfl⟩))
        all_goals
          go_wp2
          go_roundw
          case rel =>
            rw [or_pow (chunk64_lt _ _) (Nat.mod_lt _ (by omega))]
            refine ⟨k + 1, by omega, by go_num, ?_, ?_, ?_, ?_⟩
            · refine (HV.out.set (firsts l (k + 1)) (by rw [firsts_length]; exact HL.out.len) ?_).drew
              rw [HF.out]
              exact chunks_set_true (by omega) _ _ (by rw [firsts_length, HL.out.len]; exact hlt)
            · exact (Below.heap_setCell _ _ _ _ (by simp; omega)).trans HS.out
            · exact (Below.heap_setCell _ _ _ _ (by simp; omega)).trans HT.out
            · exact (hB.setCell (by simp; omega) _).drew
          case measure => simp [intOf]; omega
    · have : k = n := by omega
      subst this
      obtain ⟨d0, d1, _, _, ltt⟩ := box2 ht
      obtain ⟨e0, e1, e2, e3, lts⟩ := box2 hs
      have HV := hide1 hV
      have HS := hide1 hs
      clear hV hs
      go_wp2
      refine ret_vec2 Tryd.results22 w.heap.size _ _ _ rfl rfl (set_box2 HS.out) rfl ⟨_, rfl, ?_, ?_⟩
      · rw [firsts_all (by rw [HL.out.len]; omega)] at HV
        exact ((HV.out.setCell (by simp) _).setCell (by simp) _).mono (by omega)
      · exact (hB.setCell (Nat.le_refl _) _).setCell (Nat.le_refl _) _

end Go.Proofs.YtlkkninnfiaedaaDoor.T
