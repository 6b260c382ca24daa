/- Bits told, one by one: Len, Get. Bits of truths: Of. -/
import Derived.Test.YtpigbhmamaghgaaPgVA
import Derived.Deep.RegionWith
import Derived.Shelf.SlSortCmp.QuietGrown
import Derived.BigQuiet
import Derived.Deep.RegionHeld3
namespace Go.Proofs.Ytpigbhmamaghgaa.Pg.V
open Go.RowKit
set_option maxRecDepth 100000
attribute [local go_sem] not_any mf_any

def getI (l : List Bool) (i : Int) : Bool := decide (0 ≤ i) && l.getD i.toNat false

theorem getI_nat (l : List Bool) (i : Nat) : getI l (i : Int) = l.getD i false := by simp [getI]

theorem getI_out {l : List Bool} {i : Int} (h : i < 0 ∨ (l.length : Int) ≤ i) : getI l i = false := by
  unfold getI
  rcases h with h | h
  · have : ¬ 0 ≤ i := by omega
    simp [this]
  · by_cases h0 : 0 ≤ i
    · rw [List.getD_eq_getElem?_getD, List.getElem?_eq_none (by omega)]
      simp
    · simp [h0]

theorem mixed : Try.prog.follows .mixedOrders = true := by kernel_rfl

theorem heap_gr {w : World} {g : Nat} {o : Obj} (h : w.heap[g]? = some o) (n : Nat) (os : Array Obj) : (Sort.grow (w.drewN n) os).heap[g]? = some o :=
  (Sort.heap_grow_old (w.drewN n) os (lt_heap h)).trans h

theorem gr_refl (w : World) : ∃ q os, w = Sort.grow (w.drewN q) os := ⟨0, #[], by rw [Sort.grow_empty]; rfl⟩
theorem gr_alloc (w : World) (o : Obj) : ∃ q os, w.alloc o = Sort.grow (w.drewN q) os := ⟨0, #[o], Sort.alloc_eq_grow w o⟩
theorem gr_trans {a b c : World} (h : ∃ q os, b = Sort.grow (a.drewN q) os) (h' : ∃ q os, c = Sort.grow (b.drewN q) os) : ∃ q os, c = Sort.grow (a.drewN q) os := by
  obtain ⟨q, os, rfl⟩ := h
  obtain ⟨q', os', rfl⟩ := h'
  refine ⟨q + q', os ++ os', ?_⟩
  show Sort.grow (Sort.grow ((a.drewN q).drewN q') os) os' = _
  rw [Sort.grow_grow, World.drewN_drewN]
theorem gr_below {w w' : World} (h : ∃ q os, w' = Sort.grow (w.drewN q) os) : Below w.heap.size w w' := by
  obtain ⟨q, os, rfl⟩ := h
  exact ⟨rfl, rfl, rfl, by simp [Sort.grow], fun k hk => Sort.heap_grow_old (w.drewN q) os hk⟩

theorem pow_lt {j : Nat} (h : j < 64) : 2 ^ j < 18446744073709551616 := Nat.pow_lt_pow_right (by omega) h
theorem pow_cast (j : Nat) : (2 : Int) ^ j = ((2 ^ j : Nat) : Int) := by simp

theorem and_pow {x j : Nat} (hx : x < 18446744073709551616) (hj : j < 64) : (bits .and .u64 (x : Int) (2 ^ j) != 0) = x.testBit j := by
  have e : x &&& 2 ^ j = if x.testBit j then 2 ^ j else 0 := by
    apply Nat.eq_of_testBit_eq
    intro i
    rw [Nat.testBit_and, Nat.testBit_two_pow]
    by_cases h : j = i
    · subst h
      cases hb : x.testBit j <;> simp
    · split
      · simp [h]
      · simp [h]
  rw [pow_cast, u64_and_nat _ _ hx (pow_lt hj), e]
  have := Nat.two_pow_pos j
  cases x.testBit j
  · simp
  · simp only [if_true]
    rw [bne_iff_ne]
    omega

end Go.Proofs.Ytpigbhmamaghgaa.Pg.V

namespace Go.Proofs.Ytpigbhmamaghgaa.Pg.V
open Go.RowKit
set_option maxRecDepth 100000
attribute [local go_sem] not_any mf_any

/- truths in memory -/
structure Bl (w : World) (n : Nat) (a : Option Addr) (l : List Bool) : Prop where
  len : l.length = n
  at' : ∀ (j : Nat) (x : Bool), l[j]? = some x → ∃ g o, a = some ⟨g, o, none⟩ ∧ w.cell? ⟨g, o + j, none⟩ = some (.bool x)

theorem lt_cell {w : World} {b o : Nat} {v : Value} (h : w.cell? ⟨b, o, none⟩ = some v) : b < w.heap.size := block_lt_of_cell h

theorem Bl.below {B : Nat} {w w' : World} {n : Nat} {a : Option Addr} {l : List Bool} (h : Bl w n a l) (hB : Below B w w') (hs : w.heap.size ≤ B) : Bl w' n a l :=
  ⟨h.len, fun j x hj => by
    obtain ⟨g, o, h1, h2⟩ := h.at' j x hj
    exact ⟨g, o, h1, (hB.cell (p := ⟨g, o + j, none⟩) (by have := lt_cell h2; simp; omega)).trans h2⟩⟩

theorem wrow_set (ws : List Nat) (j x : Nat) : Obj.cells ((u64s ws).toArray.setIfInBounds j (.int .u64 (x : Int))) 24 (0, 0) = wrow (ws.set j x) := by
  unfold wrow u64s
  congr 1
  simp

theorem wset {w : World} {g j x : Nat} {ws : List Nat} (h : w.heap[g]? = some (wrow ws)) : (w.setCell ⟨g, j, none⟩ (.int .u64 (x : Int))).heap[g]? = some (wrow (ws.set j x)) := by
  rw [heap_setCell_same w g j _ 24 _ h, wrow_set]

theorem bool_ext {l l' : List Bool} (h : l.length = l'.length) (h' : ∀ j, j < l.length → l.getD j false = l'.getD j false) : l = l' := by
  apply List.ext_getElem h
  intro j h1 h2
  have := h' j h1
  rw [List.getD_eq_getElem?_getD, List.getD_eq_getElem?_getD, List.getElem?_eq_getElem h1, List.getElem?_eq_getElem h2] at this
  exact this

theorem getD_of {l : List Bool} {k : Nat} {b : Bool} (h : l[k]? = some b) : l.getD k false = b := by rw [List.getD_eq_getElem?_getD, h]; rfl

/- the first k as they are, the others 0 -/
def firsts (l : List Bool) (k : Nat) : List Bool := (List.range l.length).map (fun j => decide (j < k) && l.getD j false)

theorem firsts_length (l : List Bool) (k : Nat) : (firsts l k).length = l.length := by simp [firsts]

theorem firsts_getD (l : List Bool) (k j : Nat) : (firsts l k).getD j false = (decide (j < k) && l.getD j false) := by
  rw [List.getD_eq_getElem?_getD]
  unfold firsts
  rw [List.getElem?_map]
  by_cases h : j < l.length
  · rw [List.getElem?_range h]
    rfl
  · rw [List.getElem?_eq_none (by simp; omega), List.getD_eq_getElem?_getD, List.getElem?_eq_none (by omega)]
    simp

theorem firsts_zero (l : List Bool) : firsts l 0 = List.replicate l.length false := by
  apply bool_ext
  · simp [firsts]
  · intro j hj
    rw [firsts_getD]
    simp [List.getD_eq_getElem?_getD, List.getElem?_replicate]
    split <;> rfl

theorem firsts_all {l : List Bool} {k : Nat} (h : l.length ≤ k) : firsts l k = l := by
  apply bool_ext (firsts_length _ _)
  intro j hj
  rw [firsts_length] at hj
  rw [firsts_getD]
  have : j < k := by omega
  simp [this]

theorem firsts_succ {l : List Bool} {k : Nat} {b : Bool} (h : l[k]? = some b) : firsts l (k + 1) = (firsts l k).set k b := by
  have hk : k < l.length := (List.getElem?_eq_some_iff.1 h).1
  apply bool_ext (by simp [firsts_length])
  intro j hj
  rw [getD_set _ _ _ _ (by rw [firsts_length]; exact hk), firsts_getD, firsts_getD]
  by_cases h1 : j = k
  · subst h1
    rw [if_pos rfl, getD_of h]
    simp
  · rw [if_neg h1]
    have : (j < k + 1) ↔ j < k := by omega
    simp [this]

theorem firsts_false {l : List Bool} {k : Nat} (h : l[k]? = some false) : firsts l (k + 1) = firsts l k := by
  apply bool_ext (by simp [firsts_length])
  intro j hj
  rw [firsts_getD, firsts_getD]
  by_cases h1 : j = k
  · subst h1
    rw [getD_of h]
    simp
  · have : (j < k + 1) ↔ j < k := by omega
    simp [this]

theorem Vc.set {b : Nat} {w : World} {n g k x : Nat} {l : List Bool} (h : Vc b w n (some ⟨g, 0, none⟩) l) (l' : List Bool) (hl : l'.length = n) (hx : chunks 64 l' = (chunks 64 l).set k x) : Vc b (w.setCell ⟨g, k, none⟩ (.int .u64 (x : Int))) n (some ⟨g, 0, none⟩) l' := by
  obtain ⟨_, h | ⟨g', h1, h2, h3⟩⟩ := h
  · cases h.2
  · cases h1
    refine ⟨hl, .inr ⟨g, rfl, h2, ?_⟩⟩
    rw [hx]
    exact wset h3

theorem Vc.drew {b : Nat} {w : World} {n : Nat} {a : Option Addr} {l : List Bool} (h : Vc b w n a l) : Vc b w.drew n a l := ⟨h.len, h.at'⟩
theorem Vc.drewN {b : Nat} {w : World} {n : Nat} {a : Option Addr} {l : List Bool} (h : Vc b w n a l) (k : Nat) : Vc b (w.drewN k) n a l := ⟨h.len, h.at'⟩

/- the block that a slice lies in -/
def blk (a : Option Addr) : Option Nat := a.map (·.block)

theorem Vc.blk {b : Nat} {w : World} {n : Nat} {a : Option Addr} {l : List Bool} (h : Vc b w n a l) : ∀ k, blk a = some k → b ≤ k ∧ k < w.heap.size := by
  intro k hk
  obtain ⟨_, h | ⟨g, h1, h2, h3⟩⟩ := h
  · rw [h.2] at hk; cases hk
  · rw [h1] at hk
    cases hk
    exact ⟨h2, lt_heap h3⟩

theorem or_pow {x j : Nat} (hx : x < 18446744073709551616) (hj : j < 64) : bits .or .u64 (x : Int) (2 ^ j) = ((x ||| 2 ^ j : Nat) : Int) := by
  rw [pow_cast, u64_or_nat _ _ hx (pow_lt hj)]

end Go.Proofs.Ytpigbhmamaghgaa.Pg.V
