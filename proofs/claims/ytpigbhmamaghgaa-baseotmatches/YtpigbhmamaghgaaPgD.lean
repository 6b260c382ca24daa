/- The document's Back. -/
import Derived.Test.YtpigbhmamaghgaaPgC
import Derived.Deep.AppendLies
namespace Go.Proofs.Ytpigbhmamaghgaa.Pg
open Go.RowKit
set_option maxRecDepth 100000
attribute [local go_sem] not_any

/- a row of words of the call's own, with some room behind it -/
def Mn (w : World) (g : Nat) (l : List Nat) : Prop := ∃ cur : Array Value, w.heap[g]? = some (.cells cur 66 (0, 0)) ∧ cur.toList.take l.length = u32s l
theorem mn_row {w : World} {g : Nat} {l : List Nat} (h : w.heap[g]? = some (row32 66 l)) : Mn w g l := ⟨_, h, by rw [← u32s_length l]; exact List.take_length⟩
theorem mn_get {l : List Nat} {cur : Array Value} (h2 : cur.toList.take l.length = u32s l) {j : Nat} (hj : j < l.length) : cur[j]? = some (.int .u32 (at0 l j : Nat)) := by
  have e : (cur.toList.take l.length)[j]? = (u32s l)[j]? := by rw [h2]
  rw [List.getElem?_take_of_lt hj] at e
  rw [← Array.getElem?_toList, e, u32s, List.getElem?_map, get_at0 hj]
  rfl
theorem Mn.cell {w : World} {g : Nat} {l : List Nat} (h : Mn w g l) {j : Nat} (hj : j < l.length) : w.cell? ⟨g, j, none⟩ = some (.int .u32 (at0 l j : Nat)) := by
  obtain ⟨cur, h1, h2⟩ := h
  rw [cell_of_row w g j cur 66 (0, 0) h1]
  exact mn_get h2 hj
theorem Mn.frozen {w : World} {g : Nat} {l : List Nat} (h : Mn w g l) (j : Nat) : w.frozen? ⟨g, j, none⟩ = false := by
  obtain ⟨cur, h1, h2⟩ := h
  exact frozen_of_row w g j cur 66 h1
theorem Mn.set {w : World} {g : Nat} {l : List Nat} (h : Mn w g l) (j x : Nat) : Mn (w.setCell ⟨g, j, none⟩ (.int .u32 (x : Int))) g (l.set j x) := by
  obtain ⟨cur, h1, h2⟩ := h
  refine ⟨_, heap_setCell_same w g j cur 66 _ h1, ?_⟩
  rw [List.length_set, Array.toList_setIfInBounds, List.take_set, h2]
  simp [u32s]
theorem Mn.to {w w' : World} {g : Nat} {l : List Nat} (h : Mn w g l) (hb : w'.heap[g]? = w.heap[g]?) : Mn w' g l := by
  obtain ⟨cur, h1, h2⟩ := h
  exact ⟨cur, hb.trans h1, h2⟩
theorem Mn.lt {w : World} {g : Nat} {l : List Nat} (h : Mn w g l) : g < w.heap.size := by
  obtain ⟨cur, h1, h2⟩ := h
  exact lt_heap h1
theorem mn_own {base : Nat} {w : World} {g n cap : Nat} {l : List Nat} (hn : l.length = n) (h : w.ownsRow base 66 1 (.slice (some ⟨g, 0, none⟩) n cap) n (u32s l)) : base ≤ g ∧ Mn w g l := by
  rcases h.2 with ⟨h1, _⟩ | ⟨g', cap', cur, h1, h2, h3, _, _, _, h4⟩
  · cases h1
  · cases h1
    refine ⟨h2, cur, h3, ?_⟩
    rw [hn, ← h4, Nat.mul_one]

theorem info_of {P : Program} {t : TypeId} {z : Value} {s b : Nat} (h : (P.info? t).map (fun i => (i.zero, i.size, i.bytes)) = some (some z, s, b)) : ∃ i, P.info? t = some i ∧ i.zero = some z ∧ i.size = s ∧ i.bytes = b := by
  cases hq : P.info? t with
  | none => simp [hq] at h
  | some i =>
    simp [hq] at h
    exact ⟨i, rfl, h.1, h.2.1, h.2.2⟩
theorem info22 : (Try.prog.info? 66).map (fun i => (i.zero, i.size, i.bytes)) = some (some (.int .u32 0), 1, 4) := by kernel_rfl
theorem own_empty (w : World) (base : Nat) (hb : base ≤ w.heap.size) : (w.alloc (.cells #[] 66)).ownsRow base 66 1 (.slice (some ⟨w.heap.size, 0, none⟩) 0 0) 0 (u32s []) :=
  ⟨rfl, .inr ⟨w.heap.size, 0, #[], rfl, hb, heap_alloc_new _ _, Nat.le_refl _, by unfold maxLen; omega, rfl, rfl⟩⟩

end Go.Proofs.Ytpigbhmamaghgaa.Pg
