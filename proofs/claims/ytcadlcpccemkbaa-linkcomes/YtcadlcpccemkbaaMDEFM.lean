/- Bits of truths: Of. Bits copied: Raw, With, Bools. Bits told anew: Raw, With, Bools. Bits as bytes. -/
import Derived.Test.YtcadlcpccemkbaaMAC
import Derived.Deep.RegionHeld3
import Derived.Laws.CopyRow
namespace Go.Proofs.Ytcadlcpccemkbaa.X
open Go.RowKit
set_option maxRecDepth 100000
attribute [local go_sem] not_any mf_any

/- truths in memory -/
structure Bl (w : World) (n : Nat) (a : Option Addr) (l : List Bool) : Prop where
  len : l.length = n
  at' : ∀ (j : Nat) (x : Bool), l[j]? = some x → ∃ g o, a = some ⟨g, o, none⟩ ∧ w.cell? ⟨g, o + j, none⟩ = some (.bool x)

theorem lt_cell {w : World} {b o : Nat} {v : Value} (h : w.cell? ⟨b, o, none⟩ = some v) : b < w.heap.size := block_lt_of_cell h

theorem Bl.below {B : Nat} {w w' : World} {n : Nat} {a : Option Addr} {l : List Bool} (h : Bl w n a l) (hB : Below B w w') (hs : w.heap.size ≤ B) : Bl w' n a l :=
  ⟨h.len, fun j x hj => by
    obtain ⟨g, o, h1, h2⟩ := h.at' j x hj
    exact ⟨g, o, h1, (hB.cell (p := ⟨g, o + j, none⟩) (by have := lt_cell h2; simp; omega)).trans h2⟩⟩

theorem wrow_set (ws : List Nat) (j x : Nat) : Obj.cells ((u64s ws).toArray.setIfInBounds j (.int .u64 (x : Int))) 117 (0, 0) = wrow (ws.set j x) := by
  unfold wrow u64s
  congr 1
  simp

theorem wset {w : World} {g j x : Nat} {ws : List Nat} (h : w.heap[g]? = some (wrow ws)) : (w.setCell ⟨g, j, none⟩ (.int .u64 (x : Int))).heap[g]? = some (wrow (ws.set j x)) := by
  rw [heap_setCell_same w g j _ 117 _ h, wrow_set]

theorem bool_ext {l l' : List Bool} (h : l.length = l'.length) (h' : ∀ j, j < l.length → l.getD j false = l'.getD j false) : l = l' := by
  apply List.ext_getElem h
  intro j h1 h2
  have := h' j h1
  rw [List.getD_eq_getElem?_getD, List.getD_eq_getElem?_getD, List.getElem?_eq_getElem h1, List.getElem?_eq_getElem h2] at this
  exact this

theorem getD_of {l : List Bool} {k : Nat} {b : Bool} (h : l[k]? = some b) : l.getD k false = b := by rw [List.getD_eq_getElem?_getD, h]; rfl

/- the first k as they are, the others 0 -/
def firsts (l : List Bool) (k : Nat) : List Bool := (List.range l.length).map (fun j => decide (j < k) && l.getD j false)

theorem firsts_length (l : List Bool) (k : Nat) : (firsts l k).length = l.length := by simp [firsts]

theorem firsts_getD (l : List Bool) (k j : Nat) : (firsts l k).getD j false = (decide (j < k) && l.getD j false) := by
  rw [List.getD_eq_getElem?_getD]
  unfold firsts
  rw [List.getElem?_map]
  by_cases h : j < l.length
  · rw [List.getElem?_range h]
    rfl
  · rw [List.getElem?_eq_none (by simp; omega), List.getD_eq_getElem?_getD, List.getElem?_eq_none (by omega)]
    simp

theorem firsts_zero (l : List Bool) : firsts l 0 = List.replicate l.length false := by
  apply bool_ext
  · simp [firsts]
  · intro j hj
    rw [firsts_getD]
    simp [List.getD_eq_getElem?_getD, List.getElem?_replicate]
    split <;> rfl

theorem firsts_all {l : List Bool} {k : Nat} (h : l.length ≤ k) : firsts l k = l := by
  apply bool_ext (firsts_length _ _)
  intro j hj
  rw [firsts_length] at hj
  rw [firsts_getD]
  have : j < k := by omega
  simp [this]

theorem firsts_succ {l : List Bool} {k : Nat} {b : Bool} (h : l[k]? = some b) : firsts l (k + 1) = (firsts l k).set k b := by
  have hk : k < l.length := (List.getElem?_eq_some_iff.1 h).1
  apply bool_ext (by simp [firsts_length])
  intro j hj
  rw [getD_set _ _ _ _ (by rw [firsts_length]; exact hk), firsts_getD, firsts_getD]
  by_cases h1 : j = k
  · subst h1
    rw [if_pos rfl, getD_of h]
    simp
  · rw [if_neg h1]
    have : (j < k + 1) ↔ j < k := by omega
    simp [this]

theorem firsts_false {l : List Bool} {k : Nat} (h : l[k]? = some false) : firsts l (k + 1) = firsts l k := by
  apply bool_ext (by simp [firsts_length])
  intro j hj
  rw [firsts_getD, firsts_getD]
  by_cases h1 : j = k
  · subst h1
    rw [getD_of h]
    simp
  · have : (j < k + 1) ↔ j < k := by omega
    simp [this]

theorem Vc.set {b : Nat} {w : World} {n g k x : Nat} {l : List Bool} (h : Vc b w n (some ⟨g, 0, none⟩) l) (l' : List Bool) (hl : l'.length = n) (hx : chunks 64 l' = (chunks 64 l).set k x) : Vc b (w.setCell ⟨g, k, none⟩ (.int .u64 (x : Int))) n (some ⟨g, 0, none⟩) l' := by
  obtain ⟨_, h | ⟨g', h1, h2, h3⟩⟩ := h
  · cases h.2
  · cases h1
    refine ⟨hl, .inr ⟨g, rfl, h2, ?_⟩⟩
    rw [hx]
    exact wset h3

theorem Vc.drew {b : Nat} {w : World} {n : Nat} {a : Option Addr} {l : List Bool} (h : Vc b w n a l) : Vc b w.drew n a l := ⟨h.len, h.at'⟩
theorem Vc.drewN {b : Nat} {w : World} {n : Nat} {a : Option Addr} {l : List Bool} (h : Vc b w n a l) (k : Nat) : Vc b (w.drewN k) n a l := ⟨h.len, h.at'⟩

/- the block that a slice lies in -/
def blk (a : Option Addr) : Option Nat := a.map (·.block)

theorem Vc.blk {b : Nat} {w : World} {n : Nat} {a : Option Addr} {l : List Bool} (h : Vc b w n a l) : ∀ k, blk a = some k → b ≤ k ∧ k < w.heap.size := by
  intro k hk
  obtain ⟨_, h | ⟨g, h1, h2, h3⟩⟩ := h
  · rw [h.2] at hk; cases hk
  · rw [h1] at hk
    cases hk
    exact ⟨h2, lt_heap h3⟩

theorem or_pow {x j : Nat} (hx : x < 18446744073709551616) (hj : j < 64) : bits .or .u64 (x : Int) (2 ^ j) = ((x ||| 2 ^ j : Nat) : Int) := by
  rw [pow_cast, u64_or_nat _ _ hx (pow_lt hj)]

end Go.Proofs.Ytcadlcpccemkbaa.X

namespace Go.Proofs.Ytcadlcpccemkbaa.X
open Go.RowKit
set_option maxRecDepth 100000
attribute [local go_sem] not_any mf_any

theorem size55 : (Try.prog.info? 117).map (·.size) = some 1 := by kernel_rfl

theorem addr_add (g o j : Nat) : (⟨g, o, none⟩ : Addr).add j = ⟨g, o + j, none⟩ := by unfold Addr.add; split <;> simp_all

theorem u64s_one (ws : List Nat) : ∀ v ∈ u64s ws, v.oneCell' = true := by
  intro v hv
  simp [u64s] at hv
  obtain ⟨x, _, rfl⟩ := hv
  rfl

theorem after2 {w w1 : World} {o1 o2 : Obj} (hb : Below ((w.alloc o1).alloc o2).heap.size ((w.alloc o1).alloc o2) w1) :
    w1.heap[w.heap.size]? = some o1 ∧ w1.heap[w.heap.size + 1]? = some o2 ∧ Below w.heap.size w w1 :=
  ⟨(hb.block _ (by simp; omega)).trans (heap_alloc2_old _ _ _), (hb.block _ (by simp)).trans (heap_alloc2_new _ _ _), (((Below.refl _ _).alloc (Nat.le_refl _) _).alloc (by simp) _).trans (hb.mono (by simp; omega))⟩

end Go.Proofs.Ytcadlcpccemkbaa.X

namespace Go.Proofs.Ytcadlcpccemkbaa.X
open Go.RowKit
set_option maxRecDepth 100000
attribute [local go_sem] not_any mf_any

theorem after3 {w w1 : World} {o1 o2 o3 : Obj} (hb : Below (((w.alloc o1).alloc o2).alloc o3).heap.size (((w.alloc o1).alloc o2).alloc o3) w1) :
    w1.heap[w.heap.size]? = some o1 ∧ w1.heap[w.heap.size + 1]? = some o2 ∧ w1.heap[w.heap.size + 2]? = some o3 ∧ Below w.heap.size w w1 := by
  have h := after2 (w := w.alloc o1) hb
  simp at h
  refine ⟨?_, h.1, h.2.1, ?_⟩
  · exact (hb.block _ (by simp; omega)).trans ((Below.heap_alloc _ _ _ (by simp; omega)).trans (heap_alloc2_old _ _ _))
  · exact ((Below.refl _ _).alloc (Nat.le_refl _) _).trans (h.2.2.mono (by omega))

def brow (l : List Bool) : Obj := .cells (bools l).toArray 4 (0, 0)

theorem brow_cell {w : World} {g j : Nat} {x : Bool} {l : List Bool} (h : w.heap[g]? = some (brow l)) (hj : l[j]? = some x) : w.cell? ⟨g, j, none⟩ = some (.bool x) := by
  rw [cell_of_row w g j _ 4 (0, 0) h]
  simp [bools, hj]

theorem bset {w : World} {g j : Nat} {x : Bool} {l : List Bool} (h : w.heap[g]? = some (brow l)) : (w.setCell ⟨g, j, none⟩ (.bool x)).heap[g]? = some (brow (l.set j x)) := by
  rw [heap_setCell_same w g j _ 4 _ h]
  unfold brow bools
  congr 2
  simp

theorem bl_of_row {w : World} {g : Nat} {l : List Bool} (h : w.heap[g]? = some (brow l)) : Bl w l.length (some ⟨g, 0, none⟩) l :=
  ⟨rfl, fun j x hj => ⟨g, 0, rfl, by rw [Nat.zero_add]; exact brow_cell h hj⟩⟩

theorem andNot_pow {x j : Nat} (hx : x < 18446744073709551616) (hj : j < 64) : bits .andNot .u64 (x : Int) (2 ^ j) = ((x &&& (2 ^ 64 - 1 - 2 ^ j) : Nat) : Int) := by
  rw [pow_cast, u64_andNot_nat _ _ hx (pow_lt hj)]

end Go.Proofs.Ytcadlcpccemkbaa.X

namespace Go.Proofs.Ytcadlcpccemkbaa.X
open Go.RowKit
set_option maxRecDepth 100000
attribute [local go_sem] not_any mf_any

def u8s (bs : List Nat) : List Value := bs.map (fun n : Nat => Value.int .u8 (n : Int))
def u8row (bs : List Nat) : Obj := .cells (u8s bs).toArray 5 (0, 0)
/- a text of bytes -/
def txt (bs : List Nat) : ByteArray := strOfNums (bs.map (fun n : Nat => (n : Int)))

theorem make_bytes (m : Nat) (hm : m ≤ 4194304) (w : World) : (Instr.makeSlice 99 (.int .i64 (m : Int)) (.int .i64 (m : Int))).run Try.prog w = .ok (.slice (some ⟨w.heap.size, 0, none⟩) m m) (w.alloc (u8row (List.replicate m 0))) := by
  have hi : (Try.prog.info? 5).map (fun i => (i.zero, i.size, i.bytes)) = some (some (.int .u8 0), 1, 1) := by kernel_rfl
  obtain ⟨i0, hi, hz0, hz1, hz2⟩ := info_parts hi
  have h := run_make (P := Try.prog) w 99 5 i0 _ Try.underlying99 hi hz0 .i64 .i64 (m : Int) (m : Int) (by omega) (by omega) (by rw [hz2]; omega) (by omega)
  rw [h, hz1]
  have e : madeCells (Value.int IntKind.u8 0).cells ((m : Int).toNat * 1) = (u8s (List.replicate m 0)).toArray := by
    apply Array.ext
    · simp [madeCells, u8s]
    · intro j h1 h2
      simp [madeCells, u8s, Value.cells, Nat.mod_one]
  rw [e]
  rfl

theorem u8_cell {w : World} {g j x : Nat} {bs : List Nat} (h : w.heap[g]? = some (u8row bs)) (hj : bs[j]? = some x) : w.cell? ⟨g, j, none⟩ = some (.int .u8 (x : Int)) := by
  rw [cell_of_row w g j _ 5 (0, 0) h]
  simp [u8s, hj]

theorem u8set {w : World} {g j x : Nat} {bs : List Nat} (h : w.heap[g]? = some (u8row bs)) : (w.setCell ⟨g, j, none⟩ (.int .u8 (x : Int))).heap[g]? = some (u8row (bs.set j x)) := by
  rw [heap_setCell_same w g j _ 5 _ h]
  unfold u8row u8s
  congr 1
  simp

theorem text_of {w : World} {g n c : Nat} {bs : List Nat} (hl : bs.length = n) (hc : ∀ (j x : Nat), bs[j]? = some x → w.cell? ⟨g, j, none⟩ = some (.int .u8 (x : Int))) :
    (convert 99 9 (.slice (some ⟨g, 0, none⟩) n c)).run Try.prog w = .ok (.string (txt bs)) w := by
  refine run_convert_bytes_arg (P := Try.prog) w 99 5 Try.underlying99 Try.underlying5 g 0 n c (bs.map (fun n : Nat => (n : Int))) (by simp [hl]) ?_ 9 Try.underlying9
  intro i hi
  obtain ⟨x, hx⟩ : ∃ x, bs[i]? = some x := ⟨_, List.getElem?_eq_getElem (by omega)⟩
  rw [Nat.zero_add, hc i x hx, List.getD_eq_getElem?_getD, List.getElem?_map, hx]
  rfl

/- the first k chunks told, the others 0 -/
def chunkTo (s : Nat) (l : List Bool) (k : Nat) : List Nat := (List.range (need l.length s)).map (fun i => if i < k then chunk s l i else 0)
theorem chunkTo_zero (s : Nat) (l : List Bool) : chunkTo s l 0 = List.replicate (need l.length s) 0 := by
  apply List.ext_getElem
  · simp [chunkTo]
  · intro j h1 h2
    simp [chunkTo]
theorem chunkTo_all {s : Nat} {l : List Bool} {k : Nat} (h : need l.length s ≤ k) : chunkTo s l k = chunks s l := by
  apply List.ext_getElem
  · simp [chunkTo, chunks]
  · intro j h1 h2
    have : j < k := by simp [chunkTo] at h1; omega
    simp [chunkTo, chunks, this]
theorem chunkTo_length (s : Nat) (l : List Bool) (k : Nat) : (chunkTo s l k).length = need l.length s := by simp [chunkTo]
theorem chunkTo_succ {s : Nat} (l : List Bool) {k : Nat} : chunkTo s l (k + 1) = (chunkTo s l k).set k (chunk s l k) := by
  apply List.ext_getElem
  · simp [chunkTo]
  · intro j h1 h2
    rw [List.getElem_set]
    simp only [chunkTo, List.getElem_map, List.getElem_range]
    by_cases hj : k = j
    · subst hj
      simp
    · have : (j < k + 1) ↔ j < k := by omega
      simp [hj, this]

theorem byte_of_word (l : List Bool) (i : Nat) : chunk 64 l (i / 8) / 2 ^ (8 * (i % 8)) % 256 = chunk 8 l i := by
  apply Nat.eq_of_testBit_eq
  intro j
  rw [show 256 = 2 ^ 8 by rfl, Nat.testBit_mod_two_pow, Nat.testBit_div_two_pow, chunk_testBit, chunk_testBit]
  by_cases hj : j < 8
  · have h1 : j + 8 * (i % 8) < 64 := by omega
    have h2 : 64 * (i / 8) + (j + 8 * (i % 8)) = 8 * i + j := by omega
    rw [h2]
    simp [hj, h1]
  · simp [hj]

end Go.Proofs.Ytcadlcpccemkbaa.X
