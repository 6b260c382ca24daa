/- Bits made word by word, by a function that tells each word. Bits copied: Raw, With, Bools. Bits told anew: Raw, With, Bools. Xor, And, Equal. -/
import Derived.Test.YtdmodknjcdkocaaJ16
import Derived.Laws.CopyRow
namespace Go.Proofs.Ytdmodknjcdkocaa.Pg.V
open Go.RowKit
set_option maxRecDepth 100000
attribute [local go_sem] not_any mf_any

/- the first k words told, the others 0 -/
def tells (F : Nat → Nat) (m k : Nat) : List Nat := (List.range m).map (fun i => if i < k then F i else 0)

theorem tells_length (F : Nat → Nat) (m k : Nat) : (tells F m k).length = m := by simp [tells]
theorem tells_get {F : Nat → Nat} {m k j x : Nat} (h : (tells F m k)[j]? = some x) : j < m ∧ x = if j < k then F j else 0 := by
  unfold tells at h
  rw [List.getElem?_map] at h
  by_cases hj : j < m
  · rw [List.getElem?_range hj] at h
    exact ⟨hj, (Option.some.inj h).symm⟩
  · rw [List.getElem?_eq_none (by simp; omega)] at h
    cases h
theorem tells_zero (F : Nat → Nat) (m : Nat) : tells F m 0 = List.replicate m 0 := by
  apply List.ext_getElem
  · simp [tells]
  · intro j h1 h2
    simp [tells]
theorem tells_succ (F : Nat → Nat) {m k : Nat} (_h : k < m) : tells F m (k + 1) = (tells F m k).set k (F k) := by
  apply List.ext_getElem
  · simp [tells]
  · intro j h1 h2
    rw [List.getElem_set]
    simp only [tells, List.getElem_map, List.getElem_range]
    by_cases hj : k = j
    · subst hj
      simp
    · have : (j < k + 1) ↔ j < k := by omega
      simp [hj, this]

end Go.Proofs.Ytdmodknjcdkocaa.Pg.V

namespace Go.Proofs.Ytdmodknjcdkocaa.Pg.V
open Go.RowKit
set_option maxRecDepth 100000
attribute [local go_sem] not_any mf_any

theorem addr_add (g o j : Nat) : (⟨g, o, none⟩ : Addr).add j = ⟨g, o + j, none⟩ := by unfold Addr.add; split <;> simp_all

theorem u64s_one (ws : List Nat) : ∀ v ∈ u64s ws, v.oneCell' = true := by
  intro v hv
  simp [u64s] at hv
  obtain ⟨x, _, rfl⟩ := hv
  rfl

theorem after2 {w w1 : World} {o1 o2 : Obj} (hb : Below ((w.alloc o1).alloc o2).heap.size ((w.alloc o1).alloc o2) w1) :
    w1.heap[w.heap.size]? = some o1 ∧ w1.heap[w.heap.size + 1]? = some o2 ∧ Below w.heap.size w w1 :=
  ⟨(hb.block _ (by simp; omega)).trans (heap_alloc2_old _ _ _), (hb.block _ (by simp)).trans (heap_alloc2_new _ _ _), (((Below.refl _ _).alloc (Nat.le_refl _) _).alloc (by simp) _).trans (hb.mono (by simp; omega))⟩

end Go.Proofs.Ytdmodknjcdkocaa.Pg.V

namespace Go.Proofs.Ytdmodknjcdkocaa.Pg.V
open Go.RowKit
set_option maxRecDepth 100000
theorem field_words (x : Value) (a : Option Addr) (n c : Nat) (w : World) : (Instr.field 37 (.agg #[x, .slice a n c]) 1).run Try.prog w = .ok (.slice a n c) w := by kernel_rfl
attribute [local go_sem] not_any mf_any field_words

theorem after3 {w w1 : World} {o1 o2 o3 : Obj} (hb : Below (((w.alloc o1).alloc o2).alloc o3).heap.size (((w.alloc o1).alloc o2).alloc o3) w1) :
    w1.heap[w.heap.size]? = some o1 ∧ w1.heap[w.heap.size + 1]? = some o2 ∧ w1.heap[w.heap.size + 2]? = some o3 ∧ Below w.heap.size w w1 := by
  have h := after2 (w := w.alloc o1) hb
  simp at h
  refine ⟨?_, h.1, h.2.1, ?_⟩
  · exact (hb.block _ (by simp; omega)).trans ((Below.heap_alloc _ _ _ (by simp; omega)).trans (heap_alloc2_old _ _ _))
  · exact ((Below.refl _ _).alloc (Nat.le_refl _) _).trans (h.2.2.mono (by omega))

def brow (l : List Bool) : Obj := .cells (bools l).toArray 4 (0, 0)

theorem make_bools (m : Nat) (hm : m ≤ 4194304) (w : World) : (Instr.makeSlice 35 (.int .i64 (m : Int)) (.int .i64 (m : Int))).run Try.prog w = .ok (.slice (some ⟨w.heap.size, 0, none⟩) m m) (w.alloc (brow (List.replicate m false))) := by
  have hi : (Try.prog.info? 4).map (fun i => (i.zero, i.size, i.bytes)) = some (some (.bool false), 1, 1) := by kernel_rfl
  obtain ⟨i0, hi, hz0, hz1, hz2⟩ := info_parts hi
  have h := run_make (P := Try.prog) w 35 4 i0 _ Try.underlying35 hi hz0 .i64 .i64 (m : Int) (m : Int) (by omega) (by omega) (by rw [hz2]; omega) (by omega)
  rw [h, hz1]
  have e : madeCells (Value.bool false).cells ((m : Int).toNat * 1) = (bools (List.replicate m false)).toArray := by
    apply Array.ext
    · simp [madeCells, bools]
    · intro j h1 h2
      simp [madeCells, bools, Value.cells, Nat.mod_one]
  rw [e]
  rfl

theorem brow_cell {w : World} {g j : Nat} {x : Bool} {l : List Bool} (h : w.heap[g]? = some (brow l)) (hj : l[j]? = some x) : w.cell? ⟨g, j, none⟩ = some (.bool x) := by
  rw [cell_of_row w g j _ 4 (0, 0) h]
  simp [bools, hj]

theorem bset {w : World} {g j : Nat} {x : Bool} {l : List Bool} (h : w.heap[g]? = some (brow l)) : (w.setCell ⟨g, j, none⟩ (.bool x)).heap[g]? = some (brow (l.set j x)) := by
  rw [heap_setCell_same w g j _ 4 _ h]
  unfold brow bools
  congr 2
  simp

theorem bl_of_row {w : World} {g : Nat} {l : List Bool} (h : w.heap[g]? = some (brow l)) : Bl w l.length (some ⟨g, 0, none⟩) l :=
  ⟨rfl, fun j x hj => ⟨g, 0, rfl, by rw [Nat.zero_add]; exact brow_cell h hj⟩⟩

end Go.Proofs.Ytdmodknjcdkocaa.Pg.V

namespace Go.Proofs.Ytdmodknjcdkocaa.Pg.V
open Go.RowKit
set_option maxRecDepth 100000
attribute [local go_sem] not_any mf_any field_words

theorem after4 {w w1 : World} {o1 o2 o3 o4 : Obj} (hb : Below ((((w.alloc o1).alloc o2).alloc o3).alloc o4).heap.size ((((w.alloc o1).alloc o2).alloc o3).alloc o4) w1) :
    w1.heap[w.heap.size]? = some o1 ∧ w1.heap[w.heap.size + 1]? = some o2 ∧ w1.heap[w.heap.size + 2]? = some o3 ∧ w1.heap[w.heap.size + 3]? = some o4 ∧ Below w.heap.size w w1 := by
  have h := after3 (w := w.alloc o1) hb
  have e : (w.alloc o1).heap.size = w.heap.size + 1 := by simp
  rw [e] at h
  obtain ⟨h1, h2, h3, h4⟩ := h
  exact ⟨(h4.block _ (by omega)).trans (heap_alloc_new _ _), h1, h2, h3, ((Below.refl _ _).alloc (Nat.le_refl _) _).trans (h4.mono (by omega))⟩

theorem chunks_inj {la lb : List Bool} (hl : la.length = lb.length) (h : chunks 64 la = chunks 64 lb) : la = lb := by
  apply bool_ext hl
  intro j hj
  have hk : j / 64 < need la.length 64 := by rw [need64]; omega
  have h1 := chunks_get hk
  rw [h, chunks_get (by rw [← hl]; exact hk)] at h1
  have h2 := congrArg (fun x => x.testBit (j % 64)) (Option.some.inj h1)
  simp only [chunk_testBit, Nat.div_add_mod] at h2
  have : j % 64 < 64 := Nat.mod_lt _ (by omega)
  simp [this] at h2
  exact h2.symm

/- words in memory, to be read -/
structure Nl (w : World) (m : Nat) (a : Option Addr) (ws : List Nat) : Prop where
  len : ws.length = m
  at' : ∀ (j : Nat) (x : Nat), ws[j]? = some x → ∃ g o, a = some ⟨g, o, none⟩ ∧ w.cell? ⟨g, o + j, none⟩ = some (.int .u64 (x : Int))

theorem Vc.nl {b : Nat} {w : World} {n : Nat} {a : Option Addr} {l : List Bool} (h : Vc b w n a l) : Nl w (need n 64) a (chunks 64 l) :=
  ⟨by rw [chunks_length, h.len], fun j x hj => by
    obtain ⟨h1, h2⟩ := chunks_get' hj
    rw [h.len] at h1
    obtain ⟨g, h3, _, _, h4⟩ := h.cell h1
    exact ⟨g, 0, h3, by rw [Nat.zero_add, h2]; exact h4⟩⟩

theorem Nl.below {B : Nat} {w w' : World} {m : Nat} {a : Option Addr} {ws : List Nat} (h : Nl w m a ws) (hB : Below B w w') (hs : w.heap.size ≤ B) : Nl w' m a ws :=
  ⟨h.len, fun j x hj => by
    obtain ⟨g, o, h1, h2⟩ := h.at' j x hj
    exact ⟨g, o, h1, (hB.cell (p := ⟨g, o + j, none⟩) (by have := lt_cell h2; simp; omega)).trans h2⟩⟩

theorem take_succ_eq {α : Type} {xs ys : List α} {k : Nat} {x : α} (h : xs.take k = ys.take k) (h1 : xs[k]? = some x) (h2 : ys[k]? = some x) : xs.take (k + 1) = ys.take (k + 1) := by
  rw [List.take_add_one, List.take_add_one, h, h1, h2]

theorem gr_drewN (w : World) (q : Nat) : ∃ q' os, w.drewN q = Sort.grow (w.drewN q') os := ⟨q, #[], by rw [Sort.grow_empty]⟩

end Go.Proofs.Ytdmodknjcdkocaa.Pg.V
