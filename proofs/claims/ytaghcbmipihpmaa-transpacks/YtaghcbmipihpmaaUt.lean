/- Rows of things that lie elsewhere; Unpack, and the document's. -/
import Derived.Test.YtaghcbmipihpmaaUs
import Derived.Test.YtaghcbmipihpmaaRc
import Derived.Deep.AppendLies
namespace Go.Proofs.Ytaghcbmipihpmaa
open Go.RowKit
set_option maxRecDepth 100000
attribute [local go_sem] not_any mf_any

/- a row of the call's own; what its parts lie in is not in it -/
structure Nst (w : World) (base e size : Nat) (v : Value) (m : Nat) (xs : List Value) (bk : Nat → Option Nat) : Prop where
  own : w.ownsRow base e size v m xs
  far : ∀ i, i < m → ∀ b, bk i = some b → b < w.heap.size ∧ v.ownBlock ≠ some b
theorem Nst.below {w w' : World} {base e size : Nat} {v : Value} {m : Nat} {xs : List Value} {bk : Nat → Option Nat} (h : Nst w base e size v m xs bk) (hb : Below w.heap.size w w') : Nst w' base e size v m xs bk :=
  ⟨own_below h.own hb, fun i hi b e => ⟨Nat.lt_of_lt_of_le (h.far i hi b e).1 hb.size, (h.far i hi b e).2⟩⟩
theorem Nst.grown {w w' : World} {base e size : Nat} {v : Value} {m g cap : Nat} {xs news : List Value} {bk : Nat → Option Nat} (h : Nst w base e size v m xs bk) {bn : Option Nat} (hn : ∀ b, bn = some b → b < w.heap.size ∧ v.ownBlock ≠ some b)
    (ho : w'.ownsRow base e size (.slice (some ⟨g, 0, none⟩) (m + 1) cap) (m + 1) (xs ++ news)) (hg : w.grownBy w' v.ownBlock) (hl : v.ownBlock = some g ∨ g = w.heap.size) :
    Nst w' base e size (.slice (some ⟨g, 0, none⟩) (m + 1) cap) (m + 1) (xs ++ news) (fun i => if i = m then bn else bk i) ∧ ∀ i, i < m + 1 → ∀ b, (if i = m then bn else bk i) = some b → w'.heap[b]? = w.heap[b]? := by
  have key : ∀ i, i < m + 1 → ∀ b, (if i = m then bn else bk i) = some b → b < w.heap.size ∧ v.ownBlock ≠ some b := fun i hi b e => by
    by_cases h1 : i = m
    · rw [if_pos h1] at e; exact hn b e
    · rw [if_neg h1] at e; exact h.far i (by omega) b e
  refine ⟨⟨ho, fun i hi b e => ?_⟩, fun i hi b e => ?_⟩
  · obtain ⟨k1, k2⟩ := key i hi b e
    refine ⟨Nat.lt_of_lt_of_le k1 hg.size, fun h9 => ?_⟩
    have h8 : g = b := by simpa [Value.ownBlock] using h9
    rcases hl with hl | hl
    · exact k2 (by rw [hl, h8])
    · omega
  · obtain ⟨k1, k2⟩ := key i hi b e
    exact hg.block b k1 (fun h9 => k2 h9.symm)

theorem Bl.kept {w w' : World} {n : Nat} {a : Option Addr} {l : List Bool} (h : Bl w n a l) (hk : ∀ b, a.map (·.block) = some b → w'.heap[b]? = w.heap[b]?) : Bl w' n a l :=
  ⟨h.len, fun j x hj => by
    obtain ⟨g, o, e, c⟩ := h.at' j x hj
    exact ⟨g, o, e, (cell_heap (hk g (by rw [e]; rfl)) _).trans c⟩⟩
def sls (aa : Nat → Option Addr) (nn cc : Nat → Nat) (k : Nat) : List Value := (List.range k).map fun i => .slice (aa i) (nn i) (cc i)
theorem sls_succ (aa : Nat → Option Addr) (nn cc : Nat → Nat) (k : Nat) (a : Option Addr) (n c : Nat) :
    sls aa nn cc k ++ [.slice a n c] = sls (fun i => if i = k then a else aa i) (fun i => if i = k then n else nn i) (fun i => if i = k then c else cc i) (k + 1) := by
  rw [sls, sls, List.range_succ, List.map_append]
  congr 1
  · exact List.map_congr_left fun i hi => by
      have := List.mem_range.1 hi
      simp only [if_neg (show ¬ i = k by omega)]
  · simp
/- lists of truths that are read -/
structure Brd (w : World) (v : Value) (m : Nat) (aa : Nat → Option Addr) (nn cc : Nat → Nat) (L : Nat → List Bool) : Prop where
  at' : ∃ g c, v = .slice (some ⟨g, 0, none⟩) m c ∧ g < w.heap.size ∧ ∀ i, i < m → w.cell? ⟨g, i, none⟩ = some (.slice (aa i) (nn i) (cc i))
  bl : ∀ i, i < m → Bl w (nn i) (aa i) (L i)
theorem Brd.below {w w' : World} {v : Value} {m : Nat} {aa : Nat → Option Addr} {nn cc : Nat → Nat} {L : Nat → List Bool} (h : Brd w v m aa nn cc L) (hb : Below w.heap.size w w') : Brd w' v m aa nn cc L := by
  obtain ⟨g, c, e, hg, hc⟩ := h.at'
  exact ⟨⟨g, c, e, Nat.lt_of_lt_of_le hg hb.size, fun i hi => (hb.cell (p := ⟨g, i, none⟩) hg).trans (hc i hi)⟩, fun i hi => (h.bl i hi).below hb (Nat.le_refl _)⟩
/- as they are made -/
structure Bmk (w : World) (base : Nat) (v : Value) (m : Nat) (aa : Nat → Option Addr) (nn cc : Nat → Nat) (L : Nat → List Bool) : Prop where
  ns : Nst w base 29 1 v m (sls aa nn cc m) (fun i => (aa i).map (·.block))
  bl : ∀ i, i < m → Bl w (nn i) (aa i) (L i)
theorem Bmk.below {w w' : World} {base : Nat} {v : Value} {m : Nat} {aa : Nat → Option Addr} {nn cc : Nat → Nat} {L : Nat → List Bool} (h : Bmk w base v m aa nn cc L) (hb : Below w.heap.size w w') : Bmk w' base v m aa nn cc L :=
  ⟨h.ns.below hb, fun i hi => (h.bl i hi).below hb (Nat.le_refl _)⟩
theorem Bmk.nil (w : World) (base : Nat) (L : Nat → List Bool) : Bmk w base (.slice none 0 0) 0 (fun _ => none) (fun _ => 0) (fun _ => 0) L :=
  ⟨⟨World.ownsRow_nil _ _ _ _, fun i hi => by omega⟩, fun i hi => by omega⟩
theorem Bmk.add {w w' : World} {base : Nat} {v : Value} {m g cap : Nat} {aa : Nat → Option Addr} {nn cc : Nat → Nat} {L : Nat → List Bool} (h : Bmk w base v m aa nn cc L) {a : Option Addr} {n c : Nat} (hn : ∀ b, a.map (·.block) = some b → b < w.heap.size ∧ v.ownBlock ≠ some b) (hb : Bl w n a (L m))
    (ho : w'.ownsRow base 29 1 (.slice (some ⟨g, 0, none⟩) (m + 1) cap) (m + 1) (sls aa nn cc m ++ [.slice a n c])) (hg : w.grownBy w' v.ownBlock) (hl : v.ownBlock = some g ∨ g = w.heap.size) :
    Bmk w' base (.slice (some ⟨g, 0, none⟩) (m + 1) cap) (m + 1) (fun i => if i = m then a else aa i) (fun i => if i = m then n else nn i) (fun i => if i = m then c else cc i) L := by
  obtain ⟨n1, n2⟩ := h.ns.grown hn ho hg hl
  rw [sls_succ] at n1
  refine ⟨⟨n1.own, fun i hi b e => n1.far i hi b ?_⟩, fun i hi => ?_⟩
  · by_cases h1 : i = m
    · simp only [if_pos h1] at e ⊢; exact e
    · simp only [if_neg h1] at e ⊢; exact e
  · by_cases h1 : i = m
    · have := n2 i hi
      simp only [if_pos h1] at this ⊢
      rw [h1]
      exact hb.kept this
    · have := n2 i hi
      simp only [if_neg h1] at this ⊢
      exact (h.bl i (by omega)).kept this
theorem Bmk.brd {w : World} {base : Nat} {v : Value} {m : Nat} {aa : Nat → Option Addr} {nn cc : Nat → Nat} {L : Nat → List Bool} (h : Bmk w base v m aa nn cc L) (hm : 0 < m) : Brd w v m aa nn cc L := by
  obtain ⟨g, cap, rfl, _, hlt⟩ := h.ns.own.form hm
  refine ⟨⟨g, cap, rfl, hlt, fun i hi => ?_⟩, h.bl⟩
  rw [h.ns.own.cellAt i (by omega)]
  simp [sls, hi]
theorem info29 : (Try.prog.info? 29).map (fun i => (i.zero, i.size, i.bytes)) = some (some (.slice none 0 0), 1, 24) := by kernel_rfl

theorem unpack_no (n : Int) (s : ByteArray) (w : World) (h : n < 0 ∨ 65536 < n) : Calls Try.prog 16 #[.int .i64 n, .string s] w fun e w' => e = .returned (.tuple #[.slice none 0 0, .int .i64 2]) ∧ Below w.heap.size w w' := by
  have hB := fun (o o' : Obj) => hide1 (((Below.refl w.heap.size w).alloc (Nat.le_refl _) o).alloc (by simp) o')
  rcases h with h | h
  · go_enter Try.func16, Try.ntmps16
    go_wp2
    go_ret2
    exact ⟨rfl, (hB _ _).out⟩
  · have h0 : ¬ n < 0 := by omega
    go_enter Try.func16, Try.ntmps16
    go_wp2
    go_ret2
    exact ⟨rfl, (hB _ _).out⟩
theorem runpack_no (n : Int) (s : ByteArray) (w : World) (h : n < 0 ∨ 65536 < n) : Calls Try.prog 17 #[.int .i64 n, .string s] w fun e w' => e = .returned (.tuple #[.slice none 0 0, .int .i64 2]) ∧ Below w.heap.size w w' := by
  rcases h with h | h
  · go_enter Try.func17, Try.ntmps17
    go_wp2
    go_ret2
    exact ⟨rfl, Below.refl _ _⟩
  · have h0 : ¬ n < 0 := by omega
    go_enter Try.func17, Try.ntmps17
    go_wp2
    go_ret2
    exact ⟨rfl, Below.refl _ _⟩
end Go.Proofs.Ytaghcbmipihpmaa
