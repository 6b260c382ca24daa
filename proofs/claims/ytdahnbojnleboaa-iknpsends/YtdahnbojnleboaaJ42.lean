/- The document's own bits of words. The document's own reading of bytes. Rows of things that lie elsewhere; Unpack, and the document's. Columns made of truths; the document's Pack. -/
import Derived.Test.YtdahnbojnleboaaJ30
import Derived.Test.YtdahnbojnleboaaJ41
import Derived.Test.YtdahnbojnleboaaJ34
import Derived.Deep.AppendLies
import Derived.Test.YtdahnbojnleboaaJ29
namespace Go.Proofs.Ytdahnbojnleboaa.T
open Go.RowKit
set_option maxRecDepth 100000
attribute [local go_sem] not_any mf_any field_words

theorem shr_test (x j : Nat) : (((x : Int) / 2 ^ j).tmod 2 == 1) = x.testBit j := by
  have hp : (0 : Int) ≤ (x : Int) / 2 ^ j := by
    rw [pow_cast]
    exact Int.natCast_nonneg (x / 2 ^ j)
  rw [Int.tmod_eq_emod_of_nonneg hp]
  have h : x.testBit j = decide (x / 2 ^ j % 2 = 1) := by rw [Nat.testBit_eq_decide_div_mod_eq]
  rw [h, ← int_odd, pow_cast]
  rfl

end Go.Proofs.Ytdahnbojnleboaa.T

namespace Go.Proofs.Ytdahnbojnleboaa.T
open Go.RowKit
set_option maxRecDepth 100000
attribute [local go_sem] not_any mf_any field_words

theorem bit_at {s : ByteArray} {k : Nat} (h : k / 8 < s.size) : ((((s[k / 8]'h).toNat : Int) / 2 ^ (k % 8)).tmod 2 == 1) = ((nums s).getD (k / 8) 0).testBit (k % 8) := by
  rw [shr_test, List.getD_eq_getElem?_getD, nums_at h]
  rfl

def bitAt (s : ByteArray) (k : Nat) : Bool := ((nums s).getD (k / 8) 0).testBit (k % 8)

theorem rbits_get {n : Nat} {s : ByteArray} {k : Nat} (h : k < n) : (rbits n s)[k]? = some (bitAt s k) := by simp [rbits, bitAt, h]

theorem clean_iff {n : Nat} {s : ByteArray} : Clean n s ↔ ∀ k, n ≤ k → k < 8 * s.size → bitAt s k = false := by
  constructor
  · intro h k hn hk
    obtain ⟨x, hx⟩ : ∃ x, (nums s)[k / 8]? = some x := ⟨_, List.getElem?_eq_getElem (by rw [nums_length]; omega)⟩
    unfold bitAt
    rw [List.getD_eq_getElem?_getD, hx]
    exact h _ _ hx _ (Nat.mod_lt _ (by omega)) (by omega)
  · intro h k x hx j hj hn
    have hk : k < s.size := by rw [← nums_length]; exact (List.getElem?_eq_some_iff.1 hx).1
    have := h (8 * k + j) hn (by omega)
    unfold bitAt at this
    rw [Nat.mul_add_div (by omega), Nat.mul_add_mod, Nat.div_eq_of_lt hj, Nat.mod_eq_of_lt hj, Nat.add_zero, List.getD_eq_getElem?_getD, hx] at this
    exact this

/- what is told: the bits, where nothing is behind the last one; else ErrForm -/
theorem own_far {w : World} {base e size n : Nat} {a : Option Addr} {c m : Nat} {xs : List Value} (h : w.ownsRow base e size (.slice a n c) m xs) : ∀ ad, a = some ad → base ≤ ad.block ∧ ad.block < w.heap.size := fun ad e => h.lt ad.block (by rw [e]; rfl)

def Told (B n : Nat) (s : ByteArray) (w' : World) (v : Value) (f : Int) : Prop :=
  (Clean n s ∧ f = 0 ∧ ∃ a c, v = .slice a n c ∧ Bl w' n a (rbits n s) ∧ ∀ ad, a = some ad → B ≤ ad.block ∧ ad.block < w'.heap.size) ∨ (¬ Clean n s ∧ f = 13)

end Go.Proofs.Ytdahnbojnleboaa.T

namespace Go.Proofs.Ytdahnbojnleboaa.T
open Go.RowKit
set_option maxRecDepth 100000
attribute [local go_sem] not_any mf_any

/- a row of the call's own; what its parts lie in is not in it -/
structure Nst (w : World) (base e size : Nat) (v : Value) (m : Nat) (xs : List Value) (bk : Nat → Option Nat) : Prop where
  own : w.ownsRow base e size v m xs
  far : ∀ i, i < m → ∀ b, bk i = some b → b < w.heap.size ∧ v.ownBlock ≠ some b
theorem Nst.below {w w' : World} {base e size : Nat} {v : Value} {m : Nat} {xs : List Value} {bk : Nat → Option Nat} (h : Nst w base e size v m xs bk) (hb : Below w.heap.size w w') : Nst w' base e size v m xs bk :=
  ⟨own_below h.own hb, fun i hi b e => ⟨Nat.lt_of_lt_of_le (h.far i hi b e).1 hb.size, (h.far i hi b e).2⟩⟩
theorem Nst.grown {w w' : World} {base e size : Nat} {v : Value} {m g cap : Nat} {xs news : List Value} {bk : Nat → Option Nat} (h : Nst w base e size v m xs bk) {bn : Option Nat} (hn : ∀ b, bn = some b → b < w.heap.size ∧ v.ownBlock ≠ some b)
    (ho : w'.ownsRow base e size (.slice (some ⟨g, 0, none⟩) (m + 1) cap) (m + 1) (xs ++ news)) (hg : w.grownBy w' v.ownBlock) (hl : v.ownBlock = some g ∨ g = w.heap.size) :
    Nst w' base e size (.slice (some ⟨g, 0, none⟩) (m + 1) cap) (m + 1) (xs ++ news) (fun i => if i = m then bn else bk i) ∧ ∀ i, i < m + 1 → ∀ b, (if i = m then bn else bk i) = some b → w'.heap[b]? = w.heap[b]? := by
  have key : ∀ i, i < m + 1 → ∀ b, (if i = m then bn else bk i) = some b → b < w.heap.size ∧ v.ownBlock ≠ some b := fun i hi b e => by
    by_cases h1 : i = m
    · rw [if_pos h1] at e; exact hn b e
    · rw [if_neg h1] at e; exact h.far i (by omega) b e
  refine ⟨⟨ho, fun i hi b e => ?_⟩, fun i hi b e => ?_⟩
  · obtain ⟨k1, k2⟩ := key i hi b e
    refine ⟨Nat.lt_of_lt_of_le k1 hg.size, fun h9 => ?_⟩
    have h8 : g = b := by simpa [Value.ownBlock] using h9
    rcases hl with hl | hl
    · exact k2 (by rw [hl, h8])
    · omega
  · obtain ⟨k1, k2⟩ := key i hi b e
    exact hg.block b k1 (fun h9 => k2 h9.symm)

theorem Bl.kept {w w' : World} {n : Nat} {a : Option Addr} {l : List Bool} (h : Bl w n a l) (hk : ∀ b, a.map (·.block) = some b → w'.heap[b]? = w.heap[b]?) : Bl w' n a l :=
  ⟨h.len, fun j x hj => by
    obtain ⟨g, o, e, c⟩ := h.at' j x hj
    exact ⟨g, o, e, (cell_heap (hk g (by rw [e]; rfl)) _).trans c⟩⟩
def sls (aa : Nat → Option Addr) (nn cc : Nat → Nat) (k : Nat) : List Value := (List.range k).map fun i => .slice (aa i) (nn i) (cc i)
theorem sls_succ (aa : Nat → Option Addr) (nn cc : Nat → Nat) (k : Nat) (a : Option Addr) (n c : Nat) :
    sls aa nn cc k ++ [.slice a n c] = sls (fun i => if i = k then a else aa i) (fun i => if i = k then n else nn i) (fun i => if i = k then c else cc i) (k + 1) := by
  rw [sls, sls, List.range_succ, List.map_append]
  congr 1
  · exact List.map_congr_left fun i hi => by
      have := List.mem_range.1 hi
      simp only [if_neg (show ¬ i = k by omega)]
  · simp
/- lists of truths that are read -/
structure Brd (w : World) (v : Value) (m : Nat) (aa : Nat → Option Addr) (nn cc : Nat → Nat) (L : Nat → List Bool) : Prop where
  at' : ∃ g c, v = .slice (some ⟨g, 0, none⟩) m c ∧ g < w.heap.size ∧ ∀ i, i < m → w.cell? ⟨g, i, none⟩ = some (.slice (aa i) (nn i) (cc i))
  bl : ∀ i, i < m → Bl w (nn i) (aa i) (L i)
theorem Brd.below {w w' : World} {v : Value} {m : Nat} {aa : Nat → Option Addr} {nn cc : Nat → Nat} {L : Nat → List Bool} (h : Brd w v m aa nn cc L) (hb : Below w.heap.size w w') : Brd w' v m aa nn cc L := by
  obtain ⟨g, c, e, hg, hc⟩ := h.at'
  exact ⟨⟨g, c, e, Nat.lt_of_lt_of_le hg hb.size, fun i hi => (hb.cell (p := ⟨g, i, none⟩) hg).trans (hc i hi)⟩, fun i hi => (h.bl i hi).below hb (Nat.le_refl _)⟩
/- as they are made -/
structure Bmk (w : World) (base : Nat) (v : Value) (m : Nat) (aa : Nat → Option Addr) (nn cc : Nat → Nat) (L : Nat → List Bool) : Prop where
  ns : Nst w base 25 1 v m (sls aa nn cc m) (fun i => (aa i).map (·.block))
  bl : ∀ i, i < m → Bl w (nn i) (aa i) (L i)
theorem Bmk.below {w w' : World} {base : Nat} {v : Value} {m : Nat} {aa : Nat → Option Addr} {nn cc : Nat → Nat} {L : Nat → List Bool} (h : Bmk w base v m aa nn cc L) (hb : Below w.heap.size w w') : Bmk w' base v m aa nn cc L :=
  ⟨h.ns.below hb, fun i hi => (h.bl i hi).below hb (Nat.le_refl _)⟩
theorem Bmk.nil (w : World) (base : Nat) (L : Nat → List Bool) : Bmk w base (.slice none 0 0) 0 (fun _ => none) (fun _ => 0) (fun _ => 0) L :=
  ⟨⟨World.ownsRow_nil _ _ _ _, fun i hi => by omega⟩, fun i hi => by omega⟩
theorem Bmk.add {w w' : World} {base : Nat} {v : Value} {m g cap : Nat} {aa : Nat → Option Addr} {nn cc : Nat → Nat} {L : Nat → List Bool} (h : Bmk w base v m aa nn cc L) {a : Option Addr} {n c : Nat} (hn : ∀ b, a.map (·.block) = some b → b < w.heap.size ∧ v.ownBlock ≠ some b) (hb : Bl w n a (L m))
    (ho : w'.ownsRow base 25 1 (.slice (some ⟨g, 0, none⟩) (m + 1) cap) (m + 1) (sls aa nn cc m ++ [.slice a n c])) (hg : w.grownBy w' v.ownBlock) (hl : v.ownBlock = some g ∨ g = w.heap.size) :
    Bmk w' base (.slice (some ⟨g, 0, none⟩) (m + 1) cap) (m + 1) (fun i => if i = m then a else aa i) (fun i => if i = m then n else nn i) (fun i => if i = m then c else cc i) L := by
  obtain ⟨n1, n2⟩ := h.ns.grown hn ho hg hl
  rw [sls_succ] at n1
  refine ⟨⟨n1.own, fun i hi b e => n1.far i hi b ?_⟩, fun i hi => ?_⟩
  · by_cases h1 : i = m
    · simp only [if_pos h1] at e ⊢; exact e
    · simp only [if_neg h1] at e ⊢; exact e
  · by_cases h1 : i = m
    · have := n2 i hi
      simp only [if_pos h1] at this ⊢
      rw [h1]
      exact hb.kept this
    · have := n2 i hi
      simp only [if_neg h1] at this ⊢
      exact (h.bl i (by omega)).kept this
theorem Bmk.brd {w : World} {base : Nat} {v : Value} {m : Nat} {aa : Nat → Option Addr} {nn cc : Nat → Nat} {L : Nat → List Bool} (h : Bmk w base v m aa nn cc L) (hm : 0 < m) : Brd w v m aa nn cc L := by
  obtain ⟨g, cap, rfl, _, hlt⟩ := h.ns.own.form hm
  refine ⟨⟨g, cap, rfl, hlt, fun i hi => ?_⟩, h.bl⟩
  rw [h.ns.own.cellAt i (by omega)]
  simp [sls, hi]
theorem info29 : (Try.prog.info? 25).map (fun i => (i.zero, i.size, i.bytes)) = some (some (.slice none 0 0), 1, 24) := by kernel_rfl

end Go.Proofs.Ytdahnbojnleboaa.T

namespace Go.Proofs.Ytdahnbojnleboaa.T
open Go.RowKit
set_option maxRecDepth 100000
attribute [local go_sem] not_any

def vls (aa : Nat → Option Addr) (nn : Nat → Nat) : Nat → List Value
  | 0 => []
  | k + 1 => vls aa nn k ++ [.int .i64 (nn k : Nat), .slice (aa k) (need (nn k) 64) (need (nn k) 64)]
theorem vls_length (aa : Nat → Option Addr) (nn : Nat → Nat) : ∀ k, (vls aa nn k).length = k * 2
  | 0 => rfl
  | k + 1 => by rw [vls, List.length_append, vls_length aa nn k]; simp; omega
theorem vls_congr {aa ab : Nat → Option Addr} {nn : Nat → Nat} : ∀ {k}, (∀ i, i < k → aa i = ab i) → vls aa nn k = vls ab nn k
  | 0, _ => rfl
  | k + 1, h => by rw [vls, vls, vls_congr (fun i hi => h i (by omega)), h k (by omega)]
theorem vls_get {aa : Nat → Option Addr} {nn : Nat → Nat} : ∀ {k i : Nat}, i < k → (vls aa nn k)[i * 2]? = some (.int .i64 (nn i : Nat)) ∧ (vls aa nn k)[i * 2 + 1]? = some (.slice (aa i) (need (nn i) 64) (need (nn i) 64))
  | 0, _, h => by omega
  | k + 1, i, h => by
    have hl := vls_length aa nn k
    by_cases e : i < k
    · rw [vls, List.getElem?_append_left (by omega), List.getElem?_append_left (by omega)]
      exact vls_get e
    · obtain rfl : i = k := by omega
      rw [vls, List.getElem?_append_right (by omega), List.getElem?_append_right (by omega), hl, Nat.sub_self, Nat.add_sub_cancel_left]
      exact ⟨rfl, rfl⟩
/- Vecs as they are made -/
structure Vmk (w : World) (base : Nat) (v : Value) (m : Nat) (aa : Nat → Option Addr) (nn : Nat → Nat) (L : Nat → List Bool) : Prop where
  ns : Nst w base 40 2 v m (vls aa nn m) (fun i => (aa i).map (·.block))
  vc : ∀ i, i < m → Vc 0 w (nn i) (aa i) (L i)
theorem Vmk.below {w w' : World} {base : Nat} {v : Value} {m : Nat} {aa : Nat → Option Addr} {nn : Nat → Nat} {L : Nat → List Bool} (h : Vmk w base v m aa nn L) (hb : Below w.heap.size w w') : Vmk w' base v m aa nn L :=
  ⟨h.ns.below hb, fun i hi => (h.vc i hi).below hb (Nat.le_refl _)⟩
theorem Vmk.nil (w : World) (base : Nat) (nn : Nat → Nat) (L : Nat → List Bool) : Vmk w base (.slice none 0 0) 0 (fun _ => none) nn L :=
  ⟨⟨World.ownsRow_nil _ _ _ _, fun i hi => by omega⟩, fun i hi => by omega⟩
theorem Vmk.add {w w' : World} {base : Nat} {v : Value} {m g cap : Nat} {aa : Nat → Option Addr} {nn : Nat → Nat} {L : Nat → List Bool} (h : Vmk w base v m aa nn L) {a : Option Addr} (hn : ∀ b, a.map (·.block) = some b → b < w.heap.size ∧ v.ownBlock ≠ some b) (hv : Vc 0 w (nn m) a (L m))
    (ho : w'.ownsRow base 40 2 (.slice (some ⟨g, 0, none⟩) (m + 1) cap) (m + 1) (vls aa nn m ++ [.int .i64 (nn m : Nat), .slice a (need (nn m) 64) (need (nn m) 64)])) (hg : w.grownBy w' v.ownBlock) (hl : v.ownBlock = some g ∨ g = w.heap.size) :
    Vmk w' base (.slice (some ⟨g, 0, none⟩) (m + 1) cap) (m + 1) (fun i => if i = m then a else aa i) nn L := by
  obtain ⟨n1, n2⟩ := h.ns.grown hn ho hg hl
  have e : vls aa nn m ++ [.int .i64 (nn m : Nat), .slice a (need (nn m) 64) (need (nn m) 64)] = vls (fun i => if i = m then a else aa i) nn (m + 1) := by
    rw [vls, if_pos rfl, vls_congr (fun i hi => (if_neg (show ¬ i = m by omega) : (if i = m then a else aa i) = aa i).symm)]
  rw [e] at n1
  refine ⟨⟨n1.own, fun i hi b e => n1.far i hi b ?_⟩, fun i hi => ?_⟩
  · by_cases h1 : i = m
    · simp only [if_pos h1] at e ⊢; exact e
    · simp only [if_neg h1] at e ⊢; exact e
  · have hk := n2 i hi
    by_cases h1 : i = m
    · simp only [if_pos h1] at hk ⊢
      rw [h1]
      exact hv.kept (fun g hg => hk g (by rw [hg]; rfl))
    · simp only [if_neg h1] at hk ⊢
      exact (h.vc i (by omega)).kept (fun g hg => hk g (by rw [hg]; rfl))
theorem Vmk.vcs {w : World} {base : Nat} {v : Value} {m : Nat} {aa : Nat → Option Addr} {nn : Nat → Nat} {L : Nat → List Bool} (h : Vmk w base v m aa nn L) (hm : 0 < m) (hn : ∀ i, i < m → nn i ≤ 4194304) : ∃ g c, v = .slice (some ⟨g, 0, none⟩) m c ∧ m ≤ c ∧ Vcs w m (some ⟨g, 0, none⟩) nn aa L := by
  have ho := h.ns.own
  rcases ho.2 with ⟨_, h0⟩ | ⟨g, cap, cur, hv, hg, hh, hcap, r⟩
  · omega
  · subst hv
    refine ⟨g, cap, rfl, hcap, ⟨fun i hi => ⟨g, 0, rfl, ?_, ?_⟩, h.vc, hn⟩⟩
    · rw [Nat.zero_add, ho.cellAt (i * 2) (by omega)]; exact (vls_get hi).1
    · rw [Nat.zero_add, ho.cellAt (i * 2 + 1) (by omega)]; exact (vls_get hi).2
theorem info32 : (Try.prog.info? 40).map (fun i => (i.zero, i.size, i.bytes)) = some (some (.agg #[.int .i64 0, .slice none 0 0]), 2, 32) := by kernel_rfl
theorem two_new (w : World) (x y : Value) (t : TypeId) : ∀ (j : Nat) (u : Value), [x, y][j]? = some u → (w.alloc (.cells #[x, y] t)).cell? ((⟨w.heap.size, 0, none⟩ : Addr).add j) = some u := fun j u hu => by
  rw [addr_add, cell_of_row _ _ _ _ _ _ (heap_alloc_new w _), Nat.zero_add]
  match j, hu with
  | 0, hu => exact hu
  | 1, hu => exact hu
  | j + 2, hu => simp at hu

end Go.Proofs.Ytdahnbojnleboaa.T
