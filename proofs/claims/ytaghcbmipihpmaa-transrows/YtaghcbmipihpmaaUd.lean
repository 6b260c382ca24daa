/- Lists of words in memory: blank, toColumns. -/
import Derived.Test.YtaghcbmipihpmaaUc
namespace Go.Proofs.Ytaghcbmipihpmaa
open Go.RowKit
set_option maxRecDepth 100000
attribute [local go_sem] not_any

def lrow (vs : List Value) : Obj := .cells vs.toArray 30 (0, 0)
theorem make_lists (m : Nat) (hm : m ≤ 4096) (w : World) : (Instr.makeSlice 54 (.int .i64 (m : Int)) (.int .i64 (m : Int))).run Try.prog w = .ok (.slice (some ⟨w.heap.size, 0, none⟩) m m) (w.alloc (lrow (List.replicate m (.slice none 0 0)))) := by
  have hi : (Try.prog.info? 30).map (fun i => (i.zero, i.size, i.bytes)) = some (some (.slice none 0 0), 1, 24) := by kernel_rfl
  obtain ⟨i0, hi, hz0, hz1, hz2⟩ := info_parts hi
  have h := run_make (P := Try.prog) w 54 30 i0 _ Try.underlying54 hi hz0 .i64 .i64 (m : Int) (m : Int) (by omega) (by omega) (by rw [hz2]; omega) (by omega)
  rw [h, hz1]
  have e : madeCells (Value.slice none 0 0).cells ((m : Int).toNat * 1) = (List.replicate m (Value.slice none 0 0)).toArray := by
    apply Array.ext
    · simp [madeCells]
    · intro j h1 h2
      simp [madeCells, Value.cells, Nat.mod_one]
  rw [e]
  rfl
theorem lrow_cell {w : World} {g j : Nat} {v : Value} {vs : List Value} (h : w.heap[g]? = some (lrow vs)) (hj : vs[j]? = some v) : w.cell? ⟨g, j, none⟩ = some v := by
  rw [cell_of_row w g j _ _ (0, 0) h]
  simp [hj]
theorem lrow_set {w : World} {g j : Nat} {v : Value} {vs : List Value} (h : w.heap[g]? = some (lrow vs)) : (w.setCell ⟨g, j, none⟩ v).heap[g]? = some (lrow (vs.set j v)) := by
  rw [heap_setCell_same w g j _ _ _ h]
  unfold lrow
  congr 2
  simp

theorem cell_heap {w w' : World} {g : Nat} (h : w'.heap[g]? = w.heap[g]?) (j : Nat) : w'.cell? ⟨g, j, none⟩ = w.cell? ⟨g, j, none⟩ := by simp only [World.cell?, h]

/- m lists of nb words, in blocks from b on, each in a block of its own -/
structure Wds (b : Nat) (w : World) (gh : Nat) (gi : Nat → Nat) (m nb : Nat) (F : Nat → List Nat) : Prop where
  hd : ∀ i, i < m → w.cell? ⟨gh, i, none⟩ = some (.slice (some ⟨gi i, 0, none⟩) nb nb)
  row : ∀ i, i < m → w.heap[gi i]? = some (wrow (F i))
  len : ∀ i, i < m → (F i).length = nb
  up : ∀ i, i < m → b ≤ gi i ∧ gi i ≠ gh
  gh : b ≤ gh
  apart : ∀ i j, i < m → j < m → i ≠ j → gi i ≠ gi j
theorem Wds.kept {b : Nat} {w w' : World} {gh : Nat} {gi : Nat → Nat} {m nb : Nat} {F : Nat → List Nat} (h : Wds b w gh gi m nb F) {B : Nat} (hb : Below B w w') (hg : gh < B) (hi : ∀ i, i < m → gi i < B) : Wds b w' gh gi m nb F :=
  ⟨fun i him => (hb.cell (p := ⟨gh, i, none⟩) hg).trans (h.hd i him), fun i him => (hb.block _ (hi i him)).trans (h.row i him), h.len, h.up, h.gh, h.apart⟩
theorem Wds.lt {b : Nat} {w : World} {gh : Nat} {gi : Nat → Nat} {m nb : Nat} {F : Nat → List Nat} (h : Wds b w gh gi m nb F) : ∀ i, i < m → gh < w.heap.size ∧ gi i < w.heap.size := fun i hi => ⟨lt_cell (h.hd i hi), lt_heap (h.row i hi)⟩
theorem Wds.all {b : Nat} {w w' : World} {gh : Nat} {gi : Nat → Nat} {m nb : Nat} {F : Nat → List Nat} (h : Wds b w gh gi m nb F) (hb : Below w.heap.size w w') : Wds b w' gh gi m nb F :=
  ⟨fun i him => (hb.cell (p := ⟨gh, i, none⟩) (h.lt i him).1).trans (h.hd i him), fun i him => (hb.block _ (h.lt i him).2).trans (h.row i him), h.len, h.up, h.gh, h.apart⟩
theorem Wds.set {b : Nat} {w : World} {gh : Nat} {gi : Nat → Nat} {m nb : Nat} {F : Nat → List Nat} (h : Wds b w gh gi m nb F) {i0 : Nat} (h0 : i0 < m) (q x : Nat) : Wds b (w.setCell ⟨gi i0, q, none⟩ (.int .u64 (x : Int))) gh gi m nb (fun i => if i = i0 then (F i).set q x else F i) := by
  refine ⟨fun i hi => ?_, fun i hi => ?_, fun i hi => ?_, h.up, h.gh, h.apart⟩
  · rw [← h.hd i hi]
    exact cell_heap (heap_setCell_other w ⟨gi i0, q, none⟩ gh _ (fun e => (h.up i0 h0).2 e.symm)) i
  · by_cases e : i = i0
    · subst e
      rw [if_pos rfl]
      exact wset (h.row i hi)
    · rw [if_neg e, heap_setCell_other w ⟨gi i0, q, none⟩ (gi i) _ (h.apart i i0 hi h0 e)]
      exact h.row i hi
  · by_cases e : i = i0
    · simp only [if_pos e, List.length_set]; exact h.len i hi
    · simp only [if_neg e]; exact h.len i hi
theorem Wds.congr {b : Nat} {w : World} {gh : Nat} {gi : Nat → Nat} {m nb : Nat} {F G : Nat → List Nat} (h : Wds b w gh gi m nb F) (e : ∀ i, i < m → F i = G i) : Wds b w gh gi m nb G :=
  ⟨h.hd, fun i hi => by rw [← e i hi]; exact h.row i hi, fun i hi => by rw [← e i hi]; exact h.len i hi, h.up, h.gh, h.apart⟩

/- the heads of lists, the first k made -/
def hds (gh nb m k : Nat) : List Value := (List.range m).map fun i => if i < k then Value.slice (some ⟨gh + 1 + i, 0, none⟩) nb nb else .slice none 0 0
theorem hds_zero (gh nb m : Nat) : hds gh nb m 0 = List.replicate m (.slice none 0 0) := by
  refine List.ext_getElem? fun j => ?_
  by_cases hj : j < m
  · simp [hds, hj]
  · rw [List.getElem?_eq_none (by simp [hds]; omega), List.getElem?_eq_none (by simp; omega)]
theorem hds_get {gh nb m k j : Nat} (hj : j < m) : (hds gh nb m k)[j]? = some (if j < k then Value.slice (some ⟨gh + 1 + j, 0, none⟩) nb nb else .slice none 0 0) := by simp [hds, hj]
theorem hds_succ {gh nb m k : Nat} : hds gh nb m (k + 1) = (hds gh nb m k).set k (.slice (some ⟨gh + 1 + k, 0, none⟩) nb nb) := by
  refine List.ext_getElem? fun j => ?_
  by_cases hj : j < m
  · rw [hds_get hj, List.getElem?_set, show (hds gh nb m k).length = m by simp [hds]]
    by_cases e : k = j
    · subst e; simp [hj]
    · rw [if_neg e, hds_get hj]
      by_cases h1 : j < k
      · rw [if_pos h1, if_pos (by omega)]
      · rw [if_neg h1, if_neg (by omega)]
  · rw [List.getElem?_eq_none (by simp [hds]; omega), List.getElem?_eq_none (by simp [hds]; omega)]

set_option maxHeartbeats 1000000 in
theorem tblank_any (m nb : Nat) (w : World) (hm : m ≤ 4096) (hnb : nb ≤ 65536) :
    Calls Try.prog 20 #[.int .i64 m, .int .i64 nb] w fun e w' => e = .returned (.slice (some ⟨w.heap.size, 0, none⟩) m m) ∧ Wds w.heap.size w' w.heap.size (fun i => w.heap.size + 1 + i) m nb (fun _ => List.replicate nb 0) ∧ Below w.heap.size w w' := by
  have hmk := make_lists m hm
  have hmw := make_words nb (by omega)
  go_enter Try.func20, Try.ntmps20
  go_wp2
  clear hmk
  obtain ⟨gh, hgh⟩ : ∃ gh, gh = w.heap.size := ⟨_, rfl⟩
  have HGH := hide1 hgh
  have A0 : Hid ((w.alloc (lrow (List.replicate m (.slice none 0 0)))).heap[gh]? = some (lrow (hds gh nb m 0))) := by rw [hds_zero, hgh]; exact heap_alloc_new _ _
  have A1 : Hid (Below gh w (w.alloc (lrow (List.replicate m (.slice none 0 0))))) := by rw [hgh]; exact (Below.refl _ _).alloc (Nat.le_refl _) _
  have A2 : Hid ((w.alloc (lrow (List.replicate m (.slice none 0 0)))).heap.size = gh + 1) := by rw [hgh]; simp [Hid]
  rw [← hgh]
  clear hgh
  go_loopw [11] (fun i wr => ∃ k : Nat, k ≤ m ∧ i = .int .i64 k ∧ wr.heap[gh]? = some (lrow (hds gh nb m k)) ∧ wr.heap.size = gh + 1 + k ∧ (∀ j, j < k → wr.heap[gh + 1 + j]? = some (wrow (List.replicate nb 0))) ∧ Below gh w wr) (fun i _ => m - (intOf i).toNat)
  case atStart => exact ⟨0, Nat.zero_le _, rfl, A0.out, A2.out, fun j hj => by omega, A1.out⟩
  case round =>
    obtain ⟨k, hk, rfl, hrow, hsz, hin, hbe⟩ := hrel
    clear A0 A1 A2
    by_cases hlt : k < m
    · have R1 : Hid ((wr.alloc (wrow (List.replicate nb 0))).heap[gh]? = some (lrow (hds gh nb m k))) := (Below.heap_alloc _ _ _ (by omega)).trans hrow
      have R2 : Hid ((wr.alloc (wrow (List.replicate nb 0))).heap[gh + 1 + k]? = some (wrow (List.replicate nb 0))) := by rw [← hsz]; exact heap_alloc_new _ _
      have R3 : Hid (∀ j, j < k → (wr.alloc (wrow (List.replicate nb 0))).heap[gh + 1 + j]? = some (wrow (List.replicate nb 0))) := fun j hj => (Below.heap_alloc _ _ _ (by omega)).trans (hin j hj)
      have R4 : Hid ((wr.alloc (wrow (List.replicate nb 0))).heap.size = gh + 1 + (k + 1)) := by simp [Hid]; omega
      have R5 : Hid (Below gh w (wr.alloc (wrow (List.replicate nb 0)))) := hbe.alloc (by omega) _
      have hw := hmw wr
      rw [hsz] at hw
      clear hrow hin hbe hsz hmw
      obtain ⟨W, hW⟩ : ∃ W, W = wr.alloc (wrow (List.replicate nb 0)) := ⟨_, rfl⟩
      rw [← hW] at R1 R2 R3 R4 R5 hw
      clear hW
      have c1 := lrow_cell R1.out (hds_get hlt)
      rw [if_neg (by omega)] at c1
      have f1 := frozen_of_row W gh k _ _ R1.out
      go_wp2
      go_roundw
      case rel =>
        refine ⟨k + 1, by omega, by go_num, ?_, ?_, fun j hj => ?_, R5.out.setCell (Nat.le_refl _) _⟩
        · rw [hds_succ]; exact lrow_set R1.out
        · rw [← R4.out]; simp
        · rw [heap_setCell_other W ⟨gh, k, none⟩ (gh + 1 + j) _ (by simp; omega)]
          by_cases e : j = k
          · rw [e]; exact R2.out
          · exact R3.out j (by omega)
      case measure => simp [intOf]; omega
    · obtain rfl : k = m := by omega
      have HR := hide1 hrow
      have HI := hide1 hin
      have HB := hide1 hbe
      have HSZ := hide1 hsz
      clear hrow hin hbe hsz
      go_wp2
      go_ret
      rw [← HGH.out]
      refine ⟨rfl, ⟨fun i hi => ?_, HI.out, fun i _ => by simp, fun i _ => ⟨by omega, by omega⟩, Nat.le_refl _, fun i j _ _ h => by omega⟩, HB.out⟩
      rw [lrow_cell HR.out (hds_get hi), if_pos hi]

/- columns from off on, the first k of them with another word -/
def laidTo (F : Nat → List Nat) (off q : Nat) (f : Nat → Nat) (k i : Nat) : List Nat := if off ≤ i ∧ i < off + k then (F i).set q (f (i - off)) else F i
structure Kpw (b : Nat) (w w' : World) (m : Nat) (gi : Nat → Nat) : Prop where
  bel : Below b w w'
  oth : ∀ k, k < w.heap.size → (∀ i, i < m → k ≠ gi i) → w'.heap[k]? = w.heap[k]?
theorem Kpw.refl (b : Nat) (w : World) (m : Nat) (gi : Nat → Nat) : Kpw b w w m gi := ⟨Below.refl _ _, fun _ _ _ => rfl⟩
theorem Kpw.dn {b : Nat} {w w' : World} {m : Nat} {gi : Nat → Nat} (h : Kpw b w w' m gi) (q : Nat) : Kpw b w (w'.drewN q) m gi := ⟨h.bel.trans (below_dn _ _ _), h.oth⟩
theorem Kpw.set {b : Nat} {w w' : World} {m : Nat} {gi : Nat → Nat} (h : Kpw b w w' m gi) {i : Nat} (hi : i < m) (hb : b ≤ gi i) (q : Nat) (v : Value) : Kpw b w (w'.setCell ⟨gi i, q, none⟩ v) m gi :=
  ⟨h.bel.setCell hb v, fun k hk hne => (heap_setCell_other w' ⟨gi i, q, none⟩ k v (hne i hi)).trans (h.oth k hk hne)⟩
theorem Wds.dn {b : Nat} {w : World} {gh : Nat} {gi : Nat → Nat} {m nb : Nat} {F : Nat → List Nat} (h : Wds b w gh gi m nb F) (q : Nat) : Wds b (w.drewN q) gh gi m nb F := ⟨h.hd, h.row, h.len, h.up, h.gh, h.apart⟩

set_option maxHeartbeats 1000000 in
theorem toColumns_any (t : TypeId) (b : Nat) (w : World) (gs : Nat) (f : Nat → Nat) (gh : Nat) (gi : Nat → Nat) (m nb : Nat) (F : Nat → List Nat) (off q M c : Nat) (hs : w.heap[gs]? = some (row64 t (sq f))) (hW : Wds b w gh gi m nb F) (ho : off + 64 ≤ m) (hM : 64 ≤ M) (hq : q < nb) (hne : ∀ i, i < m → gs ≠ gi i) :
    Calls Try.prog 23 #[.pointer (some ⟨gs, 0, none⟩), .slice (some ⟨gh, off, none⟩) M c, .int .i64 q] w fun e w' => e = .returned (.tuple #[]) ∧ Wds b w' gh gi m nb (laidTo F off q f 64) ∧ Kpw b w w' m gi := by
  have HS := hide1 hs
  have HW := hide1 hW
  have HN := hide1 hne
  clear hs hW hne
  go_enter Try.func23, Try.ntmps23
  go_wp2
  go_loopw [9] (fun i wr => ∃ k : Nat, k ≤ 64 ∧ i = .int .i64 k ∧ Wds b wr gh gi m nb (laidTo F off q f k) ∧ Kpw b w wr m gi) (fun i _ => 64 - (intOf i).toNat)
  case atStart => exact ⟨0, Nat.zero_le _, rfl, HW.out.congr (fun i _ => by rw [laidTo, if_neg (by omega)]), Kpw.refl _ _ _ _⟩
  case round =>
    obtain ⟨k, hk, rfl, hW, hK⟩ := hrel
    by_cases hlt : k < 64
    · have hs : wr.heap[gs]? = some (row64 t (sq f)) := (hK.oth gs (lt_heap HS.out) HN.out).trans HS.out
      have hok : off + k < m := by omega
      have c1 := cell64 hs (sq_get hlt)
      have c2 := hW.hd (off + k) hok
      have hrow := hW.row (off + k) hok
      have hlen := hW.len (off + k) hok
      obtain ⟨x, hx⟩ : ∃ x, (laidTo F off q f k (off + k))[q]? = some x := ⟨_, List.getElem?_eq_getElem (by rw [hlen]; exact hq)⟩
      have c3 := row_cell hrow hx
      have HRW := hide1 hrow
      have HSE := hide1 (hW.set hok q (f k))
      have HKS := hide1 (hK.set hok (hW.up _ hok).1 q (.int .u64 (f k : Nat)))
      have HL : Hid (∀ i, i < m → (if i = off + k then (laidTo F off q f k i).set q (f k) else laidTo F off q f k i) = laidTo F off q f (k + 1) i) := by
        intro i _
        unfold laidTo
        by_cases e : i = off + k
        · rw [if_pos e, if_neg (by omega), if_pos (by omega), e, Nat.add_sub_cancel_left]
        · rw [if_neg e]
          by_cases h1 : off ≤ i ∧ i < off + k
          · rw [if_pos h1, if_pos (by omega)]
          · rw [if_neg h1, if_neg (by omega)]
      obtain ⟨G, hG⟩ : ∃ G, G = gi (off + k) := ⟨_, rfl⟩
      rw [← hG] at c2 c3 HRW HSE HKS
      have hkM : k < M := by omega
      clear hW hK hs hrow hlen hx hG
      go_wp2
      go_quiet (fail)
      have c2' : (wr.drewN nq).cell? ⟨gh, off + k, none⟩ = some (.slice (some ⟨G, 0, none⟩) nb nb) := c2
      have c3' : (wr.drewN nq).cell? ⟨G, q, none⟩ = some (.int .u64 (x : Int)) := c3
      have f3' := frozen_of_row (wr.drewN nq) G q _ _ HRW.out
      go_wp2
      go_roundw
      case rel => exact ⟨k + 1, by omega, by go_num, (HSE.out.dn nq).congr HL.out, HKS.out.dn nq⟩
      case measure => simp [intOf]; omega
    · obtain rfl : k = 64 := by omega
      have HW2 := hide1 hW
      have HK2 := hide1 hK
      clear hW hK
      go_wp2
      go_end0
      exact ⟨rfl, HW2.out, HK2.out⟩
end Go.Proofs.Ytaghcbmipihpmaa
