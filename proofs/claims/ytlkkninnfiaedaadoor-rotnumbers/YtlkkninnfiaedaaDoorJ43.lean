/- The words of columns; a square of columns. Rows. Rows made of columns. -/
import Derived.Test.YtlkkninnfiaedaaDoorJ42
namespace Go.Proofs.YtlkkninnfiaedaaDoor.T
open Go.RowKit
set_option maxRecDepth 100000
attribute [local go_sem] not_any

theorem Vcs.part {w : World} {m g o c : Nat} {n : Nat → Nat} {aa : Nat → Option Addr} {L : Nat → List Bool} (h : Vcs w m (some ⟨g, o, none⟩) n aa L) {off : Nat} (hm : off + c ≤ m) {N : Nat} (hN : ∀ i, i < c → n (off + i) = N) : Vcs w c (some ⟨g, o + off * 2, none⟩) (fun _ => N) (fun i => aa (off + i)) (fun i => L (off + i)) := by
  refine ⟨fun i hi => ?_, fun i hi => ?_, fun i hi => ?_⟩
  · obtain ⟨g', o', e, c0, c1⟩ := h.at' (off + i) (by omega)
    cases e
    rw [hN i hi] at c0 c1
    refine ⟨g, o + off * 2, rfl, ?_, ?_⟩
    · rw [show o + off * 2 + i * 2 = o + (off + i) * 2 by omega]; exact c0
    · rw [show o + off * 2 + i * 2 + 1 = o + (off + i) * 2 + 1 by omega]; exact c1
  · have := h.vc (off + i) (by omega)
    rw [hN i hi] at this
    exact this
  · have := h.le (off + i) (by omega)
    rw [hN i hi] at this
    exact this

/- heads of words, the first k there -/
structure Hrow (w : World) (g m k n : Nat) (aa : Nat → Option Addr) (L : Nat → List Bool) : Prop where
  row : ∃ vs : List Value, vs.length = m ∧ w.heap[g]? = some (lrow vs) ∧ ∀ i, i < k → vs[i]? = some (.slice (aa i) (need n 64) (need n 64))
  vc : ∀ i, i < k → Vc (g + 1) w n (aa i) (L i)
theorem Hrow.below {w w' : World} {g m k n : Nat} {aa : Nat → Option Addr} {L : Nat → List Bool} (h : Hrow w g m k n aa L) (hb : Below w.heap.size w w') : Hrow w' g m k n aa L := by
  obtain ⟨vs, h1, h2, h3⟩ := h.row
  exact ⟨⟨vs, h1, (hb.block _ (lt_heap h2)).trans h2, h3⟩, fun i hi => (h.vc i hi).below hb (Nat.le_refl _)⟩
theorem Hrow.add {w : World} {g m k n : Nat} {aa : Nat → Option Addr} {L : Nat → List Bool} (h : Hrow w g m k n aa L) (hk : k < m) {av : Option Addr} (hv : Vc (g + 1) w n av (L k)) :
    Hrow (w.setCell ⟨g, k, none⟩ (.slice av (need n 64) (need n 64))) g m (k + 1) n (fun i => if i = k then av else aa i) L := by
  obtain ⟨vs, h1, h2, h3⟩ := h.row
  refine ⟨⟨_, ?_, lrow_set h2, fun i hi => ?_⟩, fun i hi => ?_⟩
  · rw [List.length_set]; exact h1
  · by_cases e : i = k
    · rw [if_pos e, e, List.getElem?_set_self (by omega)]
    · rw [if_neg e, List.getElem?_set_ne (by omega)]; exact h3 i (by omega)
  · by_cases e : i = k
    · simp only [if_pos e]; rw [e]; exact hv.setCell (by simp) _
    · simp only [if_neg e]; exact (h.vc i (by omega)).setCell (by simp) _
theorem Hrow.cells {w : World} {g m k n : Nat} {aa : Nat → Option Addr} {L : Nat → List Bool} (h : Hrow w g m k n aa L) {j : Nat} (hj : j < m) : (∃ v, w.cell? ⟨g, j, none⟩ = some v) ∧ w.frozen? ⟨g, j, none⟩ = false ∧ g < w.heap.size := by
  obtain ⟨vs, h1, h2, _⟩ := h.row
  exact ⟨⟨vs[j]'(by omega), lrow_cell h2 (List.getElem?_eq_getElem (by omega))⟩, frozen_of_row w g j _ _ h2, lt_heap h2⟩
theorem Hrow.at {w : World} {g m k n : Nat} {aa : Nat → Option Addr} {L : Nat → List Bool} (h : Hrow w g m k n aa L) {i : Nat} (hi : i < k) : w.cell? ⟨g, i, none⟩ = some (.slice (aa i) (need n 64) (need n 64)) := by
  obtain ⟨vs, _, h2, h3⟩ := h.row
  exact lrow_cell h2 (h3 i hi)

set_option maxHeartbeats 2000000 in
theorem traw_any (w : World) (n c : Nat) (a : Option Addr) (ab : Nat → Option Addr) (L : Nat → List Bool) (hv : Vcs w 64 a (fun _ => n) ab L) :
    Calls Tryd.prog 66 #[.slice a 64 c] w fun e w' => ∃ aa, e = .returned (.slice (some ⟨w.heap.size, 0, none⟩) 64 64) ∧ Hrow w' w.heap.size 64 64 n aa L ∧ Below w.heap.size w w' := by
  obtain ⟨g, o, rfl, hgl, hc⟩ := hv.first (by omega)
  have hmk := make_lists 64 (by omega) w
  rw [show ((64 : Nat) : Int) = 64 from rfl] at hmk
  have HC := hide1 hc
  have HV := hide1 hv
  clear hc hv
  obtain ⟨W0, hW0⟩ : ∃ W0, W0 = w.alloc (lrow (List.replicate 64 (.slice none 0 0))) := ⟨_, rfl⟩
  have A0 : Hid (Hrow W0 w.heap.size 64 0 n (fun _ => none) L) := ⟨⟨List.replicate 64 (.slice none 0 0), by simp, by rw [hW0]; exact heap_alloc_new _ _, fun i hi => by omega⟩, fun i hi => by omega⟩
  have A1 : Hid (Below w.heap.size w W0) := by rw [hW0]; exact below_alloc1 _ _
  rw [← hW0] at hmk
  clear hW0
  obtain ⟨gh, hg⟩ : ∃ gh, gh = w.heap.size := ⟨_, rfl⟩
  have HG := hide1 hg
  rw [← hg] at hmk A0 A1 hgl
  clear hg
  go_enter Tryd.func66, Tryd.ntmps66
  go_wp2
  clear hmk
  go_loopw [11] (fun i wr => ∃ (k : Nat) (aa : Nat → Option Addr), k ≤ 64 ∧ i = .int .i64 k ∧ Hrow wr gh 64 k n aa L ∧ Below gh w wr) (fun i _ => 64 - (intOf i).toNat)
  case atStart => exact ⟨0, _, Nat.zero_le _, rfl, A0.out, A1.out⟩
  case round =>
    obtain ⟨k, aa, hk, rfl, hH, hB⟩ := hrel
    clear A0 A1
    have HH := hide1 hH
    have HB := hide1 hB
    clear hH
    by_cases hlt : k < 64
    · have d0 := (hB.cell (p := ⟨g, o + k * 2, none⟩) hgl).trans (HC.out k hlt).1
      have d1 := (hB.cell (p := ⟨g, o + k * 2 + 1, none⟩) hgl).trans (HC.out k hlt).2
      have hv : Vc 0 wr n (ab k) (L k) := by
        have h9 := HB.out
        rw [HG.out] at h9
        exact (HV.out.vc k hlt).below h9 (Nat.le_refl _)
      obtain ⟨ak, hak⟩ : ∃ ak, ak = ab k := ⟨_, rfl⟩
      rw [← hak] at d1 hv
      clear hak hB
      have gl := (HH.out.cells (j := 0) (by omega)).2.2
      have V1 := hide1 (hv.alloc (.cells #[.int .i64 n, .slice ak (need n 64) (need n 64)] 41))
      have H1 := hide1 (HH.out.below (below_alloc1 wr (.cells #[.int .i64 n, .slice ak (need n 64) (need n 64)] 41)))
      have B1 := hide1 (HB.out.alloc (Nat.le_of_lt gl) (.cells #[.int .i64 n, .slice ak (need n 64) (need n 64)] 41))
      obtain ⟨e0, e1, _⟩ := box2 (heap_alloc_new wr (.cells #[.int .i64 n, .slice ak (need n 64) (need n 64)] 41))
      have hle := HV.out.le k hlt
      clear hv
      go_upto_region 5 with (fail)
      generalize wr.alloc (.cells #[.int .i64 n, .slice ak (need n 64) (need n 64)] 41) = W4 at *
      have kR := hide1 (raw_any 0 W4 n ak (L k) V1.out hle)
      clear d0 d1 V1
      go_wp2_with fail
      go_at_call 91
      refine kR.out.mono ?_
      rintro e w2 ⟨av, rfl, hv2, hb2⟩
      have H2 := hide1 (H1.out.below hb2)
      have gl4 := (H1.out.cells (j := 0) (by omega)).2.2
      have B2 := hide1 (B1.out.trans (hb2.mono (Nat.le_of_lt gl4)))
      have V2 : Hid (Vc (gh + 1) w2 n av (L k)) := hv2.mono gl4
      obtain ⟨⟨y, f0⟩, f1, f2⟩ := H2.out.cells hlt
      clear hv2 hb2 kR e0 e1 H1 B1
      go_wp2
      go_roundw
      case rel => exact ⟨k + 1, _, by omega, by go_num, H2.out.add hlt V2.out, B2.out.setCell (Nat.le_refl _) _⟩
      case measure => simp [intOf]; omega
    · obtain rfl : k = 64 := by omega
      go_wp2
      go_ret
      rw [← HG.out]
      exact ⟨aa, rfl, HH.out, HB.out⟩

set_option maxHeartbeats 2000000 in
theorem ofColumns_any (w : World) (n q gh c : Nat) (aa : Nat → Option Addr) (L : Nat → List Bool) (hH : Hrow w gh 64 64 n aa L) (hq : q < need n 64) :
    Calls Tryd.prog 68 #[.slice (some ⟨gh, 0, none⟩) 64 c, .int .i64 q] w fun e w' => e = .returned (.agg (u64s (sq (fun i => chunk 64 (L i) q))).toArray) ∧ Below w.heap.size w w' := by
  have HH := hide1 hH
  clear hH
  go_enter Tryd.func68, Tryd.ntmps68
  go_upto_region 2 with (fail)
  generalize hW : World.alloc (World.alloc w _) _ = W
  have w1 : W.heap[w.heap.size]? = some (row64 129 (sq (fun _ => 0))) := by rw [← hW]; exact heap_alloc2_old _ _ _
  have w2 : W.heap[w.heap.size + 1]? = some (row64 129 (sq (fun _ => 0))) := by rw [← hW]; exact heap_alloc2_new _ _ _
  have w3 : Below w.heap.size w W := by rw [← hW]; exact ((Below.refl _ _).alloc (Nat.le_refl _) _).alloc (by simp) _
  have W1 := hide1 w1
  have W2 := hide1 w2
  have W3 := hide1 w3
  clear hW w1 w2 w3
  go_wp2
  go_loopw [7] (fun i wr => ∃ k : Nat, k ≤ 64 ∧ i = .int .i64 k ∧ wr.heap[w.heap.size + 1]? = some (row64 129 (sq (upTo (fun i => chunk 64 (L i) q) k))) ∧ Below (w.heap.size + 1) W wr) (fun i _ => 64 - (intOf i).toNat)
  case atStart =>
    refine ⟨0, Nat.zero_le _, rfl, ?_, Below.refl _ _⟩
    rw [← sq_zero]
    exact W2.out
  case round =>
    obtain ⟨k, hk, rfl, hrow, hbe⟩ := hrel
    by_cases hlt : k < 64
    · have hbw : Below w.heap.size w wr := W3.out.trans (hbe.mono (by omega))
      have hH := HH.out.below hbw
      have c1 := hH.at hlt
      have hvk := hH.vc k hlt
      obtain ⟨g, hag, _, _, c2⟩ := hvk.cell hq
      have c3 := cell64 hrow (sq_get hlt)
      have f3 := frozen_of_row wr (w.heap.size + 1) k _ _ hrow
      obtain ⟨x, hx⟩ : ∃ x, x = chunk 64 (L k) q := ⟨_, rfl⟩
      rw [hag] at c1
      rw [← hx] at c2
      have HX := hide1 hx
      have HR := hide1 hrow
      have HB := hide1 hbe
      clear hrow hbe hbw hH hvk hag hx
      go_wp2
      go_roundw
      case rel =>
        refine ⟨k + 1, by omega, by go_num, ?_, HB.out.setCell (Nat.le_refl _) _⟩
        rw [sq_upTo, ← HX.out]
        exact set64 HR.out
      case measure => simp [intOf]; omega
    · obtain rfl : k = 64 := by omega
      have HZ : Hid (sq (upTo (fun i => chunk 64 (L i) q) 64) = sq (fun i => chunk 64 (L i) q)) := sq_congr fun i hi => if_pos hi
      rw [HZ.out] at hrow
      have HR := hide1 hrow
      have HB := hide1 hbe
      have HO1 : Hid (wr.heap[w.heap.size]? = some (row64 129 (sq (fun _ => 0)))) := (hbe.block _ (by omega)).trans W1.out
      have HU := hide1 (size57 (fun i => chunk 64 (L i) q))
      have Hz : Hid ((u64s (sq (fun _ => 0))).toArray.size = (u64s (sq (fun i => chunk 64 (L i) q))).toArray.size) := by simp [Hid, u64s, sq]
      have H1 : Hid ((u64s (sq (fun i => chunk 64 (L i) q))).toArray.all (·.oneCell') = true) := all_one (u64s_one _)
      clear hrow hbe HZ
      go_wp2_with (first | (refine wpList_load_row rfl 129 (.tmp 5) rfl (w.heap.size + 1) rfl 129 (u64s (sq (fun i => chunk 64 (L i) q))).toArray (0, 0) _ HR.out Tryd.underlying129 rfl HU.out ?_) | (refine wpList_store_own rfl 129 (.tmp 4) (.tmp 20) rfl w.heap.size rfl (u64s (sq (fun i => chunk 64 (L i) q))).toArray rfl 129 _ HO1.out HU.out Hz.out H1.out ?_))
      refine ret_row Tryd.results68 w.heap.size 129 (u64s (sq (fun i => chunk 64 (L i) q))).toArray rfl ?_ Tryd.underlying129 HU.out rfl ⟨rfl, ?_⟩
      · exact setRow_heap wr w.heap.size _ _ 129 _ HO1.out
      · exact below_setRow (W3.out.trans (HB.out.mono (by omega))) (Nat.le_refl _) _
end Go.Proofs.YtlkkninnfiaedaaDoor.T

namespace Go.Proofs.YtlkkninnfiaedaaDoor.T
open Go.RowKit
set_option maxRecDepth 100000
attribute [local go_sem] not_any

/- rows of the call's own -/
def rcs (R : Nat → Nat → Nat) (n : Nat) : List Value := (List.range (n * 2)).map fun x => .int .u64 (R (x / 2) (x % 2) : Nat)
def rrow (R : Nat → Nat → Nat) (n : Nat) : Obj := .cells (rcs R n).toArray 24 (0, 0)
theorem rcs_get {R : Nat → Nat → Nat} {n x : Nat} (h : x < n * 2) : (rcs R n)[x]? = some (.int .u64 (R (x / 2) (x % 2) : Nat)) := by simp [rcs, h]
theorem rcs_length (R : Nat → Nat → Nat) (n : Nat) : (rcs R n).length = n * 2 := by simp [rcs]
theorem rcs_congr {R S : Nat → Nat → Nat} {n : Nat} (h : ∀ j p, j < n → p < 2 → R j p = S j p) : rcs R n = rcs S n := List.map_congr_left fun x hx => by
  have := List.mem_range.1 hx
  rw [h (x / 2) (x % 2) (by omega) (by omega)]
theorem rcs_set {R : Nat → Nat → Nat} {n j p : Nat} (v : Nat) (hp : p < 2) : (rcs R n).set (j * 2 + p) (.int .u64 (v : Int)) = rcs (fun j' p' => if j' = j ∧ p' = p then v else R j' p') n := by
  refine List.ext_getElem? fun x => ?_
  by_cases hx : x < n * 2
  · rw [rcs_get hx, List.getElem?_set, rcs_length]
    by_cases e : j * 2 + p = x
    · rw [if_pos e, if_pos (by omega), if_pos (by omega)]
    · rw [if_neg e, rcs_get hx, if_neg (by omega)]
  · rw [List.getElem?_eq_none (by rw [List.length_set, rcs_length]; omega), List.getElem?_eq_none (by rw [rcs_length]; omega)]
theorem rrow_cell {w : World} {g j p n : Nat} {R : Nat → Nat → Nat} (h : w.heap[g]? = some (rrow R n)) (hj : j < n) (hp : p < 2) : w.cell? ⟨g, j * 2 + p, none⟩ = some (.int .u64 (R j p : Nat)) := by
  rw [cell_of_row w g _ _ _ (0, 0) h]
  simp only [List.getElem?_toArray]
  rw [rcs_get (by omega), show (j * 2 + p) / 2 = j by omega, show (j * 2 + p) % 2 = p by omega]
theorem rrow_set {w : World} {g j p v n : Nat} {R : Nat → Nat → Nat} (h : w.heap[g]? = some (rrow R n)) (hp : p < 2) : (w.setCell ⟨g, j * 2 + p, none⟩ (.int .u64 (v : Int))).heap[g]? = some (rrow (fun j' p' => if j' = j ∧ p' = p then v else R j' p') n) := by
  rw [heap_setCell_same w g _ _ _ _ h]
  unfold rrow
  rw [← rcs_set v hp]
  congr 2
  simp
theorem rrow_rws {w : World} {g n : Nat} {R : Nat → Nat → Nat} (h : w.heap[g]? = some (rrow R n)) (hlt : ∀ j p, R j p < 18446744073709551616) : Rws w n (some ⟨g, 0, none⟩) R :=
  ⟨fun j hj => ⟨g, 0, rfl, by rw [Nat.zero_add]; exact rrow_cell (p := 0) h hj (by omega), by rw [Nat.zero_add]; exact rrow_cell (p := 1) h hj (by omega)⟩, hlt⟩
theorem make_rows (m : Nat) (hm : m ≤ 65536) (w : World) : (Instr.makeSlice 25 (.int .i64 (m : Int)) (.int .i64 (m : Int))).run Tryd.prog w = .ok (.slice (some ⟨w.heap.size, 0, none⟩) m m) (w.alloc (rrow (fun _ _ => 0) m)) := by
  have hi : (Tryd.prog.info? 24).map (fun i => (i.zero, i.size, i.bytes)) = some (some (.agg #[.int .u64 0, .int .u64 0]), 2, 16) := by kernel_rfl
  obtain ⟨i0, hi, hz0, hz1, hz2⟩ := info_parts hi
  have h := run_make (P := Tryd.prog) w 25 24 i0 _ Tryd.underlying25 hi hz0 .i64 .i64 (m : Int) (m : Int) (by omega) (by omega) (by rw [hz2]; omega) (by omega)
  rw [h, hz1]
  have e : madeCells (Value.agg #[.int .u64 0, .int .u64 0]).cells ((m : Int).toNat * 2) = (rcs (fun _ _ => 0) m).toArray := by
    apply Array.ext
    · simp [madeCells, rcs]
    · intro j h1 h2
      have : j % 2 = 0 ∨ j % 2 = 1 := by omega
      rcases this with e | e <;> simp [madeCells, rcs, Value.cells, e]
  rw [e]
  rfl

def rowsTo (R : Nat → Nat → Nat) (p b : Nat) (f : Nat → Nat) (k j p' : Nat) : Nat := if p' = p ∧ b * 64 ≤ j ∧ j < b * 64 + k then f (j - b * 64) else R j p'
structure Kpr (w w' : World) (g : Nat) : Prop where
  bel : Below g w w'
  oth : ∀ k, k < w.heap.size → k ≠ g → w'.heap[k]? = w.heap[k]?

set_option maxHeartbeats 2000000 in
theorem toRows_any (t : TypeId) (w : World) (gs gr n p b : Nat) (f : Nat → Nat) (R : Nat → Nat → Nat) (hs : w.heap[gs]? = some (row64 t (sq f))) (hr : w.heap[gr]? = some (rrow R n)) (hne : gs ≠ gr) (h1 : b * 64 < n) (h2 : n ≤ 65536) (hp : p < 2) :
    Calls Tryd.prog 70 #[.pointer (some ⟨gs, 0, none⟩), .slice (some ⟨gr, 0, none⟩) n n, .int .i64 p, .int .i64 b] w fun e w' => e = .returned (.tuple #[]) ∧ w'.heap[gr]? = some (rrow (rowsTo R p b f 64) n) ∧ Kpr w w' gr := by
  have HI := fun w => hide1 (inBlock_any w gr 0 n n b h1 (by omega) (Nat.le_refl _))
  obtain ⟨m, hm⟩ : ∃ m, m = min 64 (n - b * 64) := ⟨_, rfl⟩
  obtain ⟨O, hO⟩ : ∃ O, O = 0 + b * 64 * 2 := ⟨_, rfl⟩
  obtain ⟨c', hc'⟩ : ∃ c', c' = n - b * 64 := ⟨_, rfl⟩
  rw [← hm, ← hO, ← hc'] at HI
  have m64 : m ≤ 64 := by omega
  have HM := hide1 hm
  have HO := hide1 hO
  have HS := hide1 hs
  have HR := hide1 hr
  clear hs hr hm hO hc'
  have hp' : (p : Int) < 2 := by omega
  go_enter Tryd.func70, Tryd.ntmps70
  go_wp2_with fail
  go_at_call 93
  refine (HI _).out.mono ?_
  rintro e w' ⟨rfl, rfl⟩
  go_wp2
  go_loopw [15] (fun i wr => ∃ k : Nat, k ≤ m ∧ i = .int .i64 k ∧ wr.heap[gr]? = some (rrow (rowsTo R p b f k) n) ∧ Kpr w' wr gr) (fun i _ => m - (intOf i).toNat)
  case atStart =>
    refine ⟨0, Nat.zero_le _, rfl, ?_, ⟨Below.refl _ _, fun _ _ _ => rfl⟩⟩
    rw [HR.out]
    unfold rrow
    rw [show rcs R n = rcs (rowsTo R p b f 0) n from rcs_congr (fun j p' _ _ => (if_neg (by omega) : rowsTo R p b f 0 j p' = R j p').symm)]
  case round =>
    obtain ⟨k, hk, rfl, hrow, hK⟩ := hrel
    have HW := hide1 hrow
    have HK := hide1 hK
    by_cases hlt : k < m
    · have hs := (hK.oth gs (lt_heap HS.out) hne).trans HS.out
      have c1 := cell64 hs (sq_get (show k < 64 by omega))
      have c2 := rrow_cell (j := b * 64 + k) hrow (by have := HM.out; omega) hp
      have eO : (b * 64 + k) * 2 + p = O + k * 2 + p := by have := HO.out; omega
      have HN := hide1 (rrow_set (j := b * 64 + k) (v := f k) hrow hp)
      rw [eO] at c2 HN
      have f2 := frozen_of_row wr gr (O + k * 2 + p) _ _ hrow
      obtain ⟨x, hx⟩ : ∃ x, x = f k := ⟨_, rfl⟩
      obtain ⟨y, hy⟩ : ∃ y, y = rowsTo R p b f k (b * 64 + k) p := ⟨_, rfl⟩
      rw [← hx] at c1 HN
      rw [← hy] at c2
      have HX := hide1 hx
      clear hrow hK hs eO hx hy
      go_wp2
      go_region
      go_wp2
      go_roundw
      case rel =>
        refine ⟨k + 1, by omega, by go_num, ?_, ⟨(HK.out.bel.drew).setCell (Nat.le_refl _) _, fun q hq hqn => ?_⟩⟩
        · have h9 := HN.out
          refine Eq.trans (b := some (rrow (fun j' p' => if j' = b * 64 + k ∧ p' = p then x else rowsTo R p b f k j' p') n)) h9 ?_
          unfold rrow
          rw [rcs_congr (fun j p' _ _ => ?_)]
          unfold rowsTo
          by_cases e : j = b * 64 + k ∧ p' = p
          · rw [if_pos e, if_pos (by omega), HX.out, e.1, Nat.add_sub_cancel_left]
          · rw [if_neg e]
            by_cases e2 : p' = p ∧ b * 64 ≤ j ∧ j < b * 64 + k
            · rw [if_pos e2, if_pos (by omega)]
            · rw [if_neg e2, if_neg (by omega)]
        · exact (heap_setCell_other wr.drew ⟨gr, O + k * 2 + p, none⟩ q _ hqn).trans (HK.out.oth q hq hqn)
      case measure => simp [intOf]; omega
    · obtain rfl : k = m := by omega
      clear hrow hK
      go_wp2
      go_end0
      refine ⟨rfl, ?_, HK.out⟩
      rw [HW.out]
      unfold rrow
      rw [rcs_congr (fun j p' hj _ => ?_)]
      unfold rowsTo
      by_cases e2 : p' = p ∧ b * 64 ≤ j ∧ j < b * 64 + k
      · rw [if_pos e2, if_pos (by omega)]
      · rw [if_neg e2, if_neg (by have := HM.out; omega)]
end Go.Proofs.YtlkkninnfiaedaaDoor.T

namespace Go.Proofs.YtlkkninnfiaedaaDoor.T
open Go.RowKit
set_option maxRecDepth 100000
attribute [local go_sem] not_any

def rowV (L : Nat → List Bool) (j p : Nat) : Nat := turned (fun i => chunk 64 (L (p * 64 + i)) (j / 64)) (j % 64)
theorem rowV_lt (L : Nat → List Bool) (j p : Nat) : rowV L j p < 18446744073709551616 := turned_lt (fun i _ => chunk64_lt _ _) (Nat.mod_lt _ (by omega))
theorem rowV_bit (L : Nat → List Bool) (j p b : Nat) (hb : b < 64) : (rowV L j p).testBit b = (L (p * 64 + b)).getD j false := by
  rw [rowV, turned_bit (Nat.mod_lt _ (by omega)) hb, chunk_testBit, decide_eq_true (Nat.mod_lt _ (by omega)), Bool.true_and, show 64 * (j / 64) + j % 64 = j by omega]
def rst (L : Nat → List Bool) (p b j p' : Nat) : Nat := if p' < p ∨ (p' = p ∧ j < b * 64) then rowV L j p' else 0
theorem rst_next (L : Nat → List Bool) (p b j p' : Nat) : rowsTo (rst L p b) p b (turned (fun i => chunk 64 (L (p * 64 + i)) b)) 64 j p' = rst L p (b + 1) j p' := by
  unfold rowsTo rst
  by_cases h : p' = p ∧ b * 64 ≤ j ∧ j < b * 64 + 64
  · rw [if_pos h, if_pos (by omega), rowV, h.1, show j / 64 = b by omega, show j % 64 = j - b * 64 by omega]
  · rw [if_neg h]
    by_cases h2 : p' < p ∨ (p' = p ∧ j < b * 64)
    · rw [if_pos h2, if_pos (by omega)]
    · rw [if_neg h2, if_neg (by omega)]
theorem rst_over (L : Nat → List Bool) {p nb j p' N : Nat} (hj : j < N) (hN : N ≤ nb * 64) : rst L p nb j p' = rst L (p + 1) 0 j p' := by
  unfold rst
  by_cases h2 : p' < p + 1
  · rw [if_pos (by omega), if_pos (.inl h2)]
  · rw [if_neg (by omega), if_neg (by omega)]
theorem Hrow.kpr {w w' : World} {g m k n gr : Nat} {aa : Nat → Option Addr} {L : Nat → List Bool} (h : Hrow w g m k n aa L) (hk : Kpr w w' gr) (hg : gr < g) : Hrow w' g m k n aa L := by
  obtain ⟨vs, h1, h2, h3⟩ := h.row
  refine ⟨⟨vs, h1, (hk.oth g (lt_heap h2) (by omega)).trans h2, h3⟩, fun i hi => (h.vc i hi).kept (fun q hq => ?_)⟩
  rcases (h.vc i hi).at' with ⟨_, e⟩ | ⟨q', e, hq1, hq2⟩
  · rw [e] at hq; cases hq
  · rw [e] at hq
    cases hq
    exact hk.oth _ (lt_heap hq2) (by omega)

theorem rows_no (w : World) (m c : Nat) (a : Option Addr) (n : Nat → Nat) (aa : Nat → Option Addr) (L : Nat → List Bool) (hv : Vcs w m a n aa L) (hm : m ≤ 4096) (he : evn m n = false) :
    Calls Tryd.prog 47 #[.slice a m c] w fun e w' => e = .returned (.tuple #[.slice none 0 0, .int .i64 11]) ∧ Below w.heap.size w w' := by
  have k := hide1 (even_any w m c a n aa L hv hm)
  rw [he] at k
  go_enter Tryd.func47, Tryd.ntmps47
  go_wp2_with fail
  go_at_call 65
  refine k.out.mono ?_
  rintro e w1 ⟨rfl, hb⟩
  have HB := hide1 hb
  clear hb k
  go_wp2
  go_ret2
  exact ⟨rfl, HB.out⟩

set_option maxHeartbeats 4000000 in
theorem rows_yes (w : World) (N c : Nat) (a : Option Addr) (n : Nat → Nat) (aa : Nat → Option Addr) (L : Nat → List Bool) (hv : Vcs w 128 a n aa L) (hc : 128 ≤ c) (hn : ∀ i, i < 128 → n i = N) (hN : N ≤ 65536) :
    Calls Tryd.prog 47 #[.slice a 128 c] w fun e w' => ∃ g, e = .returned (.tuple #[.slice (some ⟨g, 0, none⟩) N N, .int .i64 0]) ∧ w'.heap[g]? = some (rrow (rowV L) N) ∧ Below w.heap.size w w' := by
  have k := hide1 (even_any w 128 c a n aa L hv (by omega))
  rw [show evn 128 n = true from decide_eq_true ⟨rfl, fun i hi => (hn i hi).trans (hn 0 (by omega)).symm⟩] at k
  obtain ⟨g, o, rfl, hgl, hcs⟩ := hv.first (by omega)
  have hc0 := hcs 0 (by omega)
  rw [hn 0 (by omega), Nat.zero_mul, Nat.add_zero] at hc0
  obtain ⟨a0, ha0⟩ : ∃ a0, a0 = aa 0 := ⟨_, rfl⟩
  rw [← ha0] at hc0
  obtain ⟨nb, hnb⟩ : ∃ nb, nb = need N 64 := ⟨_, rfl⟩
  have hnb1 : nb = (N + 63) / 64 := by rw [hnb, need64]
  have kN : ∀ w, Hid (Calls Tryd.prog 67 #[.int .i64 N, .int .i64 64] w fun e w' => e = .returned (.int .i64 (nb : Nat)) ∧ w' = w) := fun w => by rw [hnb]; exact tneeded_any N 64 w (by omega) (.inr rfl)
  have HNE : Shy (nb = need N 64) := ⟨hnb⟩
  have HNB : Shy (nb = (N + 63) / 64) := ⟨hnb1⟩
  have HV := hide1 hv
  have HN := hide1 hn
  have kL := fun w => hide1 (len_any (N : Int) (.slice a0 (need N 64) (need N 64)) w rfl)
  clear hv hn hcs ha0 hnb1 hnb
  go_enter Tryd.func47, Tryd.ntmps47
  go_wp2_with fail
  go_at_call 65
  refine k.out.mono ?_
  rintro e w1 ⟨rfl, hb1⟩
  have d0 := (hb1.cell (p := ⟨g, o, none⟩) hgl).trans hc0.1
  have d1 := (hb1.cell (p := ⟨g, o + 1, none⟩) hgl).trans hc0.2
  clear k hc0
  go_wp2_with fail
  go_at_call 17
  refine (kL _).out.mono ?_
  rintro e w2 ⟨rfl, hw2⟩
  have hb2 : Below w.heap.size w w2 := by rw [hw2]; exact hb1.alloc hb1.size _
  have hmk := make_rows N hN w2
  clear d0 d1 kL hw2
  obtain ⟨gr, hgr⟩ : ∃ gr, gr = w2.heap.size := ⟨_, rfl⟩
  rw [← hgr] at hmk
  obtain ⟨W0, hW0⟩ : ∃ W0, W0 = w2.alloc (rrow (fun _ _ => 0) N) := ⟨_, rfl⟩
  have A0 : Hid (W0.heap[gr]? = some (rrow (rst L 0 0) N)) := by
    rw [hW0, hgr, heap_alloc_new]
    unfold rrow
    rw [show rcs (fun _ _ => 0) N = rcs (rst L 0 0) N from rcs_congr (fun j p _ _ => (if_neg (by omega) : rst L 0 0 j p = 0).symm)]
    rfl
  have A1 : Hid (Below w.heap.size w W0) := by rw [hW0]; exact hb2.alloc hb2.size _
  have hle : w.heap.size ≤ gr := by rw [hgr]; exact hb2.size
  rw [← hW0] at hmk
  clear hW0 hgr hb2 hb1
  go_upto_region 4 with (fail)
  clear hmk
  go_wp2
  go_loopw [17] (fun i wr => ∃ p : Nat, p ≤ 2 ∧ i = .int .i64 p ∧ wr.heap[gr]? = some (rrow (rst L p 0) N) ∧ Below w.heap.size w wr) (fun i _ => 2 - (intOf i).toNat)
  case atStart => exact ⟨0, Nat.zero_le _, rfl, A0.out, A1.out⟩
  case round =>
    obtain ⟨p, hp, rfl, hrow, hbe⟩ := hrel
    clear A0 A1
    have HR := hide1 hrow
    have HB := hide1 hbe
    by_cases hlt : p < 2
    · have hlt' : (p : Int) < 2 := by omega
      obtain ⟨off, hoff⟩ : ∃ off, off = p * 64 := ⟨_, rfl⟩
      obtain ⟨of2, hof2⟩ : ∃ of2, of2 = off + 64 := ⟨_, rfl⟩
      have q1 : IntKind.i64.wrap ((p : Int) * 64) = (off : Int) := by rw [IntKind.wrap_i64]; omega
      have q1' : (p : Int) * 64 = (off : Int) := by omega
      have q2 : ((p : Int) + 1) * 64 = (of2 : Int) := by omega
      have q2' : IntKind.i64.wrap (((p : Int) + 1) * 64) = (of2 : Int) := by rw [IntKind.wrap_i64]; omega
      have q3 : of2 - off = 64 := by omega
      have q4 : off ≤ of2 := by omega
      have q5 : of2 ≤ c := by omega
      have q6 : ¬ c = off := by omega
      have hV := (HV.out.below hbe (Nat.le_refl _)).part (off := off) (c := 64) (by omega) (fun i hi => HN.out (off + i) (by omega))
      have kR := hide1 (traw_any wr N (c - off) _ _ _ hV)
      have HOF := hide1 hoff
      clear hrow hbe hoff hof2 hV
      go_wp2_with fail
      go_at_call 66
      refine kR.out.mono ?_
      rintro e w3 ⟨ab, rfl, hH3, hb3⟩
      have glt := lt_heap HR.out
      have HH := hide1 hH3
      have HR3 : Hid (w3.heap[gr]? = some (rrow (rst L p 0) N)) := (hb3.block _ glt).trans HR.out
      have HB3 := hide1 (HB.out.trans (hb3.mono HB.out.size))
      obtain ⟨gh, hgh⟩ : ∃ gh, gh = wr.heap.size := ⟨_, rfl⟩
      rw [← hgh] at HH glt ⊢
      clear hH3 hb3 kR hgh HR HB q1 q1' q2 q2' q3 q4 q5 q6
      go_wp2_with fail
      go_at_call 67
      refine (kN _).out.mono ?_
      rintro e w' ⟨rfl, rfl⟩
      go_wp2
      go_loopw [31] (fun i wr => ∃ b : Nat, b ≤ nb ∧ i = .int .i64 b ∧ wr.heap[gr]? = some (rrow (rst L p b) N) ∧ Hrow wr gh 64 64 N ab (fun i => L (off + i)) ∧ Below w.heap.size w wr) (fun i _ => nb - (intOf i).toNat)
      case atStart => exact ⟨0, Nat.zero_le _, rfl, HR3.out, HH.out, HB3.out⟩
      case round =>
        obtain ⟨b, hb, rfl, hrow, hH, hbe⟩ := hrel
        clear HR3 HH HB3
        by_cases hlt2 : b < nb
        · have hb64 : b * 64 < N := by have := HNB.out; omega
          have kO := hide1 (ofColumns_any wr N b gh 64 ab _ hH (by rw [← HNE.out]; exact hlt2))
          have HR := hide1 hrow
          have HH := hide1 hH
          have HB := hide1 hbe
          clear hrow hH hbe
          go_wp2_with fail
          go_at_call 68
          refine kO.out.mono ?_
          rintro e w4 ⟨rfl, hb4⟩
          have HF : Hid ((fun i => chunk 64 (L (off + i)) b) = fun i => chunk 64 (L (p * 64 + i)) b) := by rw [HOF.out]; rfl
          have HF2 : Hid (∀ i, i < 64 → (fun i => chunk 64 (L (off + i)) b) i < 18446744073709551616) := fun i _ => chunk64_lt _ _
          obtain ⟨F, hF⟩ : ∃ F, F = fun i => chunk 64 (L (off + i)) b := ⟨_, rfl⟩
          rw [← hF] at HF HF2 ⊢
          clear hF kO
          have HU := hide1 (size57 F)
          have Hz : Hid ((u64s (sq (fun _ => 0))).toArray.size = (u64s (sq F)).toArray.size) := by simp [Hid, u64s, sq]
          have H1 : Hid ((u64s (sq F)).toArray.all (·.oneCell') = true) := all_one (u64s_one _)
          go_upto_region 12 with (first | (refine wpList_store_own rfl 129 (.tmp 8) (.tmp 36) rfl w4.heap.size rfl (u64s (sq F)).toArray rfl 129 _ (heap_alloc_new w4 (row64 129 (sq (fun _ => 0)))) HU.out Hz.out H1.out ?_))
          generalize hW6 : World.setRow _ _ _ = W6
          have y1 : W6.heap[w4.heap.size]? = some (row64 129 (sq F)) := by rw [← hW6]; exact setRow_heap _ _ _ _ 129 _ (heap_alloc_new w4 (row64 129 (sq (fun _ => 0))))
          have y2 : Below w4.heap.size w4 W6 := by rw [← hW6]; exact below_setRow (below_alloc1 _ _) (Nat.le_refl _) _
          obtain ⟨gs, hgs⟩ : ∃ gs, gs = w4.heap.size := ⟨_, rfl⟩
          rw [← hgs] at y1 y2 ⊢
          have kT := hide1 (turn_any 129 W6 gs _ y1 HF2.out)
          have z2 : wr.heap.size ≤ gs := by rw [hgs]; exact hb4.size
          have z3 := hb4.trans (y2.mono z2)
          clear hW6 HU Hz H1 y1 y2 hgs hb4
          go_wp2_with fail
          go_at_call 69
          refine kT.out.mono ?_
          rintro e w5 ⟨rfl, hr5, hb5⟩
          have z5 := z3.trans (hb5.mono z2)
          have gl := lt_heap HR.out
          have hR5 : w5.heap[gr]? = some (rrow (rst L p b) N) := (z5.block _ gl).trans HR.out
          have HH5 := hide1 (HH.out.below z5)
          have HB5 := hide1 (HB.out.trans (z5.mono HB.out.size))
          have kW := hide1 (toRows_any 129 w5 gs gr N p b _ _ hr5 hR5 (by omega) hb64 hN hlt)
          clear z3 z5 hr5 hb5 hR5 kT z2 gl HR HH HB
          go_wp2_with fail
          go_at_call 70
          refine kW.out.mono ?_
          rintro e w6 ⟨rfl, hr6, hk6⟩
          have HR6 := hide1 hr6
          have HK6 := hide1 hk6
          clear hr6 hk6 kW
          go_wp2
          go_roundw
          case rel =>
            refine ⟨b + 1, by omega, by go_num, ?_, HH5.out.kpr HK6.out glt, HB5.out.trans (HK6.out.bel.mono hle)⟩
            have h9 := HR6.out
            rw [h9, HF.out]
            unfold rrow
            rw [rcs_congr (fun j p' _ _ => rst_next L p b j p')]
          case measure => simp [intOf]; omega
        · obtain rfl : b = nb := by omega
          have HR := hide1 hrow
          have HB := hide1 hbe
          clear hrow hH hbe
          go_wp2
          go_roundw
          case rel =>
            refine ⟨p + 1, by omega, by go_num, ?_, HB.out⟩
            rw [HR.out]
            unfold rrow
            rw [rcs_congr (fun j p' hj _ => rst_over L hj (by have := HNB.out; omega))]
          case measure => simp [intOf]; omega
    · obtain rfl : p = 2 := by omega
      clear hrow hbe
      go_wp2
      go_ret2
      refine ⟨gr, rfl, ?_, HB.out⟩
      rw [HR.out]
      unfold rrow
      rw [show rcs (rst L 2 0) N = rcs (rowV L) N from rcs_congr (fun j p' _ hp' => if_pos (.inl hp'))]
end Go.Proofs.YtlkkninnfiaedaaDoor.T
