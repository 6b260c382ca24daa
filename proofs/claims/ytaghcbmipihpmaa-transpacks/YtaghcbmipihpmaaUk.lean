/- The words of columns; a square of columns. -/
import Derived.Test.YtaghcbmipihpmaaUj
namespace Go.Proofs.Ytaghcbmipihpmaa
open Go.RowKit
set_option maxRecDepth 100000
attribute [local go_sem] not_any

theorem Vcs.part {w : World} {m g o c : Nat} {n : Nat → Nat} {aa : Nat → Option Addr} {L : Nat → List Bool} (h : Vcs w m (some ⟨g, o, none⟩) n aa L) {off : Nat} (hm : off + c ≤ m) {N : Nat} (hN : ∀ i, i < c → n (off + i) = N) : Vcs w c (some ⟨g, o + off * 2, none⟩) (fun _ => N) (fun i => aa (off + i)) (fun i => L (off + i)) := by
  refine ⟨fun i hi => ?_, fun i hi => ?_, fun i hi => ?_⟩
  · obtain ⟨g', o', e, c0, c1⟩ := h.at' (off + i) (by omega)
    cases e
    rw [hN i hi] at c0 c1
    refine ⟨g, o + off * 2, rfl, ?_, ?_⟩
    · rw [show o + off * 2 + i * 2 = o + (off + i) * 2 by omega]; exact c0
    · rw [show o + off * 2 + i * 2 + 1 = o + (off + i) * 2 + 1 by omega]; exact c1
  · have := h.vc (off + i) (by omega)
    rw [hN i hi] at this
    exact this
  · have := h.le (off + i) (by omega)
    rw [hN i hi] at this
    exact this

/- heads of words, the first k there -/
structure Hrow (w : World) (g m k n : Nat) (aa : Nat → Option Addr) (L : Nat → List Bool) : Prop where
  row : ∃ vs : List Value, vs.length = m ∧ w.heap[g]? = some (lrow vs) ∧ ∀ i, i < k → vs[i]? = some (.slice (aa i) (need n 64) (need n 64))
  vc : ∀ i, i < k → Vc (g + 1) w n (aa i) (L i)
theorem Hrow.below {w w' : World} {g m k n : Nat} {aa : Nat → Option Addr} {L : Nat → List Bool} (h : Hrow w g m k n aa L) (hb : Below w.heap.size w w') : Hrow w' g m k n aa L := by
  obtain ⟨vs, h1, h2, h3⟩ := h.row
  exact ⟨⟨vs, h1, (hb.block _ (lt_heap h2)).trans h2, h3⟩, fun i hi => (h.vc i hi).below hb (Nat.le_refl _)⟩
theorem Hrow.add {w : World} {g m k n : Nat} {aa : Nat → Option Addr} {L : Nat → List Bool} (h : Hrow w g m k n aa L) (hk : k < m) {av : Option Addr} (hv : Vc (g + 1) w n av (L k)) :
    Hrow (w.setCell ⟨g, k, none⟩ (.slice av (need n 64) (need n 64))) g m (k + 1) n (fun i => if i = k then av else aa i) L := by
  obtain ⟨vs, h1, h2, h3⟩ := h.row
  refine ⟨⟨_, ?_, lrow_set h2, fun i hi => ?_⟩, fun i hi => ?_⟩
  · rw [List.length_set]; exact h1
  · by_cases e : i = k
    · rw [if_pos e, e, List.getElem?_set_self (by omega)]
    · rw [if_neg e, List.getElem?_set_ne (by omega)]; exact h3 i (by omega)
  · by_cases e : i = k
    · simp only [if_pos e]; rw [e]; exact hv.setCell (by simp) _
    · simp only [if_neg e]; exact (h.vc i (by omega)).setCell (by simp) _
theorem Hrow.cells {w : World} {g m k n : Nat} {aa : Nat → Option Addr} {L : Nat → List Bool} (h : Hrow w g m k n aa L) {j : Nat} (hj : j < m) : (∃ v, w.cell? ⟨g, j, none⟩ = some v) ∧ w.frozen? ⟨g, j, none⟩ = false ∧ g < w.heap.size := by
  obtain ⟨vs, h1, h2, _⟩ := h.row
  exact ⟨⟨vs[j]'(by omega), lrow_cell h2 (List.getElem?_eq_getElem (by omega))⟩, frozen_of_row w g j _ _ h2, lt_heap h2⟩
theorem Hrow.at {w : World} {g m k n : Nat} {aa : Nat → Option Addr} {L : Nat → List Bool} (h : Hrow w g m k n aa L) {i : Nat} (hi : i < k) : w.cell? ⟨g, i, none⟩ = some (.slice (aa i) (need n 64) (need n 64)) := by
  obtain ⟨vs, _, h2, h3⟩ := h.row
  exact lrow_cell h2 (h3 i hi)

set_option maxHeartbeats 2000000 in
theorem traw_any (w : World) (n c : Nat) (a : Option Addr) (ab : Nat → Option Addr) (L : Nat → List Bool) (hv : Vcs w 64 a (fun _ => n) ab L) :
    Calls Try.prog 30 #[.slice a 64 c] w fun e w' => ∃ aa, e = .returned (.slice (some ⟨w.heap.size, 0, none⟩) 64 64) ∧ Hrow w' w.heap.size 64 64 n aa L ∧ Below w.heap.size w w' := by
  obtain ⟨g, o, rfl, hgl, hc⟩ := hv.first (by omega)
  have hmk := make_lists 64 (by omega) w
  rw [show ((64 : Nat) : Int) = 64 from rfl] at hmk
  have HC := hide1 hc
  have HV := hide1 hv
  clear hc hv
  obtain ⟨W0, hW0⟩ : ∃ W0, W0 = w.alloc (lrow (List.replicate 64 (.slice none 0 0))) := ⟨_, rfl⟩
  have A0 : Hid (Hrow W0 w.heap.size 64 0 n (fun _ => none) L) := ⟨⟨List.replicate 64 (.slice none 0 0), by simp, by rw [hW0]; exact heap_alloc_new _ _, fun i hi => by omega⟩, fun i hi => by omega⟩
  have A1 : Hid (Below w.heap.size w W0) := by rw [hW0]; exact below_alloc1 _ _
  rw [← hW0] at hmk
  clear hW0
  obtain ⟨gh, hg⟩ : ∃ gh, gh = w.heap.size := ⟨_, rfl⟩
  have HG := hide1 hg
  rw [← hg] at hmk A0 A1 hgl
  clear hg
  go_enter Try.func30, Try.ntmps30
  go_wp2
  clear hmk
  go_loopw [11] (fun i wr => ∃ (k : Nat) (aa : Nat → Option Addr), k ≤ 64 ∧ i = .int .i64 k ∧ Hrow wr gh 64 k n aa L ∧ Below gh w wr) (fun i _ => 64 - (intOf i).toNat)
  case atStart => exact ⟨0, _, Nat.zero_le _, rfl, A0.out, A1.out⟩
  case round =>
    obtain ⟨k, aa, hk, rfl, hH, hB⟩ := hrel
    clear A0 A1
    have HH := hide1 hH
    have HB := hide1 hB
    clear hH
    by_cases hlt : k < 64
    · have d0 := (hB.cell (p := ⟨g, o + k * 2, none⟩) hgl).trans (HC.out k hlt).1
      have d1 := (hB.cell (p := ⟨g, o + k * 2 + 1, none⟩) hgl).trans (HC.out k hlt).2
      have hv : Vc 0 wr n (ab k) (L k) := by
        have h9 := HB.out
        rw [HG.out] at h9
        exact (HV.out.vc k hlt).below h9 (Nat.le_refl _)
      obtain ⟨ak, hak⟩ : ∃ ak, ak = ab k := ⟨_, rfl⟩
      rw [← hak] at d1 hv
      clear hak hB
      have gl := (HH.out.cells (j := 0) (by omega)).2.2
      have V1 := hide1 (hv.alloc (.cells #[.int .i64 n, .slice ak (need n 64) (need n 64)] 32))
      have H1 := hide1 (HH.out.below (below_alloc1 wr (.cells #[.int .i64 n, .slice ak (need n 64) (need n 64)] 32)))
      have B1 := hide1 (HB.out.alloc (Nat.le_of_lt gl) (.cells #[.int .i64 n, .slice ak (need n 64) (need n 64)] 32))
      obtain ⟨e0, e1, _⟩ := box2 (heap_alloc_new wr (.cells #[.int .i64 n, .slice ak (need n 64) (need n 64)] 32))
      have hle := HV.out.le k hlt
      clear hv
      go_upto_region 5 with (fail)
      generalize wr.alloc (.cells #[.int .i64 n, .slice ak (need n 64) (need n 64)] 32) = W4 at *
      have kR := hide1 (raw_any 0 W4 n ak (L k) V1.out hle)
      clear d0 d1 V1
      go_wp2_with fail
      go_at_call 50
      refine kR.out.mono ?_
      rintro e w2 ⟨av, rfl, hv2, hb2⟩
      have H2 := hide1 (H1.out.below hb2)
      have gl4 := (H1.out.cells (j := 0) (by omega)).2.2
      have B2 := hide1 (B1.out.trans (hb2.mono (Nat.le_of_lt gl4)))
      have V2 : Hid (Vc (gh + 1) w2 n av (L k)) := hv2.mono gl4
      obtain ⟨⟨y, f0⟩, f1, f2⟩ := H2.out.cells hlt
      clear hv2 hb2 kR e0 e1 H1 B1
      go_wp2
      go_roundw
      case rel => exact ⟨k + 1, _, by omega, by go_num, H2.out.add hlt V2.out, B2.out.setCell (Nat.le_refl _) _⟩
      case measure => simp [intOf]; omega
    · obtain rfl : k = 64 := by omega
      go_wp2
      go_ret
      rw [← HG.out]
      exact ⟨aa, rfl, HH.out, HB.out⟩

set_option maxHeartbeats 2000000 in
theorem ofColumns_any (w : World) (n q gh c : Nat) (aa : Nat → Option Addr) (L : Nat → List Bool) (hH : Hrow w gh 64 64 n aa L) (hq : q < need n 64) :
    Calls Try.prog 31 #[.slice (some ⟨gh, 0, none⟩) 64 c, .int .i64 q] w fun e w' => e = .returned (.agg (u64s (sq (fun i => chunk 64 (L i) q))).toArray) ∧ Below w.heap.size w w' := by
  have HH := hide1 hH
  clear hH
  go_enter Try.func31, Try.ntmps31
  go_upto_region 2 with (fail)
  generalize hW : World.alloc (World.alloc w _) _ = W
  have w1 : W.heap[w.heap.size]? = some (row64 57 (sq (fun _ => 0))) := by rw [← hW]; exact heap_alloc2_old _ _ _
  have w2 : W.heap[w.heap.size + 1]? = some (row64 57 (sq (fun _ => 0))) := by rw [← hW]; exact heap_alloc2_new _ _ _
  have w3 : Below w.heap.size w W := by rw [← hW]; exact ((Below.refl _ _).alloc (Nat.le_refl _) _).alloc (by simp) _
  have W1 := hide1 w1
  have W2 := hide1 w2
  have W3 := hide1 w3
  clear hW w1 w2 w3
  go_wp2
  go_loopw [7] (fun i wr => ∃ k : Nat, k ≤ 64 ∧ i = .int .i64 k ∧ wr.heap[w.heap.size + 1]? = some (row64 57 (sq (upTo (fun i => chunk 64 (L i) q) k))) ∧ Below (w.heap.size + 1) W wr) (fun i _ => 64 - (intOf i).toNat)
  case atStart =>
    refine ⟨0, Nat.zero_le _, rfl, ?_, Below.refl _ _⟩
    rw [← sq_zero]
    exact W2.out
  case round =>
    obtain ⟨k, hk, rfl, hrow, hbe⟩ := hrel
    by_cases hlt : k < 64
    · have hbw : Below w.heap.size w wr := W3.out.trans (hbe.mono (by omega))
      have hH := HH.out.below hbw
      have c1 := hH.at hlt
      have hvk := hH.vc k hlt
      obtain ⟨g, hag, _, _, c2⟩ := hvk.cell hq
      have c3 := cell64 hrow (sq_get hlt)
      have f3 := frozen_of_row wr (w.heap.size + 1) k _ _ hrow
      obtain ⟨x, hx⟩ : ∃ x, x = chunk 64 (L k) q := ⟨_, rfl⟩
      rw [hag] at c1
      rw [← hx] at c2
      have HX := hide1 hx
      have HR := hide1 hrow
      have HB := hide1 hbe
      clear hrow hbe hbw hH hvk hag hx
      go_wp2
      go_roundw
      case rel =>
        refine ⟨k + 1, by omega, by go_num, ?_, HB.out.setCell (Nat.le_refl _) _⟩
        rw [sq_upTo, ← HX.out]
        exact set64 HR.out
      case measure => simp [intOf]; omega
    · obtain rfl : k = 64 := by omega
      have HZ : Hid (sq (upTo (fun i => chunk 64 (L i) q) 64) = sq (fun i => chunk 64 (L i) q)) := sq_congr fun i hi => if_pos hi
      rw [HZ.out] at hrow
      have HR := hide1 hrow
      have HB := hide1 hbe
      have HO1 : Hid (wr.heap[w.heap.size]? = some (row64 57 (sq (fun _ => 0)))) := (hbe.block _ (by omega)).trans W1.out
      have HU := hide1 (size57 (fun i => chunk 64 (L i) q))
      have Hz : Hid ((u64s (sq (fun _ => 0))).toArray.size = (u64s (sq (fun i => chunk 64 (L i) q))).toArray.size) := by simp [Hid, u64s, sq]
      have H1 : Hid ((u64s (sq (fun i => chunk 64 (L i) q))).toArray.all (·.oneCell') = true) := all_one (u64s_one _)
      clear hrow hbe HZ
      go_wp2_with (first | (refine wpList_load_row rfl 57 (.tmp 5) rfl (w.heap.size + 1) rfl 57 (u64s (sq (fun i => chunk 64 (L i) q))).toArray (0, 0) _ HR.out Try.underlying57 rfl HU.out ?_) | (refine wpList_store_own rfl 57 (.tmp 4) (.tmp 20) rfl w.heap.size rfl (u64s (sq (fun i => chunk 64 (L i) q))).toArray rfl 57 _ HO1.out HU.out Hz.out H1.out ?_))
      refine ret_row Try.results31 w.heap.size 57 (u64s (sq (fun i => chunk 64 (L i) q))).toArray rfl ?_ Try.underlying57 HU.out rfl ⟨rfl, ?_⟩
      · exact setRow_heap wr w.heap.size _ _ 57 _ HO1.out
      · exact below_setRow (W3.out.trans (HB.out.mono (by omega))) (Nat.le_refl _) _
end Go.Proofs.Ytaghcbmipihpmaa
