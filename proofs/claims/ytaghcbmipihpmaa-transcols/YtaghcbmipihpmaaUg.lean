/- Columns collected, of Cols and of Unpack. -/
import Derived.Test.YtaghcbmipihpmaaUe
namespace Go.Proofs.Ytaghcbmipihpmaa
open Go.RowKit
set_option maxRecDepth 100000
attribute [local go_sem] not_any mf_any

/- what one column's maker tells -/
def TellP (n : Nat) (L : Nat → List Bool) (E : Nat → Nat) (i : Nat) (W : World) (e : Ending) (w' : World) : Prop :=
  ∃ (x : Nat) (av : Option Addr) (m : Nat), e = .returned (.tuple #[.agg #[.int .i64 x, .slice av m m], .int .i64 (E i : Nat)]) ∧ Below W.heap.size W w' ∧ (E i = 0 → x = n ∧ m = need n 64 ∧ Vc W.heap.size w' n av (L i))
structure Got (w w' : World) (n : Nat) (L : Nat → List Bool) (E : Nat → Nat) (e : Ending) : Prop where
  bel : Below w.heap.size w w'
  is : (∃ k, k < 128 ∧ (∀ i, i < k → E i = 0) ∧ E k ≠ 0 ∧ e = .returned (.tuple #[.slice none 0 0, .int .i64 (E k : Nat)])) ∨ ((∀ i, i < 128 → E i = 0) ∧ ∃ g aa, e = .returned (.tuple #[.slice (some ⟨g, 0, none⟩) 128 128, .int .i64 0]) ∧ Vcs w' 128 (some ⟨g, 0, none⟩) (fun _ => n) aa L)
/- the row of Vecs, the first k of them there -/
structure Vrow (w : World) (g k n : Nat) (aa : Nat → Option Addr) (L : Nat → List Bool) : Prop where
  row : ∃ cs : Array Value, cs.size = 256 ∧ w.heap[g]? = some (.cells cs 32 (0, 0)) ∧ ∀ i, i < k → cs[i * 2]? = some (.int .i64 n) ∧ cs[i * 2 + 1]? = some (.slice (aa i) (need n 64) (need n 64))
  vc : ∀ i, i < k → Vc (g + 1) w n (aa i) (L i)
theorem Vrow.below {w w' : World} {g k n : Nat} {aa : Nat → Option Addr} {L : Nat → List Bool} (h : Vrow w g k n aa L) (hb : Below w.heap.size w w') : Vrow w' g k n aa L := by
  obtain ⟨cs, h1, h2, h3⟩ := h.row
  exact ⟨⟨cs, h1, (hb.block _ (lt_heap h2)).trans h2, h3⟩, fun i hi => (h.vc i hi).below hb (Nat.le_refl _)⟩
theorem Vrow.add {w : World} {g k n : Nat} {aa : Nat → Option Addr} {L : Nat → List Bool} (h : Vrow w g k n aa L) (hk : k < 128) {av : Option Addr} (hv : Vc (g + 1) w n av (L k)) :
    Vrow ((w.setCell ⟨g, k * 2, none⟩ (.int .i64 n)).setCell ⟨g, k * 2 + 1, none⟩ (.slice av (need n 64) (need n 64))) g (k + 1) n (fun i => if i = k then av else aa i) L := by
  obtain ⟨cs, h1, h2, h3⟩ := h.row
  refine ⟨⟨_, ?_, heap_setCell_same _ g (k * 2 + 1) _ _ _ (heap_setCell_same w g (k * 2) _ _ _ h2), fun i hi => ?_⟩, fun i hi => ?_⟩
  · simp [h1]
  · by_cases e : i = k
    · subst e
      rw [if_pos rfl]
      constructor
      · rw [Array.getElem?_setIfInBounds_ne (by omega), Array.getElem?_setIfInBounds_self_of_lt (by omega)]
      · rw [Array.getElem?_setIfInBounds_self_of_lt (by simp; omega)]
    · have := h3 i (by omega)
      rw [if_neg e]
      constructor
      · rw [Array.getElem?_setIfInBounds_ne (by omega), Array.getElem?_setIfInBounds_ne (by omega)]; exact this.1
      · rw [Array.getElem?_setIfInBounds_ne (by omega), Array.getElem?_setIfInBounds_ne (by omega)]; exact this.2
  · by_cases e : i = k
    · simp only [if_pos e]
      rw [e]
      exact (hv.setCell (by simp) _).setCell (by simp) _
    · simp only [if_neg e]
      exact ((h.vc i (by omega)).setCell (by simp) _).setCell (by simp) _
theorem Vrow.cells {w : World} {g k n : Nat} {aa : Nat → Option Addr} {L : Nat → List Bool} (h : Vrow w g k n aa L) {j : Nat} (hj : j < 256) : (∃ v, w.cell? ⟨g, j, none⟩ = some v) ∧ w.frozen? ⟨g, j, none⟩ = false ∧ g < w.heap.size := by
  obtain ⟨cs, h1, h2, _⟩ := h.row
  refine ⟨⟨cs[j]'(by omega), ?_⟩, frozen_of_row w g j _ _ h2, lt_heap h2⟩
  rw [cell_of_row w g j _ _ _ h2, Array.getElem?_eq_getElem (by omega)]
theorem Vrow.vcs {w : World} {g n : Nat} {aa : Nat → Option Addr} {L : Nat → List Bool} (h : Vrow w g 128 n aa L) (hn : n ≤ 4194304) : Vcs w 128 (some ⟨g, 0, none⟩) (fun _ => n) aa L := by
  obtain ⟨cs, _, h2, h3⟩ := h.row
  refine ⟨fun i hi => ⟨g, 0, rfl, ?_, ?_⟩, fun i hi => (h.vc i hi).mono (by omega), fun _ _ => hn⟩
  · rw [Nat.zero_add, cell_of_row w g _ _ _ _ h2]; exact (h3 i hi).1
  · rw [Nat.zero_add, cell_of_row w g _ _ _ _ h2]; exact (h3 i hi).2

set_option maxHeartbeats 2000000 in
theorem coll_cols (b1 b5 : Nat) (n : Nat) (L : Nat → List Bool) (E : Nat → Nat) (w : World) (hn : n ≤ 4194304)
    (hC : ∀ W i, i < 128 → Below w.heap.size w W → Calls Try.prog 25 #[.int .i64 (i : Nat), .pointer (some ⟨b1, 0, none⟩), .pointer (some ⟨b5, 0, none⟩)] W (TellP n L E i W)) :
    Calls Try.prog 24 #[.func (.func 25) #[] #[.pointer (some ⟨b1, 0, none⟩), .pointer (some ⟨b5, 0, none⟩)]] w fun e w' => Got w w' n L E e := by
  obtain ⟨cs0, hz0, hmk⟩ := make_vecs w
  have HC := hide1 hC
  clear hC
  obtain ⟨W0, hW0⟩ : ∃ W0, W0 = w.alloc (.cells cs0 32 (0, 0)) := ⟨_, rfl⟩
  have A0 : Hid (Vrow W0 w.heap.size 0 n (fun _ => none) L) := ⟨⟨cs0, hz0, by rw [hW0]; exact heap_alloc_new _ _, fun i hi => by omega⟩, fun i hi => by omega⟩
  have A1 : Hid (Below w.heap.size w W0) := by rw [hW0]; exact below_alloc1 _ _
  rw [← hW0] at hmk
  clear hW0 hz0
  obtain ⟨g, hg⟩ : ∃ g, g = w.heap.size := ⟨_, rfl⟩
  have HG := hide1 hg
  rw [← hg] at hmk A0 A1
  clear hg
  go_enter Try.func24, Try.ntmps24
  go_wp2
  clear hmk
  go_loopw [11] (fun i wr => ∃ (k : Nat) (aa : Nat → Option Addr), k ≤ 128 ∧ i = .int .i64 k ∧ Vrow wr g k n aa L ∧ Below g w wr ∧ ∀ i, i < k → E i = 0) (fun i _ => 128 - (intOf i).toNat)
  case atStart => exact ⟨0, _, Nat.zero_le _, rfl, A0.out, A1.out, fun i hi => by omega⟩
  case round =>
    obtain ⟨k, aa, hk, rfl, hV, hB, hE⟩ := hrel
    clear A0 A1
    have HV := hide1 hV
    have HB := hide1 hB
    have HE := hide1 hE
    clear hV hB hE
    by_cases hlt : k < 128
    · have HK := hide1 (HC.out wr k hlt (by rw [← HG.out]; exact HB.out))
      clear HC
      go_wp2_with fail
      go_at_call 25
      refine HK.out.mono ?_
      rintro e w1 ⟨x, av, m, rfl, hb1, hv1⟩
      by_cases hz : E k = 0
      · obtain ⟨rfl, rfl, hv2⟩ := hv1 hz
        have gl := (HV.out.cells (j := 0) (by omega)).2.2
        have V1 : Hid (Vrow (w1.alloc (.cells #[.int .i64 x, .slice av (need x 64) (need x 64)] 32)) g k x aa L) := (HV.out.below hb1).below (below_alloc1 _ _)
        have B1 : Hid (Below g w (w1.alloc (.cells #[.int .i64 x, .slice av (need x 64) (need x 64)] 32))) := (HB.out.trans (hb1.mono (by omega))).alloc (by have := hb1.size; omega) _
        have C1 : Hid (Vc (g + 1) (w1.alloc (.cells #[.int .i64 x, .slice av (need x 64) (need x 64)] 32)) x av (L k)) := (hv2.mono (by omega)).alloc _
        have D1 := box2 (heap_alloc_new w1 (.cells #[.int .i64 x, .slice av (need x 64) (need x 64)] 32))
        obtain ⟨d0, d1, d2, d3, _⟩ := D1
        obtain ⟨⟨y0, e0⟩, e1, e2⟩ := V1.out.cells (j := k * 2) (by omega)
        obtain ⟨⟨y1, e3⟩, e4, _⟩ := V1.out.cells (j := k * 2 + 1) (by omega)
        have HZ := hide1 hz
        rw [hz]
        clear hb1 hv1 hv2 hz gl
        go_upto_region 6 with (fail)
        generalize w1.alloc (.cells #[.int .i64 x, .slice av (need x 64) (need x 64)] 32) = W4 at *
        go_wp2
        go_roundw
        case rel => exact ⟨k + 1, _, by omega, by go_num, V1.out.add hlt C1.out, (B1.out.setCell (Nat.le_refl _) _).setCell (Nat.le_refl _) _, fun i hi => by
          by_cases e : i = k
          · rw [e]; exact HZ.out
          · exact HE.out i (by omega)⟩
        case measure => simp [intOf]; omega
      · have HZ := hide1 hz
        have B1 : Hid (Below g w (w1.alloc (.cells #[.int .i64 x, .slice av m m] 32))) := by
          have gl := (HV.out.cells (j := 0) (by omega)).2.2
          exact (HB.out.trans (hb1.mono (by omega))).alloc (by have := hb1.size; omega) _
        obtain ⟨E0, hE0⟩ : ∃ E0, E0 = E k := ⟨_, rfl⟩
        rw [← hE0] at hz ⊢
        have hz2 : ((E0 : Int) != 0) = true := by rw [bne_iff_ne]; omega
        have hz3 : ¬ (E0 : Int) = 0 := by omega
        have HE0 := hide1 hE0
        clear hv1 hb1 hE0 hz
        go_wp2
        go_ret2
        refine ⟨by rw [← HG.out]; exact B1.out, .inl ⟨k, hlt, HE.out, HZ.out, ?_⟩⟩
        rw [← HE0.out]
        rfl
    · obtain rfl : k = 128 := by omega
      go_wp2
      go_ret2
      exact ⟨by rw [← HG.out]; exact HB.out, .inr ⟨HE.out, g, aa, rfl, HV.out.vcs hn⟩⟩
end Go.Proofs.Ytaghcbmipihpmaa
