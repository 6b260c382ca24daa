/- Columns made of truths; the document's Pack. -/
import Derived.Test.YtaghcbmipihpmaaUu
import Derived.Test.YtaghcbmipihpmaaT
namespace Go.Proofs.Ytaghcbmipihpmaa
open Go.RowKit
set_option maxRecDepth 100000
attribute [local go_sem] not_any

def vls (aa : Nat → Option Addr) (nn : Nat → Nat) : Nat → List Value
  | 0 => []
  | k + 1 => vls aa nn k ++ [.int .i64 (nn k : Nat), .slice (aa k) (need (nn k) 64) (need (nn k) 64)]
theorem vls_length (aa : Nat → Option Addr) (nn : Nat → Nat) : ∀ k, (vls aa nn k).length = k * 2
  | 0 => rfl
  | k + 1 => by rw [vls, List.length_append, vls_length aa nn k]; simp; omega
theorem vls_congr {aa ab : Nat → Option Addr} {nn : Nat → Nat} : ∀ {k}, (∀ i, i < k → aa i = ab i) → vls aa nn k = vls ab nn k
  | 0, _ => rfl
  | k + 1, h => by rw [vls, vls, vls_congr (fun i hi => h i (by omega)), h k (by omega)]
theorem vls_get {aa : Nat → Option Addr} {nn : Nat → Nat} : ∀ {k i : Nat}, i < k → (vls aa nn k)[i * 2]? = some (.int .i64 (nn i : Nat)) ∧ (vls aa nn k)[i * 2 + 1]? = some (.slice (aa i) (need (nn i) 64) (need (nn i) 64))
  | 0, _, h => by omega
  | k + 1, i, h => by
    have hl := vls_length aa nn k
    by_cases e : i < k
    · rw [vls, List.getElem?_append_left (by omega), List.getElem?_append_left (by omega)]
      exact vls_get e
    · obtain rfl : i = k := by omega
      rw [vls, List.getElem?_append_right (by omega), List.getElem?_append_right (by omega), hl, Nat.sub_self, Nat.add_sub_cancel_left]
      exact ⟨rfl, rfl⟩
/- Vecs as they are made -/
structure Vmk (w : World) (base : Nat) (v : Value) (m : Nat) (aa : Nat → Option Addr) (nn : Nat → Nat) (L : Nat → List Bool) : Prop where
  ns : Nst w base 32 2 v m (vls aa nn m) (fun i => (aa i).map (·.block))
  vc : ∀ i, i < m → Vc 0 w (nn i) (aa i) (L i)
theorem Vmk.below {w w' : World} {base : Nat} {v : Value} {m : Nat} {aa : Nat → Option Addr} {nn : Nat → Nat} {L : Nat → List Bool} (h : Vmk w base v m aa nn L) (hb : Below w.heap.size w w') : Vmk w' base v m aa nn L :=
  ⟨h.ns.below hb, fun i hi => (h.vc i hi).below hb (Nat.le_refl _)⟩
theorem Vmk.nil (w : World) (base : Nat) (nn : Nat → Nat) (L : Nat → List Bool) : Vmk w base (.slice none 0 0) 0 (fun _ => none) nn L :=
  ⟨⟨World.ownsRow_nil _ _ _ _, fun i hi => by omega⟩, fun i hi => by omega⟩
theorem Vmk.add {w w' : World} {base : Nat} {v : Value} {m g cap : Nat} {aa : Nat → Option Addr} {nn : Nat → Nat} {L : Nat → List Bool} (h : Vmk w base v m aa nn L) {a : Option Addr} (hn : ∀ b, a.map (·.block) = some b → b < w.heap.size ∧ v.ownBlock ≠ some b) (hv : Vc 0 w (nn m) a (L m))
    (ho : w'.ownsRow base 32 2 (.slice (some ⟨g, 0, none⟩) (m + 1) cap) (m + 1) (vls aa nn m ++ [.int .i64 (nn m : Nat), .slice a (need (nn m) 64) (need (nn m) 64)])) (hg : w.grownBy w' v.ownBlock) (hl : v.ownBlock = some g ∨ g = w.heap.size) :
    Vmk w' base (.slice (some ⟨g, 0, none⟩) (m + 1) cap) (m + 1) (fun i => if i = m then a else aa i) nn L := by
  obtain ⟨n1, n2⟩ := h.ns.grown hn ho hg hl
  have e : vls aa nn m ++ [.int .i64 (nn m : Nat), .slice a (need (nn m) 64) (need (nn m) 64)] = vls (fun i => if i = m then a else aa i) nn (m + 1) := by
    rw [vls, if_pos rfl, vls_congr (fun i hi => (if_neg (show ¬ i = m by omega) : (if i = m then a else aa i) = aa i).symm)]
  rw [e] at n1
  refine ⟨⟨n1.own, fun i hi b e => n1.far i hi b ?_⟩, fun i hi => ?_⟩
  · by_cases h1 : i = m
    · simp only [if_pos h1] at e ⊢; exact e
    · simp only [if_neg h1] at e ⊢; exact e
  · have hk := n2 i hi
    by_cases h1 : i = m
    · simp only [if_pos h1] at hk ⊢
      rw [h1]
      exact hv.kept (fun g hg => hk g (by rw [hg]; rfl))
    · simp only [if_neg h1] at hk ⊢
      exact (h.vc i (by omega)).kept (fun g hg => hk g (by rw [hg]; rfl))
theorem Vmk.vcs {w : World} {base : Nat} {v : Value} {m : Nat} {aa : Nat → Option Addr} {nn : Nat → Nat} {L : Nat → List Bool} (h : Vmk w base v m aa nn L) (hm : 0 < m) (hn : ∀ i, i < m → nn i ≤ 4194304) : ∃ g c, v = .slice (some ⟨g, 0, none⟩) m c ∧ m ≤ c ∧ Vcs w m (some ⟨g, 0, none⟩) nn aa L := by
  have ho := h.ns.own
  rcases ho.2 with ⟨_, h0⟩ | ⟨g, cap, cur, hv, hg, hh, hcap, r⟩
  · omega
  · subst hv
    refine ⟨g, cap, rfl, hcap, ⟨fun i hi => ⟨g, 0, rfl, ?_, ?_⟩, h.vc, hn⟩⟩
    · rw [Nat.zero_add, ho.cellAt (i * 2) (by omega)]; exact (vls_get hi).1
    · rw [Nat.zero_add, ho.cellAt (i * 2 + 1) (by omega)]; exact (vls_get hi).2
theorem info32 : (Try.prog.info? 32).map (fun i => (i.zero, i.size, i.bytes)) = some (some (.agg #[.int .i64 0, .slice none 0 0]), 2, 32) := by kernel_rfl
theorem two_new (w : World) (x y : Value) (t : TypeId) : ∀ (j : Nat) (u : Value), [x, y][j]? = some u → (w.alloc (.cells #[x, y] t)).cell? ((⟨w.heap.size, 0, none⟩ : Addr).add j) = some u := fun j u hu => by
  rw [addr_add, cell_of_row _ _ _ _ _ _ (heap_alloc_new w _), Nat.zero_add]
  match j, hu with
  | 0, hu => exact hu
  | 1, hu => exact hu
  | j + 2, hu => simp at hu

set_option maxHeartbeats 4000000 in
theorem columns_any (w : World) (m : Nat) (v : Value) (ab : Nat → Option Addr) (nn cc : Nat → Nat) (L : Nat → List Bool) (hv : Brd w v m ab nn cc L) (hm : 0 < m) (hm2 : m ≤ 4096) (hn : ∀ i, i < m → nn i ≤ 4194304) :
    Calls Try.prog 12 #[v] w fun e w' => ∃ g c aa, e = .returned (.slice (some ⟨g, 0, none⟩) m c) ∧ m ≤ c ∧ Vcs w' m (some ⟨g, 0, none⟩) nn aa L ∧ Below w.heap.size w w' := by
  obtain ⟨i0, hi0, hz0, hz1, hz2⟩ := info_parts info32
  obtain ⟨gv, cv, rfl, hgl, hcs⟩ := hv.at'
  have HC := hide1 hcs
  have HV := hide1 hv
  have HN := hide1 hn
  clear hv hcs hn
  go_enter Try.func12, Try.ntmps12
  go_wp2
  go_loopw [3, 4] (fun ov iv wr => ∃ (k : Nat) (aa : Nat → Option Addr), k ≤ m ∧ iv = .int .i64 k ∧ Vmk wr w.heap.size ov k aa nn L ∧ Below w.heap.size w wr) (fun _ iv _ => m - (intOf iv).toNat)
  case atStart => exact ⟨0, _, Nat.zero_le _, rfl, Vmk.nil _ _ _ _, Below.refl _ _⟩
  case round =>
    obtain ⟨k, aa, hk, rfl, hM, hB⟩ := hrel
    obtain ⟨la, lc, rfl⟩ := row_form hM.ns.own
    have HM := hide1 hM
    have HB := hide1 hB
    clear hM
    by_cases hlt : k < m
    · have d0 := (hB.cell (p := ⟨gv, k, none⟩) hgl).trans (HC.out k hlt)
      have hbl := (HV.out.bl k hlt).below hB (Nat.le_refl _)
      have hnk := HN.out k hlt
      obtain ⟨n, hn⟩ : ∃ n, n = nn k := ⟨_, rfl⟩
      obtain ⟨a, ha⟩ : ∃ a, a = ab k := ⟨_, rfl⟩
      obtain ⟨c, hc⟩ : ∃ c, c = cc k := ⟨_, rfl⟩
      rw [← hn, ← ha, ← hc] at d0
      rw [← hn, ← ha] at hbl
      rw [← hn] at hnk
      have kO := hide1 (of_any wr n c a _ hbl hnk)
      have HNN := hide1 hn
      clear hbl hB hn ha hc
      go_wp2_with fail
      go_at_call 33
      refine kO.out.mono ?_
      rintro e w1 ⟨av, rfl, hv1, hb1⟩
      have HFA : Hid (∀ b, av.map (·.block) = some b → b < w1.heap.size ∧ (Value.slice la k lc).ownBlock ≠ some b) := fun b hb => by
        obtain ⟨f1, f2⟩ := hv1.blk b hb
        refine ⟨f2, fun h9 => ?_⟩
        have := (HM.out.ns.own.lt _ h9).2
        omega
      have M1 := hide1 ((HM.out.below hb1).below (below_alloc1 w1 (.cells #[.int .i64 n, .slice av (need n 64) (need n 64)] 32)))
      have hB1 := HB.out.trans (hb1.mono HB.out.size)
      have B1 := hide1 (hB1.alloc hB1.size (.cells #[.int .i64 n, .slice av (need n 64) (need n 64)] 32))
      have V1 : Hid (Vc 0 (w1.alloc (.cells #[.int .i64 n, .slice av (need n 64) (need n 64)] 32)) n av (L k)) := (hv1.mono (Nat.zero_le _)).alloc _
      obtain ⟨e0, e1, _⟩ := box2 (heap_alloc_new w1 (.cells #[.int .i64 n, .slice av (need n 64) (need n 64)] 32))
      have F1 : Hid (∀ b, av.map (·.block) = some b → b < (w1.alloc (.cells #[.int .i64 n, .slice av (need n 64) (need n 64)] 32)).heap.size ∧ (Value.slice la k lc).ownBlock ≠ some b) := fun b hb => ⟨by have := (HFA.out b hb).1; simp; omega, (HFA.out b hb).2⟩
      clear hv1 hb1 kO d0 HM HFA hB1
      go_upto_region 6 with (fail)
      generalize w1.alloc (.cells #[.int .i64 n, .slice av (need n 64) (need n 64)] 32) = W4 at *
      have M2 := hide1 (M1.out.below (below_alloc1 W4 (.cells #[.int .i64 n, .slice av (need n 64) (need n 64)] 32)))
      have B2 := hide1 (B1.out.alloc B1.out.size (.cells #[.int .i64 n, .slice av (need n 64) (need n 64)] 32))
      have V2 := hide1 (V1.out.alloc (.cells #[.int .i64 n, .slice av (need n 64) (need n 64)] 32))
      have F2 : Hid (∀ b, av.map (·.block) = some b → b < (W4.alloc (.cells #[.int .i64 n, .slice av (need n 64) (need n 64)] 32)).heap.size ∧ (Value.slice la k lc).ownBlock ≠ some b) := fun b hb => ⟨by have := (F1.out b hb).1; simp; omega, (F1.out b hb).2⟩
      have hsz4 := B1.out.size
      go_wp2_with (at_builtin; go_must (refine wpList_append_lies _ rfl _ _ 24 rfl w.heap.size 32 i0 (.agg #[.int .i64 0, .slice none 0 0]) 2 32 Try.underlying24 hi0 hz0 hz1 hz2 rfl (by decide) _ _ _ rfl M2.out.ns.own ⟨W4.heap.size, 0, none⟩ 1 1 [.int .i64 n, .slice av (need n 64) (need n 64)] rfl rfl (two_new _ _ _ _) (by simp [Value.oneCell']) (by decide) (by unfold maxLen; omega) (by omega) (by simp; omega) (W4.heap.size + 1) (by simp) ?_); intro g cap w2 hown' hgrow hlies _)
      go_roundw
      case rel =>
        have e9 := HNN.out
        subst e9
        have h9 := M2.out.add F2.out V2.out hown' hgrow (by
          rcases hlies with h | h
          · exact .inl h
          · exact .inr (by simpa using h))
        exact ⟨k + 1, _, by omega, by go_num, h9, B2.out.grown hgrow (by simp; omega) (fun b hb => (M2.out.ns.own.lt b hb).1)⟩
      case measure => simp [intOf]; omega
    · obtain rfl : k = m := by omega
      obtain ⟨g, c, e9, hcap, hvcs⟩ := HM.out.vcs hm HN.out
      cases e9
      clear hB
      go_wp2
      go_ret
      exact ⟨g, lc, aa, rfl, hcap, hvcs, HB.out⟩
end Go.Proofs.Ytaghcbmipihpmaa
