/- The document's own answer of its nodes: the places. -/
import Derived.Test.YtogninhgibbfnaaDoorTa
namespace Go.Proofs.YtogninhgibbfnaaDoor
open Go.RowKit Go.Shelf
set_option maxRecDepth 100000
attribute [local go_sem] not_any mf_any

theorem RowsAt.below {W W' : World} {v : Value} {l : List Rw} (h : RowsAt W v l) (hB : Below W.heap.size W W') : RowsAt W' v l := by
  obtain ⟨a, cap, rfl, hc⟩ := h
  refine ⟨a, cap, rfl, fun k r hk => ?_⟩
  obtain ⟨g, o, h0, c0, c1, c2, c3, c4⟩ := hc k r hk
  have hg := lt_cell c0
  exact ⟨g, o, h0, (hB.cell (p := ⟨g, _, none⟩) hg).trans c0, (hB.cell (p := ⟨g, _, none⟩) hg).trans c1, (hB.cell (p := ⟨g, _, none⟩) hg).trans c2, (hB.cell (p := ⟨g, _, none⟩) hg).trans c3, (hB.cell (p := ⟨g, _, none⟩) hg).trans c4⟩

theorem row_below {W W' : World} {base : Nat} {e : TypeId} {size k : Nat} {v : Value} {xs : List Value} (h : W.ownsRow base e size v k xs) (hB : Below W.heap.size W W') : W'.ownsRow base e size v k xs := by
  refine ⟨h.1, ?_⟩
  rcases h.2 with h0 | ⟨g, cap, cur, hv, hg, hh, rest⟩
  · exact .inl h0
  · exact .inr ⟨g, cap, cur, hv, hg, (hB.block g (lt_of_heap hh)).trans hh, rest⟩

set_option maxHeartbeats 2000000 in
theorem rpath_any (v : Value) (l : List Rw) (is : List (Option Info)) (hg : Good l is) (hl : l.length ≤ 1000000) (W : World) (hv : RowsAt W v l) (n0 : Nat) (hn0 : n0 < l.length) (hb : (pAt is n0).length ≤ 1000000) :
    Calls Tryd.prog 22 #[v, .int .i64 n0] W fun e w' => ∃ pv, e = .returned pv ∧ w'.ownsRow W.heap.size 9 1 pv (pAt is n0).length (strs (pAt is n0)) ∧ Below W.heap.size W w' := by
  obtain ⟨i0, hi, hz0, hz1, hz2⟩ := info_parts info9
  have HV := hide1 hv
  have HG := hide1 hg
  obtain ⟨a, cap, rfl, _⟩ := hv
  clear hg
  go_enter Tryd.func22, Tryd.ntmps22
  go_wp2
  go_loopw [1, 5] (fun x ov wr => ∃ (n : Nat) (dn : List ByteArray), x = .int .i64 n ∧ n < l.length ∧ pAt is n0 = dn ++ pAt is n ∧ wr.ownsRow W.heap.size 9 1 ov dn.length (strs dn) ∧ Below W.heap.size W wr) (fun x _ _ => (intOf x).toNat)
  case atStart => exact ⟨n0, [], rfl, hn0, rfl, World.ownsRow_nil _ _ _ _, Below.refl _ _⟩
  case round =>
    obtain ⟨n, dn, rfl, hn, hp, hrow, hB⟩ := hrel
    have hvr := HV.out.below hB
    obtain ⟨r, o, hr, ho, hk, hf⟩ := HG.out.at hn
    have HK := hide1 (kind_calls' _ l hl n wr hvr)
    rw [hk] at HK
    have HN := hide1 hk
    obtain ⟨a', cap', hv', hc⟩ := hvr
    cases hv'
    obtain ⟨g, oo, rfl, c0, c1, c2, c3, c4⟩ := hc n r hr
    have hgl := lt_cell c0
    have HRr := hide1 hr
    clear hc hk hr
    have hdl : dn.length ≤ 1000000 := by rw [hp] at hb; simp at hb; omega
    obtain ⟨la, lc, rfl⟩ := row_form hrow
    have HW := hide1 (And.intro hrow hB)
    clear hrow hB
    rcases hf with ⟨h0, rfl⟩ | ⟨h0, _, rfl⟩ | ⟨h0, _, rfl⟩ | ⟨h0, h1, h2, i, h3, rfl⟩ | ⟨h0, h1, h2, h3, h4, i, j, h5, h6, rfl⟩
    · have e : pAt is n = [] := by simp [pAt, ho]
      rw [e] at hp
      rw [h0] at HK
      clear ho e
      go_wp2_with (go_at_call 28; refine HK.out.mono ?_; rintro e w' ⟨rfl, rfl⟩)
      go_ret
      rw [hp]
      simp only [List.append_nil]
      exact ⟨_, rfl, HW.out.1, HW.out.2⟩
    · have e : pAt is n = [r.wh] := by simp [pAt, ho, rootI]
      rw [e] at hp
      rw [h0] at HK
      clear ho e
      go_wp2_with (first | (go_at_call 28; refine HK.out.mono ?_; rintro e w' ⟨rfl, rfl⟩) | (at_builtin; go_must (refine wpList_append_own _ rfl _ _ 47 rfl W.heap.size 9 i0 (.string ⟨#[]⟩) 1 16 Tryd.underlying47 hi hz0 hz1 hz2 rfl (by decide) _ _ _ rfl (HW.out.1.alloc _) ⟨wr.heap.size, 0, none⟩ 1 1 [.string r.wh] rfl rfl (cell_one_new _ _ _) (by simp [Value.oneCell']) (by unfold maxLen; omega) (by omega) (by have := HW.out.2.size; simp; omega) ?_); intro v' w1 hown' hgrow _))
      have hB1 := (HW.out.2.alloc HW.out.2.size (.cells #[.string r.wh] 9)).grown hgrow (by have := HW.out.2.size; simp; omega) (fun b hb => (HW.out.1.lt b hb).1)
      have HK1 := hide1 (kind_calls' _ l hl n w1 (HV.out.below hB1))
      rw [HN.out, h0] at HK1
      have HX := hide1 (And.intro hown' hB1)
      clear hown' hB1 hgrow
      go_wp2_with (go_at_call 28; refine HK1.out.mono ?_; rintro e w' ⟨rfl, rfl⟩)
      go_ret
      rw [hp]
      exact ⟨_, rfl, by simpa [strs] using HX.out.1, HX.out.2⟩
    · have e : pAt is n = [] := by simp [pAt, ho, errnoI]
      rw [e] at hp
      rw [h0] at HK
      clear ho e
      go_wp2_with (go_at_call 28; refine HK.out.mono ?_; rintro e w' ⟨rfl, rfl⟩)
      go_ret
      rw [hp]
      simp only [List.append_nil]
      exact ⟨_, rfl, HW.out.1, HW.out.2⟩
    · obtain ⟨na, hna⟩ : ∃ na : Nat, r.a = na := ⟨r.a.toNat, by omega⟩
      rw [hna] at h1 h2 h3 c3
      have e : pAt is n = r.wh :: pAt is na := by simp [pAt, ho, wrapI, h3]
      rw [e] at hp
      rw [h0] at HK
      have HP := hide1 hp
      clear ho e h3 hp
      go_wp2_with (first | (go_at_call 28; refine HK.out.mono ?_; rintro e w' ⟨rfl, rfl⟩) | (at_builtin; go_must (refine wpList_append_own _ rfl _ _ 47 rfl W.heap.size 9 i0 (.string ⟨#[]⟩) 1 16 Tryd.underlying47 hi hz0 hz1 hz2 rfl (by decide) _ _ _ rfl (HW.out.1.alloc _) ⟨wr.heap.size, 0, none⟩ 1 1 [.string r.wh] rfl rfl (cell_one_new _ _ _) (by simp [Value.oneCell']) (by unfold maxLen; omega) (by omega) (by have := HW.out.2.size; simp; omega) ?_); intro v' w1 hown' hgrow _))
      have hB0 := HW.out.2.alloc HW.out.2.size (.cells #[.string r.wh] 9)
      have hB1 := hB0.grown hgrow (by have := HW.out.2.size; simp; omega) (fun b hb => (HW.out.1.lt b hb).1)
      have hvr1 := HV.out.below hB1
      have HK1 := hide1 (kind_calls' _ l hl n w1 hvr1)
      rw [HN.out, h0] at HK1
      have hd3 : w1.cell? ⟨g, oo + n * 5 + 3, none⟩ = some (.int .i64 na) := by
        obtain ⟨a2, cap2, hv2, hc2⟩ := hvr1
        cases hv2
        obtain ⟨g2, o2, e2, _, _, _, d3, _⟩ := hc2 n r HRr.out
        cases e2
        rw [hna] at d3
        exact d3
      have HX := hide1 (And.intro hown' hB1)
      clear hown' hB1 hgrow hB0 hvr1
      go_wp2_with (go_at_call 28; refine HK1.out.mono ?_; rintro e w' ⟨rfl, rfl⟩)
      refine ⟨⟨na, dn ++ [r.wh], rfl, by omega, by rw [HP.out]; simp, by simpa [strs] using HX.out.1, HX.out.2⟩, by simp [intOf]; omega⟩
    · have e : pAt is n = [] := by simp [pAt, ho, pairI]
      rw [e] at hp
      rw [h0] at HK
      clear ho e
      go_wp2_with (go_at_call 28; refine HK.out.mono ?_; rintro e w' ⟨rfl, rfl⟩)
      go_ret
      rw [hp]
      simp only [List.append_nil]
      exact ⟨_, rfl, HW.out.1, HW.out.2⟩

end Go.Proofs.YtogninhgibbfnaaDoor
