/- FaultTexts: its walk. -/
import Derived.Test.YtogninhgibbfnaaDoorTf
import Derived.Test.YtogninhgibbfnaaDoorR
namespace Go.Proofs.YtogninhgibbfnaaDoor
open Go.RowKit Go.Shelf
set_option maxRecDepth 100000
attribute [local go_sem] not_any mf_any

/- all is at hand: the values, and the nodes -/
def Ready (base : Nat) (ss : List Rw) (lv rv : Value) (vs : List Value) (W : World) : Prop :=
  W.ownsRow base 36 1 lv ss.length vs ∧ Holds W vs (infosOf ss) ∧ RowsAt W rv (nodesOf ss)

theorem Ready.below {base : Nat} {ss : List Rw} {lv rv : Value} {vs : List Value} {W W' : World} (h : Ready base ss lv rv vs W) (hB : Below W.heap.size W W') : Ready base ss lv rv vs W' :=
  ⟨row_below h.1 hB, ⟨h.2.1.1, fun j o x h1 h2 => (h.2.1.2 j o x h1 h2).owns (Below.owns hB) hB.size (Nat.le_refl _)⟩, h.2.2.below hB⟩

theorem rowsIn_below {n0 : Nat} {W W' : World} {v : Value} {l : List Rw} (h : RowsIn n0 W v l) (hB : Below n0 W W') (n1 : Nat) (hn : n0 ≤ n1) : RowsIn n1 W' v l := by
  obtain ⟨a, cap, rfl, hc⟩ := h
  refine ⟨a, cap, rfl, fun k r hk => ?_⟩
  obtain ⟨g, o, hg, h0, c0, c1, c2, c3, c4⟩ := hc k r hk
  exact ⟨g, o, by omega, h0, (hB.cell (p := ⟨g, _, none⟩) hg).trans c0, (hB.cell (p := ⟨g, _, none⟩) hg).trans c1, (hB.cell (p := ⟨g, _, none⟩) hg).trans c2, (hB.cell (p := ⟨g, _, none⟩) hg).trans c3, (hB.cell (p := ⟨g, _, none⟩) hg).trans c4⟩

theorem strsAt_below {W W' : World} {v : Value} {l : List ByteArray} (h : StrsAt W v l) (hB : Below W.heap.size W W') : StrsAt W' v l := by
  obtain ⟨a, cap, rfl, hc⟩ := h
  refine ⟨a, cap, rfl, fun j s hj => ?_⟩
  obtain ⟨g, h0, c0⟩ := hc j s hj
  exact ⟨g, h0, (hB.cell (p := ⟨g, _, none⟩) (lt_cell c0)).trans c0⟩

set_option maxHeartbeats 4000000 in
theorem texts_any (w : World) (v : Value) (ss : List Rw) (hv : RowsIn w.heap.size w v ss) (he : Et w) :
    Calls Tryd.prog 4 #[v] w fun e w' => e = .returned (.bool true) ∧ Below w.heap.size w w' := by
  have HE := hide1 he
  have HV := hide1 hv
  clear he hv
  go_enter Tryd.func4, Tryd.ntmps4
  go_wp2_with fail
  refine (small_any w v ss HV.out).mono ?_
  rintro e w1 ⟨b, rfl, hB1, hf⟩
  have HB1 := hide1 hB1
  clear hB1
  cases b with
  | false =>
    clear hf
    go_wp2_with fail
    refine (awake_any w1 (HE.out.below HB1.out)).mono ?_
    rintro y w2 ⟨rfl, hB2⟩
    go_wp2
    go_ret
    exact ⟨rfl, HB1.out.trans (hB2.mono HB1.out.size)⟩
  | true =>
    have HF := hide1 (hf rfl)
    clear hf
    go_wp2_with fail
    refine (made_any w1 v ss (rowsIn_below HV.out HB1.out _ HB1.out.size) (by have := HF.out.1; omega)).mono ?_
    rintro y w2 ⟨lv, vs, rfl, hrow, hB2, hH⟩
    have HB2 := hide1 (HB1.out.trans (hB2.mono HB1.out.size))
    have HM := hide1 (And.intro hrow (And.intro hH hB2.size))
    clear hrow hB2 hH
    go_wp2_with fail
    refine (nodes_any w2 v ss (rowsIn_below HV.out HB2.out _ HB2.out.size) (by have := HF.out.1; omega)).mono ?_
    rintro y w3 ⟨rv, rfl, hrow3, hB3⟩
    have HB3 := hide1 (HB2.out.trans (hB3.mono HB2.out.size))
    have HRd := hide1 (show Ready w1.heap.size ss lv rv vs w3 from ⟨row_below HM.out.1 hB3, ⟨HM.out.2.1.1, fun j o x h1 h2 => (HM.out.2.1.2 j o x h1 h2).owns (Below.owns hB3) hB3.size (Nat.le_refl _)⟩, rowsAt' hrow3 (nodesOf_length ss)⟩)
    have hrv := row_form hrow3
    have hlv := row_form HM.out.1
    clear hrow3 hB3
    obtain ⟨ra, rc, rfl⟩ := hrv
    obtain ⟨la, lc, rfl⟩ := hlv
    go_wp2
    go_loopw [5] (fun i wr => ∃ k : Nat, k ≤ ss.length ∧ i = .int .i64 k ∧ Below w3.heap.size w3 wr) (fun i _ => ss.length - (intOf i).toNat)
    case atStart => exact ⟨0, Nat.zero_le _, rfl, Below.refl _ _⟩
    case round =>
      obtain ⟨k, hk, rfl, hB⟩ := hrel
      by_cases hlt : k < ss.length
      · have HB := hide1 hB
        have HR0 := hide1 (HRd.out.below hB)
        clear hB
        have hvl : vs.length = ss.length := by rw [HR0.out.2.1.1, ← (good_of ss).1, nodesOf_length]
        have hss := HF.out.1
        obtain ⟨x, hx⟩ : ∃ x, vs[k]? = some x := ⟨_, List.getElem?_eq_getElem (by omega)⟩
        obtain ⟨ga, ca, hga, c0⟩ := vals_at HR0.out.1 hx hlt
        cases hga
        have HX := hide1 hx
        have hgl := lt_cell c0
        clear hx hvl
        have HVal : Hid (∀ W, Ready w1.heap.size ss (.slice (some ⟨ga, 0, none⟩) ss.length lc) (.slice ra ss.length rc) vs W → Val W (k + 1) (lookI (infosOf ss) k) x) := by
          intro W hW
          have hkl : k < (infosOf ss).length := by rw [← hW.2.1.1]; exact (List.getElem?_eq_some_iff.1 HX.out).1
          have h1 : (infosOf ss)[k]? = some (infosOf ss)[k] := List.getElem?_eq_getElem hkl
          rw [lookI_nat h1]
          exact hW.2.1.2 k _ x h1 HX.out
        go_wp2_with fail
        refine (at_val HF.out wr x k (k + 1) (by omega) (HVal.out wr HR0.out)).mono ?_
        rintro y W1 ⟨rfl, hB1⟩
        have c1 := (hB1.cell (p := ⟨ga, k, none⟩) hgl).trans c0
        have HR1 := hide1 (HR0.out.below hB1)
        have HB1' := hide1 (HB.out.trans (hB1.mono HB.out.size))
        clear hB1 c0 hgl
        have hgl := lt_cell c1
        go_wp2_with fail
        refine (rat_any _ (nodesOf ss) (infosOf ss) (good_of ss) (by rw [nodesOf_length]; omega) W1 HR1.out.2.2 (k + 1) k (by omega) (by rw [nodesOf_length]; omega)).mono ?_
        rintro y W1' ⟨rfl, rfl⟩
        go_wp2_with fail
        refine (text_val HF.out _ x k (k + 1) (by omega) (HVal.out _ HR1.out)).mono ?_
        rintro y W2 ⟨rfl, hB2⟩
        have c2 := (hB2.cell (p := ⟨ga, k, none⟩) hgl).trans c1
        have HR2 := hide1 (HR1.out.below hB2)
        have HB2' := hide1 (HB1'.out.trans (hB2.mono HB1'.out.size))
        clear hB2 c1 hgl
        have hgl := lt_cell c2
        go_wp2_with fail
        refine (rtext_any _ (nodesOf ss) (infosOf ss) (good_of ss) (by rw [nodesOf_length]; omega) (fun n i h => by have := (HF.out.bounds h).2.1; omega) (k + 1) k (by omega) (by rw [nodesOf_length]; omega) W2 HR2.out.2.2).mono ?_
        rintro y W3 ⟨rfl, m, rfl⟩
        have c3 : (W2.drewN m).cell? ⟨ga, k, none⟩ = some x := c2
        have HR3 := hide1 (show Ready w1.heap.size ss (.slice (some ⟨ga, 0, none⟩) ss.length lc) (.slice ra ss.length rc) vs (W2.drewN m) from HR2.out.below (below_drewN (Below.refl _ _) m))
        have HB3' := hide1 (below_drewN HB2'.out m)
        clear c2
        go_wp2_with fail
        refine (path_val HF.out _ x k (k + 1) (by omega) (HVal.out _ HR3.out)).mono ?_
        rintro y W4 ⟨pv, rfl, hp4, hB4⟩
        have HR4 := hide1 (HR3.out.below hB4)
        have HB4' := hide1 (HB3'.out.trans (hB4.mono HB3'.out.size))
        have HP4 := hide1 hp4
        clear hB4 c3 hgl hp4
        go_wp2_with fail
        refine (rpath_any _ (nodesOf ss) (infosOf ss) (good_of ss) (by rw [nodesOf_length]; omega) W4 HR4.out.2.2 k (by rw [nodesOf_length]; omega) ?_).mono ?_
        · skip
          unfold pAt
          cases hi : lookI (infosOf ss) (k : Int) with
          | none => simp
          | some i => have := (HF.out.bounds hi).2.2; simp; omega
        rintro y W5 ⟨qv, rfl, hp5, hB5⟩
        have HB5' := hide1 (HB4'.out.trans (hB5.mono HB4'.out.size))
        have HP5 := hide1 (And.intro (strsAt_below (strsAt_own HP4.out) hB5) (strsAt_own hp5))
        clear hB5 hp5
        go_wp2_with fail
        refine (texts_eq _ pv qv (pAt (infosOf ss) k) HP5.out.1 HP5.out.2 ?_).mono ?_
        · unfold pAt
          cases hi : lookI (infosOf ss) (k : Int) with
          | none => simp
          | some i => have := (HF.out.bounds hi).2.2; simp; omega
        rintro y W6 ⟨rfl, n, rfl⟩
        go_wp2
        go_roundw
        case rel => exact ⟨k + 1, by omega, by go_num, below_drewN HB5'.out n⟩
        case measure => simp [intOf]; omega
      · have HB := hide1 (HB3.out.trans (hB.mono HB3.out.size))
        clear hB
        go_wp2_with fail
        refine (awake_any wr (HE.out.below HB.out)).mono ?_
        rintro y w4 ⟨rfl, hB4⟩
        go_wp2
        go_ret
        exact ⟨rfl, HB.out.trans (hB4.mono HB.out.size)⟩

end Go.Proofs.YtogninhgibbfnaaDoor
