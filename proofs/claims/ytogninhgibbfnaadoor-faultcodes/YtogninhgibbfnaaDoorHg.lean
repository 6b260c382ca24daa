/- FaultCodes: its walk. -/
import Derived.Test.YtogninhgibbfnaaDoorHf
namespace Go.Proofs.YtogninhgibbfnaaDoor
open Go.RowKit Go.Shelf
set_option maxRecDepth 100000
attribute [local go_sem] not_any mf_any

theorem take_has (cs : List Int) (k : Nat) (x c : Int) (hx : cs[k]? = some x) : (cs.take (k + 1)).contains c = ((cs.take k).contains c || x == c) := by
  rw [take_snoc' cs k x hx]
  by_cases h : x = c
  · simp [h]
  · have : ¬ c = x := fun e => h e.symm
    simp [h, this]

theorem inC_zero (cs : List Int) : inC cs 0 = cs.isEmpty := by simp [inC]
theorem inC_ne (cs : List Int) (c : Int) (h : ¬ c = 0) : inC cs c = cs.contains c := by simp [inC, h]

set_option maxHeartbeats 8000000 in
theorem fcodes_any (w : World) (v : Value) (code : Int) (ss : List Rw) (hv : RowsIn w.heap.size w v ss) (he : Et w) :
    Calls Tryd.prog 3 #[v, .int .i64 code] w fun e w' => e = .returned (.bool true) ∧ Below w.heap.size w w' := by
  have HE := hide1 he
  have HV := hide1 hv
  clear he hv
  go_enter Tryd.func3, Tryd.ntmps3
  go_wp2_with fail
  refine (small_any w v ss HV.out).mono ?_
  rintro e w1 ⟨b, rfl, hB1, hf⟩
  have HB1 := hide1 hB1
  clear hB1
  cases b with
  | false =>
    clear hf
    go_wp2_with fail
    refine (awake_any w1 (HE.out.below HB1.out)).mono ?_
    rintro y w2 ⟨rfl, hB2⟩
    go_wp2
    go_ret
    exact ⟨rfl, HB1.out.trans (hB2.mono HB1.out.size)⟩
  | true =>
    have HF := hide1 (hf rfl)
    clear hf
    go_wp2_with fail
    refine (made_any w1 v ss (rowsIn_below HV.out HB1.out _ HB1.out.size) (by have := HF.out.1; omega)).mono ?_
    rintro y w2 ⟨lv, vs, rfl, hrow, hB2, hH⟩
    have HB2 := hide1 (HB1.out.trans (hB2.mono HB1.out.size))
    have HM := hide1 (And.intro hrow (And.intro hH hB2.size))
    clear hrow hB2 hH
    go_wp2_with fail
    refine (nodes_any w2 v ss (rowsIn_below HV.out HB2.out _ HB2.out.size) (by have := HF.out.1; omega)).mono ?_
    rintro y w3 ⟨rv, rfl, hrow3, hB3⟩
    have HB3 := hide1 (HB2.out.trans (hB3.mono HB2.out.size))
    have HRd := hide1 (show Ready w1.heap.size ss lv rv vs w3 from ⟨row_below HM.out.1 hB3, ⟨HM.out.2.1.1, fun j o x h1 h2 => (HM.out.2.1.2 j o x h1 h2).owns (Below.owns hB3) hB3.size (Nat.le_refl _)⟩, rowsAt' hrow3 (nodesOf_length ss)⟩)
    have HE3 := hide1 (HE.out.below HB3.out)
    have hrv := row_form hrow3
    have hlv := row_form HM.out.1
    clear hrow3 hB3
    obtain ⟨ra, rc, rfl⟩ := hrv
    obtain ⟨la, lc, rfl⟩ := hlv
    go_wp2
    go_loopw [7] (fun i wr => ∃ k : Nat, k ≤ ss.length ∧ i = .int .i64 k ∧ Below w3.heap.size w3 wr) (fun i _ => ss.length - (intOf i).toNat)
    case atStart => exact ⟨0, Nat.zero_le _, rfl, Below.refl _ _⟩
    case round =>
      obtain ⟨k, hk, rfl, hB⟩ := hrel
      by_cases hlt : k < ss.length
      · have HB := hide1 hB
        have HR0 := hide1 (HRd.out.below hB)
        clear hB
        have hvl : vs.length = ss.length := by rw [HR0.out.2.1.1, ← (good_of ss).1, nodesOf_length]
        have hss := HF.out.1
        obtain ⟨x, hx⟩ : ∃ x, vs[k]? = some x := ⟨_, List.getElem?_eq_getElem (by omega)⟩
        obtain ⟨ga, ca, hga, c0⟩ := vals_at HR0.out.1 hx hlt
        cases hga
        have HX := hide1 hx
        have hgl := lt_cell c0
        clear hx hvl
        have HVal : Hid (∀ W, Ready w1.heap.size ss (.slice (some ⟨ga, 0, none⟩) ss.length lc) (.slice ra ss.length rc) vs W → Val W (k + 1) (lookI (infosOf ss) k) x) := by
          intro W hW
          have hkl : k < (infosOf ss).length := by rw [← hW.2.1.1]; exact (List.getElem?_eq_some_iff.1 HX.out).1
          have h1 : (infosOf ss)[k]? = some (infosOf ss)[k] := List.getElem?_eq_getElem hkl
          rw [lookI_nat h1]
          exact hW.2.1.2 k _ x h1 HX.out
        go_wp2_with fail
        refine (rcodes_any _ (nodesOf ss) (infosOf ss) (good_of ss) (by rw [nodesOf_length]; omega) (fun n i h => by have := HF.out.codes h; omega) (k + 1) k (by omega) (by rw [nodesOf_length]; omega) wr HR0.out.2.2).mono ?_
        rintro y W1 ⟨wv, rfl, hw1, hB1⟩
        have c1 := (hB1.cell (p := ⟨ga, k, none⟩) hgl).trans c0
        have HR1 := hide1 (HR0.out.below hB1)
        have HB1' := hide1 (HB.out.trans (hB1.mono HB.out.size))
        have HI1 := hide1 (intsAt_own hw1)
        have HN := hide1 (val_nil HF.out W1 x k (k + 1) (HVal.out W1 HR1.out))
        have hcl := HF.out.cAt k
        clear hB1 c0 hgl hw1
        have hgl := lt_cell c1
        obtain ⟨cs, hcs⟩ : ∃ cs, cs = cAt (infosOf ss) k := ⟨_, rfl⟩
        rw [← hcs] at HI1 HN hcl
        obtain ⟨wa, wc, rfl, _⟩ := HI1.out
        have HCS := hide1 hcs
        clear hcs
        go_wp2
        go_loopw [10, 11] (fun inv j wr2 => ∃ m : Nat, m ≤ cs.length ∧ j = .int .i64 m ∧ inv = .bool ((cs.take m).contains code) ∧ wr2 = W1) (fun _ j _ => cs.length - (intOf j).toNat)
        case atStart => exact ⟨0, Nat.zero_le _, rfl, by simp, rfl⟩
        case round =>
          obtain ⟨m, hm, rfl, rfl, rfl⟩ := hrel
          by_cases hmlt : m < cs.length
          · obtain ⟨y, hy⟩ : ∃ y, cs[m]? = some y := ⟨_, List.getElem?_eq_getElem hmlt⟩
            obtain ⟨a', cap', hv', hc'⟩ := HI1.out
            cases hv'
            obtain ⟨gw, rfl, cw⟩ := hc' m y hy
            have hT := take_has cs m y code hy
            have HT := hide1 hT
            clear hc' hy hT
            cases hcon : (cs.take m).contains code with
            | true =>
              rw [hcon] at HT
              go_wp2
              go_roundw
              case rel => exact ⟨m + 1, by omega, by go_num, by rw [HT.out]; simp, (by first | rfl | trivial)⟩
              case measure => simp [intOf]; omega
            | false =>
              rw [hcon] at HT
              go_wp2
              go_roundw
              case rel => exact ⟨m + 1, by omega, by go_num, by rw [HT.out]; simp, (by first | rfl | trivial)⟩
              case measure => simp [intOf]; omega
          · have : m = cs.length := by omega
            subst this
            rw [List.take_length]
            obtain ⟨bi, hbi⟩ : ∃ bi, bi = cs.contains code := ⟨_, rfl⟩
            rw [← hbi]
            have HBI := hide1 hbi
            clear hbi hm hmlt
            rcases HN.out with ⟨rfl, rfl⟩ | ⟨c0, ct, t, u, rfl, rfl⟩
            case' inr =>
              obtain ⟨a', cap', hv', hc'⟩ := HI1.out
              cases hv'
              obtain ⟨gw, rfl, cw⟩ := hc' 0 c0 rfl
              clear hc'
            all_goals by_cases hz : code = 0
            all_goals try subst hz
            all_goals
              go_wp2_with fail
              refine (codes_val HF.out _ _ k (k + 1) (by omega) (HE3.out.below HB1'.out) (HVal.out _ HR1.out)).mono ?_
              rintro y W2 ⟨pv, rfl, hp2, hB2⟩
              rw [← HCS.out] at hp2
              have c2 := (hB2.cell (p := ⟨ga, k, none⟩) hgl).trans c1
              have HR2 := hide1 (HR1.out.below hB2)
              have HB2' := hide1 (HB1'.out.trans (hB2.mono HB1'.out.size))
              have HI2 := hide1 (HI1.out.below hB2)
              have HP2 := hide1 (intsAt_own hp2)
              clear hB2 c1 hgl hp2
              have hgl := lt_cell c2
              go_wp2_with fail
              refine (numbers_any _ pv _ HP2.out (by omega)).mono ?_
              rintro y W3 ⟨nv, rfl, hp3, hB3⟩
              have c3 := (hB3.cell (p := ⟨ga, k, none⟩) hgl).trans c2
              have HR3 := hide1 (HR2.out.below hB3)
              have HB3' := hide1 (HB2'.out.trans (hB3.mono HB2'.out.size))
              have HI3 := hide1 (HI2.out.below hB3)
              have HP3 := hide1 (intsAt_own hp3)
              clear hB3 c2 hgl hp3
              go_wp2_with fail
              refine (ints_eq _ nv _ _ HP3.out HI3.out (by omega)).mono ?_
              rintro y W4 ⟨rfl, n, rfl⟩
              have c4 : (W3.drewN n).cell? ⟨ga, k, none⟩ = some _ := c3
              have HR4 := hide1 (HR3.out.below (below_drewN (Below.refl _ _) n))
              have HB4' := hide1 (below_drewN HB3'.out n)
              clear c3
              have hgl := lt_cell c4
              go_wp2_with fail
              refine (code_val HF.out _ _ k (k + 1) (by omega) (HE3.out.below HB4'.out) (HVal.out _ HR4.out)).mono ?_
              rintro y W5 ⟨rfl, hB5⟩
              rw [← HCS.out]
              dsimp only [List.headD]
              have c5 := (hB5.cell (p := ⟨ga, k, none⟩) hgl).trans c4
              have HR5 := hide1 (HR4.out.below hB5)
              have HB5' := hide1 (HB4'.out.trans (hB5.mono HB4'.out.size))
              clear hB5 c4 hgl
              have hgl := lt_cell c5
              go_wp2_with fail
              refine (has_val HF.out _ _ k _ (k + 1) (by omega) (HVal.out _ HR5.out)).mono ?_
              rintro y W6 ⟨rfl, hB6⟩
              rw [← HCS.out]
              first
                | rw [inC_ne _ _ hz, ← HBI.out]
                | (rw [inC_zero]; dsimp only [List.isEmpty])
              have c6 := (hB6.cell (p := ⟨ga, k, none⟩) hgl).trans c5
              have HB6' := hide1 (HB5'.out.trans (hB6.mono HB5'.out.size))
              clear hB6 c5 hgl
              go_wp2
              go_roundw
              case rel => exact ⟨k + 1, by omega, by go_num, HB6'.out⟩
              case measure => simp [intOf]; omega
      · have HB := hide1 (HB3.out.trans (hB.mono HB3.out.size))
        clear hB
        go_wp2_with fail
        refine (awake_any wr (HE.out.below HB.out)).mono ?_
        rintro y w4 ⟨rfl, hB4⟩
        go_wp2
        go_ret
        exact ⟨rfl, HB.out.trans (hB4.mono HB.out.size)⟩

end Go.Proofs.YtogninhgibbfnaaDoor
