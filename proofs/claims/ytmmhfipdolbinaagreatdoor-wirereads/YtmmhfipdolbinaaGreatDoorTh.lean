/- The document's reader: Words, word by word. -/
import Derived.Test.YtmmhfipdolbinaaGreatDoorMTfTg
namespace Go.Proofs.YtmmhfipdolbinaaGreatDoor
open Go.RowKit
set_option maxRecDepth 100000
attribute [local go_sem] not_any mf_any

theorem own_keep {w w' : World} {base : Nat} {e : TypeId} {size n : Nat} {v : Value} {xs : List Value} (h : w.ownsRow base e size v n xs) (hk : ∀ b, base ≤ b → b < w.heap.size → w'.heap[b]? = w.heap[b]?) : w'.ownsRow base e size v n xs := by
  refine ⟨h.1, ?_⟩
  rcases h.2 with h1 | ⟨g, cap, cur, rfl, hb, hg, h2⟩
  · exact .inl h1
  · exact .inr ⟨g, cap, cur, rfl, hb, (hk g hb (lt_heap hg)).trans hg, h2⟩
theorem own_set {w : World} {base g o : Nat} {e : TypeId} {size n : Nat} {v x : Value} {xs : List Value} (h : w.ownsRow base e size v n xs) (hg : g < base) : (w.setCell ⟨g, o, none⟩ x).ownsRow base e size v n xs :=
  own_keep h (fun b hb _ => heap_setCell_other w _ b x (by simp; omega))
theorem info34 : (Tryz.prog.info? 34).map (fun i => (i.zero, i.size, i.bytes)) = some (some (.int .u64 0), 1, 8) := by kernel_rfl
def wks (wk : Nat → Nat) (n : Nat) : List Nat := (List.range n).map wk
theorem wks_succ (wk : Nat → Nat) (n : Nat) : wks wk (n + 1) = wks wk n ++ [wk n] := by simp [wks, List.range_succ]
theorem wks_length (wk : Nat → Nat) (n : Nat) : (wks wk n).length = n := by simp [wks]
theorem u64s_append (a b : List Nat) : u64s (a ++ b) = u64s a ++ u64s b := by simp [u64s]

set_option maxHeartbeats 2000000 in
theorem dwords_loop (s : ByteArray) (k wd sz n : Nat) (most : Int) (w : World) (pos wk : Nat → Nat) (h1 : 1 ≤ wd) (h2 : wd ≤ 64) (hsz : sz = (wd + 7) / 8) (hk : pos 0 ≤ s.size) (hs : s.size ≤ 281474976710656) (hn : n ≤ 65536) (hlt : n * sz ≤ s.size - pos 0)
    (hwk : ∀ j, wk j < 18446744073709551616)
    (HM : ∀ w, Calls Tryz.prog 42 #[dv s k 0, .int .i64 most, .int .i64 65536] w fun en w' => en = .returned (.tuple #[dv s (pos 0) 0, .int .i64 (n : Int)]) ∧ Below w.heap.size w w')
    (HU : ∀ j, j < n → ∀ w, Calls Tryz.prog 8 #[dv s (pos j) 0, .int .i64 (sz : Int)] w fun en w' => en = .returned (.tuple #[dv s (pos (j + 1)) 0, .int .u64 (wk j : Nat)]) ∧ Below w.heap.size w w')
    (PP : Ending → World → Prop)
    (HYES : (∀ j, j < n → wk j < 2 ^ wd) → ∀ e w', DW s (pos n) 0 (wks wk n) w e w' → PP e w')
    (HNO : (∃ j, j < n ∧ ¬ wk j < 2 ^ wd) → ∀ e w', DW s k 13 [] w e w' → PP e w') :
    Calls Tryz.prog 16 #[dv s k 0, .int .i64 (wd : Int), .int .i64 most] w PP := by
  have mx := mixed
  have kM := fun w => hide1 (HM w)
  have kU := hide1 HU
  have kF := fun w => hide1 (failed_any s k 0 13 w)
  rw [fst_zero] at kF
  have HY' := hide1 HYES
  have HN' := hide1 HNO
  have HWK := hide1 hwk
  have HDN : Hid (∀ kr cr e w', e = .returned (.tuple #[dv s kr cr, .slice none 0 0]) → Below w.heap.size w w' → DW s kr cr [] w e w') := fun _ _ _ _ h1 h2 => DW.no h1 h2
  have hw1 : ¬ ((wd : Int) < 1) := by omega
  have hw2 : ¬ (64 < (wd : Int)) := by omega
  have hz1 : IntKind.i64.wrap ((wd : Int) + 7) = (wd : Int) + 7 := by rw [IntKind.wrap_i64]; omega
  have hz2 : ((wd : Int) + 7) / 8 = (sz : Int) := by omega
  have hz3 : IntKind.i64.wrap (sz : Int) = (sz : Int) := by rw [IntKind.wrap_i64]; omega
  have hz0 : ¬ (sz : Int) = 0 := by omega
  obtain ⟨k4, hk4⟩ : ∃ k4, k4 = pos 0 := ⟨_, rfl⟩
  rw [← hk4] at hk hlt kM
  have hq1 : IntKind.i64.wrap ((s.size : Int) - (k4 : Int)) = (s.size : Int) - (k4 : Int) := by rw [IntKind.wrap_i64]; omega
  obtain ⟨q, hq⟩ : ∃ q, q = (s.size - k4) / sz := ⟨_, rfl⟩
  have hq2 : ((s.size : Int) - (k4 : Int)) / (sz : Int) = (q : Int) := by rw [hq, ← Int.ofNat_sub (by omega)]; rfl
  have hq2' : ((s.size : Int) - (k4 : Int)).tdiv (sz : Int) = (q : Int) := by rw [Int.tdiv_eq_ediv_of_nonneg (by omega)]; exact hq2
  have hqle : q ≤ s.size := by rw [hq]; exact Nat.le_trans (Nat.div_le_self _ _) (by omega)
  have hq3 : IntKind.i64.wrap (q : Int) = (q : Int) := by rw [IntKind.wrap_i64]; omega
  have hq4 : ¬ (q : Int) < (n : Int) := by
    have : ¬ q < n := by rw [hq, Nat.div_lt_iff_lt_mul (by omega)]; omega
    omega
  have HK4 := hide1 hk4
  obtain ⟨i0, hi, hi0, hi1, hi2⟩ := info_parts info34
  obtain ⟨wm, hwm⟩ : ∃ wm, wd = wm + 1 := ⟨wd - 1, by omega⟩
  have ewm : (wd : Int) - 1 = (wm : Int) := by omega
  have HWM := hide1 hwm
  have hwm64 : (wm : Int) < 64 := by omega
  have ewk : IntKind.u64.wrap (wm : Int) = (wm : Int) := by rw [IntKind.wrap_u64]; omega
  have HWD := hide1 h2
  have HNI := hide1 hn
  clear HM HU HYES HNO hwk h1 h2 hsz hq hlt hqle hk4 hk hwm hs
  unfold dv at kM kF ⊢
  go_enter Tryz.func16, Tryz.ntmps16
  go_upto_region 3 with (fail)
  generalize hX : World.alloc (World.alloc w _) _ = X
  have HX : Hid (Below w.heap.size w X) := by rw [← hX]; exact two_below _ _
  have h0 := hX ▸ heap_alloc2_old w _ _
  have h1 := hX ▸ heap_alloc2_new w _ _
  obtain ⟨c0, c1, c2, _, _, _, l0⟩ := box3 h0
  have H0 := hide1 h0
  have H1 := hide1 h1
  clear hX h0 h1
  go_upto_region 4 with (go_at_call 42; refine (kM _).out.mono ?_; rintro e w1 ⟨rfl, hb1⟩; have HH0 := hide1 ((hb1.block _ (lt_heap H0.out)).trans H0.out); have h1 := (hb1.block _ (lt_heap H1.out)).trans H1.out; have H2 := hide1 h1; have l1 := lt_heap h1; have HB := hide1 (HX.out.trans (hb1.mono HX.out.size)); clear h1 hb1)
  clear c0 c1 c2 l0 HX H0 H1 kM
  generalize hY : World.alloc w1 _ = Y
  have HY : Hid (Below w.heap.size w Y) := by rw [← hY]; exact HB.out.alloc HB.out.size _
  have h0 := hY ▸ heap_alloc_new w1 _
  have HR1 := hide1 (hY ▸ keep_alloc H2.out _)
  have HR0 := hide1 (hY ▸ keep_alloc HH0.out _)
  have hYs : Y.heap.size = w1.heap.size + 1 := by rw [← hY]; simp
  obtain ⟨c0, c1, c2, _, _, _, l0⟩ := box3 h0
  obtain ⟨e0, _, _, _, _, _, _⟩ := box3 HR0.out
  have HRN := hide1 h0
  clear hY h0 H2 HH0 HB
  generalize w1.heap.size = nb at *
  go_wp2
  have hqd : decide (q < n) = false := by rw [decide_eq_false_iff_not]; omega
  rw [hz2, hqd]
  clear c0 c1 c2 l0 e0 hqd hq1 hq2 hq2' hq3 hq4 hz1 hz2 hz3
  go_loopw [11, 12] (fun ov i wr => ∃ j : Nat, j ≤ n ∧ i = .int .i64 j ∧ wr.heap[nb]? = some (drow s (pos j) 0) ∧ wr.ownsRow (nb + 1) 34 1 ov j (u64s (wks wk j)) ∧ Below nb Y wr ∧ ∀ m, m < j → wk m < 2 ^ wd) (fun _ i _ => n - (intOf i).toNat)
  case atStart =>
    refine ⟨0, Nat.zero_le _, rfl, ?_, World.ownsRow_nil _ _ _ _, Below.refl _ _, fun m hm => by omega⟩
    rw [← HK4.out]; exact HRN.out
  case round =>
    obtain ⟨j, hj, rfl, hrn, hrow, hB, hall⟩ := hrel
    have hwr := hB.size
    by_cases hjn : j < n
    · obtain ⟨la, lc, rfl⟩ := row_form hrow
      have kN := fun w => hide1 (kU.out j hjn w)
      have hx64 := HWK.out j
      have HS := hide1 (wks_succ wk j)
      obtain ⟨x, hx⟩ : ∃ x, wk j = x := ⟨_, rfl⟩
      have HXK := hide1 hx
      rw [hx] at hx64 kN HS
      obtain ⟨p, hp⟩ : ∃ p, pos j = p := ⟨_, rfl⟩
      obtain ⟨p', hp'⟩ : ∃ p', pos (j + 1) = p' := ⟨_, rfl⟩
      have HPP := hide1 hp'
      rw [hp, hp'] at kN
      rw [hp] at hrn
      unfold drow at hrn
      unfold dv at kN
      obtain ⟨c0, c1, c2, f0, f1, f2, l0⟩ := box3 hrn
      have HW := hide1 (And.intro hrn (And.intro hrow (And.intro hB hall)))
      have HA := hide1 (And.intro ewm (And.intro hwm64 (And.intro ewk (And.intro hx64 (And.intro hwr (And.intro hYs hj))))))
      clear hrn hrow hB hall hx hp hp' ewm hwm64 ewk hx64 hwr hYs hj hz0 f0 f1 f2
      go_upto_region 14 with (go_at_call 8; refine (kN _).out.mono ?_; rintro e w2 ⟨rfl, hb2⟩; have HB2 := hide1 hb2; clear hb2)
      obtain ⟨ewm, hwm64, ewk, hx64, hwr, hYs, hj⟩ := HA.out
      have l2 := HB2.out.size
      have HOL := hide1 (fun b hb => HW.out.2.1.lt b hb)
      have HRV0 := hide1 ((HB2.out.block _ (lt_heap HW.out.1)).trans HW.out.1)
      have HOV0 := hide1 (own_keep HW.out.2.1 (fun b _ hb => HB2.out.block b hb))
      have HBV0 := hide1 (HW.out.2.2.1.trans (HB2.out.mono (by omega)))
      have HALL := hide1 HW.out.2.2.2
      clear HW HB2 c0 c1 c2 l0
      generalize hV : World.alloc w2 _ = V
      have HLV := hide1 (hV ▸ heap_alloc_new w2 _)
      have HRV := hide1 (hV ▸ keep_alloc HRV0.out _)
      have HOV : Hid (V.ownsRow (nb + 1) 34 1 (.slice la j lc) j (u64s (wks wk j))) := by rw [← hV]; exact HOV0.out.alloc _
      have HBV : Hid (Below nb Y V) := by rw [← hV]; exact HBV0.out.alloc (by omega) _
      have hVs : V.heap.size = w2.heap.size + 1 := by rw [← hV]; simp
      obtain ⟨c0, c1, c2, _, _, _, l0⟩ := box3 HLV.out
      clear hV HRV0 HOV0 HBV0
      generalize w2.heap.size = lb at *
      have HAR := hide1 (And.intro hYs (And.intro hwr (And.intro l2 hVs)))
      have ey2 : (x : Int) / 2 = ((x / 2 : Nat) : Int) := by omega
      obtain ⟨y2, hy2⟩ : ∃ y2, x / 2 = y2 := ⟨_, rfl⟩
      rw [hy2] at ey2
      have eyw : IntKind.u64.wrap (y2 : Int) = (y2 : Int) := by rw [IntKind.wrap_u64]; omega
      have HC : Hid (x < 2 ^ wd ↔ y2 < 2 ^ wm) := by
        show x < 2 ^ wd ↔ y2 < 2 ^ wm
        rw [HWM.out, Nat.pow_succ]; omega
      have HX64 := hide1 hx64
      clear hy2 hYs hwr l2 hVs hx64
      by_cases hw64 : wd < 64
      · have hw64' : (wd : Int) < 64 := by omega
        by_cases hfit : x < 2 ^ wd
        · have hs0 := shr_zero (HC.out.1 hfit)
          have HF := hide1 hfit
          clear hfit
          go_wp2_with (at_builtin; go_must (refine wpList_append_own _ rfl _ _ 35 rfl (nb + 1) 34 i0 (.int .u64 0) 1 8 Tryz.underlying35 hi hi0 hi1 hi2 rfl (by decide) _ _ _ rfl (HOV.out.alloc _) ⟨V.heap.size, 0, none⟩ 1 1 [.int .u64 (x : Int)] rfl rfl (cell_one_new _ _ _) (by simp [Value.oneCell']) (by unfold maxLen; have := HNI.out; omega) (by have := HNI.out; omega) (by have := HAR.out; simp; omega) ?_); intro v' w3 hown' hgrow _; have HG := hide1 hgrow; obtain ⟨la', lc', rfl⟩ := row_form hown'; have HO3 := hide1 hown'; have h3 := (hgrow.block lb (by have := HAR.out; simp; omega) (fun e => by have := HOL.out lb e.symm; have := HAR.out; omega)).trans (keep_alloc HLV.out _); have h4 := (hgrow.block nb (by have := HAR.out; simp; omega) (fun e => by have := HOL.out nb e.symm; omega)).trans (keep_alloc HRV.out _); obtain ⟨d0, d1, d2, _, _, _, l3⟩ := box3 h3; obtain ⟨g0, g1, g2, f0, f1, f2, l4⟩ := box3 h4; have H4 := hide1 h4; clear h3 h4 hown' hgrow)
          go_roundw
          case rel =>
            obtain ⟨q1, q2, q3, q4⟩ := HAR.out
            refine ⟨j + 1, by omega, by go_num, ?_, ?_, below_box3 ((HBV.out.alloc (by omega) _).grown HG.out (by simp; omega) (fun b hb => by have := (HOL.out b hb).1; omega)) (Nat.le_refl _), ?_⟩
            · rw [HPP.out]; exact set_box3 H4.out
            · rw [HS.out, u64s_append]
              exact own_set (own_set (own_set HO3.out (by omega)) (by omega)) (by omega)
            · intro m hm
              by_cases hmj : m < j
              · exact HALL.out m hmj
              · obtain rfl : m = j := by omega
                rw [HXK.out]; exact HF.out
          case measure => simp [intOf]; omega
        · have hs0 := shr_some (fun h => hfit (HC.out.2 h))
          have HF := hide1 hfit
          have ha := (HBV.out.block _ (by omega)).trans HR0.out
          have hb := (HBV.out.block _ (by omega)).trans HR1.out
          obtain ⟨e0, e1, e2, _, _, _, _⟩ := box3 ha
          have HR1V := hide1 hb
          have HBW := hide1 (HY.out.trans (HBV.out.mono (by have := HY.out.size; have := HAR.out; omega)))
          clear hfit ha hb c0 c1 c2
          go_wp2_with (go_at_call 26; refine (kF _).out.mono ?_; rintro e w3 ⟨rfl, hb2⟩; have h1 := (hb2.block _ (lt_heap HR1V.out)).trans HR1V.out; have H4 := hide1 h1; obtain ⟨d0, d1, d2, f0, f1, f2, l2⟩ := box3 h1; have HB3 := hide1 (HBW.out.trans (hb2.mono HBW.out.size)); clear h1 hb2)
          exact ret_d2 Tryz.results16 (w.heap.size + 1) _ _ _ _ rfl rfl (set_box3 H4.out) rfl (HN'.out ⟨j, hjn, by rw [HXK.out]; exact HF.out⟩ _ _ (HDN.out _ _ _ _ rfl (below_box3 HB3.out (by omega))))
      · have hw64' : decide ((wd : Int) < 64) = false := by rw [decide_eq_false_iff_not]; omega
        have hfit : x < 2 ^ wd := by
          have : wd = 64 := by have := HWD.out; omega
          rw [this]; exact HX64.out
        have HF := hide1 hfit
        clear hfit
        go_wp2_with (at_builtin; go_must (refine wpList_append_own _ rfl _ _ 35 rfl (nb + 1) 34 i0 (.int .u64 0) 1 8 Tryz.underlying35 hi hi0 hi1 hi2 rfl (by decide) _ _ _ rfl (HOV.out.alloc _) ⟨V.heap.size, 0, none⟩ 1 1 [.int .u64 (x : Int)] rfl rfl (cell_one_new _ _ _) (by simp [Value.oneCell']) (by unfold maxLen; have := HNI.out; omega) (by have := HNI.out; omega) (by have := HAR.out; simp; omega) ?_); intro v' w3 hown' hgrow _; have HG := hide1 hgrow; obtain ⟨la', lc', rfl⟩ := row_form hown'; have HO3 := hide1 hown'; have h3 := (hgrow.block lb (by have := HAR.out; simp; omega) (fun e => by have := HOL.out lb e.symm; have := HAR.out; omega)).trans (keep_alloc HLV.out _); have h4 := (hgrow.block nb (by have := HAR.out; simp; omega) (fun e => by have := HOL.out nb e.symm; omega)).trans (keep_alloc HRV.out _); obtain ⟨d0, d1, d2, _, _, _, l3⟩ := box3 h3; obtain ⟨g0, g1, g2, f0, f1, f2, l4⟩ := box3 h4; have H4 := hide1 h4; clear h3 h4 hown' hgrow)
        go_roundw
        case rel =>
          obtain ⟨q1, q2, q3, q4⟩ := HAR.out
          refine ⟨j + 1, by omega, by go_num, ?_, ?_, below_box3 ((HBV.out.alloc (by omega) _).grown HG.out (by simp; omega) (fun b hb => by have := (HOL.out b hb).1; omega)) (Nat.le_refl _), ?_⟩
          · rw [HPP.out]; exact set_box3 H4.out
          · rw [HS.out, u64s_append]
            exact own_set (own_set (own_set HO3.out (by omega)) (by omega)) (by omega)
          · intro m hm
            by_cases hmj : m < j
            · exact HALL.out m hmj
            · obtain rfl : m = j := by omega
              rw [HXK.out]; exact HF.out
        case measure => simp [intOf]; omega
    · obtain rfl : j = n := by omega
      obtain ⟨la, lc, rfl⟩ := row_form hrow
      unfold drow at hrn
      obtain ⟨c0, c1, c2, _, _, _, l0⟩ := box3 hrn
      have hb := (hB.block _ (by omega)).trans HR1.out
      obtain ⟨d0, d1, d2, f0, f1, f2, l2⟩ := box3 hb
      have HR1V := hide1 hb
      have hne : nb ≠ w.heap.size + 1 := by omega
      have HW := hide1 (And.intro hrow (And.intro hB hall))
      have HAR := hide1 (And.intro hYs hwr)
      clear hrn hrow hB hall hb hwr hYs ewm hwm64 ewk
      go_wp2
      refine ret_d2 Tryz.results16 (w.heap.size + 1) _ _ _ _ rfl rfl (set_box3 HR1V.out) rfl (HY'.out HW.out.2.2 _ _ ⟨_, _, _, rfl, own_nl (own_set (own_set (own_set HW.out.1 (by omega)) (by omega)) (by omega)) (wks_length _ _), fun p hp => ?_, below_box3 (HY.out.trans (HW.out.2.1.mono (by omega))) (by omega)⟩)
      have := (HW.out.1.lt p.block (by rw [hp]; rfl)).1
      omega
end Go.Proofs.YtmmhfipdolbinaaGreatDoor
