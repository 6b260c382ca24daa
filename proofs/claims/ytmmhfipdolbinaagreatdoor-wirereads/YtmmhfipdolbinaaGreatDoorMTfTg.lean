/- The document's reader: Bits, as its callers see it. The document's reader: Words, where it fails ahead of the words. -/
import Derived.Test.YtmmhfipdolbinaaGreatDoorTe
namespace Go.Proofs.YtmmhfipdolbinaaGreatDoor
open Go.RowKit

def nk (k sz : Nat) (code : Int) : Nat := if code = 0 then k + sz else k
theorem nk_ok (k sz : Nat) : nk k sz 0 = k + sz := rfl
theorem nk_no (k sz : Nat) {code : Int} (h : code ≠ 0) : nk k sz code = k := if_neg h
theorem dN_nk (s : ByteArray) (k sz : Nat) (code : Int) : dN s k sz code = dv s (nk k sz code) code := by
  by_cases h : code = 0
  · subst h; rfl
  · rw [dN_no _ _ _ h, nk_no _ _ h]
theorem dbits_over (s : ByteArray) (k : Nat) (c most : Int) (w : World) (hc : c ≠ 0) :
    Calls Tryz.prog 19 #[dv s k c, .int .i64 most] w (DB s k c [] w) :=
  dbits_via s k k k 0 c c 0 most ⟨#[]⟩ w k c [] 0 (by decide) rfl (fun w => many_over s k c most 524288 w hc) (fun h => absurd h hc) (fun h => absurd h hc) (.inl ⟨hc, rfl, rfl, rfl⟩)
theorem dbits_any (s : ByteArray) (k : Nat) (most : Int) (w : World) (hk : k ≤ s.size) (hs : s.size ≤ 281474976710656) :
    Calls Tryz.prog 19 #[dv s k 0, .int .i64 most] w (DB s (nk k (btS most (restOf s k)) (btC most (restOf s k))) (btC most (restOf s k)) (btV most (restOf s k)) w) := by
  have hl := restOf_length s k
  have h1 := fun w => many_any s k most 524288 w hk hs
  have hMle := mostN_le most 524288
  obtain ⟨M, hM⟩ : ∃ M, M = mostN most 524288 := ⟨_, rfl⟩
  rw [← hM] at h1 hMle
  rw [btV, btS, btC, ← hM]
  by_cases h4 : (restOf s k).length < 4
  · have e1 : mnC M (restOf s k) = 12 := by rw [mnC, if_pos h4]
    have e2 : lstC M 1 (restOf s k) = 12 := by rw [lstC, if_pos h4]
    rw [mnN, e1, dN_no _ _ _ (by decide), if_neg (by decide)] at h1
    simp only [e2]
    exact dbits_via s k k k 0 0 12 0 most ⟨#[]⟩ w k 12 [] 0 (by decide) rfl h1 (fun h => absurd h (by decide)) (fun h => absurd h (by decide)) (.inl ⟨by decide, rfl, rfl, rfl⟩)
  · by_cases h5 : M < (cntN (restOf s k) : Int)
    · have e1 : mnC M (restOf s k) = 2 := by rw [mnC, if_neg h4, if_pos h5]
      have e2 : lstC M 1 (restOf s k) = 2 := by rw [lstC, if_neg h4, if_pos h5]
      rw [mnN, e1, dN_no _ _ _ (by decide), if_neg (by decide)] at h1
      simp only [e2]
      exact dbits_via s k k k 0 0 2 0 most ⟨#[]⟩ w k 2 [] 0 (by decide) rfl h1 (fun h => absurd h (by decide)) (fun h => absurd h (by decide)) (.inl ⟨by decide, rfl, rfl, rfl⟩)
    · have e1 : mnC M (restOf s k) = 0 := by rw [mnC, if_neg h4, if_neg h5]
      rw [mnN, e1, dN_ok, if_pos rfl] at h1
      obtain ⟨n, hn⟩ : ∃ n, n = cntN (restOf s k) := ⟨_, rfl⟩
      have e8 : (cntN (restOf s k) * 1 + 7) / 8 = (n + 7) / 8 := by rw [hn]; omega
      have hnl : n ≤ 524288 := by omega
      rw [← hn] at h1
      have hne : need n 8 = (n + 7) / 8 := need8 n
      by_cases h6 : (restOf s k).length < 4 + (n + 7) / 8
      · have e2 : lstC M 1 (restOf s k) = 12 := by rw [lstC, if_neg h4, if_neg h5, e8, if_pos h6]
        simp only [e2]
        exact dbits_via s k (k + 4) (k + 4) n 0 0 12 most ⟨#[]⟩ w k 12 [] _ hnl rfl h1 (fun _ w => take_short s (k + 4) _ w (by omega) hs (by omega)) (fun _ h => absurd h (by decide)) (.inr (.inl ⟨rfl, by decide, rfl, rfl, rfl⟩))
      · have e2 : lstC M 1 (restOf s k) = 0 := by rw [lstC, if_neg h4, if_neg h5, e8, if_neg h6]
        have e3 : txt (lstH 1 (restOf s k)) = s.extract (k + 4) (k + 4 + (n + 7) / 8) := by
          rw [take_txt, lstH, e8, restOf, restOf, List.drop_drop]
        have e4 : (txt (lstH 1 (restOf s k))).size = (n + 7) / 8 := by
          have := (lstH_length e2).1
          rw [txt_size (show Lt 256 (lstH 1 (restOf s k)) from ((restOf_lt s k).drop 4).take _), this, e8]
        have e5 : nums (txt (lstH 1 (restOf s k))) = lstH 1 (restOf s k) := nums_txt (((restOf_lt s k).drop 4).take _)
        have e6 : cleanB n (lstH 1 (restOf s k)) = true ↔ Clean n (s.extract (k + 4) (k + 4 + (n + 7) / 8)) := by
          rw [← e3, ← cleanB_iff, e5]
        have hr := fun w => rread_any n w (s.extract (k + 4) (k + 4 + (n + 7) / 8)) (by omega) (by rw [← e3, e4, hne])
        have V := fun kr cr tr => dbits_via s k (k + 4) (k + 4 + (n + 7) / 8) n 0 0 0 most _ w kr cr tr _ hnl rfl h1 (fun _ w => take_some s (k + 4) _ w hs (by omega)) (fun _ _ w => hr w)
        by_cases hcl : Clean n (s.extract (k + 4) (k + 4 + (n + 7) / 8))
        · have e7 : cleanB n (lstH 1 (restOf s k)) = true := e6.2 hcl
          have := V (k + 4 + (n + 7) / 8) 0 _ (.inr (.inr (.inr ⟨rfl, rfl, hcl, rfl, rfl, rfl⟩)))
          simp only [e2, ← hn, e7, btL, e3, hne, ne_eq, not_true_eq_false, if_false, if_true, nk_ok, ← Nat.add_assoc]
          exact this
        · have e7 : cleanB n (lstH 1 (restOf s k)) = false := by
            rw [Bool.eq_false_iff]; exact fun h => hcl (e6.1 h)
          have := V k 13 [] (.inr (.inr (.inl ⟨rfl, rfl, hcl, rfl, rfl, rfl⟩)))
          simp only [e2, ← hn, e7]
          exact this
end Go.Proofs.YtmmhfipdolbinaaGreatDoor

namespace Go.Proofs.YtmmhfipdolbinaaGreatDoor
open Go.RowKit
set_option maxRecDepth 100000
attribute [local go_sem] not_any mf_any

theorem nl_none (w : World) : Nl w 0 none [] := ⟨rfl, fun j x h => by simp at h⟩
/- words in new blocks -/
def DW (s : ByteArray) (kr : Nat) (cr : Int) (l : List Nat) (w : World) (en : Ending) (w' : World) : Prop :=
  ∃ a n cap, en = .returned (.tuple #[dv s kr cr, .slice a n cap]) ∧ Nl w' n a l ∧ (∀ p, a = some p → w.heap.size ≤ p.block) ∧ Below w.heap.size w w'
theorem DW.no {s : ByteArray} {kr : Nat} {cr : Int} {w : World} {en : Ending} {w' : World} (h : en = .returned (.tuple #[dv s kr cr, .slice none 0 0])) (hb : Below w.heap.size w w') : DW s kr cr [] w en w' :=
  ⟨none, 0, 0, h, nl_none _, fun p hp => (by cases hp), hb⟩

theorem dwords_bad (s : ByteArray) (k : Nat) (c width most : Int) (w : World) (hn : width < 1 ∨ 64 < width) :
    Calls Tryz.prog 16 #[dv s k c, .int .i64 width, .int .i64 most] w (DW s k (fst c 11) [] w) := by
  have kF := fun w => hide1 (failed_any s k c 11 w)
  have HN : Hid (∀ kr cr e w', e = .returned (.tuple #[dv s kr cr, .slice none 0 0]) → Below w.heap.size w w' → DW s kr cr [] w e w') := fun _ _ _ _ h1 h2 => DW.no h1 h2
  generalize fst c 11 = c' at *
  generalize hPP : DW s k c' [] w = PP at *
  unfold dv at *
  have hd : (decide (width < 1) || decide (64 < width)) = true := by simp; exact hn
  rcases Classical.em (width < 1) with h1 | h1
  all_goals
    go_enter Tryz.func16, Tryz.ntmps16
    go_upto_region 2 with (fail)
    generalize hX : World.alloc (World.alloc w _) _ = X
    have HX : Hid (Below w.heap.size w X) := by rw [← hX]; exact two_below _ _
    have h0 := hX ▸ heap_alloc2_old w _ _
    have h1 := hX ▸ heap_alloc2_new w _ _
    obtain ⟨c0, c1, c2, _, _, _, l0⟩ := box3 h0
    have H1 := hide1 h1
    clear hX h0 h1
    go_wp2_with (go_at_call 26; refine (kF _).out.mono ?_; rintro e w1 ⟨rfl, hb1⟩; have h1 := (hb1.block _ (lt_heap H1.out)).trans H1.out; have H2 := hide1 h1; obtain ⟨d0, d1, d2, f0, f1, f2, l1⟩ := box3 h1; have HB := hide1 (HX.out.trans (hb1.mono HX.out.size)); clear h1 hb1)
    exact ret_d2 Tryz.results16 (w.heap.size + 1) _ _ _ _ rfl rfl (set_box3 H2.out) rfl (hPP ▸ HN.out _ _ _ _ rfl (below_box3 HB.out (by omega)))

set_option maxHeartbeats 1000000 in
theorem dwords_many (s : ByteArray) (k k1 wd : Nat) (c c' most : Int) (w : World) (h1 : 1 ≤ wd) (h2 : wd ≤ 64) (hc' : c' ≠ 0)
    (HM : ∀ w, Calls Tryz.prog 42 #[dv s k c, .int .i64 most, .int .i64 65536] w fun en w' => en = .returned (.tuple #[dv s k1 c', .int .i64 0]) ∧ Below w.heap.size w w') :
    Calls Tryz.prog 16 #[dv s k c, .int .i64 (wd : Int), .int .i64 most] w (DW s k1 c' [] w) := by
  have mx := mixed
  have kM := fun w => hide1 (HM w)
  have HN : Hid (∀ kr cr e w', e = .returned (.tuple #[dv s kr cr, .slice none 0 0]) → Below w.heap.size w w' → DW s kr cr [] w e w') := fun _ _ _ _ h1 h2 => DW.no h1 h2
  have hw1 : ¬ ((wd : Int) < 1) := by omega
  have hw2 : ¬ (64 < (wd : Int)) := by omega
  clear HM h1 h2
  generalize hPP : DW s k1 c' [] w = PP at *
  unfold dv at *
  go_enter Tryz.func16, Tryz.ntmps16
  go_upto_region 3 with (fail)
  generalize hX : World.alloc (World.alloc w _) _ = X
  have HX : Hid (Below w.heap.size w X) := by rw [← hX]; exact two_below _ _
  have h0 := hX ▸ heap_alloc2_old w _ _
  have h1 := hX ▸ heap_alloc2_new w _ _
  obtain ⟨c0, c1, c2, _, _, _, l0⟩ := box3 h0
  have H1 := hide1 h1
  clear hX h0 h1
  go_upto_region 4 with (go_at_call 42; refine (kM _).out.mono ?_; rintro e w1 ⟨rfl, hb1⟩; have h1 := (hb1.block _ (lt_heap H1.out)).trans H1.out; have H2 := hide1 h1; have l1 := lt_heap h1; have HB := hide1 (HX.out.trans (hb1.mono HX.out.size)); clear h1 hb1)
  clear c0 c1 c2 l0 HX
  generalize hY : World.alloc w1 _ = Y
  have HY : Hid (Below w.heap.size w Y) := by rw [← hY]; exact HB.out.alloc HB.out.size _
  have h0 := hY ▸ heap_alloc_new w1 _
  have h1 := hY ▸ keep_alloc H2.out _
  obtain ⟨c0, c1, c2, _, _, _, l0⟩ := box3 h0
  obtain ⟨d0, d1, d2, f0, f1, f2, l1'⟩ := box3 h1
  have H3 := hide1 h1
  have hne : w1.heap.size ≠ w.heap.size + 1 := by omega
  clear hY h0 h1
  go_wp2
  exact ret_d2 Tryz.results16 (w.heap.size + 1) _ _ _ _ rfl rfl (set_box3 (w := Y) H3.out) rfl (hPP ▸ HN.out _ _ _ _ rfl (below_box3 HY.out (by omega)))

/- many answers, all the words stand there or not: up to region 7 -/
set_option maxHeartbeats 1000000 in
theorem dwords_short (s : ByteArray) (k wd sz n : Nat) (most : Int) (w : World) (h1 : 1 ≤ wd) (h2 : wd ≤ 64) (hsz : sz = (wd + 7) / 8) (hk : k + 4 ≤ s.size) (hs : s.size ≤ 281474976710656) (_hn : n ≤ 65536) (hlt : s.size - (k + 4) < n * sz)
    (HM : ∀ w, Calls Tryz.prog 42 #[dv s k 0, .int .i64 most, .int .i64 65536] w fun en w' => en = .returned (.tuple #[dv s (k + 4) 0, .int .i64 (n : Int)]) ∧ Below w.heap.size w w') :
    Calls Tryz.prog 16 #[dv s k 0, .int .i64 (wd : Int), .int .i64 most] w (DW s k 12 [] w) := by
  have mx := mixed
  have kM := fun w => hide1 (HM w)
  have kF := fun w => hide1 (failed_any s k 0 12 w)
  rw [fst_zero] at kF
  have HN : Hid (∀ kr cr e w', e = .returned (.tuple #[dv s kr cr, .slice none 0 0]) → Below w.heap.size w w' → DW s kr cr [] w e w') := fun _ _ _ _ h1 h2 => DW.no h1 h2
  have hw1 : ¬ ((wd : Int) < 1) := by omega
  have hw2 : ¬ (64 < (wd : Int)) := by omega
  have hz1 : IntKind.i64.wrap ((wd : Int) + 7) = (wd : Int) + 7 := by rw [IntKind.wrap_i64]; omega
  have hz2 : ((wd : Int) + 7) / 8 = (sz : Int) := by omega
  have hz3 : IntKind.i64.wrap (sz : Int) = (sz : Int) := by rw [IntKind.wrap_i64]; omega
  have hz0 : ¬ (sz : Int) = 0 := by omega
  obtain ⟨k4, hk4⟩ : ∃ k4, k4 = k + 4 := ⟨_, rfl⟩
  have hq1 : IntKind.i64.wrap ((s.size : Int) - (k4 : Int)) = (s.size : Int) - (k4 : Int) := by rw [IntKind.wrap_i64]; omega
  obtain ⟨q, hq⟩ : ∃ q, q = (s.size - k4) / sz := ⟨_, rfl⟩
  have hq2 : ((s.size : Int) - (k4 : Int)) / (sz : Int) = (q : Int) := by rw [hq, ← Int.ofNat_sub (by omega)]; rfl
  have hq2' : ((s.size : Int) - (k4 : Int)).tdiv (sz : Int) = (q : Int) := by rw [Int.tdiv_eq_ediv_of_nonneg (by omega)]; exact hq2
  have hqle : q ≤ s.size := by rw [hq]; exact Nat.le_trans (Nat.div_le_self _ _) (by omega)
  have hq3 : IntKind.i64.wrap (q : Int) = (q : Int) := by rw [IntKind.wrap_i64]; omega
  have hq4 : (q : Int) < (n : Int) := by
    have : q < n := by rw [hq, Nat.div_lt_iff_lt_mul (by omega)]; rw [hk4]; exact hlt
    omega
  rw [← hk4] at kM
  clear HM h1 h2 hsz hq hlt hqle hk4 hk
  generalize hPP : DW s k 12 [] w = PP at *
  unfold dv at *
  go_enter Tryz.func16, Tryz.ntmps16
  go_upto_region 3 with (fail)
  generalize hX : World.alloc (World.alloc w _) _ = X
  have HX : Hid (Below w.heap.size w X) := by rw [← hX]; exact two_below _ _
  have h0 := hX ▸ heap_alloc2_old w _ _
  have h1 := hX ▸ heap_alloc2_new w _ _
  obtain ⟨c0, c1, c2, _, _, _, l0⟩ := box3 h0
  have H0 := hide1 h0
  have H1 := hide1 h1
  clear hX h0 h1
  go_upto_region 4 with (go_at_call 42; refine (kM _).out.mono ?_; rintro e w1 ⟨rfl, hb1⟩; have HH0 := hide1 ((hb1.block _ (lt_heap H0.out)).trans H0.out); have h1 := (hb1.block _ (lt_heap H1.out)).trans H1.out; have H2 := hide1 h1; have l1 := lt_heap h1; have HB := hide1 (HX.out.trans (hb1.mono HX.out.size)); clear h1 hb1)
  clear c0 c1 c2 l0 HX
  generalize hY : World.alloc w1 _ = Y
  have HY : Hid (Below w.heap.size w Y) := by rw [← hY]; exact HB.out.alloc HB.out.size _
  have h0 := hY ▸ heap_alloc_new w1 _
  have h1 := hY ▸ keep_alloc H2.out _
  have h2 := hY ▸ keep_alloc HH0.out _
  obtain ⟨c0, c1, c2, _, _, _, l0⟩ := box3 h0
  obtain ⟨e0, e1, e2, _, _, _, _⟩ := box3 h2
  have H3 := hide1 h1
  clear hY h0 h1 h2
  go_wp2_with (go_at_call 26; refine (kF _).out.mono ?_; rintro e w2 ⟨rfl, hb2⟩; have h1 := (hb2.block _ (lt_heap H3.out)).trans H3.out; have H4 := hide1 h1; obtain ⟨d0, d1, d2, f0, f1, f2, l2⟩ := box3 h1; have HB2 := hide1 (HY.out.trans (hb2.mono HY.out.size)); clear h1 hb2)
  exact ret_d2 Tryz.results16 (w.heap.size + 1) _ _ _ _ rfl rfl (set_box3 H4.out) rfl (hPP ▸ HN.out _ _ _ _ rfl (below_box3 HB2.out (by omega)))
end Go.Proofs.YtmmhfipdolbinaaGreatDoor
