/- The document's reader: Blob. -/
import Derived.Test.YtmmhfipdolbinaaGreatDoorTb
namespace Go.Proofs.YtmmhfipdolbinaaGreatDoor
open Go.RowKit
set_option maxRecDepth 100000
attribute [local go_sem] not_any mf_any

set_option maxHeartbeats 2000000 in
theorem dblob_via (s : ByteArray) (k k1 k2 n : Nat) (c c' c'' most : Int) (t : ByteArray) (w : World) (kr : Nat) (cr : Int) (tr : ByteArray)
    (HM : ∀ w, Calls Tryz.prog 42 #[dv s k c, .int .i64 most, .int .i64 65536] w fun en w' => en = .returned (.tuple #[dv s k1 c', .int .i64 (n : Int)]) ∧ Below w.heap.size w w')
    (HT : c' = 0 → ∀ w, Calls Tryz.prog 39 #[dv s k1 c', .int .i64 (n : Int)] w fun en w' => en = .returned (.tuple #[dv s k2 c'', .string t]) ∧ Below w.heap.size w w')
    (HC : (c' ≠ 0 ∧ kr = k1 ∧ cr = c' ∧ tr = ⟨#[]⟩) ∨ (c' = 0 ∧ c'' ≠ 0 ∧ kr = k ∧ cr = fst c c'' ∧ tr = ⟨#[]⟩) ∨ (c' = 0 ∧ c'' = 0 ∧ kr = k2 ∧ cr = 0 ∧ tr = t)) :
    Calls Tryz.prog 12 #[dv s k c, .int .i64 most] w fun en w' => en = .returned (.tuple #[dv s kr cr, .string tr]) ∧ Below w.heap.size w w' := by
  have mx := mixed
  have kM := fun w => hide1 (HM w)
  have kF := fun w => hide1 (failed_any s k c c'' w)
  have kT := hide1 HT
  clear HM HT
  unfold dv at *
  rcases HC with ⟨hc', rfl, rfl, rfl⟩ | ⟨rfl, hc'', rfl, rfl, rfl⟩ | ⟨rfl, rfl, rfl, rfl, rfl⟩
  · clear kT kF
    go_enter Tryz.func12, Tryz.ntmps12
    go_upto_region 1 with (fail)
    generalize hX : World.alloc (World.alloc w _) _ = X
    have HX : Hid (Below w.heap.size w X) := by rw [← hX]; exact two_below _ _
    have h0 := hX ▸ heap_alloc2_old w _ _
    have h1 := hX ▸ heap_alloc2_new w _ _
    obtain ⟨c0, c1, c2, _, _, _, l0⟩ := box3 h0
    have H1 := hide1 h1
    clear hX h0 h1
    go_upto_region 2 with (go_at_call 42; refine (kM _).out.mono ?_; rintro e w1 ⟨rfl, hb1⟩; have h1 := (hb1.block _ (lt_heap H1.out)).trans H1.out; have H2 := hide1 h1; have l1 := lt_heap h1; have HB := hide1 (HX.out.trans (hb1.mono HX.out.size)); clear h1 hb1)
    clear c0 c1 c2 l0 HX
    generalize hY : World.alloc w1 _ = Y
    have HY : Hid (Below w.heap.size w Y) := by rw [← hY]; exact HB.out.alloc HB.out.size _
    have h0 := hY ▸ heap_alloc_new w1 _
    have h1 := hY ▸ keep_alloc H2.out _
    obtain ⟨c0, c1, c2, _, _, _, l0⟩ := box3 h0
    obtain ⟨d0, d1, d2, f0, f1, f2, l1'⟩ := box3 h1
    have H3 := hide1 h1
    have hne : w1.heap.size ≠ w.heap.size + 1 := by omega
    clear hY h0 h1
    go_wp2
    exact ret_d2 Tryz.results12 (w.heap.size + 1) _ _ _ _ rfl rfl (set_box3 (w := Y) H3.out) rfl ⟨rfl, below_box3 HY.out (by omega)⟩
  all_goals
    have kT' := fun w => hide1 (kT.out rfl w)
    clear kT
    go_enter Tryz.func12, Tryz.ntmps12
    go_upto_region 1 with (fail)
    generalize hX : World.alloc (World.alloc w _) _ = X
    have HX : Hid (Below w.heap.size w X) := by rw [← hX]; exact two_below _ _
    have h0 := hX ▸ heap_alloc2_old w _ _
    have h1 := hX ▸ heap_alloc2_new w _ _
    obtain ⟨c0, c1, c2, _, _, _, l0⟩ := box3 h0
    have H0 := hide1 h0
    have H1 := hide1 h1
    clear hX h0 h1
    go_upto_region 2 with (go_at_call 42; refine (kM _).out.mono ?_; rintro e w1 ⟨rfl, hb1⟩; have HH0 := hide1 ((hb1.block _ (lt_heap H0.out)).trans H0.out); have h1 := (hb1.block _ (lt_heap H1.out)).trans H1.out; have H2 := hide1 h1; have l1 := lt_heap h1; have HB := hide1 (HX.out.trans (hb1.mono HX.out.size)); clear h1 hb1)
    clear c0 c1 c2 l0 HX
    generalize hY : World.alloc w1 _ = Y
    have HY : Hid (Below w.heap.size w Y) := by rw [← hY]; exact HB.out.alloc HB.out.size _
    have h0 := hY ▸ heap_alloc_new w1 _
    have K1 := hide1 (hY ▸ keep_alloc H2.out _)
    have K0 := hide1 (hY ▸ keep_alloc HH0.out _)
    obtain ⟨c0, c1, c2, _, _, _, l0⟩ := box3 h0
    clear hY h0
    go_upto_region 5 with (go_at_call 39; refine (kT' _).out.mono ?_; rintro e w2 ⟨rfl, hb1⟩; have KK0 := hide1 ((hb1.block _ (lt_heap K0.out)).trans K0.out); have KK1 := hide1 ((hb1.block _ (lt_heap K1.out)).trans K1.out); have l2 := lt_heap KK1.out; have HB2 := hide1 (HY.out.trans (hb1.mono HY.out.size)); clear hb1)
    clear c0 c1 c2 l0 HY HB H2 HH0
    generalize hZ : World.alloc w2 _ = Z
    have HZ : Hid (Below w.heap.size w Z) := by rw [← hZ]; exact HB2.out.alloc HB2.out.size _
    have h0 := hZ ▸ heap_alloc_new w2 _
    have h1 := hZ ▸ keep_alloc KK1.out _
    have h2 := hZ ▸ keep_alloc KK0.out _
    obtain ⟨c0, c1, c2, _, _, _, l0⟩ := box3 h0
    obtain ⟨d0, d1, d2, f0, f1, f2, l1'⟩ := box3 h1
    obtain ⟨e0, e1, e2, _, _, _, _⟩ := box3 h2
    have H3 := hide1 h1
    have hne : w2.heap.size ≠ w.heap.size + 1 := by omega
    clear hZ h0 h1 h2
  · go_wp2_with (go_at_call 26; refine (kF _).out.mono ?_; rintro e w3 ⟨rfl, hb2⟩; have h1 := (hb2.block _ (lt_heap H3.out)).trans H3.out; have H4 := hide1 h1; obtain ⟨d0, d1, d2, f0, f1, f2, l2⟩ := box3 h1; have HB3 := hide1 (HZ.out.trans (hb2.mono HZ.out.size)); clear h1 hb2)
    exact ret_d2 Tryz.results12 (w.heap.size + 1) _ _ _ _ rfl rfl (set_box3 H4.out) rfl ⟨rfl, below_box3 HB3.out (by omega)⟩
  · go_wp2
    exact ret_d2 Tryz.results12 (w.heap.size + 1) _ _ _ _ rfl rfl (set_box3 (w := Z) H3.out) rfl ⟨rfl, below_box3 HZ.out (by omega)⟩

theorem dblob_over (s : ByteArray) (k : Nat) (c most : Int) (w : World) (hc : c ≠ 0) :
    Calls Tryz.prog 12 #[dv s k c, .int .i64 most] w fun en w' => en = .returned (.tuple #[dv s k c, .string ⟨#[]⟩]) ∧ Below w.heap.size w w' :=
  dblob_via s k k k 0 c c 0 most ⟨#[]⟩ w k c ⟨#[]⟩ (fun w => many_over s k c most 65536 w hc) (fun h => absurd h hc) (.inl ⟨hc, rfl, rfl, rfl⟩)
theorem dblob_any (s : ByteArray) (k : Nat) (most : Int) (w : World) (hk : k ≤ s.size) (hs : s.size ≤ 281474976710656) :
    Calls Tryz.prog 12 #[dv s k 0, .int .i64 most] w fun en w' => en = .returned (.tuple #[dN s k (4 + (blobT most (restOf s k)).size) (lstC (mostN most 65536) 8 (restOf s k)), .string (blobT most (restOf s k))]) ∧ Below w.heap.size w w' := by
  have hl := restOf_length s k
  have h1 := fun w => many_any s k most 65536 w hk hs
  obtain ⟨M, hM⟩ : ∃ M, M = mostN most 65536 := ⟨_, rfl⟩
  rw [← hM] at h1
  rw [blobT, ← hM]
  by_cases h4 : (restOf s k).length < 4
  · have e1 : mnC M (restOf s k) = 12 := by rw [mnC, if_pos h4]
    have e2 : lstC M 8 (restOf s k) = 12 := by rw [lstC, if_pos h4]
    rw [mnN, e1, dN_no _ _ _ (by decide), if_neg (by decide)] at h1
    rw [e2, if_neg (by decide), dN_no _ _ _ (by decide)]
    exact dblob_via s k k k 0 0 12 0 most ⟨#[]⟩ w k 12 ⟨#[]⟩ h1 (fun h => absurd h (by decide)) (.inl ⟨by decide, rfl, rfl, rfl⟩)
  · by_cases h5 : M < (cntN (restOf s k) : Int)
    · have e1 : mnC M (restOf s k) = 2 := by rw [mnC, if_neg h4, if_pos h5]
      have e2 : lstC M 8 (restOf s k) = 2 := by rw [lstC, if_neg h4, if_pos h5]
      rw [mnN, e1, dN_no _ _ _ (by decide), if_neg (by decide)] at h1
      rw [e2, if_neg (by decide), dN_no _ _ _ (by decide)]
      exact dblob_via s k k k 0 0 2 0 most ⟨#[]⟩ w k 2 ⟨#[]⟩ h1 (fun h => absurd h (by decide)) (.inl ⟨by decide, rfl, rfl, rfl⟩)
    · have e1 : mnC M (restOf s k) = 0 := by rw [mnC, if_neg h4, if_neg h5]
      rw [mnN, e1, dN_ok, if_pos rfl] at h1
      have e8 : (cntN (restOf s k) * 8 + 7) / 8 = cntN (restOf s k) := by omega
      by_cases h6 : (restOf s k).length < 4 + cntN (restOf s k)
      · have e2 : lstC M 8 (restOf s k) = 12 := by rw [lstC, if_neg h4, if_neg h5, e8, if_pos h6]
        rw [e2, if_neg (by decide), dN_no _ _ _ (by decide)]
        exact dblob_via s k (k + 4) (k + 4) _ 0 0 12 most ⟨#[]⟩ w k 12 ⟨#[]⟩ h1 (fun _ w => take_short s (k + 4) _ w (by omega) hs (by omega)) (.inr (.inl ⟨rfl, by decide, rfl, rfl, rfl⟩))
      · have e2 : lstC M 8 (restOf s k) = 0 := by rw [lstC, if_neg h4, if_neg h5, e8, if_neg h6]
        have e3 : txt (lstH 8 (restOf s k)) = s.extract (k + 4) (k + 4 + cntN (restOf s k)) := by
          rw [take_txt, lstH, e8, restOf, restOf, List.drop_drop]
        have e4 : (txt (lstH 8 (restOf s k))).size = cntN (restOf s k) := by
          have := (lstH_length e2).1
          rw [txt_size (show Lt 256 (lstH 8 (restOf s k)) from ((restOf_lt s k).drop 4).take _), this, e8]
        rw [e2, if_pos rfl, dN_ok, e4, ← Nat.add_assoc, e3]
        exact dblob_via s k (k + 4) (k + 4 + cntN (restOf s k)) _ 0 0 0 most _ w _ 0 _ h1 (fun _ w => take_some s (k + 4) _ w hs (by omega)) (.inr (.inr ⟨rfl, rfl, rfl, rfl, rfl⟩))
end Go.Proofs.YtmmhfipdolbinaaGreatDoor
