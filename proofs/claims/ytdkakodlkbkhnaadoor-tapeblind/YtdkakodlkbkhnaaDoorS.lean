/- TapeBlind: its walk. -/
import Derived.Test.YtdkakodlkbkhnaaDoorR
namespace Go.Proofs.YtdkakodlkbkhnaaDoor
open Go.RowKit
set_option maxRecDepth 100000
attribute [local go_sem] not_any mf_any

/- a call of one pair of tapes leaves the other pair alone -/
theorem Dz.other {w0 w w' : World} {t b rb k c L : Nat} {a : Option Addr} {ws : List Nat} {t' rb' : Nat} (h : Dz w0 w t b rb k c L a ws) (hk : Kp (Tr t' rb') w w') (hl : w0.heap.size ≤ t' ∧ w0.heap.size ≤ rb')
    (hn : (t ≠ t' ∧ t ≠ rb') ∧ (b ≠ t' ∧ b ≠ rb') ∧ (rb ≠ t' ∧ rb ≠ rb')) : Dz w0 w' t b rb k c L a ws :=
  ⟨h.wl, ⟨hk.same _ _ h.tp.box (fun h1 => h1.elim hn.1.1 hn.1.2), h.tp.le⟩, hk.same _ _ h.row (fun h1 => h1.elim hn.2.1.1 hn.2.1.2), hk.same _ _ h.box (fun h1 => h1.elim hn.2.2.1 hn.2.2.2), h.nl, h.cap, h.small, h.len,
    h.bl.trans (hk.below h.bl.size (fun _ _ h1 => h1.elim (fun h2 => by rw [h2]; exact hl.1) (fun h2 => by rw [h2]; exact hl.2))), h.et, h.lt, h.ne⟩
theorem Dz.drewN {w0 w : World} {t b rb k c L : Nat} {a : Option Addr} {ws : List Nat} (h : Dz w0 w t b rb k c L a ws) (q : Nat) : Dz w0 (w.drewN q) t b rb k c L a ws :=
  ⟨h.wl, h.tp.drewN q, h.row, h.box, h.nl, h.cap, h.small, h.len, below_drewN h.bl q, h.et, h.lt, h.ne⟩

theorem blind_else (w : World) (L L' c c' m ca : Nat) (a b aa : Option Addr) (he : Et w) (hL : 500 < L ∨ (L ≤ 500 ∧ L ≠ L')) :
    Calls Tryd.prog 5 #[.slice a L c, .slice b L' c', .slice aa m ca] w fun e w' => e = .returned (.bool true) ∧ Below w.heap.size w w' := by
  have HA := hide1 (awake_any w he)
  clear he
  rcases hL with hL | ⟨hL, hL2⟩
  · have h1 : (500 : Int) < (L : Int) := by omega
    go_enter Tryd.func5, Tryd.ntmps5
    go_wp2_with fail
    refine HA.out.mono ?_
    rintro e w1 ⟨rfl, hb⟩
    go_wp2
    go_ret
    exact ⟨rfl, hb⟩
  · have h1 : ¬ (500 : Int) < (L : Int) := by omega
    have h2 : ((L : Int) != (L' : Int)) = true := by rw [bne_iff_ne]; omega
    clear hL2
    go_enter Tryd.func5, Tryd.ntmps5
    go_wp2_with fail
    refine HA.out.mono ?_
    rintro e w1 ⟨rfl, hb⟩
    go_wp2
    go_ret
    exact ⟨rfl, hb⟩

set_option maxHeartbeats 8000000 in
theorem blind_short (w : World) (L c c' m ca : Nat) (a b aa : Option Addr) (xs ys : List Nat) (l : List (Int × Int × Int)) (he : Et w) (ha : Nl w L a xs) (hb : Nl w L b ys) (hs : Small xs) (hs' : Small ys) (hc : L ≤ c) (hc' : L ≤ c') (hl : Ac w m aa l) (hL : L ≤ 500) :
    Calls Tryd.prog 5 #[.slice a L c, .slice b L c', .slice aa m ca] w fun e w' => e = .returned (.bool true) ∧ Below w.heap.size w w' := by
  have HN := hide1 (new_tape w L c a xs ha (by omega))
  have H := hide1 (And.intro he (And.intro ha (And.intro hb (And.intro hs (And.intro hs' (And.intro hc (And.intro hc' (And.intro hl hL))))))))
  have h1 : ¬ (500 : Int) < (L : Int) := by omega
  have h2 : ((L : Int) != (L : Int)) = false := by simp
  clear he ha hb hs hs' hc hc' hl
  go_enter Tryd.func5, Tryd.ntmps5
  go_wp2_with fail
  refine HN.out.mono ?_
  rintro e W1 ⟨tx, bx, rfl, hb1, hbt, hT1, hr1, hB1⟩
  have HN2 := hide1 (new_tape W1 L c' b ys (H.out.2.2.1.next hB1) (by omega))
  have F1 := hide1 (And.intro hb1 (And.intro hbt (And.intro hT1 (And.intro hr1 hB1))))
  clear hb1 hbt hT1 hr1 hB1 HN
  go_wp2_with fail
  refine HN2.out.mono ?_
  rintro e W2 ⟨ty, by', rfl, hb2, hbt2, hT2, hr2, hB2⟩
  have F2 := hide1 (And.intro hb2 (And.intro hbt2 (And.intro hT2 (And.intro hr2 hB2))))
  clear hb2 hbt2 hT2 hr2 hB2 HN2
  go_wp2
  generalize hX : World.alloc (World.alloc W2 _) _ = X
  have xp : X.heap[W2.heap.size]? = some (.cells #[.slice a L c, .int .i64 ((0 : Nat) : Int)] 31 (0, 0)) := by rw [← hX]; exact heap_alloc2_old _ _ _
  have xq : X.heap[W2.heap.size + 1]? = some (.cells #[.slice b L c', .int .i64 ((0 : Nat) : Int)] 31 (0, 0)) := by rw [← hX]; exact heap_alloc2_new _ _ _
  have xb : Below W2.heap.size W2 X := by rw [← hX]; exact ((Below.refl _ _).alloc (Nat.le_refl _) _).alloc (by simp) _
  obtain ⟨rx, hrx⟩ : ∃ rx, W2.heap.size = rx := ⟨_, rfl⟩
  have hDD : Dz w X tx bx rx 0 c L a xs ∧ Dz w X ty by' (rx + 1) 0 c' L b ys ∧ (tx < by' ∧ bx < by' ∧ by' < ty ∧ ty < rx ∧ bx < tx) ∧ w.heap.size ≤ bx := by
    obtain ⟨f1, f2, f3, f4, f5⟩ := F1.out
    obtain ⟨g1, g2, g3, g4, g5⟩ := F2.out
    obtain ⟨he, ha, hb, hs, hs', hc, hc', hl, hL⟩ := H.out
    have htl := f3.lt
    have hbl := lt_of_heap f4
    have htl2 := g3.lt
    have hbl2 := lt_of_heap g4
    have s1 := f5.size
    have s2 := g5.size
    rw [ha.len] at f3
    rw [hb.len] at g3
    have t2 : Tp W2 tx bx 0 L := f3.below g5 htl
    have r2 : W2.heap[bx]? = some (wrow xs) := (g5.block _ hbl).trans f4
    have bl : Below w.heap.size w X := f5.trans ((g5.mono s1).trans (xb.mono (by omega)))
    refine ⟨⟨ha.len, t2.below xb t2.lt, (xb.block _ (lt_of_heap r2)).trans r2, by rw [← hrx]; exact xp, ha, hc, hs, by omega, bl, he, ?_, ?_⟩, ⟨hb.len, g3.below xb htl2, (xb.block _ hbl2).trans g4, by rw [← hrx]; exact xq, hb, hc', hs', by omega, bl, he, ?_, ?_⟩, ?_, f1⟩ <;> omega
  rw [hrx]
  obtain ⟨d1, d2, d3, d4⟩ := hDD
  have HD1 := hide1 d1
  have HD2 := hide1 d2
  have HO := hide1 (And.intro d3 d4)
  clear hX xp xq xb hrx d1 d2 d3 d4 F1 F2
  go_loopw [13] (fun i wr => ∃ j k : Nat, j ≤ m ∧ j ≤ 60 ∧ i = .int .i64 (j : Int) ∧ Dz w wr tx bx rx k c L a xs ∧ Dz w wr ty by' (rx + 1) k c' L b ys) (fun i _ => 60 - (intOf i).toNat)
  case atStart => exact ⟨0, 0, Nat.zero_le _, Nat.zero_le _, rfl, HD1.out, HD2.out⟩
  case round =>
    obtain ⟨j, k, hj, hj6, rfl, hD1, hD2⟩ := hrel
    clear HD1 HD2
    by_cases hend : j < m ∧ j < 60
    · obtain ⟨hjm, hj60⟩ := hend
      have hj60i : (j : Int) < 60 := by omega
      obtain ⟨g, o, x, y, z, rfl, c1, c2, c3⟩ := (H.out.2.2.2.2.2.2.2.1.next hD1.bl).val hjm
      have HK := hide1 (does_any w wr tx bx rx k c L a xs x y z hD1)
      have HB := hide1 hD1.bl
      have HD2 := hide1 hD2
      clear hD1 hD2
      go_wp2_with fail
      refine HK.out.mono ?_
      rintro e w1 ⟨rfl, hE1, hk1⟩
      have hE2 := HD2.out.other hk1 ⟨by have := HO.out; omega, by have := HO.out; omega⟩ (by have := HO.out; omega)
      have HK2 := hide1 (does_any w w1 ty by' (rx + 1) k c' L b ys x y z hE2)
      have HE1 := hide1 hE1
      have g1 := ltc c1
      have hk1b : ∀ i (v : Value), wr.cell? ⟨g, i, none⟩ = some v → w1.cell? ⟨g, i, none⟩ = some v := fun i v hv => by
        have hg : g < w.heap.size := by
          obtain ⟨g', o', x', y', z', h1, h2, _⟩ := H.out.2.2.2.2.2.2.2.1.val hjm
          cases h1
          exact ltc h2
        exact (hE1.bl.cell (p := ⟨g, i, none⟩) hg).trans (((HB.out.cell (p := ⟨g, i, none⟩) hg)).symm.trans hv)
      have e1 := hk1b _ _ c1
      have e2 := hk1b _ _ c2
      have e3 := hk1b _ _ c3
      clear hE1 hE2 hk1 hk1b HK HD2 c1 c2 c3 g1
      go_wp2_with fail
      refine HK2.out.mono ?_
      rintro e w2 ⟨rfl, hE2, hk2⟩
      have hE1 := HE1.out.other hk2 ⟨by have := HO.out; omega, by have := HO.out; omega⟩ (by have := HO.out; omega)
      generalize doK x y z k L = k1 at hE1 hE2
      have HA1 := hide1 (at_any tx bx k1 L w2 hE1.tp)
      have HA2 := hide1 (at_any ty by' k1 L w2 hE2.tp)
      have HL1 := hide1 (left_any tx bx k1 L w2 hE1.tp hE1.len)
      have HL2 := fun q => hide1 (left_any ty by' k1 L (w2.drewN q) (hE2.tp.drewN q) hE1.len)
      have HE1' := hide1 hE1
      have HE2' := hide1 hE2
      generalize L - k1 = r at HL1 HL2
      clear hE1 hE2 hk2 HK2 HE1 e1 e2 e3
      have z1 : ((k1 : Int) != (k1 : Int)) = false := by simp
      have z2 : ((r : Int) != (r : Int)) = false := by simp
      go_wp2_with fail
      refine HA1.out.mono ?_
      rintro e w3 ⟨rfl, hw3⟩
      cases hw3
      go_wp2_with fail
      refine HA2.out.mono ?_
      rintro e w3 ⟨rfl, hw3⟩
      cases hw3
      go_wp2_with fail
      refine HL1.out.mono ?_
      rintro e w3 ⟨rfl, q3, hw3⟩
      cases hw3
      go_wp2_with fail
      refine (HL2 q3).out.mono ?_
      rintro e w4 ⟨rfl, q4, hw4⟩
      have HF1 := hide1 ((HE1'.out.drewN q3).drewN q4)
      have HF2 := hide1 ((HE2'.out.drewN q3).drewN q4)
      rw [← hw4] at HF1 HF2
      clear hw4 HA1 HA2 HL1 HL2 HE1' HE2'
      go_wp2
      exact ⟨⟨j + 1, k1, by omega, by omega, by go_num, HF1.out, HF2.out⟩, by simp [intOf]; omega⟩
    · have HA := hide1 (awake_any wr (H.out.1.below hD1.bl H.out.1.pos))
      have HB := hide1 hD1.bl
      clear hD1 hD2
      by_cases h60 : j < 60
      · have hjm : j = m := by omega
        subst hjm
        have hj60i : (j : Int) < 60 := by omega
        clear hend
        go_wp2_with fail
        refine HA.out.mono ?_
        rintro e w1 ⟨rfl, hb⟩
        have HB1 := hide1 (HB.out.trans (hb.mono HB.out.size))
        clear hb
        go_wp2
        go_ret
        exact ⟨rfl, HB1.out⟩
      · have : j = 60 := by omega
        subst this
        rw [show ((60 : Nat) : Int) = 60 from rfl]
        clear hend h60 hj6
        by_cases hm : (60 : Int) < (m : Int)
        · go_wp2_with fail
          refine HA.out.mono ?_
          rintro e w1 ⟨rfl, hb⟩
          have HB1 := hide1 (HB.out.trans (hb.mono HB.out.size))
          clear hb
          go_wp2
          go_ret
          exact ⟨rfl, HB1.out⟩
        · have hm0 : m = 60 := by omega
          subst hm0
          go_wp2_with fail
          refine HA.out.mono ?_
          rintro e w1 ⟨rfl, hb⟩
          have HB1 := hide1 (HB.out.trans (hb.mono HB.out.size))
          clear hb
          go_wp2
          go_ret
          exact ⟨rfl, HB1.out⟩

theorem blind_all (w : World) (L c L' c' m ca : Nat) (a b aa : Option Addr) (xs ys : List Nat) (l : List (Int × Int × Int)) (he : Et w) (ha : Nl w L a xs) (hs : Small xs) (hc : L ≤ c) (hb : Nl w L' b ys) (hs' : Small ys) (hc' : L' ≤ c') (hl : Ac w m aa l) :
    Calls Tryd.prog 5 #[.slice a L c, .slice b L' c', .slice aa m ca] w fun e w' => e = .returned (.bool true) ∧ Below w.heap.size w w' := by
  by_cases hL : L ≤ 500
  · by_cases hL' : L = L'
    · subst hL'
      exact blind_short w L c c' m ca a b aa xs ys l he ha hb hs hs' hc hc' hl hL
    · exact blind_else w L L' c c' m ca a b aa he (.inr ⟨hL, hL'⟩)
  · exact blind_else w L L' c c' m ca a b aa he (.inl (by omega))

end Go.Proofs.YtdkakodlkbkhnaaDoor
