/- TapeOnce: its walk. -/
import Derived.Test.YtdkakodlkbkhnaaDoorR
namespace Go.Proofs.YtdkakodlkbkhnaaDoor
open Go.RowKit
set_option maxRecDepth 100000
attribute [local go_sem] not_any mf_any

/- bytes in memory, to be read -/
structure Ub (w : World) (m : Nat) (a : Option Addr) (l : List Nat) : Prop where
  len : l.length = m
  at' : ∀ (j : Nat) (x : Nat), l[j]? = some x → ∃ g o, a = some ⟨g, o, none⟩ ∧ w.cell? ⟨g, o + j, none⟩ = some (.int .u8 (x : Int))
theorem Ub.next {w w' : World} {m : Nat} {a : Option Addr} {l : List Nat} (h : Ub w m a l) (hB : Below w.heap.size w w') : Ub w' m a l :=
  ⟨h.len, fun j x hj => by
    obtain ⟨g, o, h1, h2⟩ := h.at' j x hj
    exact ⟨g, o, h1, (hB.cell (p := ⟨g, o + j, none⟩) (ltc h2)).trans h2⟩⟩
theorem Ub.val {w : World} {m : Nat} {a : Option Addr} {l : List Nat} (h : Ub w m a l) {k : Nat} (hk : k < m) : ∃ g o, a = some ⟨g, o, none⟩ ∧ w.cell? ⟨g, o + k, none⟩ = some (.int .u8 (at0 l k : Nat)) := by
  obtain ⟨x, hx⟩ : ∃ x, l[k]? = some x := ⟨_, List.getElem?_eq_getElem (by rw [h.len]; exact hk)⟩
  obtain ⟨g, o, h1, h2⟩ := h.at' k x hx
  exact ⟨g, o, h1, by rw [at0_get hx]; exact h2⟩
def Low8 (l : List Nat) : Prop := ∀ (j x : Nat), l[j]? = some x → x < 256
theorem Low8.at0 {l : List Nat} (h : Low8 l) (k : Nat) : at0 l k < 256 := by
  unfold YtdkakodlkbkhnaaDoor.at0
  cases hk : l[k]? with
  | none => simp
  | some x => exact h k x hk

theorem own_kp {w w' : World} {base n : Nat} {v : Value} {xs : List Value} {S : Nat → Obj → Prop} (h : w.ownsRow base 44 1 v n xs) (hk : Kp S w w') (hS : ∀ j o, S j o → j < base) : w'.ownsRow base 44 1 v n xs := by
  refine ⟨h.1, ?_⟩
  rcases h.2 with h1 | ⟨g, cap, cur, h1, h2, h3, h4⟩
  · exact .inl h1
  · exact .inr ⟨g, cap, cur, h1, h2, hk.same _ _ h3 (fun hs => by have := hS _ _ hs; omega), h4⟩
theorem own_block {w : World} {base n : Nat} {v : Value} {xs : List Value} (h : w.ownsRow base 44 1 v n xs) : ∀ k, v.ownBlock = some k → base ≤ k := by
  intro k hk
  rcases h.2 with ⟨rfl, _⟩ | ⟨g, cap, cur, rfl, h2, _⟩
  · simp [Value.ownBlock] at hk
  · simp [Value.ownBlock] at hk
    omega

/- what is read so far -/
structure On (w wr : World) (base ta ba tb bb k L cA : Nat) (aA : Option Addr) (ws : List Nat) : Prop where
  own : wr.ownsRow base 44 1 (.slice aA k cA) k (u64s (ws.take k))
  ta : Tp wr ta ba k L
  ra : wr.heap[ba]? = some (wrow ws)
  tb : Tp wr tb bb 0 L
  rb : wr.heap[bb]? = some (wrow ws)
  bl : Below w.heap.size w wr
  sz : base ≤ wr.heap.size

theorem once_else (w : World) (L c m ca : Nat) (a aa : Option Addr) (he : Et w) (hL : 500 < L ∨ (L ≤ 500 ∧ 60 < m)) :
    Calls Tryd.prog 4 #[.slice a L c, .slice aa m ca] w fun e w' => e = .returned (.bool true) ∧ Below w.heap.size w w' := by
  have HA := hide1 (awake_any w he)
  clear he
  rcases hL with hL | ⟨hL, hL2⟩
  · have h1 : (500 : Int) < (L : Int) := by omega
    go_enter Tryd.func4, Tryd.ntmps4
    go_wp2_with fail
    refine HA.out.mono ?_
    rintro e w1 ⟨rfl, hb⟩
    go_wp2
    go_ret
    exact ⟨rfl, hb⟩
  · have h1 : ¬ (500 : Int) < (L : Int) := by omega
    have h2 : (60 : Int) < (m : Int) := by omega
    go_enter Tryd.func4, Tryd.ntmps4
    go_wp2_with fail
    refine HA.out.mono ?_
    rintro e w1 ⟨rfl, hb⟩
    go_wp2
    go_ret
    exact ⟨rfl, hb⟩

theorem take_more (ws : List Nat) (k d : Nat) : ws.take k ++ (ws.drop k).take d = ws.take (k + d) := by
  rw [List.take_add]

set_option maxHeartbeats 8000000 in
theorem once_short (w : World) (L c m ca : Nat) (a aa : Option Addr) (ws l : List Nat) (he : Et w) (ha : Nl w L a ws) (hl : Ub w m aa l) (h8 : Low8 l) (hL : L ≤ 500) (hm : m ≤ 60) :
    Calls Tryd.prog 4 #[.slice a L c, .slice aa m ca] w fun e w' => e = .returned (.bool true) ∧ Below w.heap.size w w' := by
  have HN := hide1 (new_tape w L c a ws ha (by omega))
  have H := hide1 (And.intro he (And.intro ha (And.intro hl h8)))
  have HLn : Shy (ws.length = L) := ⟨ha.len⟩
  have h1 : ¬ (500 : Int) < (L : Int) := by omega
  have h2 : ¬ (60 : Int) < (m : Int) := by omega
  clear he ha hl h8
  go_enter Tryd.func4, Tryd.ntmps4
  go_wp2_with fail
  refine HN.out.mono ?_
  rintro e W1 ⟨ta, ba, rfl, hb1, hbt, hT1, hr1, hB1⟩
  have HN2 := hide1 (new_tape W1 L c a ws (H.out.2.1.next hB1) (by omega))
  have F1 := hide1 (And.intro hb1 (And.intro hbt (And.intro hT1 (And.intro hr1 hB1))))
  clear hb1 hbt hT1 hr1 hB1 HN
  go_wp2_with fail
  refine HN2.out.mono ?_
  rintro e W2 ⟨tb, bb, rfl, hb2, hbt2, hT2, hr2, hB2⟩
  obtain ⟨base, hbase⟩ : ∃ base, W2.heap.size = base := ⟨_, rfl⟩
  have hOn : On w W2 base ta ba tb bb 0 L 0 none ws ∧ (ba < ta ∧ ta < bb ∧ bb < tb ∧ tb < base ∧ w.heap.size ≤ ba) := by
    obtain ⟨f1, f2, f3, f4, f5⟩ := F1.out
    have htl := f3.lt
    have hbl := lt_of_heap f4
    have htl2 := hT2.lt
    have s1 := f5.size
    rw [HLn.out] at f3 hT2
    refine ⟨⟨by rw [List.take_zero]; exact own_nil _ _, f3.below hB2 htl, (hB2.block _ hbl).trans f4, hT2, hr2, f5.trans (hB2.mono s1), by omega⟩, ?_⟩
    omega
  have HOn := hide1 hOn.1
  have HO := hide1 hOn.2
  clear hb2 hbt2 hT2 hr2 hB2 HN2 F1 hOn hbase
  go_wp2
  go_loopw [9, 10] (fun v i wr => ∃ (j k cA : Nat) (aA : Option Addr), j ≤ m ∧ i = .int .i64 (j : Int) ∧ v = .slice aA k cA ∧ On w wr base ta ba tb bb k L cA aA ws) (fun _ i _ => m - (intOf i).toNat)
  case atStart => exact ⟨0, 0, 0, none, Nat.zero_le _, rfl, rfl, HOn.out⟩
  case round =>
    obtain ⟨j, k, cA, aA, hj, rfl, rfl, hon⟩ := hrel
    clear HOn
    have hkL := hon.ta.le
    have HON := hide1 hon
    by_cases hlt : j < m
    · obtain ⟨g, o, rfl, hc⟩ := (H.out.2.2.1.next hon.bl).val hlt
      have hx8 := H.out.2.2.2.at0 j
      obtain ⟨x, hx⟩ : ∃ x, at0 l j = x := ⟨_, rfl⟩
      rw [hx] at hc hx8
      obtain ⟨d, hd⟩ : ∃ d, x % 20 = d := ⟨_, rfl⟩
      have hd1 : (x : Int) % 20 = (d : Int) := by omega
      have hd2 : Int.tmod (x : Int) 20 = (d : Int) := by rw [show Int.tmod (x : Int) 20 = ((x % 20 : Nat) : Int) from rfl, hd]
      have hdl : d < 20 := by omega
      obtain ⟨s, hs⟩ : ∃ s, k + d = s := ⟨_, rfl⟩
      have hsw : IntKind.i64.wrap ((k : Int) + (d : Int)) = (s : Int) := by rw [IntKind.wrap_i64]; omega
      have HC := hide1 hc
      clear hx hd hon
      by_cases hfit : s ≤ L
      · have HT := hide1 (take_yes ta ba k d ws wr (by rw [HLn.out]; exact HON.out.ta) HON.out.ra (by rw [HLn.out]; omega) (by rw [HLn.out]; omega))
        have hfit1 : decide (s ≤ L) = true := by simp; omega
        have Hs : Shy (k + d = s) := ⟨hs⟩
        clear hs
        go_wp2_with fail
        refine HT.out.mono ?_
        rintro e w1 ⟨rfl, r1, t1, k1⟩
        rw [HLn.out] at t1
        have o := HO.out
        have b1 : Below w.heap.size w w1 := HON.out.bl.trans (k1.below HON.out.bl.size (fun _ _ h => by omega))
        have own1 := own_kp HON.out.own k1 (fun _ _ h => by omega)
        have ra1 := k1.same _ _ HON.out.ra (by omega)
        have tb1 : Tp w1 tb bb 0 L := ⟨k1.same _ _ HON.out.tb.box (by omega), Nat.zero_le _⟩
        have rb1 := k1.same _ _ HON.out.rb (by omega)
        have hg : g < w.heap.size := by
          obtain ⟨g', o', h1, h2⟩ := H.out.2.2.1.val hlt
          cases h1
          exact ltc h2
        have hc1 : w1.cell? ⟨g, _, none⟩ = some (.int .u8 (x : Nat)) := (b1.cell (p := ⟨g, _, none⟩) hg).trans ((HON.out.bl.cell (p := ⟨g, _, none⟩) hg).symm.trans HC.out)
        obtain ⟨gr, hgr⟩ : ∃ gr, wr.heap.size = gr := ⟨_, rfl⟩
        rw [hgr] at r1 ⊢
        have HR1 := hide1 (And.intro r1 (And.intro t1 (And.intro b1 (And.intro own1 (And.intro ra1 (And.intro tb1 rb1))))))
        have HSZ : Hid (base ≤ w1.heap.size) := Nat.le_trans HON.out.sz k1.size
        clear r1 t1 k1 b1 own1 ra1 tb1 rb1 hgr HT hg o
        go_wp2
        go_quiet (fail)
        have OWN : Hid ((w1.drewN nq).ownsRow base 44 1 (.slice aA k cA) k (u64s (ws.take k))) := own_kp HR1.out.2.2.2.1 ((Kp.refl (fun _ _ => False) _).drewN nq) (fun _ _ h => h.elim)
        have HLP : Shy (((ws.drop k).take d).length = d) := ⟨len_part (by rw [HLn.out, Hs.out]; exact hfit)⟩
        have NLP : Hid (Nl (w1.drewN nq) d (some ⟨gr, 0, none⟩) ((ws.drop k).take d)) := by
          have := (nl_row HR1.out.1).drewN nq
          rw [HLP.out] at this
          exact this
        have HNM : Shy (k + d ≤ 2000000) := ⟨by omega⟩
        go_wp2_with (first
          | (at_builtin; go_must (refine wpList_append_nl rfl (.tmp 72) (.tmp 73) rfl base (.slice aA k cA) k (ws.take k) rfl OWN.out (some ⟨gr, 0, none⟩) d d ((ws.drop k).take d) rfl NLP.out HNM.out HSZ.out ?_; intro a6 cap6 w6 ro6 gr6; have RO := hide1 ro6; have GR := hide1 gr6; clear ro6 gr6)))
        have hb6 : Below base (w1.drewN nq) w6 := Below.own GR.out (own_block OWN.out) (Nat.le_refl _) HSZ.out
        obtain ⟨r1, t1, b1, own1, ra1, tb1, rb1⟩ := HR1.out
        have o := HO.out
        have hro := RO.out
        rw [take_more] at hro
        exact ⟨⟨j + 1, k + d, cap6, a6, by omega, by go_num, rfl, ⟨hro, (t1.drewN nq).below hb6 (by omega), (hb6.block ba (by omega)).trans ra1, (tb1.drewN nq).below hb6 (by omega), (hb6.block bb (by omega)).trans rb1, (below_drewN b1 nq).trans (hb6.mono (by omega)), Nat.le_trans HSZ.out hb6.size⟩⟩, by simp [intOf]; omega⟩
      · have HT := hide1 (take_far ta ba k L d wr HON.out.ta (by omega) (by omega))
        have hfit1 : decide (s ≤ L) = false := by simp; omega
        clear hs
        go_wp2_with fail
        refine HT.out.mono ?_
        rintro e w1 ⟨rfl, r1, k1⟩
        have b1 : Below w.heap.size w w1 := HON.out.bl.trans (k1.mono HON.out.bl.size)
        have hg : g < w.heap.size := by
          obtain ⟨g', o', h1, h2⟩ := H.out.2.2.1.val hlt
          cases h1
          exact ltc h2
        have hc1 : w1.cell? ⟨g, _, none⟩ = some (.int .u8 (x : Nat)) := (b1.cell (p := ⟨g, _, none⟩) hg).trans ((HON.out.bl.cell (p := ⟨g, _, none⟩) hg).symm.trans HC.out)
        obtain ⟨gr, hgr⟩ : ∃ gr, wr.heap.size = gr := ⟨_, rfl⟩
        rw [hgr]
        have HK1 := hide1 k1
        have HB1 := hide1 b1
        clear r1 k1 b1 HT hg hgr
        go_wp2
        go_quiet (fail)
        have hkk : Kp (fun _ _ => False) wr (w1.drewN nq) := (Kp.ofBelow HK1.out).drewN nq
        have OWN : Hid ((w1.drewN nq).ownsRow base 44 1 (.slice aA k cA) k (u64s (ws.take k))) := own_kp HON.out.own hkk (fun _ _ h => h.elim)
        have HSZ : Hid (base ≤ (w1.drewN nq).heap.size) := Nat.le_trans HON.out.sz hkk.size
        have HKK := hide1 hkk
        have NLP : Hid (Nl (w1.drewN nq) 0 none []) := Nl.nil _ _
        have HNM : Shy (k + 0 ≤ 2000000) := ⟨by omega⟩
        clear hkk
        go_wp2_with (first
          | (at_builtin; go_must (refine wpList_append_nl rfl (.tmp 72) (.tmp 73) rfl base (.slice aA k cA) k (ws.take k) rfl OWN.out none 0 0 [] rfl NLP.out HNM.out HSZ.out ?_; intro a6 cap6 w6 ro6 gr6; have RO := hide1 ro6; have GR := hide1 gr6; clear ro6 gr6)))
        have hb6 : Below base (w1.drewN nq) w6 := Below.own GR.out (own_block OWN.out) (Nat.le_refl _) HSZ.out
        have o := HO.out
        have hro := RO.out
        rw [List.append_nil] at hro
        have t1 : Tp (w1.drewN nq) ta ba k L := ⟨HKK.out.same _ _ HON.out.ta.box (fun h => h), hkL⟩
        have ra1 := HKK.out.same _ _ HON.out.ra (fun h => h)
        have tb1 : Tp (w1.drewN nq) tb bb 0 L := ⟨HKK.out.same _ _ HON.out.tb.box (fun h => h), Nat.zero_le _⟩
        have rb1 := HKK.out.same _ _ HON.out.rb (fun h => h)
        exact ⟨⟨j + 1, k, cap6, a6, by omega, by go_num, rfl, ⟨hro, t1.below hb6 (by omega), (hb6.block ba (by omega)).trans ra1, tb1.below hb6 (by omega), (hb6.block bb (by omega)).trans rb1, (below_drewN HB1.out nq).trans (hb6.mono (by omega)), Nat.le_trans HSZ.out hb6.size⟩⟩, by simp [intOf]; omega⟩
    · have : j = m := by omega
      subst this
      have HT := hide1 (take_yes tb bb 0 k ws wr (by rw [HLn.out]; exact hon.tb) hon.rb (by rw [HLn.out]; omega) (by rw [HLn.out]; omega))
      clear hon
      go_wp2_with fail
      refine HT.out.mono ?_
      rintro e w1 ⟨rfl, r1, t1, k1⟩
      rw [HLn.out, Nat.zero_add] at t1
      rw [List.drop_zero] at r1
      have o := HO.out
      have htk : (ws.take k).length = k := by rw [List.length_take, HLn.out]; omega
      have own1 := ow_own htk (own_kp HON.out.own k1 (fun _ _ h => by omega))
      have n2 := nl_row r1
      rw [htk] at n2
      have HNm := hide1 (nums_any w1 k cA k aA _ (ws.take k) own1.nl n2 (by omega))
      have ta1 : Tp w1 ta ba k L := ⟨k1.same _ _ HON.out.ta.box (by omega), hkL⟩
      have b1 : Below w.heap.size w w1 := HON.out.bl.trans (k1.below HON.out.bl.size (fun _ _ h => by omega))
      have HF := hide1 (And.intro ta1 (And.intro t1 b1))
      clear HT r1 t1 k1 o htk own1 n2 ta1 b1 HON
      go_wp2_with fail
      refine HNm.out.mono ?_
      rintro e w2 ⟨rfl, q, hq⟩
      have HA1 := hide1 (at_any ta ba k L w2 (by rw [hq]; exact HF.out.1.drewN q))
      have HA2 := hide1 (at_any tb bb k L w2 (by rw [hq]; exact HF.out.2.1.drewN q))
      have HB2 : Hid (Below w.heap.size w w2) := by rw [hq]; exact below_drewN HF.out.2.2 q
      have HAw := hide1 (awake_any w2 (H.out.1.below HB2.out H.out.1.pos))
      clear hq HNm HF
      go_wp2_with fail
      refine HA1.out.mono ?_
      rintro e w3 ⟨rfl, hw3⟩
      cases hw3
      go_wp2_with fail
      refine HA2.out.mono ?_
      rintro e w3 ⟨rfl, hw3⟩
      cases hw3
      have z1 : ((k : Int) == (k : Int)) = true := by simp
      go_wp2_with fail
      refine HAw.out.mono ?_
      rintro e w3 ⟨rfl, hb3⟩
      have HB3 := hide1 (HB2.out.trans (hb3.mono HB2.out.size))
      clear hb3
      go_wp2
      go_ret
      exact ⟨rfl, HB3.out⟩

theorem once_all (w : World) (L c m ca : Nat) (a aa : Option Addr) (ws l : List Nat) (he : Et w) (ha : Nl w L a ws) (hl : Ub w m aa l) (h8 : Low8 l) :
    Calls Tryd.prog 4 #[.slice a L c, .slice aa m ca] w fun e w' => e = .returned (.bool true) ∧ Below w.heap.size w w' := by
  by_cases hL : L ≤ 500
  · by_cases hm : m ≤ 60
    · exact once_short w L c m ca a aa ws l he ha hl h8 hL hm
    · exact once_else w L c m ca a aa he (.inr ⟨hL, by omega⟩)
  · exact once_else w L c m ca a aa he (.inl (by omega))

end Go.Proofs.YtdkakodlkbkhnaaDoor
