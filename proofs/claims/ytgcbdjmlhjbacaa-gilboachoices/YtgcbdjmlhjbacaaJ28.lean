/- GilboaChoices and GilboaSpreads. -/
import Derived.Test.YtgcbdjmlhjbacaaJ27
namespace Go.Proofs.Ytgcbdjmlhjbacaa.Gi
open Go.RowKit Ri
set_option maxRecDepth 100000
attribute [local go_sem] Ri.not_any Ri.mf_any

set_option maxHeartbeats 8000000 in
theorem choices_all (W : Int) (m c : Nat) (a : Option Addr) (l : List Nat) (w : World) (ha : Nl w m a l) (hs : Small l) :
    Calls Try.prog 3 #[.int .i64 W, .slice a m c] w fun e w' => e = .returned (.bool true) ∧ Below w.heap.size w w' := by
  by_cases hm : m ≤ 30
  · have kC := hide1 (choices_any W m c a l w (by omega) ha hs)
    have kR : Hid (∀ X, Below w.heap.size w X → Calls Try.prog 8 #[.int .i64 W, .slice a m c] X (BPost (okC W l) (chL W m l) X)) := fun X hX => rchoices_any W m c a l X (by omega) (ha.below hX (Nat.le_refl _)) hs
    obtain ⟨ok, hok⟩ : ∃ b, b = okC W l := ⟨_, rfl⟩
    obtain ⟨L, hL⟩ : ∃ L, L = (if ok then chL W m l else []) := ⟨_, rfl⟩
    obtain ⟨z, hz⟩ : ∃ z, z = cod ok := ⟨_, rfl⟩
    have hzz : ((z : Int) == z) = true := by simp
    unfold VPost at kC
    unfold BPost at kR
    rw [← hok, ← hL, ← hz] at kC kR
    have hm' : ¬ (30 : Int) < (m : Int) := by omega
    clear ha hs hok hL hz
    go_enter Try.func3, Try.ntmps3
    go_wp2_with fail
    go_at_call 7
    refine kC.out.mono ?_
    rintro e w1 ⟨n, av, rfl, hv1, hn, hb1⟩
    have HB1 := hide1 hb1
    have HV1 := hide1 hv1
    clear hv1 hb1 kC
    go_upto_region 4 with (fail)
    generalize hZ : World.alloc w1 _ = Z
    have zv : Z.heap[w1.heap.size]? = some (.cells #[.int .i64 (n : Int), .slice av (T.need n 64) (T.need n 64)] 25 (0, 0)) := by rw [← hZ]; exact heap_alloc_new _ _
    have zb : Below w1.heap.size w1 Z := by rw [← hZ]; exact below1 _
    obtain ⟨gz, hgz⟩ : ∃ g, g = w1.heap.size := ⟨_, rfl⟩
    rw [← hgz] at zv
    rw [← hgz]
    have HZV := hide1 zv
    have HZB := hide1 (HB1.out.trans (zb.mono HB1.out.size))
    have HZC : Hid (T.Vc 0 Z n av L) := HV1.out.below zb (Nat.le_refl _)
    clear hZ zv zb hgz HB1 HV1
    go_wp2_with fail
    go_at_call 8
    refine (kR.out Z HZB.out).mono ?_
    rintro e w2 ⟨a1, k1, c1, rfl, hl1, hk1, hb2⟩
    have HB2 := hide1 (HZB.out.trans (hb2.mono HZB.out.size))
    have HV2 : Hid (T.Vc 0 w2 n av L) := HZC.out.below hb2 (Nat.le_refl _)
    have HZ2 := hide1 ((hb2.block _ (lt_heap HZV.out)).trans HZV.out)
    have HL1 := hide1 hl1
    obtain ⟨c0, c1, _, _, _⟩ := T.box2 HZ2.out
    clear hb2 hl1 HZV HZB HZC kR
    go_wp2_with fail
    clear c0 c1
    go_at_call 10
    refine (T.bools_any 0 w2 n av _ HV2.out (by omega)).mono ?_
    rintro e w4 ⟨a4, rfl, hl4, hb4⟩
    have HB4 := hide1 (HB2.out.trans (hb4.mono HB2.out.size))
    have HL4 := hide1 hl4
    have HL1 := hide1 (HL1.out.below hb4 (Nat.le_refl _))
    clear hl4 hb4 HB2 HV2 HZ2
    go_wp2_with fail
    go_at_call 9
    refine (T.same_any w4 n k1 n _ a4 a1 L L HL4.out HL1.out (by omega) (by omega)).mono ?_
    rintro e w5 ⟨rfl, q5, hq⟩
    have HB5 := hide1 (HB4.out.trans ((show Below w4.heap.size w4 w5 by rw [hq]; exact below_drewN (Below.refl _ _) q5).mono HB4.out.size))
    rw [decide_eq_true (rfl : L = L)]
    clear hq HB4 HL4 HL1
    go_wp2_with fail
    go_at_call 6
    refine (awake_any w5).mono ?_
    rintro e w6 ⟨rfl, hb6⟩
    have HB6 := hide1 (HB5.out.trans (hb6.mono HB5.out.size))
    clear hb6 HB5
    go_wp2
    go_ret
    exact ⟨rfl, HB6.out⟩
  · have hm' : (30 : Int) < (m : Int) := by omega
    have kA := hide1 (awake_any w)
    clear ha hs
    go_enter Try.func3, Try.ntmps3
    go_wp2_with (first | (go_at_call 6; refine kA.out.mono ?_; rintro e w' ⟨rfl, hb⟩; have HB := hide1 hb; clear hb) | fail)
    go_ret
    exact ⟨rfl, HB.out⟩

/- both lists, kept -/
theorem two_nums {w : World} {k1 k2 : Nat} {a1 a2 : Option Addr} {L : List Nat} (h1 : Nl w k1 a1 L) (h2 : Nl w k2 a2 L) : k1 = k2 := h1.len.symm.trans h2.len
theorem npost_len {ok : Bool} {l : List Nat} {B k : Nat} {w : World} {a : Option Addr} (hB : l.length ≤ B) (h : Nl w k a (if ok then l else [])) : k ≤ B := by
  rw [← h.len]
  split
  · exact hB
  · exact Nat.zero_le _

set_option maxHeartbeats 16000000 in
theorem spreads_all (W n : Int) (k m ca c : Nat) (aa a : Option Addr) (us l : List Nat) (w : World) (hc : m ≤ c) (haa : Nl w k aa us) (hsa : Small us) (ha : Nl w m a l) (hs : Small l) :
    Calls Try.prog 4 #[.int .i64 W, .int .i64 n, .slice aa k ca, .slice a m c] w fun e w' => e = .returned (.bool true) ∧ Below w.heap.size w w' := by
  by_cases hk : k ≤ 60
  · have hk' : ¬ (60 : Int) < (k : Int) := by omega
    by_cases hm : m ≤ 300
    · have hm' : ¬ (300 : Int) < (m : Int) := by omega
      obtain ⟨o1, ho1⟩ : ∃ b, b = okS W n n.toNat m l := ⟨_, rfl⟩
      obtain ⟨o2, ho2⟩ : ∃ b, b = okS W n (W.toNat * n.toNat) m l := ⟨_, rfl⟩
      obtain ⟨o3, ho3⟩ : ∃ b, b = okR W n k m := ⟨_, rfl⟩
      have kS : Hid (∀ X, Below w.heap.size w X → Calls Try.prog 11 #[.int .i64 W, .int .i64 n, .slice a m c] X (NPost o1 (spL W n m l) X)) := fun X hX => by rw [ho1]; exact spread_any W n m c a l X (by omega) hc (ha.below hX (Nat.le_refl _)) hs
      have kRS : Hid (∀ X, Below w.heap.size w X → Calls Try.prog 12 #[.int .i64 W, .int .i64 n, .slice a m c] X (NPost o1 (spL W n m l) X)) := fun X hX => by rw [ho1]; exact rspread_any W n m c a l X (by omega) (ha.below hX (Nat.le_refl _)) hs
      have kF : Hid (∀ X, Below w.heap.size w X → Calls Try.prog 13 #[.int .i64 W, .int .i64 n, .slice a m c] X (NPost o2 (foL W n m l) X)) := fun X hX => by rw [ho2]; exact fold_any W n m c a l X (by omega) hc (ha.below hX (Nat.le_refl _)) hs
      have kRF : Hid (∀ X, Below w.heap.size w X → Calls Try.prog 14 #[.int .i64 W, .int .i64 n, .slice a m c] X (NPost o2 (foL W n m l) X)) := fun X hX => by rw [ho2]; exact rfold_any W n m c a l X (by omega) (ha.below hX (Nat.le_refl _)) hs
      have kR : Hid (∀ X, Below w.heap.size w X → Calls Try.prog 15 #[.int .i64 W, .int .i64 n, .slice aa k ca, .slice a m c] X (NPost o3 (roL W n m us l) X)) := fun X hX => by rw [ho3]; exact rows_any W n k m ca c aa a us l X (by omega) (by omega) hc (haa.below hX (Nat.le_refl _)) (ha.below hX (Nat.le_refl _))
      have kRR : Hid (∀ X, Below w.heap.size w X → Calls Try.prog 16 #[.int .i64 W, .int .i64 n, .slice aa k ca, .slice a m c] X (NPost o3 (roL W n m us l) X)) := fun X hX => by rw [ho3]; exact rrows_any W n k m ca c aa a us l X (by omega) (by omega) (haa.below hX (Nat.le_refl _)) hsa (ha.below hX (Nat.le_refl _)) hs
      have b1 : (spL W n m l).length ≤ 300 * 64 ∨ o1 = false := by
        cases ho : o1 with
        | false => exact .inr rfl
        | true =>
          rw [ho] at ho1
          obtain ⟨hW, _, _, _⟩ := okS_yes ho1.symm
          obtain ⟨L, rfl, h1, h2⟩ := okW_nat hW
          rw [spL, tl_length]
          exact .inl (Nat.mul_le_mul hm h2)
      have b2 : (foL W n m l).length ≤ 300 * 64 ∨ o2 = false := by
        rw [foL, tl_length]
        exact .inl (Nat.le_trans (Nat.div_le_self _ _) (by omega))
      have b3 : (roL W n m us l).length ≤ 300 * 64 ∨ o3 = false := by
        rw [roL, tl_length]
        exact .inl (by omega)
      have bb : ∀ (o : Bool) (l : List Nat), (l.length ≤ 300 * 64 ∨ o = false) → (if o then l else []).length ≤ 65536 := fun o l h => by
        rcases h with h | rfl
        · split
          · omega
          · exact Nat.zero_le _
        · exact Nat.zero_le _
      have bb1 := bb _ _ b1
      have bb2 := bb _ _ b2
      have bb3 := bb _ _ b3
      unfold NPost at kS kRS kF kRF kR kRR
      generalize cod o1 = z1 at *
      generalize cod o2 = z2 at *
      generalize cod o3 = z3 at *
      generalize (if o1 then spL W n m l else []) = L1 at *
      generalize (if o2 then foL W n m l else []) = L2 at *
      generalize (if o3 then roL W n m us l else []) = L3 at *
      have hz1 : ((z1 : Int) == z1) = true := by simp
      have hz2 : ((z2 : Int) == z2) = true := by simp
      have hz3 : ((z3 : Int) == z3) = true := by simp
      have HBB := hide1 (And.intro bb1 (And.intro bb2 bb3))
      have HB0 := hide1 (Below.refl w.heap.size w)
      clear ha haa hs hsa ho1 ho2 ho3 b1 b2 b3 bb bb1 bb2 bb3
      go_enter Try.func4, Try.ntmps4
      go_wp2_with fail
      go_at_call 11
      refine (kS.out w HB0.out).mono ?_
      rintro e w1 ⟨a1, k1, c1, rfl, hn, hb⟩
      have HB1 := hide1 hb
      have N1 := hide1 hn
      clear hn hb HB0
      go_wp2_with fail
      go_at_call 12
      refine (kRS.out w1 HB1.out).mono ?_
      rintro e w2 ⟨a2, k2, c2, rfl, hn, hb⟩
      have HB2 := hide1 (HB1.out.trans (hb.mono HB1.out.size))
      have N1 := hide1 (N1.out.below hb (Nat.le_refl _))
      obtain rfl := two_nums N1.out hn
      have N2 := hide1 hn
      clear hn hb HB1
      go_wp2_with fail
      go_at_call 13
      refine (kF.out w2 HB2.out).mono ?_
      rintro e w3 ⟨a3, k3, c3, rfl, hn, hb⟩
      have HB3 := hide1 (HB2.out.trans (hb.mono HB2.out.size))
      have N1 := hide1 (N1.out.below hb (Nat.le_refl _))
      have N2 := hide1 (N2.out.below hb (Nat.le_refl _))
      have N3 := hide1 hn
      clear hn hb HB2
      go_wp2_with fail
      go_at_call 14
      refine (kRF.out w3 HB3.out).mono ?_
      rintro e w4 ⟨a4, k4, c4, rfl, hn, hb⟩
      have HB4 := hide1 (HB3.out.trans (hb.mono HB3.out.size))
      have N1 := hide1 (N1.out.below hb (Nat.le_refl _))
      have N2 := hide1 (N2.out.below hb (Nat.le_refl _))
      have N3 := hide1 (N3.out.below hb (Nat.le_refl _))
      obtain rfl := two_nums N3.out hn
      have N4 := hide1 hn
      clear hn hb HB3
      go_wp2_with fail
      go_at_call 15
      refine (kR.out w4 HB4.out).mono ?_
      rintro e w5 ⟨a5, k5, c5, rfl, hn, hb⟩
      have HB5 := hide1 (HB4.out.trans (hb.mono HB4.out.size))
      have N1 := hide1 (N1.out.below hb (Nat.le_refl _))
      have N2 := hide1 (N2.out.below hb (Nat.le_refl _))
      have N3 := hide1 (N3.out.below hb (Nat.le_refl _))
      have N4 := hide1 (N4.out.below hb (Nat.le_refl _))
      have N5 := hide1 hn
      clear hn hb HB4
      go_wp2_with fail
      go_at_call 16
      refine (kRR.out w5 HB5.out).mono ?_
      rintro e w6 ⟨a6, k6, c6, rfl, hn, hb⟩
      have HB6 := hide1 (HB5.out.trans (hb.mono HB5.out.size))
      have N1 := hide1 (N1.out.below hb (Nat.le_refl _))
      have N2 := hide1 (N2.out.below hb (Nat.le_refl _))
      have N3 := hide1 (N3.out.below hb (Nat.le_refl _))
      have N4 := hide1 (N4.out.below hb (Nat.le_refl _))
      have N5 := hide1 (N5.out.below hb (Nat.le_refl _))
      obtain rfl := two_nums N5.out hn
      have N6 := hide1 hn
      clear hn hb HB5
      go_wp2_with fail
      go_at_call 17
      refine (T.nums_any w6 _ _ _ _ _ L1 (t_nl N1.out) (t_nl N2.out) (by rw [← N1.out.len]; exact HBB.out.1)).mono ?_
      rintro e w7 ⟨rfl, q, hq⟩
      have hb : Below w6.heap.size w6 w7 := by rw [hq]; exact below_drewN (Below.refl _ _) q
      have HB7 := hide1 (HB6.out.trans (hb.mono HB6.out.size))
      have N3 := hide1 (N3.out.below hb (Nat.le_refl _))
      have N4 := hide1 (N4.out.below hb (Nat.le_refl _))
      have N5 := hide1 (N5.out.below hb (Nat.le_refl _))
      have N6 := hide1 (N6.out.below hb (Nat.le_refl _))
      clear hq hb HB6 N1 N2
      go_wp2_with fail
      go_at_call 17
      refine (T.nums_any w7 _ _ _ _ _ L2 (t_nl N3.out) (t_nl N4.out) (by rw [← N3.out.len]; exact HBB.out.2.1)).mono ?_
      rintro e w8 ⟨rfl, q, hq⟩
      have hb : Below w7.heap.size w7 w8 := by rw [hq]; exact below_drewN (Below.refl _ _) q
      have HB8 := hide1 (HB7.out.trans (hb.mono HB7.out.size))
      have N5 := hide1 (N5.out.below hb (Nat.le_refl _))
      have N6 := hide1 (N6.out.below hb (Nat.le_refl _))
      clear hq hb HB7 N3 N4
      go_wp2_with fail
      go_at_call 17
      refine (T.nums_any w8 _ _ _ _ _ L3 (t_nl N5.out) (t_nl N6.out) (by rw [← N5.out.len]; exact HBB.out.2.2)).mono ?_
      rintro e w9 ⟨rfl, q, hq⟩
      have hb : Below w8.heap.size w8 w9 := by rw [hq]; exact below_drewN (Below.refl _ _) q
      have HB9 := hide1 (HB8.out.trans (hb.mono HB8.out.size))
      clear hq hb HB8 N5 N6
      go_wp2_with fail
      go_at_call 6
      refine (awake_any w9).mono ?_
      rintro e w10 ⟨rfl, hb⟩
      have HB10 := hide1 (HB9.out.trans (hb.mono HB9.out.size))
      clear hb HB9
      go_wp2
      go_ret
      exact ⟨rfl, HB10.out⟩
    · have hm' : (300 : Int) < (m : Int) := by omega
      have kA := hide1 (awake_any w)
      clear ha hs haa hsa
      go_enter Try.func4, Try.ntmps4
      go_wp2_with (first | (go_at_call 6; refine kA.out.mono ?_; rintro e w' ⟨rfl, hb⟩; have HB := hide1 hb; clear hb) | fail)
      go_ret
      exact ⟨rfl, HB.out⟩
  · have hk' : (60 : Int) < (k : Int) := by omega
    have kA := hide1 (awake_any w)
    clear ha hs haa hsa
    go_enter Try.func4, Try.ntmps4
    go_wp2_with (first | (go_at_call 6; refine kA.out.mono ?_; rintro e w' ⟨rfl, hb⟩; have HB := hide1 hb; clear hb) | fail)
    go_ret
    exact ⟨rfl, HB.out⟩
end Go.Proofs.Ytgcbdjmlhjbacaa.Gi
