/- The walk of RotTransfers. -/
import Derived.Test.YtlkkninnfiaedaaDoorJ40
import Derived.Test.YtlkkninnfiaedaaDoorJ41
import Derived.Test.YtlkkninnfiaedaaDoorJ47
namespace Go.Proofs.YtlkkninnfiaedaaDoor.Ro
open Go.RowKit Pg I
set_option maxRecDepth 100000
attribute [local go_sem] not_any T.mf_any

theorem trans_else (kl : List Nat) (F N cb : Nat) (av : Option Addr) (w : World) (hL : Sh.Laid w) (hbig : N = 0 ∨ 60 < N ∨ 33554432 < F) :
    Calls Tryd.prog 6 #[arr8 kl, .int .u64 (F : Int), .slice av N cb] w fun e w' => e = .returned (.bool true) ∧ Below w.heap.size w w' := by
  have B0 := hide1 (I.On.start w (.cells (u8s kl).toArray 28)).bel
  have kA : Hid (∀ W, Below w.heap.size w W → Calls Tryd.prog 7 #[] W fun e w' => e = .returned (.bool true) ∧ Below W.heap.size W w') := fun W hW => awake_any W (hL.below hW hL.two)
  clear hL
  unfold arr8
  by_cases h1 : N = 0
  · subst h1
    have t1 : (((0 : Nat) : Int) == 0) = true := by decide
    clear hbig
    go_enter Tryd.func6, Tryd.ntmps6
    go_wp2_with fail
    go_at_call 7
    refine (kA.out _ B0.out).mono ?_
    rintro e w9 ⟨rfl, hb9⟩
    have B9 := hide1 (B0.out.trans (hb9.mono B0.out.size))
    clear hb9
    go_wp2
    go_ret
    exact ⟨rfl, B9.out⟩
  · have t1 : ((N : Int) == 0) = false := by rw [beq_eq_false_iff_ne]; omega
    by_cases h2 : 60 < N
    · have t2 : (60 : Int) < (N : Int) := by omega
      clear hbig h1 h2
      go_enter Tryd.func6, Tryd.ntmps6
      go_wp2_with fail
      go_at_call 7
      refine (kA.out _ B0.out).mono ?_
      rintro e w9 ⟨rfl, hb9⟩
      have B9 := hide1 (B0.out.trans (hb9.mono B0.out.size))
      clear hb9
      go_wp2
      go_ret
      exact ⟨rfl, B9.out⟩
    · have t2 : ¬ (60 : Int) < (N : Int) := by omega
      have t3 : (33554432 : Int) < (F : Int) := by omega
      clear hbig h1 h2
      go_enter Tryd.func6, Tryd.ntmps6
      go_wp2_with fail
      go_at_call 7
      refine (kA.out _ B0.out).mono ?_
      rintro e w9 ⟨rfl, hb9⟩
      have B9 := hide1 (B0.out.trans (hb9.mono B0.out.size))
      clear hb9
      go_wp2
      go_ret
      exact ⟨rfl, B9.out⟩

/- who chooses has just the seeds that it chose -/
theorem chose {fk fz fo : Nat → List Nat} {d0 d1 F N j : Nat} {ch : List Bool} (hk : ∀ i, fk i = if bt d0 d1 (i : Int) then fo i else fz i) (h0 : d0 < 18446744073709551616) (h1 : d1 < 18446744073709551616) (hc : ch.length = N) (hj : j < N) :
    rcv F (T.rowV (fun i => cl (fz i) F N)) j = pick (ch.getD j false) (rcv F (T.rowV (keyC fk d0 d1 F N (sentC fz fo F N ch))) j) (snd d0 d1 F (T.rowV (keyC fk d0 d1 F N (sentC fz fo F N ch))) j) := by
  obtain ⟨e0, e1⟩ := joins fk fz fo d0 d1 F hk h0 h1 hc hj
  unfold rcv snd pick
  rw [e0, e1]
  cases ch.getD j false with
  | false => rw [if_neg (by decide)]; simp only [tm, Bool.false_eq_true, if_false, Nat.xor_zero]
  | true => rw [if_pos rfl]; simp only [tm, if_true, Nat.xor_assoc, Nat.xor_self, Nat.xor_zero]

/- both ends' seeds in memory -/
theorem send_ex2 (d0 d1 F m c : Nat) (a : Option Addr) (R : Nat → Nat → Nat) (w : World) (hL : Sh.Laid w) (hR : T.Rws w m a R) (hm : m ≤ 4096) (hF : F + 4096 < 18446744073709551616) (h0 : d0 < 18446744073709551616) (h1 : d1 < 18446744073709551616) :
    Calls Tryd.prog 11 #[.agg #[.int .u64 (d0 : Int), .int .u64 (d1 : Int)], .int .u64 (F : Int), .slice a m c] w fun e w' => ∃ g o, e = .returned (.slice (some ⟨g, o, none⟩) m m) ∧ Pd w' m (some ⟨g, o, none⟩) (pr (rcv F R) (snd d0 d1 F R)) ∧ Below w.heap.size w w' :=
  (send_ex d0 d1 F m c a R w hL hR hm hF h0 h1).mono fun _ _ ⟨g, he, hh, hb⟩ => ⟨g, 0, he, hh, hb⟩
theorem receive_ex2 (F m c : Nat) (a : Option Addr) (R : Nat → Nat → Nat) (w : World) (hL : Sh.Laid w) (hR : T.Rws w m a R) (hm : m ≤ 4096) (hF : F + 4096 < 18446744073709551616) :
    Calls Tryd.prog 14 #[.int .u64 (F : Int), .slice a m c] w fun e w' => ∃ g o, e = .returned (.slice (some ⟨g, o, none⟩) m m) ∧ Sd w' m (some ⟨g, o, none⟩) (rcv F R) ∧ Below w.heap.size w w' :=
  (receive_ex F m c a R w hL hR hm hF).mono fun _ _ ⟨g, he, hh, hb⟩ => ⟨g, 0, he, hh, hb⟩

set_option maxHeartbeats 16000000 in
theorem trans_in (kl : List Nat) (F N cb : Nat) (av : Option Addr) (ch : List Bool) (w : World) (hL : Sh.Laid w) (hk : kl.length = 32) (bk : Lt 256 kl) (hv : T.Bl w N av ch) (hN : N ≤ 60) (hN0 : N ≠ 0) (hF : F ≤ 33554432) :
    Calls Tryd.prog 6 #[arr8 kl, .int .u64 (F : Int), .slice av N cb] w fun e w' => e = .returned (.bool true) ∧ Below w.heap.size w w' := by
  have kA : Hid (∀ W, Below w.heap.size w W → Calls Tryd.prog 7 #[] W fun e w' => e = .returned (.bool true) ∧ Below W.heap.size W w') := fun W hW => awake_any W (hL.below hW hL.two)
  have kL : Hid (∀ W, Below w.heap.size w W → Sh.Laid W) := fun W hW => hL.below hW hL.two
  have kD : ∀ w, Hid (Calls Tryd.prog 26 #[.agg (u8s kl).toArray, .int .u64 1] w _) := fun w => hide1 (deal_any kl 1 w hk bk (by omega))
  have hi := hi23 hk
  have hcl : ch.length = N := hv.len
  have hnc : nC F N = 0 := by rw [nC, if_neg (by omega), if_neg (by omega)]
  generalize rt0 kl 1 = p0 at kD
  generalize rt1 kl 1 = p1 at kD
  have HB0 := hide1 hv
  have t1 : ((N : Int) == 0) = false := by rw [beq_eq_false_iff_ne]; omega
  have t2 : ¬ (60 : Int) < (N : Int) := by omega
  have t3 : ¬ (33554432 : Int) < (F : Int) := by omega
  have A0 := hide1 (On.start w (.cells (u8s kl).toArray 28))
  clear hv hk bk hL
  unfold arr8
  go_enter Tryd.func6, Tryd.ntmps6
  go_upto_region 1 with (fail)
  generalize w.alloc (.cells (u8s kl).toArray 28) = W0 at *
  go_wp2_with (first | (refine wpList_load_row rfl 28 (.tmp 3) rfl w.heap.size rfl 28 (u8s kl).toArray (0, 0) _ A0.out.h1 Tryd.underlying28 rfl hi ?_) | fail)
  go_at_call 26
  refine (kD _).out.mono ?_
  rintro e w1 ⟨K0, Z0, O0, K1, Z1, O1, rfl, sK0, sZ0, sO0, sK1, sZ1, sO1, hb1⟩
  obtain ⟨gK0, cK0, rfl, _, _⟩ := sK0.at'
  obtain ⟨gZ0, cZ0, rfl, _, _⟩ := sZ0.at'
  obtain ⟨gO0, cO0, rfl, _, _⟩ := sO0.at'
  obtain ⟨gK1, cK1, rfl, _, _⟩ := sK1.at'
  obtain ⟨gZ1, cZ1, rfl, _, _⟩ := sZ1.at'
  obtain ⟨gO1, cO1, rfl, _, _⟩ := sO1.at'
  have B1 := hide1 (A0.out.to hb1).bel
  have hn0 : wd p0 9 0 < 18446744073709551616 := wd_lt _ _ _
  have hn1 : wd p0 9 1 < 18446744073709551616 := wd_lt _ _ _
  have hd0 : Shy (∀ i, dk p0 i = if bt (wd p0 9 0) (wd p0 9 1) (i : Int) then dn p0 i else dz p0 i) := ⟨fun _ => rfl⟩
  generalize wd p0 9 0 = d0 at *
  generalize wd p0 9 1 = d1 at *
  generalize wd p1 9 0 = y0 at *
  generalize wd p1 9 1 = y1 at *
  have JJ : Shy (∀ j, j < N → rcv F (T.rowV (fun i => cl (dz p0 i) F N)) j = pick (ch.getD j false) (rcv F (T.rowV (keyC (dk p0) d0 d1 F N (sentC (dz p0) (dn p0) F N ch))) j) (snd d0 d1 F (T.rowV (keyC (dk p0) d0 d1 F N (sentC (dz p0) (dn p0) F N ch))) j)) := ⟨fun _ hj => chose hd0.out hn0 hn1 hcl hj⟩
  go_wp2_with fail
  generalize hW2 : World.alloc (World.alloc w1 _) _ = W2
  have hA2 := At.start w1 (.cells #[.int .u64 (d0 : Int), .int .u64 (d1 : Int), .slice (some ⟨gK0, 0, none⟩) 128 cK0, .slice (some ⟨gZ1, 0, none⟩) 128 cZ1, .slice (some ⟨gO1, 0, none⟩) 128 cO1] 66) (.cells #[.int .u64 (y0 : Int), .int .u64 (y1 : Int), .slice (some ⟨gK1, 0, none⟩) 128 cK1, .slice (some ⟨gZ0, 0, none⟩) 128 cZ0, .slice (some ⟨gO0, 0, none⟩) 128 cO0] 66)
  rw [hW2] at hA2
  have k2 := hide1 (T.of_any W2 N cb av ch (HB0.out.below (B1.out.trans (hA2.bel.mono B1.out.size)) (Nat.le_refl _)) (by omega))
  have A2 := hide1 hA2
  have S2 := hide1 (And.intro (sK0.below hA2.bel (Nat.le_refl _)) (And.intro (sZ0.below hA2.bel (Nat.le_refl _)) (And.intro (sO0.below hA2.bel (Nat.le_refl _)) (And.intro (sK1.below hA2.bel (Nat.le_refl _)) (And.intro (sZ1.below hA2.bel (Nat.le_refl _)) (sO1.below hA2.bel (Nat.le_refl _)))))))
  clear hW2 hA2 sK0 sZ0 sO0 sK1 sZ1 sO1 hb1 kD
  obtain ⟨b1, hb1⟩ : ∃ b, b = w1.heap.size := ⟨_, rfl⟩
  have HB1 := hide1 hb1
  rw [← hb1] at ⊢
  go_at_call 22
  refine k2.out.mono ?_
  rintro e w3 ⟨ac, rfl, hv3, hb3⟩
  obtain ⟨V3, hV3'⟩ : ∃ W, W = w3.alloc (.cells #[.int .i64 (N : Int), .slice ac (T.need N 64) (T.need N 64)] 41) := ⟨_, rfl⟩
  have hb4 : Below w3.heap.size w3 V3 := by rw [hV3']; exact T.below_alloc1 _ _
  have hb := hb3.trans (hb4.mono hb3.size)
  have A3 := hide1 (A2.out.to hb)
  have vv3 := ((hv3.below hb4 (Nat.le_refl _)).mono (Nat.zero_le _))
  obtain ⟨b3, hb3'⟩ : ∃ b, b = w3.heap.size := ⟨_, rfl⟩
  have x3 : V3.heap[b3]? = some (.cells #[.int .i64 (N : Int), .slice ac (T.need N 64) (T.need N 64)] 41 (0, 0)) := by rw [hV3', hb3']; exact heap_alloc_new _ _
  have x1 := A3.out.h1
  have x2 := A3.out.h2
  rw [← hb1] at x1 x2
  have xb := B1.out.trans (A3.out.bel.mono B1.out.size)
  have P3 := hide1 (Pack.mk xb x1 x2 x3 (S2.out.1.below hb (Nat.le_refl _)) (S2.out.2.1.below hb (Nat.le_refl _)) (S2.out.2.2.1.below hb (Nat.le_refl _)) (S2.out.2.2.2.1.below hb (Nat.le_refl _)) (S2.out.2.2.2.2.1.below hb (Nat.le_refl _)) (S2.out.2.2.2.2.2.below hb (Nat.le_refl _)) vv3 (HB0.out.below xb (Nat.le_refl _)))
  clear hb3 hb4 hb hv3 k2 A2 A3 S2 x1 x2 x3 xb vv3 HB1 hb1 HB0 B1 A0
  go_upto_region 5 with (fail)
  rw [← hb3', ← hV3']
  clear hV3' hb3'
  obtain ⟨q0, q1, q2, q3, q4⟩ := T.box2 P3.out.x3
  have rr := view_recv P3.out.x2
  have kR := rec_any P3.out.z0 P3.out.o0 (good_dz p0) (good_dn p0) P3.out.vv hnc (by omega) (by omega)
  go_wp2_with (first | (refine wpList_load_mid rfl 64 (.tmp 43) rfl (b1 + 1) 3 rfl [.slice (some ⟨gZ0, 0, none⟩) 128 cZ0, .slice (some ⟨gO0, 0, none⟩) 128 cO0] _ rr Tryd.underlying64 rfl (by kernel_rfl) ?_) | fail)
  go_at_call 27
  refine kR.out.mono ?_
  rintro e V4 ⟨s1, r1, a1, rfl, hvs, hrt, hb⟩
  have P4 := hide1 (P3.out.to hb)
  have VS4 := hide1 hvs
  have R4 := hide1 hrt
  clear hvs hrt hb kR rr q0 q1 q2 q3 q4 P3
  have rr := view_send P4.out.x1
  have kS := hide1 (send_yes d0 d1 _ (dk p0) F N 128 _ (fun _ => N) a1 _ V4 VS4.out P4.out.k0 (good_dk p0) hn0 hn1 hnc (by omega) (by omega) (fun _ _ => rfl) (Nat.le_refl _))
  go_wp2_with (first | (refine wpList_load_mid rfl 62 (.tmp 52) rfl b1 0 rfl [.int .u64 (d0 : Int), .int .u64 (d1 : Int), .slice (some ⟨gK0, 0, none⟩) 128 cK0] _ rr Tryd.underlying62 rfl (by kernel_rfl) ?_) | fail)
  go_at_call 28
  refine kS.out.mono ?_
  rintro e V ⟨q1, rfl, hrq, hb⟩
  have P5 := hide1 (P4.out.to hb)
  have rq := hide1 (T.rrow_rws hrq (T.rowV_lt _))
  have rr5 := hide1 (T.rrow_rws ((hb.block _ (T.lt_heap R4.out)).trans R4.out) (T.rowV_lt _))
  clear hrq hb kS rr P4 VS4 R4 hd0
  generalize T.rowV (keyC (dk p0) d0 d1 F N (sentC (dz p0) (dn p0) F N ch)) = Rq at *
  generalize T.rowV (fun i => cl (dz p0 i) F N) = Rt at *
  have kS := hide1 (send_ex2 d0 d1 F N N _ _ V (kL.out _ P5.out.bel) rq.out (by omega) (by omega) hn0 hn1)
  have kR : Hid (∀ W, Below V.heap.size V W → Calls Tryd.prog 14 #[.int .u64 (F : Int), .slice (some ⟨r1, 0, none⟩) N N] W fun e w' => ∃ g o, e = .returned (.slice (some ⟨g, o, none⟩) N N) ∧ Sd w' N (some ⟨g, o, none⟩) (rcv F Rt) ∧ Below W.heap.size W w') := fun W hb => receive_ex2 F N N _ _ W (kL.out _ (P5.out.to hb).bel) (rr5.out.below hb (Nat.le_refl _)) (by omega) (by omega)
  have CA : Hid (V.cell? ⟨b1, 0, none⟩ = some (.int .u64 (d0 : Int)) ∧ V.cell? ⟨b1, 1, none⟩ = some (.int .u64 (d1 : Int))) := by
    have h := P5.out.x1
    rw [cell_of_row V b1 _ _ _ _ h, cell_of_row V b1 _ _ _ _ h]
    exact ⟨rfl, rfl⟩
  obtain ⟨m0, m1⟩ := CA.out
  go_wp2_with fail
  go_at_call 11
  refine kS.out.mono ?_
  rintro e V6 ⟨ga, oa, rfl, hp6, hb⟩
  have B6 := hide1 hb
  have HP6 := hide1 hp6
  clear hb hp6 m0 m1 CA kS
  go_wp2_with fail
  go_at_call 14
  refine (kR.out _ B6.out).mono ?_
  rintro e V7 ⟨gb, ob, rfl, hs7, hb⟩
  have B7 := hide1 (B6.out.trans (hb.mono B6.out.size))
  have HP7 := hide1 (HP6.out.below hb (Nat.le_refl _))
  have HS7 := hide1 hs7
  clear hb hs7 kR HP6 B6
  have P7 := hide1 (P5.out.to B7.out)
  have OK7 : Shy (∀ j, j < N → okAt (pr (rcv F Rq) (snd d0 d1 F Rq)) (rcv F Rt) ch j) := ⟨fun j hj => by rw [okAt, pr_0, pr_1]; exact JJ.out j hj⟩
  clear JJ B7 P5 rq rr5 hn0 hn1
  generalize pr (rcv F Rq) (snd d0 d1 F Rq) = f at *
  generalize rcv F Rt = s at *
  have kC := chosen_any f s ch N N N N N _ _ ac V7 HP7.out HS7.out P7.out.vv (by omega) (by omega) (by omega)
  rw [chs_yes OK7.out] at kC
  have KC := hide1 kC
  clear kC
  obtain ⟨m2, m3, _⟩ := T.box2 P7.out.x3
  have nn : ((N : Int) != (N : Int)) = false := by rw [bne_eq_false_iff_eq]
  go_upto_region 10 with (fail)
  go_wp2_with fail
  go_at_call 23
  refine KC.out.mono ?_
  rintro e V ⟨rfl, hb⟩
  have P8 := hide1 (P7.out.to hb)
  have HP := hide1 (HP7.out.below hb (Nat.le_refl _))
  have HS := hide1 (HS7.out.below hb (Nat.le_refl _))
  clear hb HP7 HS7 P7 KC m2 m3
  have HC : Hid (T.Bl V N av ch) := P8.out.bl
  have PB : Hid (Below w.heap.size w V) := P8.out.bel
  have HGP := hide1 HP.out.good
  have HGS := hide1 HS.out.good
  clear P8 hi
  go_wp2
  go_loopw [18] (fun v wr => ∃ k : Nat, k ≤ N ∧ v = .int .i64 k ∧ Below V.heap.size V wr) (fun v _ => N - (intOf v).toNat)
  case atStart => exact ⟨0, Nat.zero_le _, rfl, Below.refl _ _⟩
  case round =>
    obtain ⟨k, hk, rfl, hbe⟩ := hrel
    by_cases hlt : k < N
    · have bk : (k : Int) < (N : Int) := by omega
      have bk2 : (k : Int) < 60 := by omega
      have ra : ∀ W, Below V.heap.size V W → W.rangeAt ga (oa + k * 64) (u8s (f (2 * k))) ∧ W.rangeAt ga (oa + k * 64 + 32) (u8s (f (2 * k + 1))) := by
        obtain ⟨g, o, e, hg, hr⟩ := HP.out.at0 hlt
        cases e
        exact fun W hW => hr W hW k hlt
      have rb : ∀ W, Below V.heap.size V W → W.rangeAt gb (ob + k * 32) (u8s (s k)) := by
        obtain ⟨g, o, e, hg, hr⟩ := HS.out.at0 hlt
        cases e
        exact fun W hW => hr W hW k hlt
      obtain ⟨bc, hbc⟩ : ∃ bc, ch[k]? = some bc := ⟨_, List.getElem?_eq_getElem (by rw [HC.out.len]; exact hlt)⟩
      obtain ⟨gc, oc, rfl, hcc⟩ := HC.out.at' k bc hbc
      have CC : Hid (∀ W, Below V.heap.size V W → W.cell? ⟨gc, oc + k, none⟩ = some (.bool bc)) := fun W h => (h.cell (p := ⟨gc, oc + k, none⟩) (T.lt_cell hcc)).trans hcc
      have hok : s k = pick bc (f (2 * k)) (f (2 * k + 1)) := by
        have h := OK7.out k hlt
        rw [okAt, List.getD_eq_getElem?_getD, hbc] at h
        exact h
      have hi := hi23' (HGS.out k).1
      have hip := hi23' (HGP.out (2 * k)).1
      have hiq := hi23' (HGP.out (2 * k + 1)).1
      obtain ⟨ja, hja⟩ : ∃ j, j = oa + k * 64 := ⟨_, rfl⟩
      obtain ⟨jb, hjb⟩ : ∃ j, j = ob + k * 32 := ⟨_, rfl⟩
      obtain ⟨jc, hjc⟩ : ∃ j, j = oc + k := ⟨_, rfl⟩
      rw [← hja] at ra
      rw [← hjb] at rb
      rw [← hjc] at CC
      have eja : oa + k * 64 = ja := hja.symm
      have ejb : ob + k * 32 = jb := hjb.symm
      have ejc : oc + k = jc := hjc.symm
      have RA := hide1 ra
      have RB := hide1 rb
      have HE := hide1 hbe
      clear hbe ra rb hbc hcc hja hjb hjc
      cases bc with
      | true =>
        have dq : decide (s k = f (2 * k + 1)) = true := by
          unfold pick at hok
          rw [if_pos rfl] at hok
          exact decide_eq_true hok
        have heqq := fun w => eq_seeds (HGS.out k).1 (HGP.out (2 * k + 1)).1 (HGS.out k).2 (HGP.out (2 * k + 1)).2 w
        rw [dq] at heqq
        clear dq hok
        generalize f (2 * k) = p at *
        generalize f (2 * k + 1) = q at *
        generalize s k = sk at *
        go_upto_region 15 with (fail)
        refine region_f (F := []) (S := fun W => Below V.heap.size V W) (by kernel_rfl) HE.out.drew (fun hS => ?_)
        refine take_p 0 100 (.slice (some ⟨gc, oc, none⟩) N cb) rfl rfl (by kernel_rfl) (by kernel_rfl) (by kernel_rfl) (fun _ _ _ h => h) rfl (fun w => by go_simp) ?_
        try simp only [List.setIfInBounds_toArray, List.set_cons_zero, List.set_cons_succ]
        refine take_p 1 101 (.int .i64 (k : Int)) rfl rfl (by kernel_rfl) (by kernel_rfl) (by kernel_rfl) (fun _ _ _ h => h) rfl (fun w => by go_simp) ?_
        try simp only [List.setIfInBounds_toArray, List.set_cons_zero, List.set_cons_succ]
        refine take_p 2 102 (.pointer (some ⟨gc, jc, none⟩)) rfl rfl (by kernel_rfl) (by kernel_rfl) (by kernel_rfl) (fun _ _ _ h => h) rfl (fun w => by go_simp) ?_
        try simp only [List.setIfInBounds_toArray, List.set_cons_zero, List.set_cons_succ]
        refine take_f 3 103 (.bool true) [4, 5, 6, 7, 8, 9, 10, 11, 12, 13, 14, 15, 16, 17, 18, 19, 20, 21, 22, 23, 24, 25, 26, 27, 28, 29, 30, 31, 32, 33, 34] rfl rfl (by kernel_rfl) (by kernel_rfl) (by kernel_rfl) (by kernel_rfl) (by kernel_rfl) (by kernel_rfl) (fun _ _ _ h => h) rfl (fun w hSw => by have h1 := CC.out w hSw; go_simp) hS ?_
        try simp only [List.setIfInBounds_toArray, List.set_cons_zero, List.set_cons_succ]
        refine take_p 4 104 (.bool true) rfl rfl (by kernel_rfl) (by kernel_rfl) (by kernel_rfl) (fun _ _ _ h => h) rfl (fun w => by go_simp) ?_
        try simp only [List.setIfInBounds_toArray, List.set_cons_zero, List.set_cons_succ]
        refine take_p 5 105 (.slice (some ⟨gb, ob, none⟩) N N) rfl rfl (by kernel_rfl) (by kernel_rfl) (by kernel_rfl) (fun _ _ _ h => h) rfl (fun w => by go_simp) ?_
        try simp only [List.setIfInBounds_toArray, List.set_cons_zero, List.set_cons_succ]
        refine take_p 6 106 (.int .i64 (k : Int)) rfl rfl (by kernel_rfl) (by kernel_rfl) (by kernel_rfl) (fun _ _ _ h => h) rfl (fun w => by go_simp) ?_
        try simp only [List.setIfInBounds_toArray, List.set_cons_zero, List.set_cons_succ]
        refine take_p 7 107 (.pointer (some ⟨gb, jb, none⟩)) rfl rfl (by kernel_rfl) (by kernel_rfl) (by kernel_rfl) (fun _ _ _ h => h) rfl (fun w => by go_simp) ?_
        try simp only [List.setIfInBounds_toArray, List.set_cons_zero, List.set_cons_succ]
        refine take_f 8 108 (.agg (u8s sk).toArray) [14, 15, 16, 17, 18, 19, 20, 21, 22, 23, 24, 25, 26, 27, 28, 29, 30, 31, 32, 33, 34] rfl rfl (by kernel_rfl) (by kernel_rfl) (by kernel_rfl) (by kernel_rfl) (by kernel_rfl) (by kernel_rfl) (fun _ _ _ h => h) rfl (fun w hSw => by exact exec_load_mid 28 _ rfl _ _ rfl (u8s sk) _ (RB.out _ hSw) Tryd.underlying28 rfl hi) hS ?_
        try simp only [List.setIfInBounds_toArray, List.set_cons_zero, List.set_cons_succ]
        refine take_p 9 109 (.slice (some ⟨ga, oa, none⟩) N N) rfl rfl (by kernel_rfl) (by kernel_rfl) (by kernel_rfl) (fun _ _ _ h => h) rfl (fun w => by go_simp) ?_
        try simp only [List.setIfInBounds_toArray, List.set_cons_zero, List.set_cons_succ]
        refine take_p 10 110 (.int .i64 (k : Int)) rfl rfl (by kernel_rfl) (by kernel_rfl) (by kernel_rfl) (fun _ _ _ h => h) rfl (fun w => by go_simp) ?_
        try simp only [List.setIfInBounds_toArray, List.set_cons_zero, List.set_cons_succ]
        refine take_p 11 111 (.pointer (some ⟨ga, ja, none⟩)) rfl rfl (by kernel_rfl) (by kernel_rfl) (by kernel_rfl) (fun _ _ _ h => h) rfl (fun w => by go_simp) ?_
        try simp only [List.setIfInBounds_toArray, List.set_cons_zero, List.set_cons_succ]
        refine take_p 12 112 (.pointer (some ⟨ga, ja + 32, none⟩)) rfl rfl (by kernel_rfl) (by kernel_rfl) (by kernel_rfl) (fun _ _ _ h => h) rfl (fun w => by go_simp) ?_
        try simp only [List.setIfInBounds_toArray, List.set_cons_zero, List.set_cons_succ]
        refine take_f 13 113 (.agg (u8s q).toArray) [14, 15, 16, 17, 18, 19, 20, 21, 22, 23, 24, 25, 26, 27, 28, 29, 30, 31, 32, 33, 34] rfl rfl (by kernel_rfl) (by kernel_rfl) (by kernel_rfl) (by kernel_rfl) (by kernel_rfl) (by kernel_rfl) (fun _ _ _ h => h) rfl (fun w hSw => by exact exec_load_mid 28 _ rfl _ _ rfl (u8s q) _ ((RA.out _ hSw).2) Tryd.underlying28 rfl hiq) hS ?_
        try simp only [List.setIfInBounds_toArray, List.set_cons_zero, List.set_cons_succ]
        refine take_p 14 114 (.bool false) rfl rfl (by kernel_rfl) (by kernel_rfl) (by kernel_rfl) (fun _ _ _ h => h) rfl (fun w => by exact exec_neq_seed _ _ 28 rfl rfl rfl (heqq w)) ?_
        try simp only [List.setIfInBounds_toArray, List.set_cons_zero, List.set_cons_succ]
        refine take_p 15 115 (.bool false) rfl rfl (by kernel_rfl) (by kernel_rfl) (by kernel_rfl) (fun _ _ _ h => h) rfl (fun w => by go_simp) ?_
        try simp only [List.setIfInBounds_toArray, List.set_cons_zero, List.set_cons_succ]
        refine take_p 16 116 (.bool false) rfl rfl (by kernel_rfl) (by kernel_rfl) (by kernel_rfl) (fun _ _ _ h => h) rfl (fun w => by go_simp) ?_
        try simp only [List.setIfInBounds_toArray, List.set_cons_zero, List.set_cons_succ]
        refine take_p 17 117 (.slice (some ⟨gc, oc, none⟩) N cb) rfl rfl (by kernel_rfl) (by kernel_rfl) (by kernel_rfl) (fun _ _ _ h => h) rfl (fun w => by go_simp) ?_
        try simp only [List.setIfInBounds_toArray, List.set_cons_zero, List.set_cons_succ]
        refine take_p 18 118 (.int .i64 (k : Int)) rfl rfl (by kernel_rfl) (by kernel_rfl) (by kernel_rfl) (fun _ _ _ h => h) rfl (fun w => by go_simp) ?_
        try simp only [List.setIfInBounds_toArray, List.set_cons_zero, List.set_cons_succ]
        refine take_p 19 119 (.pointer (some ⟨gc, jc, none⟩)) rfl rfl (by kernel_rfl) (by kernel_rfl) (by kernel_rfl) (fun _ _ _ h => h) rfl (fun w => by go_simp) ?_
        try simp only [List.setIfInBounds_toArray, List.set_cons_zero, List.set_cons_succ]
        refine take_f 20 120 (.bool true) [21, 22, 23, 24, 25, 26, 27, 28, 29, 30, 31, 32, 33, 34] rfl rfl (by kernel_rfl) (by kernel_rfl) (by kernel_rfl) (by kernel_rfl) (by kernel_rfl) (by kernel_rfl) (fun _ _ _ h => h) rfl (fun w hSw => by have h1 := CC.out w hSw; go_simp) hS ?_
        try simp only [List.setIfInBounds_toArray, List.set_cons_zero, List.set_cons_succ]
        refine take_p 21 121 (.bool false) rfl rfl (by kernel_rfl) (by kernel_rfl) (by kernel_rfl) (fun _ _ _ h => h) rfl (fun w => by go_simp) ?_
        try simp only [List.setIfInBounds_toArray, List.set_cons_zero, List.set_cons_succ]
        refine take_p 22 122 (.bool false) rfl rfl (by kernel_rfl) (by kernel_rfl) (by kernel_rfl) (fun _ _ _ h => h) rfl (fun w => by go_simp) ?_
        try simp only [List.setIfInBounds_toArray, List.set_cons_zero, List.set_cons_succ]
        refine skip_p 23 123 rfl rfl (by kernel_rfl) (by kernel_rfl) (by kernel_rfl) (fun _ _ _ h => h) rfl ?_
        try simp only [List.setIfInBounds_toArray, List.set_cons_zero, List.set_cons_succ]
        refine skip_p 24 124 rfl rfl (by kernel_rfl) (by kernel_rfl) (by kernel_rfl) (fun _ _ _ h => h) rfl ?_
        try simp only [List.setIfInBounds_toArray, List.set_cons_zero, List.set_cons_succ]
        refine skip_p 25 125 rfl rfl (by kernel_rfl) (by kernel_rfl) (by kernel_rfl) (fun _ _ _ h => h) rfl ?_
        try simp only [List.setIfInBounds_toArray, List.set_cons_zero, List.set_cons_succ]
        refine skip_p 26 126 rfl rfl (by kernel_rfl) (by kernel_rfl) (by kernel_rfl) (fun _ _ _ h => h) rfl ?_
        try simp only [List.setIfInBounds_toArray, List.set_cons_zero, List.set_cons_succ]
        refine skip_p 27 127 rfl rfl (by kernel_rfl) (by kernel_rfl) (by kernel_rfl) (fun _ _ _ h => h) rfl ?_
        try simp only [List.setIfInBounds_toArray, List.set_cons_zero, List.set_cons_succ]
        refine skip_p 28 128 rfl rfl (by kernel_rfl) (by kernel_rfl) (by kernel_rfl) (fun _ _ _ h => h) rfl ?_
        try simp only [List.setIfInBounds_toArray, List.set_cons_zero, List.set_cons_succ]
        refine skip_p 29 129 rfl rfl (by kernel_rfl) (by kernel_rfl) (by kernel_rfl) (fun _ _ _ h => h) rfl ?_
        try simp only [List.setIfInBounds_toArray, List.set_cons_zero, List.set_cons_succ]
        refine skip_p 30 130 rfl rfl (by kernel_rfl) (by kernel_rfl) (by kernel_rfl) (fun _ _ _ h => h) rfl ?_
        try simp only [List.setIfInBounds_toArray, List.set_cons_zero, List.set_cons_succ]
        refine skip_p 31 131 rfl rfl (by kernel_rfl) (by kernel_rfl) (by kernel_rfl) (fun _ _ _ h => h) rfl ?_
        try simp only [List.setIfInBounds_toArray, List.set_cons_zero, List.set_cons_succ]
        refine skip_p 32 132 rfl rfl (by kernel_rfl) (by kernel_rfl) (by kernel_rfl) (fun _ _ _ h => h) rfl ?_
        try simp only [List.setIfInBounds_toArray, List.set_cons_zero, List.set_cons_succ]
        refine take_p 33 133 (.bool false) rfl rfl (by kernel_rfl) (by kernel_rfl) (by kernel_rfl) (fun _ _ _ h => h) rfl (fun w => by go_simp) ?_
        try simp only [List.setIfInBounds_toArray, List.set_cons_zero, List.set_cons_succ]
        refine take_p 34 134 (.bool false) rfl rfl (by kernel_rfl) (by kernel_rfl) (by kernel_rfl) (fun _ _ _ h => h) rfl (fun w => by go_simp) ?_
        try simp only [List.setIfInBounds_toArray, List.set_cons_zero, List.set_cons_succ]
        refine done_f (by kernel_rfl) ?_ _
        have HS2 := hide1 hS
        clear hS heqq
        go_wp2
        go_roundw
        case rel => exact ⟨k + 1, by omega, by go_num, HS2.out⟩
        case measure => simp [intOf]; omega
      | false =>
        have dq : decide (s k = f (2 * k)) = true := by
          unfold pick at hok
          rw [if_neg Bool.false_ne_true] at hok
          exact decide_eq_true hok
        have heqp := fun w => eq_seeds (HGS.out k).1 (HGP.out (2 * k)).1 (HGS.out k).2 (HGP.out (2 * k)).2 w
        rw [dq] at heqp
        clear dq hok
        generalize f (2 * k) = p at *
        generalize f (2 * k + 1) = q at *
        generalize s k = sk at *
        go_upto_region 15 with (fail)
        refine region_f (F := []) (S := fun W => Below V.heap.size V W) (by kernel_rfl) HE.out.drew (fun hS => ?_)
        refine take_p 0 100 (.slice (some ⟨gc, oc, none⟩) N cb) rfl rfl (by kernel_rfl) (by kernel_rfl) (by kernel_rfl) (fun _ _ _ h => h) rfl (fun w => by go_simp) ?_
        try simp only [List.setIfInBounds_toArray, List.set_cons_zero, List.set_cons_succ]
        refine take_p 1 101 (.int .i64 (k : Int)) rfl rfl (by kernel_rfl) (by kernel_rfl) (by kernel_rfl) (fun _ _ _ h => h) rfl (fun w => by go_simp) ?_
        try simp only [List.setIfInBounds_toArray, List.set_cons_zero, List.set_cons_succ]
        refine take_p 2 102 (.pointer (some ⟨gc, jc, none⟩)) rfl rfl (by kernel_rfl) (by kernel_rfl) (by kernel_rfl) (fun _ _ _ h => h) rfl (fun w => by go_simp) ?_
        try simp only [List.setIfInBounds_toArray, List.set_cons_zero, List.set_cons_succ]
        refine take_f 3 103 (.bool false) [4, 5, 6, 7, 8, 9, 10, 11, 12, 13, 14, 15, 16, 17, 18, 19, 20, 21, 22, 23, 24, 25, 26, 27, 28, 29, 30, 31, 32, 33, 34] rfl rfl (by kernel_rfl) (by kernel_rfl) (by kernel_rfl) (by kernel_rfl) (by kernel_rfl) (by kernel_rfl) (fun _ _ _ h => h) rfl (fun w hSw => by have h1 := CC.out w hSw; go_simp) hS ?_
        try simp only [List.setIfInBounds_toArray, List.set_cons_zero, List.set_cons_succ]
        refine take_p 4 104 (.bool false) rfl rfl (by kernel_rfl) (by kernel_rfl) (by kernel_rfl) (fun _ _ _ h => h) rfl (fun w => by go_simp) ?_
        try simp only [List.setIfInBounds_toArray, List.set_cons_zero, List.set_cons_succ]
        refine skip_p 5 105 rfl rfl (by kernel_rfl) (by kernel_rfl) (by kernel_rfl) (fun _ _ _ h => h) rfl ?_
        try simp only [List.setIfInBounds_toArray, List.set_cons_zero, List.set_cons_succ]
        refine skip_p 6 106 rfl rfl (by kernel_rfl) (by kernel_rfl) (by kernel_rfl) (fun _ _ _ h => h) rfl ?_
        try simp only [List.setIfInBounds_toArray, List.set_cons_zero, List.set_cons_succ]
        refine skip_p 7 107 rfl rfl (by kernel_rfl) (by kernel_rfl) (by kernel_rfl) (fun _ _ _ h => h) rfl ?_
        try simp only [List.setIfInBounds_toArray, List.set_cons_zero, List.set_cons_succ]
        refine skip_p 8 108 rfl rfl (by kernel_rfl) (by kernel_rfl) (by kernel_rfl) (fun _ _ _ h => h) rfl ?_
        try simp only [List.setIfInBounds_toArray, List.set_cons_zero, List.set_cons_succ]
        refine skip_p 9 109 rfl rfl (by kernel_rfl) (by kernel_rfl) (by kernel_rfl) (fun _ _ _ h => h) rfl ?_
        try simp only [List.setIfInBounds_toArray, List.set_cons_zero, List.set_cons_succ]
        refine skip_p 10 110 rfl rfl (by kernel_rfl) (by kernel_rfl) (by kernel_rfl) (fun _ _ _ h => h) rfl ?_
        try simp only [List.setIfInBounds_toArray, List.set_cons_zero, List.set_cons_succ]
        refine skip_p 11 111 rfl rfl (by kernel_rfl) (by kernel_rfl) (by kernel_rfl) (fun _ _ _ h => h) rfl ?_
        try simp only [List.setIfInBounds_toArray, List.set_cons_zero, List.set_cons_succ]
        refine skip_p 12 112 rfl rfl (by kernel_rfl) (by kernel_rfl) (by kernel_rfl) (fun _ _ _ h => h) rfl ?_
        try simp only [List.setIfInBounds_toArray, List.set_cons_zero, List.set_cons_succ]
        refine skip_p 13 113 rfl rfl (by kernel_rfl) (by kernel_rfl) (by kernel_rfl) (fun _ _ _ h => h) rfl ?_
        try simp only [List.setIfInBounds_toArray, List.set_cons_zero, List.set_cons_succ]
        refine skip_p 14 114 rfl rfl (by kernel_rfl) (by kernel_rfl) (by kernel_rfl) (fun _ _ _ h => h) rfl ?_
        try simp only [List.setIfInBounds_toArray, List.set_cons_zero, List.set_cons_succ]
        refine take_p 15 115 (.bool false) rfl rfl (by kernel_rfl) (by kernel_rfl) (by kernel_rfl) (fun _ _ _ h => h) rfl (fun w => by go_simp) ?_
        try simp only [List.setIfInBounds_toArray, List.set_cons_zero, List.set_cons_succ]
        refine take_p 16 116 (.bool false) rfl rfl (by kernel_rfl) (by kernel_rfl) (by kernel_rfl) (fun _ _ _ h => h) rfl (fun w => by go_simp) ?_
        try simp only [List.setIfInBounds_toArray, List.set_cons_zero, List.set_cons_succ]
        refine take_p 17 117 (.slice (some ⟨gc, oc, none⟩) N cb) rfl rfl (by kernel_rfl) (by kernel_rfl) (by kernel_rfl) (fun _ _ _ h => h) rfl (fun w => by go_simp) ?_
        try simp only [List.setIfInBounds_toArray, List.set_cons_zero, List.set_cons_succ]
        refine take_p 18 118 (.int .i64 (k : Int)) rfl rfl (by kernel_rfl) (by kernel_rfl) (by kernel_rfl) (fun _ _ _ h => h) rfl (fun w => by go_simp) ?_
        try simp only [List.setIfInBounds_toArray, List.set_cons_zero, List.set_cons_succ]
        refine take_p 19 119 (.pointer (some ⟨gc, jc, none⟩)) rfl rfl (by kernel_rfl) (by kernel_rfl) (by kernel_rfl) (fun _ _ _ h => h) rfl (fun w => by go_simp) ?_
        try simp only [List.setIfInBounds_toArray, List.set_cons_zero, List.set_cons_succ]
        refine take_f 20 120 (.bool false) [21, 22, 23, 24, 25, 26, 27, 28, 29, 30, 31, 32, 33, 34] rfl rfl (by kernel_rfl) (by kernel_rfl) (by kernel_rfl) (by kernel_rfl) (by kernel_rfl) (by kernel_rfl) (fun _ _ _ h => h) rfl (fun w hSw => by have h1 := CC.out w hSw; go_simp) hS ?_
        try simp only [List.setIfInBounds_toArray, List.set_cons_zero, List.set_cons_succ]
        refine take_p 21 121 (.bool true) rfl rfl (by kernel_rfl) (by kernel_rfl) (by kernel_rfl) (fun _ _ _ h => h) rfl (fun w => by go_simp) ?_
        try simp only [List.setIfInBounds_toArray, List.set_cons_zero, List.set_cons_succ]
        refine take_p 22 122 (.bool true) rfl rfl (by kernel_rfl) (by kernel_rfl) (by kernel_rfl) (fun _ _ _ h => h) rfl (fun w => by go_simp) ?_
        try simp only [List.setIfInBounds_toArray, List.set_cons_zero, List.set_cons_succ]
        refine take_p 23 123 (.slice (some ⟨gb, ob, none⟩) N N) rfl rfl (by kernel_rfl) (by kernel_rfl) (by kernel_rfl) (fun _ _ _ h => h) rfl (fun w => by go_simp) ?_
        try simp only [List.setIfInBounds_toArray, List.set_cons_zero, List.set_cons_succ]
        refine take_p 24 124 (.int .i64 (k : Int)) rfl rfl (by kernel_rfl) (by kernel_rfl) (by kernel_rfl) (fun _ _ _ h => h) rfl (fun w => by go_simp) ?_
        try simp only [List.setIfInBounds_toArray, List.set_cons_zero, List.set_cons_succ]
        refine take_p 25 125 (.pointer (some ⟨gb, jb, none⟩)) rfl rfl (by kernel_rfl) (by kernel_rfl) (by kernel_rfl) (fun _ _ _ h => h) rfl (fun w => by go_simp) ?_
        try simp only [List.setIfInBounds_toArray, List.set_cons_zero, List.set_cons_succ]
        refine take_f 26 126 (.agg (u8s sk).toArray) [32, 33, 34] rfl rfl (by kernel_rfl) (by kernel_rfl) (by kernel_rfl) (by kernel_rfl) (by kernel_rfl) (by kernel_rfl) (fun _ _ _ h => h) rfl (fun w hSw => by exact exec_load_mid 28 _ rfl _ _ rfl (u8s sk) _ (RB.out _ hSw) Tryd.underlying28 rfl hi) hS ?_
        try simp only [List.setIfInBounds_toArray, List.set_cons_zero, List.set_cons_succ]
        refine take_p 27 127 (.slice (some ⟨ga, oa, none⟩) N N) rfl rfl (by kernel_rfl) (by kernel_rfl) (by kernel_rfl) (fun _ _ _ h => h) rfl (fun w => by go_simp) ?_
        try simp only [List.setIfInBounds_toArray, List.set_cons_zero, List.set_cons_succ]
        refine take_p 28 128 (.int .i64 (k : Int)) rfl rfl (by kernel_rfl) (by kernel_rfl) (by kernel_rfl) (fun _ _ _ h => h) rfl (fun w => by go_simp) ?_
        try simp only [List.setIfInBounds_toArray, List.set_cons_zero, List.set_cons_succ]
        refine take_p 29 129 (.pointer (some ⟨ga, ja, none⟩)) rfl rfl (by kernel_rfl) (by kernel_rfl) (by kernel_rfl) (fun _ _ _ h => h) rfl (fun w => by go_simp) ?_
        try simp only [List.setIfInBounds_toArray, List.set_cons_zero, List.set_cons_succ]
        refine take_p 30 130 (.pointer (some ⟨ga, ja, none⟩)) rfl rfl (by kernel_rfl) (by kernel_rfl) (by kernel_rfl) (fun _ _ _ h => h) rfl (fun w => by go_simp) ?_
        try simp only [List.setIfInBounds_toArray, List.set_cons_zero, List.set_cons_succ]
        refine take_f 31 131 (.agg (u8s p).toArray) [32, 33, 34] rfl rfl (by kernel_rfl) (by kernel_rfl) (by kernel_rfl) (by kernel_rfl) (by kernel_rfl) (by kernel_rfl) (fun _ _ _ h => h) rfl (fun w hSw => by exact exec_load_mid 28 _ rfl _ _ rfl (u8s p) _ ((RA.out _ hSw).1) Tryd.underlying28 rfl hip) hS ?_
        try simp only [List.setIfInBounds_toArray, List.set_cons_zero, List.set_cons_succ]
        refine take_p 32 132 (.bool false) rfl rfl (by kernel_rfl) (by kernel_rfl) (by kernel_rfl) (fun _ _ _ h => h) rfl (fun w => by exact exec_neq_seed _ _ 28 rfl rfl rfl (heqp w)) ?_
        try simp only [List.setIfInBounds_toArray, List.set_cons_zero, List.set_cons_succ]
        refine take_p 33 133 (.bool false) rfl rfl (by kernel_rfl) (by kernel_rfl) (by kernel_rfl) (fun _ _ _ h => h) rfl (fun w => by go_simp) ?_
        try simp only [List.setIfInBounds_toArray, List.set_cons_zero, List.set_cons_succ]
        refine take_p 34 134 (.bool false) rfl rfl (by kernel_rfl) (by kernel_rfl) (by kernel_rfl) (fun _ _ _ h => h) rfl (fun w => by go_simp) ?_
        try simp only [List.setIfInBounds_toArray, List.set_cons_zero, List.set_cons_succ]
        refine done_f (by kernel_rfl) ?_ _
        have HS2 := hide1 hS
        clear hS heqp
        go_wp2
        go_roundw
        case rel => exact ⟨k + 1, by omega, by go_num, HS2.out⟩
        case measure => simp [intOf]; omega
    · obtain rfl : k = N := by omega
      have HE := hide1 (PB.out.trans (hbe.mono PB.out.size))
      clear hbe
      go_wp2_with fail
      go_at_call 7
      refine (kA.out _ HE.out).mono ?_
      rintro e w9 ⟨rfl, hb9⟩
      have B9 := hide1 (HE.out.trans (hb9.mono HE.out.size))
      clear hb9
      go_wp2
      go_ret
      exact ⟨rfl, B9.out⟩

theorem trans_all (kl : List Nat) (F N cb : Nat) (av : Option Addr) (ch : List Bool) (w : World) (hL : Sh.Laid w) (hk : kl.length = 32) (bk : Lt 256 kl) (hv : T.Bl w N av ch) :
    Calls Tryd.prog 6 #[arr8 kl, .int .u64 (F : Int), .slice av N cb] w fun e w' => e = .returned (.bool true) ∧ Below w.heap.size w w' := by
  by_cases h : N = 0 ∨ 60 < N ∨ 33554432 < F
  · exact trans_else kl F N cb av w hL h
  · exact trans_in kl F N cb av ch w hL hk bk hv (by omega) (by omega) (by omega)
end Go.Proofs.YtlkkninnfiaedaaDoor.Ro
