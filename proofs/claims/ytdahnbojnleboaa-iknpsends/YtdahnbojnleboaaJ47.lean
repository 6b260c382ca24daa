/- The walk of IknpJoins. The walk of IknpSends. -/
import Derived.Test.YtdahnbojnleboaaJ40
import Derived.Test.YtdahnbojnleboaaJ46
namespace Go.Proofs.Ytdahnbojnleboaa.I
open Go.RowKit Pg
set_option maxRecDepth 100000
attribute [local go_sem] not_any T.mf_any

theorem joins_else (kl : List Nat) (y F N cb : Nat) (av : Option Addr) (w : World) (hbig : 200 < N ∨ N = 0 ∨ 33554432 < F) :
    Calls Try.prog 5 #[arr8 kl, .int .u64 (y : Int), .int .u64 (F : Int), .slice av N cb] w fun e w' => e = .returned (.bool true) ∧ Below w.heap.size w w' := by
  have kA := fun w => hide1 (awake_any w)
  have B0 := hide1 (On.start w (.cells (u8s kl).toArray 23)).bel
  unfold arr8
  by_cases h1 : 200 < N
  · have t1 : (200 : Int) < (N : Int) := by omega
    clear hbig h1
    go_enter Try.func5, Try.ntmps5
    go_wp2_with fail
    go_at_call 7
    refine (kA _).out.mono ?_
    rintro e w9 ⟨rfl, hb9⟩
    have B9 := hide1 (B0.out.trans (hb9.mono B0.out.size))
    clear hb9
    go_wp2
    go_ret
    exact ⟨rfl, B9.out⟩
  · have t1 : ¬ (200 : Int) < (N : Int) := by omega
    by_cases h2 : N = 0
    · subst h2
      have t2 : (((0 : Nat) : Int) == 0) = true := by decide
      clear hbig h1
      go_enter Try.func5, Try.ntmps5
      go_wp2_with fail
      go_at_call 7
      refine (kA _).out.mono ?_
      rintro e w9 ⟨rfl, hb9⟩
      have B9 := hide1 (B0.out.trans (hb9.mono B0.out.size))
      clear hb9
      go_wp2
      go_ret
      exact ⟨rfl, B9.out⟩
    · have t2 : ((N : Int) == 0) = false := by rw [beq_eq_false_iff_ne]; omega
      have t3 : (33554432 : Int) < (F : Int) := by omega
      clear hbig h1 h2
      go_enter Try.func5, Try.ntmps5
      go_wp2_with fail
      go_at_call 7
      refine (kA _).out.mono ?_
      rintro e w9 ⟨rfl, hb9⟩
      have B9 := hide1 (B0.out.trans (hb9.mono B0.out.size))
      clear hb9
      go_wp2
      go_ret
      exact ⟨rfl, B9.out⟩

theorem jn_true {fk fz fo : Nat → List Nat} {d0 d1 F N : Nat} {ch : List Bool} (hk : ∀ i, fk i = if bt d0 d1 (i : Int) then fo i else fz i) (h0 : d0 < 18446744073709551616) (h1 : d1 < 18446744073709551616) (hc : ch.length = N) :
    jn d0 d1 (T.rowV (keyC fk d0 d1 F N (sentC fz fo F N ch))) (T.rowV (fun i => cl (fz i) F N)) N N N ch = true :=
  decide_eq_true ⟨rfl, rfl, fun _ hj => joins fk fz fo d0 d1 F hk h0 h1 hc hj⟩

/- a call of Receive and of Send, with what is kept -/
theorem rec_any {Z O : Value} {fz fo : Nat → List Nat} {F N b : Nat} {a : Option Addr} {ch : List Bool} {w : World} (hZ : Sds w Z fz 128) (hO : Sds w O fo 128) (hfz : ∀ i, (fz i).length = 32 ∧ Lt 256 (fz i)) (hfo : ∀ i, (fo i).length = 32 ∧ Lt 256 (fo i))
    (hv : T.Vc b w N a ch) (hc : nC F N = 0) (hF : F ≤ 67108864) (hN : N ≤ 4096) :
    Hid (Calls Try.prog 10 #[.agg #[Z, O], .int .u64 (F : Int), .agg #[.int .i64 (N : Int), .slice a (T.need N 64) (T.need N 64)]] w fun e w' => ∃ gs gr aa, e = .returned (.tuple #[.slice (some ⟨gs, 0, none⟩) 128 128, .slice (some ⟨gr, 0, none⟩) N N, .int .i64 0]) ∧ T.Vcs w' 128 (some ⟨gs, 0, none⟩) (fun _ => N) aa (sentC fz fo F N ch) ∧ w'.heap[gr]? = some (T.rrow (T.rowV (fun i => cl (fz i) F N)) N) ∧ Below w.heap.size w w') := by
  refine (receive_yes Z O fz fo F N b a ch w hZ hO hfz hfo hv hc hF hN).mono ?_
  rintro e w' ⟨gs, gr, aa, rfl, hvr, hr, hb⟩
  exact ⟨gs, gr, aa, rfl, hvr.vcs (by omega), hr, hb⟩

/- what is kept in memory from Deal on -/
structure Pack (w V : World) (b1 b3 N : Nat) (av ac : Option Addr) (ch : List Bool) (o1 o2 o3 : Obj) (K0 Z0 O0 K1 Z1 O1 : Value) (p0 p1 : List Nat) : Prop where
  bel : Below w.heap.size w V
  x1 : V.heap[b1]? = some o1
  x2 : V.heap[b1 + 1]? = some o2
  x3 : V.heap[b3]? = some o3
  k0 : Sds V K0 (dk p0) 128
  z0 : Sds V Z0 (dz p0) 128
  o0 : Sds V O0 (dn p0) 128
  k1 : Sds V K1 (dk p1) 128
  z1 : Sds V Z1 (dz p1) 128
  o1 : Sds V O1 (dn p1) 128
  vv : T.Vc 0 V N ac ch
  bl : T.Bl V N av ch
theorem Pack.to {w V V' : World} {b1 b3 N : Nat} {av ac : Option Addr} {ch : List Bool} {o1 o2 o3 : Obj} {K0 Z0 O0 K1 Z1 O1 : Value} {p0 p1 : List Nat} (h : Pack w V b1 b3 N av ac ch o1 o2 o3 K0 Z0 O0 K1 Z1 O1 p0 p1) (hb : Below V.heap.size V V') : Pack w V' b1 b3 N av ac ch o1 o2 o3 K0 Z0 O0 K1 Z1 O1 p0 p1 :=
  ⟨h.bel.trans (hb.mono h.bel.size), (hb.block _ (T.lt_heap h.x1)).trans h.x1, (hb.block _ (T.lt_heap h.x2)).trans h.x2, (hb.block _ (T.lt_heap h.x3)).trans h.x3,
    h.k0.below hb (Nat.le_refl _), h.z0.below hb (Nat.le_refl _), h.o0.below hb (Nat.le_refl _), h.k1.below hb (Nat.le_refl _), h.z1.below hb (Nat.le_refl _), h.o1.below hb (Nat.le_refl _), h.vv.below hb (Nat.le_refl _), h.bl.below hb (Nat.le_refl _)⟩

set_option maxHeartbeats 16000000 in
theorem joins_in (kl : List Nat) (y F N cb : Nat) (av : Option Addr) (ch : List Bool) (w : World) (hk : kl.length = 32) (bk : Lt 256 kl) (hy : y < 18446744073709551616) (hv : T.Bl w N av ch) (hN : N ≤ 200) (hN0 : N ≠ 0) (hF : F ≤ 33554432) :
    Calls Try.prog 5 #[arr8 kl, .int .u64 (y : Int), .int .u64 (F : Int), .slice av N cb] w fun e w' => e = .returned (.bool true) ∧ Below w.heap.size w w' := by
  have kA := fun w => hide1 (awake_any w)
  have kD := fun w => hide1 (deal_any kl y w hk bk hy)
  have hi := hi23 hk
  have hcl : ch.length = N := hv.len
  have hnc : nC F N = 0 := by rw [nC, if_neg (by omega), if_neg (by omega)]
  generalize rt0 kl y = p0 at kD
  generalize rt1 kl y = p1 at kD
  have HB0 := hide1 hv
  have t1 : ¬ (200 : Int) < (N : Int) := by omega
  have t2 : ((N : Int) == 0) = false := by rw [beq_eq_false_iff_ne]; omega
  have t3 : ¬ (33554432 : Int) < (F : Int) := by omega
  have A0 := hide1 (On.start w (.cells (u8s kl).toArray 23))
  clear hv hk bk hy
  unfold arr8 at kD ⊢
  go_enter Try.func5, Try.ntmps5
  go_upto_region 1 with (fail)
  generalize w.alloc (.cells (u8s kl).toArray 23) = W0 at *
  go_wp2_with (first | (refine wpList_load_row rfl 23 (.tmp 4) rfl w.heap.size rfl 23 (u8s kl).toArray (0, 0) _ A0.out.h1 Try.underlying23 rfl hi ?_) | fail)
  go_at_call 8
  refine (kD _).out.mono ?_
  rintro e w1 ⟨K0, Z0, O0, K1, Z1, O1, rfl, sK0, sZ0, sO0, sK1, sZ1, sO1, hb1⟩
  obtain ⟨gK0, cK0, rfl, _, _⟩ := sK0.at'
  obtain ⟨gZ0, cZ0, rfl, _, _⟩ := sZ0.at'
  obtain ⟨gO0, cO0, rfl, _, _⟩ := sO0.at'
  obtain ⟨gK1, cK1, rfl, _, _⟩ := sK1.at'
  obtain ⟨gZ1, cZ1, rfl, _, _⟩ := sZ1.at'
  obtain ⟨gO1, cO1, rfl, _, _⟩ := sO1.at'
  have B1 := hide1 (A0.out.to hb1).bel
  have hn0 : wd p0 9 0 < 18446744073709551616 := wd_lt _ _ _
  have hn1 : wd p0 9 1 < 18446744073709551616 := wd_lt _ _ _
  have hn2 : wd p1 9 0 < 18446744073709551616 := wd_lt _ _ _
  have hn3 : wd p1 9 1 < 18446744073709551616 := wd_lt _ _ _
  have hd0 : Shy (∀ i, dk p0 i = if bt (wd p0 9 0) (wd p0 9 1) (i : Int) then dn p0 i else dz p0 i) := ⟨fun _ => rfl⟩
  have hd1 : Shy (∀ i, dk p1 i = if bt (wd p1 9 0) (wd p1 9 1) (i : Int) then dn p1 i else dz p1 i) := ⟨fun _ => rfl⟩
  generalize wd p0 9 0 = d0 at *
  generalize wd p0 9 1 = d1 at *
  generalize wd p1 9 0 = y0 at *
  generalize wd p1 9 1 = y1 at *
  have J1 := hide1 (jn_true (F := F) hd0.out hn0 hn1 hcl)
  have J2 := hide1 (jn_true (F := F) hd1.out hn2 hn3 hcl)
  go_wp2_with fail
  generalize hW2 : World.alloc (World.alloc w1 _) _ = W2
  have hA2 := At.start w1 (.cells #[.int .u64 (d0 : Int), .int .u64 (d1 : Int), .slice (some ⟨gK0, 0, none⟩) 128 cK0, .slice (some ⟨gZ1, 0, none⟩) 128 cZ1, .slice (some ⟨gO1, 0, none⟩) 128 cO1] 35) (.cells #[.int .u64 (y0 : Int), .int .u64 (y1 : Int), .slice (some ⟨gK1, 0, none⟩) 128 cK1, .slice (some ⟨gZ0, 0, none⟩) 128 cZ0, .slice (some ⟨gO0, 0, none⟩) 128 cO0] 35)
  rw [hW2] at hA2
  have k2 := hide1 (T.of_any W2 N cb av ch (HB0.out.below (B1.out.trans (hA2.bel.mono B1.out.size)) (Nat.le_refl _)) (by omega))
  have A2 := hide1 hA2
  have S2 := hide1 (And.intro (sK0.below hA2.bel (Nat.le_refl _)) (And.intro (sZ0.below hA2.bel (Nat.le_refl _)) (And.intro (sO0.below hA2.bel (Nat.le_refl _)) (And.intro (sK1.below hA2.bel (Nat.le_refl _)) (And.intro (sZ1.below hA2.bel (Nat.le_refl _)) (sO1.below hA2.bel (Nat.le_refl _)))))))
  clear hW2 hA2 sK0 sZ0 sO0 sK1 sZ1 sO1 hb1 kD
  obtain ⟨b1, hb1⟩ : ∃ b, b = w1.heap.size := ⟨_, rfl⟩
  have HB1 := hide1 hb1
  rw [← hb1] at ⊢
  go_at_call 9
  refine k2.out.mono ?_
  rintro e w3 ⟨ac, rfl, hv3, hb3⟩
  obtain ⟨V3, hV3'⟩ : ∃ W, W = w3.alloc (.cells #[.int .i64 (N : Int), .slice ac (T.need N 64) (T.need N 64)] 40) := ⟨_, rfl⟩
  have hb4 : Below w3.heap.size w3 V3 := by rw [hV3']; exact T.below_alloc1 _ _
  have hb := hb3.trans (hb4.mono hb3.size)
  have A3 := hide1 (A2.out.to hb)
  have vv3 := ((hv3.below hb4 (Nat.le_refl _)).mono (Nat.zero_le _))
  obtain ⟨b3, hb3'⟩ : ∃ b, b = w3.heap.size := ⟨_, rfl⟩
  have x3 : V3.heap[b3]? = some (.cells #[.int .i64 (N : Int), .slice ac (T.need N 64) (T.need N 64)] 40 (0, 0)) := by rw [hV3', hb3']; exact heap_alloc_new _ _
  have x1 := A3.out.h1
  have x2 := A3.out.h2
  rw [← hb1] at x1 x2
  have xb := B1.out.trans (A3.out.bel.mono B1.out.size)
  have P3 := hide1 (Pack.mk xb x1 x2 x3 (S2.out.1.below hb (Nat.le_refl _)) (S2.out.2.1.below hb (Nat.le_refl _)) (S2.out.2.2.1.below hb (Nat.le_refl _)) (S2.out.2.2.2.1.below hb (Nat.le_refl _)) (S2.out.2.2.2.2.1.below hb (Nat.le_refl _)) (S2.out.2.2.2.2.2.below hb (Nat.le_refl _)) vv3 (HB0.out.below xb (Nat.le_refl _)))
  clear hb3 hb4 hb hv3 k2 A2 A3 S2 x1 x2 x3 xb vv3 HB1 hb1 HB0 B1 A0
  go_upto_region 5 with (fail)
  rw [← hb3', ← hV3']
  clear hV3' hb3'
  obtain ⟨q0, q1, q2, q3, q4⟩ := T.box2 P3.out.x3
  have rr := view_recv P3.out.x2
  have kR := rec_any P3.out.z0 P3.out.o0 (good_dz p0) (good_dn p0) P3.out.vv hnc (by omega) (by omega)
  go_wp2_with (first | (refine wpList_load_mid rfl 33 (.tmp 48) rfl (b1 + 1) 3 rfl [.slice (some ⟨gZ0, 0, none⟩) 128 cZ0, .slice (some ⟨gO0, 0, none⟩) 128 cO0] _ rr Try.underlying33 rfl (by kernel_rfl) ?_) | fail)
  go_at_call 10
  refine kR.out.mono ?_
  rintro e V4 ⟨s1, r1, a1, rfl, hvs, hrt, hb⟩
  have P4 := hide1 (P3.out.to hb)
  have VS4 := hide1 hvs
  have R4 := hide1 hrt
  clear hvs hrt hb kR rr q0 q1 q2 q3 q4 P3
  have rr := view_send P4.out.x1
  have kS := hide1 (send_yes d0 d1 _ (dk p0) F N 128 _ (fun _ => N) a1 _ V4 VS4.out P4.out.k0 (good_dk p0) hn0 hn1 hnc (by omega) (by omega) (fun _ _ => rfl) (Nat.le_refl _))
  go_wp2_with (first | (refine wpList_load_mid rfl 31 (.tmp 57) rfl b1 0 rfl [.int .u64 (d0 : Int), .int .u64 (d1 : Int), .slice (some ⟨gK0, 0, none⟩) 128 cK0] _ rr Try.underlying31 rfl (by kernel_rfl) ?_) | fail)
  go_at_call 15
  refine kS.out.mono ?_
  rintro e V5 ⟨q1, rfl, hrq, hb⟩
  have P5 := hide1 (P4.out.to hb)
  have Q5 := hide1 hrq
  have R5 := hide1 ((hb.block _ (T.lt_heap R4.out)).trans R4.out)
  clear hrq hb kS rr P4 VS4
  obtain ⟨q0, q1, q2, q3, q4⟩ := T.box2 P5.out.x3
  have rr := view_recv P5.out.x1
  have kR := rec_any P5.out.z1 P5.out.o1 (good_dz p1) (good_dn p1) P5.out.vv hnc (by omega) (by omega)
  go_wp2_with (first | (refine wpList_load_mid rfl 33 (.tmp 65) rfl b1 3 rfl [.slice (some ⟨gZ1, 0, none⟩) 128 cZ1, .slice (some ⟨gO1, 0, none⟩) 128 cO1] _ rr Try.underlying33 rfl (by kernel_rfl) ?_) | fail)
  go_at_call 10
  refine kR.out.mono ?_
  rintro e V6 ⟨s2, r2, a2, rfl, hvs, hrt, hb⟩
  have P6 := hide1 (P5.out.to hb)
  have VS6 := hide1 hvs
  have R6 := hide1 hrt
  have R5b := hide1 ((hb.block _ (T.lt_heap R5.out)).trans R5.out)
  have Q5b := hide1 ((hb.block _ (T.lt_heap Q5.out)).trans Q5.out)
  clear hvs hrt hb kR rr q0 q1 q2 q3 q4 P5
  have rr := view_send P6.out.x2
  have kS := hide1 (send_yes y0 y1 _ (dk p1) F N 128 _ (fun _ => N) a2 _ V6 VS6.out P6.out.k1 (good_dk p1) hn2 hn3 hnc (by omega) (by omega) (fun _ _ => rfl) (Nat.le_refl _))
  go_wp2_with (first | (refine wpList_load_mid rfl 31 (.tmp 74) rfl (b1 + 1) 0 rfl [.int .u64 (y0 : Int), .int .u64 (y1 : Int), .slice (some ⟨gK1, 0, none⟩) 128 cK1] _ rr Try.underlying31 rfl (by kernel_rfl) ?_) | fail)
  go_at_call 15
  refine kS.out.mono ?_
  rintro e V ⟨q2, rfl, hrq, hb⟩
  have P7 := hide1 (P6.out.to hb)
  have Q7 := hide1 hrq
  have R6b := hide1 ((hb.block _ (T.lt_heap R6.out)).trans R6.out)
  have Q5c := hide1 ((hb.block _ (T.lt_heap Q5b.out)).trans Q5b.out)
  have R5c := hide1 ((hb.block _ (T.lt_heap R5b.out)).trans R5b.out)
  clear hrq hb kS rr P6 VS6
  have rq1 := hide1 (T.rrow_rws Q5c.out (T.rowV_lt _))
  have rr1 := hide1 (T.rrow_rws R5c.out (T.rowV_lt _))
  have rq2 := hide1 (T.rrow_rws Q7.out (T.rowV_lt _))
  have rr2 := hide1 (T.rrow_rws R6b.out (T.rowV_lt _))
  have kQ1 := fun W (hb : Below V.heap.size V W) => hide1 (rjoined_any d0 d1 N N N N N cb _ _ av _ _ ch W (rq1.out.below hb (Nat.le_refl _)) (rr1.out.below hb (Nat.le_refl _)) (P7.out.bl.below hb (Nat.le_refl _)) (by omega) (by omega) (by omega) hn0 hn1)
  have kQ2 := fun W (hb : Below V.heap.size V W) => hide1 (rjoined_any y0 y1 N N N N N cb _ _ av _ _ ch W (rq2.out.below hb (Nat.le_refl _)) (rr2.out.below hb (Nat.le_refl _)) (P7.out.bl.below hb (Nat.le_refl _)) (by omega) (by omega) (by omega) hn2 hn3)
  have kJ1 := fun W (hb : Below V.heap.size V W) => hide1 (joined_any d0 d1 N N N N N 0 _ _ ac _ _ ch W (rq1.out.below hb (Nat.le_refl _)) (rr1.out.below hb (Nat.le_refl _)) (P7.out.vv.below hb (Nat.le_refl _)) (by omega) (by omega) (by omega) hn0 hn1)
  have kJ2 := fun W (hb : Below V.heap.size V W) => hide1 (joined_any y0 y1 N N N N N 0 _ _ ac _ _ ch W (rq2.out.below hb (Nat.le_refl _)) (rr2.out.below hb (Nat.le_refl _)) (P7.out.vv.below hb (Nat.le_refl _)) (by omega) (by omega) (by omega) hn2 hn3)
  rw [J1.out] at kQ1 kJ1
  rw [J2.out] at kQ2 kJ2
  have CA : Hid (∀ W, Below V.heap.size V W → W.cell? ⟨b1, 0, none⟩ = some (.int .u64 (d0 : Int)) ∧ W.cell? ⟨b1, 1, none⟩ = some (.int .u64 (d1 : Int))) := fun W hW => by
    have h := (hW.block _ (T.lt_heap P7.out.x1)).trans P7.out.x1
    rw [cell_of_row W b1 _ _ _ _ h, cell_of_row W b1 _ _ _ _ h]
    exact ⟨rfl, rfl⟩
  have CB : Hid (∀ W, Below V.heap.size V W → W.cell? ⟨b1 + 1, 0, none⟩ = some (.int .u64 (y0 : Int)) ∧ W.cell? ⟨b1 + 1, 1, none⟩ = some (.int .u64 (y1 : Int))) := fun W hW => by
    have h := (hW.block _ (T.lt_heap P7.out.x2)).trans P7.out.x2
    rw [cell_of_row W (b1 + 1) _ _ _ _ h, cell_of_row W (b1 + 1) _ _ _ _ h]
    exact ⟨rfl, rfl⟩
  have CV : Hid (∀ W, Below V.heap.size V W → W.cell? ⟨b3, 0, none⟩ = some (.int .i64 (N : Int)) ∧ W.cell? ⟨b3, 1, none⟩ = some (.slice ac (T.need N 64) (T.need N 64))) := fun W hW => by
    have h := T.box2 ((hW.block _ (T.lt_heap P7.out.x3)).trans P7.out.x3)
    exact ⟨h.1, h.2.1⟩
  clear rq1 rr1 rq2 rr2 J1 J2 Q5 Q5b Q5c R4 R5 R5b R5c R6 R6b Q7 hd0 hd1
  obtain ⟨m0, m1⟩ := CA.out _ (Below.refl _ _)
  go_wp2_with fail
  go_at_call 17
  refine (kQ1 _ (Below.refl _ _)).out.mono ?_
  rintro e w1' ⟨rfl, hb⟩
  have hS1 := hide1 (hb)
  clear hb m0 m1
  obtain ⟨m0, m1⟩ := CB.out _ hS1.out
  go_wp2_with fail
  go_at_call 17
  refine (kQ2 _ hS1.out).out.mono ?_
  rintro e w2' ⟨rfl, hb⟩
  have hS2 := hide1 (hS1.out.trans (hb.mono hS1.out.size))
  clear hb m0 m1
  obtain ⟨m0, m1⟩ := CA.out _ hS2.out
  obtain ⟨m2, m3⟩ := CV.out _ hS2.out
  go_wp2_with fail
  go_at_call 18
  refine (kJ1 _ hS2.out).out.mono ?_
  rintro e w3' ⟨rfl, hb⟩
  have hS3 := hide1 (hS2.out.trans (hb.mono hS2.out.size))
  clear hb m0 m1 m2 m3
  obtain ⟨m0, m1⟩ := CB.out _ hS3.out
  obtain ⟨m2, m3⟩ := CV.out _ hS3.out
  go_wp2_with fail
  go_at_call 18
  refine (kJ2 _ hS3.out).out.mono ?_
  rintro e w4' ⟨rfl, hb⟩
  have hS4 := hide1 (hS3.out.trans (hb.mono hS3.out.size))
  clear hb m0 m1 m2 m3
  go_wp2_with fail
  go_at_call 7
  refine (kA _).out.mono ?_
  rintro e w5' ⟨rfl, hb⟩
  have hS5 := hide1 (hS4.out.trans (hb.mono hS4.out.size))
  clear hb
  go_wp2
  go_ret
  exact ⟨rfl, (P7.out.to hS5.out).bel⟩

theorem joins_all (kl : List Nat) (y F N cb : Nat) (av : Option Addr) (ch : List Bool) (w : World) (hk : kl.length = 32) (bk : Lt 256 kl) (hy : y < 18446744073709551616) (hv : T.Bl w N av ch) :
    Calls Try.prog 5 #[arr8 kl, .int .u64 (y : Int), .int .u64 (F : Int), .slice av N cb] w fun e w' => e = .returned (.bool true) ∧ Below w.heap.size w w' := by
  by_cases h : 200 < N ∨ N = 0 ∨ 33554432 < F
  · exact joins_else kl y F N cb av w h
  · exact joins_in kl y F N cb av ch w hk bk hy hv (by omega) (by omega) (by omega)
end Go.Proofs.Ytdahnbojnleboaa.I

namespace Go.Proofs.Ytdahnbojnleboaa.I
open Go.RowKit Pg
set_option maxRecDepth 100000
attribute [local go_sem] not_any T.mf_any

/- a list of lists of truths, and one of Vecs, as they are made -/
theorem vmk_kept {w w' : World} {base m : Nat} {v : Value} {aa : Nat → Option Addr} {nn : Nat → Nat} {L : Nat → List Bool} {row : Option Nat} (h : T.Vmk w base v m aa nn L) (hg : w.grownBy w' row)
    (hv : ∀ x, v.ownBlock = some x → row ≠ some x) (hf : ∀ i, i < m → ∀ x, (aa i).map (·.block) = some x → row ≠ some x) : T.Vmk w' base v m aa nn L := by
  refine ⟨⟨h.ns.own.kept hg ?_, fun i hi b e => ⟨Nat.lt_of_lt_of_le (h.ns.far i hi b e).1 hg.size, (h.ns.far i hi b e).2⟩⟩, fun i hi => (h.vc i hi).kept (fun g hga => hg.block g (h.ns.far i hi g (by rw [hga]; rfl)).1 (fun e => hf i hi g (by rw [hga]; rfl) e.symm))⟩
  cases hb : v.ownBlock with
  | none => exact .inl rfl
  | some x => exact .inr (fun e => hv x hb e.symm)
structure BV (w : World) (base : Nat) (vA : Value) (mA : Nat) (aA : Nat → Option Addr) (nA cA : Nat → Nat) (vB : Value) (mB : Nat) (aB : Nat → Option Addr) (nB : Nat → Nat) (L : Nat → List Bool) : Prop where
  a : T.Bmk w base vA mA aA nA cA L
  b : T.Vmk w base vB mB aB nB L
  ap : ∀ x, vA.ownBlock = some x → vB.ownBlock ≠ some x
  fa : ∀ i, i < mA → ∀ x, (aA i).map (·.block) = some x → vB.ownBlock ≠ some x
  fb : ∀ i, i < mB → ∀ x, (aB i).map (·.block) = some x → vA.ownBlock ≠ some x
theorem BV.below {w w' : World} {base mA mB : Nat} {vA vB : Value} {aA aB : Nat → Option Addr} {nA cA nB : Nat → Nat} {L : Nat → List Bool} (h : BV w base vA mA aA nA cA vB mB aB nB L) (hb : Below w.heap.size w w') : BV w' base vA mA aA nA cA vB mB aB nB L :=
  ⟨h.a.below hb, h.b.below hb, h.ap, h.fa, h.fb⟩
theorem BV.nil (w : World) (base : Nat) (nB : Nat → Nat) (L : Nat → List Bool) : BV w base (.slice none 0 0) 0 (fun _ => none) (fun _ => 0) (fun _ => 0) (.slice none 0 0) 0 (fun _ => none) nB L :=
  ⟨T.Bmk.nil _ _ _, T.Vmk.nil _ _ _ _, (fun x e => by cases e), (fun i hi => by omega), (fun i hi => by omega)⟩
/- a column and its Vec, not yet in the lists -/
structure S0 (w : World) (base : Nat) (vA : Value) (m : Nat) (aA : Nat → Option Addr) (nA cA : Nat → Nat) (vB : Value) (aB : Nat → Option Addr) (nB : Nat → Nat) (L : Nat → List Bool) (ca va : Option Addr) : Prop where
  bv : BV w base vA m aA nA cA vB m aB nB L
  hc : T.Bl w (nB m) ca (L m)
  fc : ∀ x, ca.map (·.block) = some x → x < w.heap.size ∧ vA.ownBlock ≠ some x ∧ vB.ownBlock ≠ some x
  hv : T.Vc 0 w (nB m) va (L m)
  fv : ∀ x, va.map (·.block) = some x → x < w.heap.size ∧ vA.ownBlock ≠ some x ∧ vB.ownBlock ≠ some x
theorem S0.below {w w' : World} {base m : Nat} {vA vB : Value} {aA aB : Nat → Option Addr} {nA cA nB : Nat → Nat} {L : Nat → List Bool} {ca va : Option Addr} (h : S0 w base vA m aA nA cA vB aB nB L ca va) (hb : Below w.heap.size w w') : S0 w' base vA m aA nA cA vB aB nB L ca va :=
  ⟨h.bv.below hb, h.hc.below hb (Nat.le_refl _), fun x e => ⟨Nat.lt_of_lt_of_le (h.fc x e).1 hb.size, (h.fc x e).2⟩, h.hv.below hb (Nat.le_refl _), fun x e => ⟨Nat.lt_of_lt_of_le (h.fv x e).1 hb.size, (h.fv x e).2⟩⟩
/- the column is in its list -/
structure S1 (w : World) (base : Nat) (vA : Value) (m : Nat) (aA : Nat → Option Addr) (nA cA : Nat → Nat) (vB : Value) (aB : Nat → Option Addr) (nB : Nat → Nat) (L : Nat → List Bool) (va : Option Addr) : Prop where
  bv : BV w base vA (m + 1) aA nA cA vB m aB nB L
  hv : T.Vc 0 w (nB m) va (L m)
  fv : ∀ x, va.map (·.block) = some x → x < w.heap.size ∧ vA.ownBlock ≠ some x ∧ vB.ownBlock ≠ some x
theorem S1.below {w w' : World} {base m : Nat} {vA vB : Value} {aA aB : Nat → Option Addr} {nA cA nB : Nat → Nat} {L : Nat → List Bool} {va : Option Addr} (h : S1 w base vA m aA nA cA vB aB nB L va) (hb : Below w.heap.size w w') : S1 w' base vA m aA nA cA vB aB nB L va :=
  ⟨h.bv.below hb, h.hv.below hb (Nat.le_refl _), fun x e => ⟨Nat.lt_of_lt_of_le (h.fv x e).1 hb.size, (h.fv x e).2⟩⟩
theorem own_slice {g n c x : Nat} (h : (Value.slice (some ⟨g, 0, none⟩) n c).ownBlock = some x) : g = x := by simpa [Value.ownBlock] using h
theorem S0.app {w w' : World} {base m g cap c : Nat} {vA vB : Value} {aA aB : Nat → Option Addr} {nA cA nB : Nat → Nat} {L : Nat → List Bool} {ca va : Option Addr} (h : S0 w base vA m aA nA cA vB aB nB L ca va)
    (ho : w'.ownsRow base 25 1 (.slice (some ⟨g, 0, none⟩) (m + 1) cap) (m + 1) (T.sls aA nA cA m ++ [.slice ca (nB m) c])) (hg : w.grownBy w' vA.ownBlock) (hl : vA.ownBlock = some g ∨ g = w.heap.size) :
    S1 w' base (.slice (some ⟨g, 0, none⟩) (m + 1) cap) m (fun i => if i = m then ca else aA i) (fun i => if i = m then nB m else nA i) (fun i => if i = m then c else cA i) vB aB nB L va := by
  refine ⟨⟨h.bv.a.add (fun b e => ⟨(h.fc b e).1, (h.fc b e).2.1⟩) h.hc ho hg hl, vmk_kept h.bv.b hg (fun x e h9 => h.bv.ap x h9 e) (fun i hi x e h9 => h.bv.fb i hi x e h9), fun x e h9 => ?_, fun i hi x e => ?_, fun i hi x e h9 => ?_⟩, h.hv.kept (fun b hb => hg.block b (h.fv b (by rw [hb]; rfl)).1 (fun e => (h.fv b (by rw [hb]; rfl)).2.1 e.symm)), fun x e => ⟨Nat.lt_of_lt_of_le (h.fv x e).1 hg.size, fun h9 => ?_, (h.fv x e).2.2⟩⟩
  · have e' := own_slice e
    rcases hl with hl | hl
    · exact h.bv.ap g hl (by rw [e']; exact h9)
    · have := (h.bv.b.ns.own.lt x h9).2; omega
  · by_cases h1 : i = m
    · simp only [if_pos h1] at e; exact (h.fc x e).2.2
    · simp only [if_neg h1] at e; exact h.bv.fa i (by omega) x e
  · have e' := own_slice h9
    rcases hl with hl | hl
    · exact h.bv.fb i hi x e (by rw [hl, e'])
    · have := (h.bv.b.ns.far i hi x e).1; omega
  · have e' := own_slice h9
    rcases hl with hl | hl
    · exact (h.fv x e).2.1 (by rw [hl, e'])
    · have := (h.fv x e).1; omega
theorem S1.app {w w' : World} {base m g cap : Nat} {vA vB : Value} {aA aB : Nat → Option Addr} {nA cA nB : Nat → Nat} {L : Nat → List Bool} {va : Option Addr} (h : S1 w base vA m aA nA cA vB aB nB L va)
    (ho : w'.ownsRow base 40 2 (.slice (some ⟨g, 0, none⟩) (m + 1) cap) (m + 1) (T.vls aB nB m ++ [.int .i64 (nB m : Nat), .slice va (T.need (nB m) 64) (T.need (nB m) 64)])) (hg : w.grownBy w' vB.ownBlock) (hl : vB.ownBlock = some g ∨ g = w.heap.size) :
    BV w' base vA (m + 1) aA nA cA (.slice (some ⟨g, 0, none⟩) (m + 1) cap) (m + 1) (fun i => if i = m then va else aB i) nB L := by
  refine ⟨bmk_kept h.bv.a hg (fun x e h9 => h.bv.ap x e h9) (fun i hi x e h9 => h.bv.fa i hi x e h9), h.bv.b.add (fun b e => ⟨(h.fv b e).1, (h.fv b e).2.2⟩) h.hv ho hg hl, fun x e h9 => ?_, fun i hi x e h9 => ?_, fun i hi x e => ?_⟩
  · have e' := own_slice h9
    rcases hl with hl | hl
    · exact h.bv.ap x e (by rw [hl, e'])
    · have := (h.bv.a.ns.own.lt x e).2; omega
  · have e' := own_slice h9
    rcases hl with hl | hl
    · exact h.bv.fa i hi x e (by rw [hl, e'])
    · have := (h.bv.a.ns.far i hi x e).1; omega
  · by_cases h1 : i = m
    · simp only [if_pos h1] at e; exact (h.fv x e).2.1
    · simp only [if_neg h1] at e; exact h.bv.fb i (by omega) x e
theorem news1 {W : World} {g : Nat} {x : Value} {t : TypeId} (h : W.heap[g]? = some (.cells #[x] t (0, 0))) : ∀ (j : Nat) (u : Value), [x][j]? = some u → W.cell? ((⟨g, 0, none⟩ : Addr).add j) = some u := fun j u hu => by
  rw [T.addr_add, cell_of_row _ _ _ _ _ _ h, Nat.zero_add]
  match j, hu with
  | 0, hu => exact hu
theorem news2 {W : World} {g : Nat} {x y : Value} {t : TypeId} (h : W.heap[g]? = some (.cells #[x, y] t (0, 0))) : ∀ (j : Nat) (u : Value), [x, y][j]? = some u → W.cell? ((⟨g, 0, none⟩ : Addr).add j) = some u := fun j u hu => by
  rw [T.addr_add, cell_of_row _ _ _ _ _ _ h, Nat.zero_add]
  match j, hu with
  | 0, hu => exact hu
  | 1, hu => exact hu
  | j + 2, hu => simp at hu

/- the columns that the law makes -/
def plc (i j n : Nat) : Nat := (i * 7 + j * j) % n
def mkC (s : List Bool) (m o i : Nat) : List Bool := (List.range m).map (fun j => s.getD (plc i j s.length) false) ++ if i = o then [true] else []
def mkN (m o i : Nat) : Nat := m + if i = o then 1 else 0
theorem mkC_length (s : List Bool) (m o i : Nat) : (mkC s m o i).length = mkN m o i := by
  unfold mkC mkN
  split <;> simp
/- what both Sends answer -/
def SP (w : World) (n code : Nat) (R : Nat → Nat → Nat) (e : Ending) (w' : World) : Prop :=
  ∃ (la : Option Addr) (lc : Nat), e = .returned (.tuple #[.slice la n lc, .int .i64 (code : Int)]) ∧ T.Rws w' n la R ∧ Below w.heap.size w w'
theorem none_rws (w : World) : T.Rws w 0 none (fun _ _ => 0) := ⟨fun j hj => by omega, fun _ _ => by omega⟩
theorem alf_congr {n n' : Nat → Nat} {N : Nat} (h : ∀ i, i < 128 → n i = n' i) : alf 128 n N = alf 128 n' N := by
  unfold alf
  rw [Bool.eq_iff_iff, decide_eq_true_eq, decide_eq_true_eq]
  exact ⟨fun g i hi => (h i hi).symm.trans (g i hi), fun g i hi => (h i hi).trans (g i hi)⟩
theorem ends (d0 d1 F K : Nat) (fk : Nat → List Nat) (nn : Nat → Nat) (L : Nat → List Bool) (hK : K ≤ 4096) (hK0 : 0 < K) (hd0 : d0 < 18446744073709551616) (hd1 : d1 < 18446744073709551616) (hF : F < 18446744073709551616) (hfk : ∀ i, (fk i).length = 32 ∧ Lt 256 (fk i)) (hn : ∀ i, nn i ≤ 4096) :
    ∃ n code R, n ≤ 4096 ∧ (∀ (W : World) (Kv : Value) (a : Option Addr) (c : Nat) (aa : Nat → Option Addr), T.Vcs W K a nn aa L → Sds W Kv fk 128 → K ≤ c → Calls Try.prog 15 #[.agg #[.int .u64 (d0 : Int), .int .u64 (d1 : Int), Kv], .int .u64 (F : Int), .slice a K c] W (SP W n code R)) ∧
      (∀ (W : World) (Kv v : Value) (ab : Nat → Option Addr) (nA cA : Nat → Nat), T.Brd W v K ab nA cA L → (∀ i, i < K → nA i = nn i) → Sds W Kv fk 128 → Calls Try.prog 16 #[rw2 d0 d1, Kv, .int .u64 (F : Int), v] W (SP W n code R)) := by
  by_cases h1 : K = 128
  · subst h1
    by_cases h2 : nC F (nn 0) = 0
    · have hF2 : F ≤ 67108864 := by
        unfold nC at h2
        split at h2
        · omega
        · split at h2 <;> omega
      have hN1 : 1 ≤ nn 0 := by
        unfold nC at h2
        split at h2 <;> omega
      have hN := hn 0
      by_cases h3 : alf 128 nn (nn 0) = true
      · have h4 : ∀ i, i < 128 → nn i = nn 0 := of_decide_eq_true h3
        refine ⟨nn 0, 0, T.rowV (keyC fk d0 d1 F (nn 0) L), hN, fun W Kv a c aa hv hk hc => ?_, fun W Kv v ab nA cA hv hnA hk => ?_⟩
        · refine (send_yes d0 d1 Kv fk F (nn 0) c a nn aa L W hv hk hfk hd0 hd1 h2 hF2 hN h4 hc).mono ?_
          rintro e w' ⟨gr, rfl, hr, hb⟩
          exact ⟨_, _, rfl, T.rrow_rws hr (T.rowV_lt _), hb⟩
        · refine (rsend_in d0 d1 Kv v fk F (nn 0) ab nA cA L W hv hk hfk (hnA 0 (by omega)) h2 hF2 hN hN1).mono ?_
          rintro e w' ⟨la, n', lc, code, rfl, hr, hq, hb⟩
          rw [alf_congr hnA] at hq
          rcases hq with ⟨rfl, rfl, _⟩ | ⟨_, _, h⟩
          · exact ⟨_, _, rfl, hr, hb⟩
          · rw [h3] at h; cases h
      · have h3' : alf 128 nn (nn 0) = false := by simpa using h3
        refine ⟨0, 11, fun _ _ => 0, by omega, fun W Kv a c aa hv hk hc => ?_, fun W Kv v ab nA cA hv hnA hk => ?_⟩
        · refine (send_shape d0 d1 Kv fk F c a nn aa L W hv hk hF h2 h3').mono ?_
          rintro e w' ⟨rfl, hb⟩
          exact ⟨_, _, rfl, none_rws _, hb⟩
        · refine (rsend_in d0 d1 Kv v fk F (nn 0) ab nA cA L W hv hk hfk (hnA 0 (by omega)) h2 hF2 hN hN1).mono ?_
          rintro e w' ⟨la, n', lc, code, rfl, hr, hq, hb⟩
          rw [alf_congr hnA, h3'] at hq
          rcases hq with ⟨_, _, h⟩ | ⟨rfl, rfl, _⟩
          · cases h
          · exact ⟨_, _, rfl, ⟨fun j hj => by omega, fun _ _ => by omega⟩, hb⟩
    · refine ⟨0, nC F (nn 0), fun _ _ => 0, by omega, fun W Kv a c aa hv hk hc => ?_, fun W Kv v ab nA cA hv hnA hk => ?_⟩
      · refine (send_no d0 d1 Kv F (nC F (nn 0)) c a nn aa L W hv hF rfl h2).mono ?_
        rintro e w' ⟨rfl, hb⟩
        exact ⟨_, _, rfl, none_rws _, hb⟩
      · have e0 := hnA 0 (by omega)
        refine (rsend_no d0 d1 Kv v F (nC F (nn 0)) ab nA cA L W hv hF (by rw [e0]; have := hn 0; omega) (by rw [e0]) h2).mono ?_
        rintro e w' ⟨rfl, hb⟩
        exact ⟨_, _, rfl, none_rws _, hb⟩
  · refine ⟨0, 11, fun _ _ => 0, by omega, fun W Kv a c aa hv hk hc => ?_, fun W Kv v ab nA cA hv hnA hk => ?_⟩
    · refine (send_few d0 d1 Kv F K c a W h1 hK).mono ?_
      rintro e w' ⟨rfl, hb⟩
      exact ⟨_, _, rfl, none_rws _, hb⟩
    · obtain ⟨g, c, rfl, _, _⟩ := hv.at'
      refine (rsend_few d0 d1 Kv F K c _ W h1).mono ?_
      rintro e w' ⟨rfl, hb⟩
      exact ⟨_, _, rfl, none_rws _, hb⟩

theorem sends_else (kl : List Nat) (F N cb x y z : Nat) (av : Option Addr) (w : World) (hx : x < 256) (hy : y < 256) (_hz : z < 256) (hbig : N = 0 ∨ 600 < N) :
    Calls Try.prog 4 #[arr8 kl, .int .u64 (F : Int), .slice av N cb, .int .u8 (x : Int), .int .u8 (y : Int), .int .u8 (z : Int)] w fun e w' => e = .returned (.bool true) ∧ Below w.heap.size w w' := by
  have kA := fun w => hide1 (awake_any w)
  have B0 := hide1 (On.start w (.cells (u8s kl).toArray 23)).bel
  unfold arr8
  by_cases h0 : N = 0
  · subst h0
    have t1 : (((0 : Nat) : Int) == 0) = true := by decide
    clear hbig
    go_enter Try.func4, Try.ntmps4
    go_wp2_with fail
    go_at_call 7
    refine (kA _).out.mono ?_
    rintro e w9 ⟨rfl, hb9⟩
    have B9 := hide1 (B0.out.trans (hb9.mono B0.out.size))
    clear hb9
    go_wp2
    go_ret
    exact ⟨rfl, B9.out⟩
  · have t1 : ((N : Int) == 0) = false := by rw [beq_eq_false_iff_ne]; omega
    have t2 : (600 : Int) < (N : Int) := by omega
    clear hbig h0
    go_enter Try.func4, Try.ntmps4
    go_wp2_with fail
    go_at_call 7
    refine (kA _).out.mono ?_
    rintro e w9 ⟨rfl, hb9⟩
    have B9 := hide1 (B0.out.trans (hb9.mono B0.out.size))
    clear hb9
    go_wp2
    go_ret
    exact ⟨rfl, B9.out⟩
end Go.Proofs.Ytdahnbojnleboaa.I
