/- The walk of IknpReceives. -/
import Derived.Test.YtdahnbojnleboaaJ46
import Derived.Test.YtdahnbojnleboaaJ47
import Derived.Test.YtdahnbojnleboaaJ29
namespace Go.Proofs.Ytdahnbojnleboaa.I
open Go.RowKit Pg
set_option maxRecDepth 100000
attribute [local go_sem] not_any T.mf_any

theorem recs_else (kl : List Nat) (F N cb : Nat) (av : Option Addr) (t : Bool) (w : World) (hbig : 200 < N) :
    Calls Try.prog 3 #[arr8 kl, .int .u64 (F : Int), .slice av N cb, .bool t] w fun e w' => e = .returned (.bool true) ∧ Below w.heap.size w w' := by
  have kA := fun w => hide1 (awake_any w)
  have B0 := hide1 (On.start w (.cells (u8s kl).toArray 23)).bel
  unfold arr8
  have t1 : (200 : Int) < (N : Int) := by omega
  clear hbig
  go_enter Try.func3, Try.ntmps3
  go_wp2_with fail
  go_at_call 7
  refine (kA _).out.mono ?_
  rintro e w9 ⟨rfl, hb9⟩
  have B9 := hide1 (B0.out.trans (hb9.mono B0.out.size))
  clear hb9
  go_wp2
  go_ret
  exact ⟨rfl, B9.out⟩

/- what is kept in memory -/
structure Rk (w V : World) (b11 N : Nat) (av : Option Addr) (ch : List Bool) (Z O : Value) (fz : Nat → List Nat) : Prop where
  bel : Below w.heap.size w V
  x1 : V.heap[b11]? = some (.cells #[Z, O] 33 (0, 0))
  z : Sds V Z fz 128
  bl : T.Bl V N av ch
theorem Rk.to {w V V' : World} {b11 N : Nat} {av : Option Addr} {ch : List Bool} {Z O : Value} {fz : Nat → List Nat} (h : Rk w V b11 N av ch Z O fz) (hb : Below V.heap.size V V') : Rk w V' b11 N av ch Z O fz :=
  ⟨h.bel.trans (hb.mono h.bel.size), (hb.block _ (T.lt_heap h.x1)).trans h.x1, h.z.below hb (Nat.le_refl _), h.bl.below hb (Nat.le_refl _)⟩

set_option maxHeartbeats 16000000 in
theorem recs_in (kl : List Nat) (F N cb : Nat) (av : Option Addr) (ch : List Bool) (t : Bool) (w : World) (hk : kl.length = 32) (bk : Lt 256 kl) (hF : F < 18446744073709551616) (hv : T.Bl w N av ch) (hN : N ≤ 200) :
    Calls Try.prog 3 #[arr8 kl, .int .u64 (F : Int), .slice av N cb, .bool t] w fun e w' => e = .returned (.bool true) ∧ Below w.heap.size w w' := by
  have kA := fun w => hide1 (awake_any w)
  have kD : ∀ w, Hid (Calls Try.prog 8 #[.agg (u8s kl).toArray, .int .u64 0] w _) := fun w => hide1 (deal_any2 kl 0 w hk bk (by omega))
  have hi := hi23 hk
  have hcl : ch.length = N := hv.len
  generalize rt0 kl 0 = p0 at kD
  generalize rt1 kl 0 = p1 at kD
  have HB0 := hide1 hv
  have t1 : ¬ (200 : Int) < (N : Int) := by omega
  have A0 := hide1 (On.start w (.cells (u8s kl).toArray 23))
  clear hv hk bk
  unfold arr8
  go_enter Try.func3, Try.ntmps3
  go_upto_region 1 with (fail)
  generalize w.alloc (.cells (u8s kl).toArray 23) = W0 at *
  go_wp2_with (first | (refine wpList_load_row rfl 23 (.tmp 4) rfl w.heap.size rfl 23 (u8s kl).toArray (0, 0) _ A0.out.h1 Try.underlying23 rfl hi ?_) | fail)
  go_at_call 8
  refine (kD _).out.mono ?_
  rintro e w1 ⟨K0, Z0, O0, K1, Z1, O1, rfl, sK0, sZ0, sO0, sK1, sZ1, sO1, hb1, go1, hgo1⟩
  obtain ⟨gK0, cK0, rfl, _, _⟩ := sK0.at'
  obtain ⟨gZ0, cZ0, rfl, _, _⟩ := sZ0.at'
  obtain ⟨gO0, cO0, rfl, _, _⟩ := sO0.at'
  obtain ⟨gK1, cK1, rfl, _, _⟩ := sK1.at'
  obtain ⟨gZ1, cZ1, rfl, _, _⟩ := sZ1.at'
  subst hgo1
  have B1 := hide1 (A0.out.to hb1).bel
  generalize wd p0 9 0 = d0 at *
  generalize wd p0 9 1 = d1 at *
  generalize wd p1 9 0 = y0 at *
  generalize wd p1 9 1 = y1 at *
  go_upto_region 4 with (fail)
  generalize hW2 : World.alloc (World.alloc w1 _) _ = W2
  have hA2 := At.start w1 (.cells #[.int .u64 (d0 : Int), .int .u64 (d1 : Int), .slice (some ⟨gK0, 0, none⟩) 128 cK0, .slice (some ⟨gZ1, 0, none⟩) 128 cZ1, .slice (some ⟨go1, 0, none⟩) 128 128] 35) (.cells #[.int .u64 (y0 : Int), .int .u64 (y1 : Int), .slice (some ⟨gK1, 0, none⟩) 128 cK1, .slice (some ⟨gZ0, 0, none⟩) 128 cZ0, .slice (some ⟨gO0, 0, none⟩) 128 cO0] 35)
  rw [hW2] at hA2
  have rr := view_recv hA2.h1
  have B2 := hide1 (B1.out.trans (hA2.bel.mono B1.out.size))
  have SZ2 := hide1 (sZ1.below hA2.bel (Nat.le_refl _))
  have SO2 := hide1 (sO1.below hA2.bel (Nat.le_refl _))
  clear hW2 hA2 sK0 sZ0 sO0 sK1 sZ1 sO1 hb1 kD B1 A0
  obtain ⟨b1, hb1⟩ : ∃ b, b = w1.heap.size := ⟨_, rfl⟩
  rw [← hb1] at rr ⊢
  clear hb1
  obtain ⟨b11, hb11⟩ : ∃ b, b = W2.heap.size := ⟨_, rfl⟩
  go_upto_region 5 with (first | (refine wpList_load_mid rfl 33 (.tmp 30) rfl b1 3 rfl [.slice (some ⟨gZ1, 0, none⟩) 128 cZ1, .slice (some ⟨go1, 0, none⟩) 128 128] _ rr Try.underlying33 rfl (by kernel_rfl) ?_) | fail)
  generalize hW3 : World.alloc W2 _ = W3
  have hb3 : Below W2.heap.size W2 W3 := by rw [← hW3]; exact T.below_alloc1 _ _
  have x3 : W3.heap[b11]? = some (.cells #[.slice (some ⟨gZ1, 0, none⟩) 128 cZ1, .slice (some ⟨go1, 0, none⟩) 128 128] 33 (0, 0)) := by rw [← hW3, hb11]; exact heap_alloc_new _ _
  have RK0 := hide1 (Rk.mk (B2.out.trans (hb3.mono B2.out.size)) x3 (SZ2.out.below hb3 (Nat.le_refl _)) (HB0.out.below (B2.out.trans (hb3.mono B2.out.size)) (Nat.le_refl _)))
  have SO3 := hide1 (SO2.out.below hb3 (Nat.le_refl _))
  have hb4 := hb3.setCell (show W2.heap.size ≤ (⟨b11, 1, none⟩ : Addr).block by simp [hb11]) (.slice (some ⟨go1, 32, none⟩) 127 127)
  have RK1 := hide1 (Rk.mk (B2.out.trans (hb4.mono B2.out.size)) (heap_setCell_same W3 b11 1 _ _ (.slice (some ⟨go1, 32, none⟩) 127 127) x3) (SZ2.out.below hb4 (Nat.le_refl _)) (HB0.out.below (B2.out.trans (hb4.mono B2.out.size)) (Nat.le_refl _)))
  rw [← hb11]
  clear hW3 hb3 x3 rr hb11 B2 SZ2 SO2 HB0 hb4
  obtain ⟨c0, c1, f0, f1, l0⟩ := T.box2 RK0.out.x1
  by_cases hc : nC F N = 0
  · have hF2 : F ≤ 67108864 := by
      unfold nC at hc
      split at hc
      · omega
      · split at hc <;> omega
    have hN1 : 1 ≤ N := by
      unfold nC at hc
      split at hc <;> omega
    cases t with
    | true =>
      go_upto_region 7 with (fail)
      have RK : Hid (Rk w (W3.setCell ⟨b11, 1, none⟩ (.slice (some ⟨go1, 32, none⟩) 127 127)) b11 N av ch (.slice (some ⟨gZ1, 0, none⟩) 128 cZ1) (.slice (some ⟨go1, 32, none⟩) 127 127) (dz p1)) := RK1.out
      generalize World.setCell _ _ _ = W4 at *
      have kR := fun W a => hide1 (receive_shape (some ⟨gZ1, 0, none⟩) (some ⟨go1, 32, none⟩) 128 127 cZ1 127 F N a W hF (by omega) hc (by omega))
      have kQ := fun W => hide1 (rreceive_shape (some ⟨gZ1, 0, none⟩) (some ⟨go1, 32, none⟩) 128 127 cZ1 127 F N cb av W hF (by omega) hc (by omega))
      have tcc : ((11 : Int) != (11 : Int)) = false := by decide
      clear c0 c1 f0 f1 l0 RK0 RK1 SO3
      have k2 := hide1 (T.of_any W4 N cb av ch RK.out.bl (by omega))
      go_wp2_with fail
      go_at_call 9
      refine k2.out.mono ?_
      rintro e w3 ⟨ac, rfl, hv3, hb3⟩
      obtain ⟨V3, hV3⟩ : ∃ W, W = w3.alloc (.cells #[.int .i64 (N : Int), .slice ac (T.need N 64) (T.need N 64)] 40) := ⟨_, rfl⟩
      have hb4 : Below w3.heap.size w3 V3 := by rw [hV3]; exact T.below_alloc1 _ _
      have R3 := hide1 ((RK.out.to hb3).to hb4)
      obtain ⟨b3, hb3'⟩ : ∃ b, b = w3.heap.size := ⟨_, rfl⟩
      have X3 : Hid (V3.heap[b3]? = some (.cells #[.int .i64 (N : Int), .slice ac (T.need N 64) (T.need N 64)] 40 (0, 0))) := by rw [hV3, hb3']; exact heap_alloc_new _ _
      have VC := hide1 ((hv3.below hb4 (Nat.le_refl _)).mono (Nat.zero_le _))
      clear hv3 hb3 hb4 k2 RK
      go_upto_region 8 with (fail)
      rw [← hb3', ← hV3]
      clear hb3' hV3
      obtain ⟨q0, q1, q2, q3, q4⟩ := T.box2 X3.out
      obtain ⟨s0, s1, s2, s3, s4⟩ := T.box2 R3.out.x1
      go_wp2_with fail
      go_at_call 10
      refine (kR _ _).out.mono ?_
      rintro e w4 ⟨rfl, hb⟩
      have R4 := hide1 (R3.out.to hb)
      clear q0 q1 q2 q3 q4 s0 s1 s2 s3 s4 hb R3 VC X3
      obtain ⟨s0, s1, s2, s3, s4⟩ := T.box2 R4.out.x1
      go_wp2_with fail
      go_at_call 11
      refine (kQ _).out.mono ?_
      rintro e w5 ⟨rfl, hb⟩
      have R5 := hide1 (R4.out.to hb)
      have kS := hide1 (rows_same w5 0 0 0 none none (fun _ _ => 0) ⟨fun j hj => by omega, fun _ _ => by omega⟩ ⟨fun j hj => by omega, fun _ _ => by omega⟩ (by omega))
      clear s0 s1 s2 s3 s4 hb R4
      go_wp2_with fail
      go_at_call 12
      refine kS.out.mono ?_
      rintro e w6 ⟨rfl, hb⟩
      have B6 := hide1 (R5.out.to hb).bel
      clear hb R5 kS
      go_wp2
      go_loopw [20] (fun iv wr => iv = .int .i64 0 ∧ Below w.heap.size w wr) (fun _ _ => 0)
      case atStart => exact ⟨rfl, B6.out⟩
      case round =>
        obtain ⟨rfl, hbe⟩ := hrel
        have HBR := hide1 hbe
        clear hbe
        go_wp2_with fail
        go_at_call 7
        refine (kA _).out.mono ?_
        rintro e w9 ⟨rfl, hb9⟩
        have B9 := hide1 (HBR.out.trans (hb9.mono HBR.out.size))
        clear hb9
        go_wp2
        go_ret
        exact ⟨rfl, B9.out⟩
    | false =>
      have RK := RK0
      go_upto_region 7 with (fail)
      clear c0 c1 f0 f1 l0 RK0 RK1
      have k2 := hide1 (T.of_any W3 N cb av ch RK.out.bl (by omega))
      go_wp2_with fail
      go_at_call 9
      refine k2.out.mono ?_
      rintro e w3 ⟨ac, rfl, hv3, hb3⟩
      obtain ⟨V3, hV3⟩ : ∃ W, W = w3.alloc (.cells #[.int .i64 (N : Int), .slice ac (T.need N 64) (T.need N 64)] 40) := ⟨_, rfl⟩
      have hb4 : Below w3.heap.size w3 V3 := by rw [hV3]; exact T.below_alloc1 _ _
      have R3 := hide1 ((RK.out.to hb3).to hb4)
      have SO4 := hide1 ((SO3.out.below hb3 (Nat.le_refl _)).below hb4 (Nat.le_refl _))
      obtain ⟨b3, hb3'⟩ : ∃ b, b = w3.heap.size := ⟨_, rfl⟩
      have X3 : Hid (V3.heap[b3]? = some (.cells #[.int .i64 (N : Int), .slice ac (T.need N 64) (T.need N 64)] 40 (0, 0))) := by rw [hV3, hb3']; exact heap_alloc_new _ _
      have VC := hide1 ((hv3.below hb4 (Nat.le_refl _)).mono (Nat.zero_le _))
      clear hv3 hb3 hb4 k2 RK
      go_upto_region 8 with (fail)
      rw [← hb3', ← hV3]
      clear hb3' hV3
      obtain ⟨q0, q1, q2, q3, q4⟩ := T.box2 X3.out
      obtain ⟨s0, s1, s2, s3, s4⟩ := T.box2 R3.out.x1
      have kR := rec_any R3.out.z SO4.out (good_dz p1) (good_dn p1) VC.out hc (by omega) (by omega)
      go_wp2_with fail
      go_at_call 10
      refine kR.out.mono ?_
      rintro e w4 ⟨gs, gr, aa, rfl, hvs, hrt, hb⟩
      have R4 := hide1 (R3.out.to hb)
      have VS4 := hide1 hvs
      have RT4 := hide1 (T.rrow_rws hrt (T.rowV_lt _))
      have SO5 := hide1 (SO4.out.below hb (Nat.le_refl _))
      clear q0 q1 q2 q3 q4 s0 s1 s2 s3 s4 hb hvs hrt R3 VC X3 kR SO4 SO3
      obtain ⟨s0, s1, s2, s3, s4⟩ := T.box2 R4.out.x1
      have kQ := hide1 (rreceive_yes _ _ (dz p1) (dn p1) F N cb av ch w4 R4.out.z SO5.out (good_dz p1) (good_dn p1) R4.out.bl hc (by omega) (by omega) (by omega))
      go_wp2_with fail
      go_at_call 11
      refine kQ.out.mono ?_
      rintro e w5 ⟨vc, la, lc, ab, nn, cc, rfl, hbrd, hnn, hrw, hb⟩
      have R5 := hide1 (R4.out.to hb)
      obtain ⟨gc, cc0, rfl, hgc, hcc⟩ := hbrd.at'
      have VS5 := hide1 (VS4.out.below hb (Nat.le_refl _))
      have RT5 := hide1 (RT4.out.below hb (Nat.le_refl _))
      have HBR5 := hide1 hbrd
      have HN5 := hide1 hnn
      have RW5 := hide1 hrw
      clear s0 s1 s2 s3 s4 hb R4 kQ VS4 RT4 SO5 hbrd hnn hrw hcc
      have kS := hide1 (rows_same w5 N N lc _ la _ RT5.out RW5.out (by omega))
      go_wp2_with fail
      go_at_call 12
      refine kS.out.mono ?_
      rintro e w6 ⟨rfl, hb⟩
      have B6 := hide1 (R5.out.to hb).bel
      have VS6 := hide1 (VS5.out.below hb (Nat.le_refl _))
      have HBR6 := hide1 (HBR5.out.below hb)
      have hgc6 : gc < w6.heap.size := Nat.lt_of_lt_of_le hgc hb.size
      clear hb R5 kS VS5 RT5 HBR5 RW5 hgc
      go_wp2
      go_loopw [20] (fun iv wr => ∃ i : Nat, i ≤ 128 ∧ iv = .int .i64 i ∧ Below w6.heap.size w6 wr) (fun iv _ => 128 - (intOf iv).toNat)
      case atStart => exact ⟨0, Nat.zero_le _, rfl, Below.refl _ _⟩
      case round =>
        obtain ⟨i, hi, rfl, hbe⟩ := hrel
        have HBR := hide1 (B6.out.trans (hbe.mono B6.out.size))
        by_cases hlt : i < 128
        · have hlt' : (i : Int) < 128 := by omega
          have hvs := VS6.out.below hbe (Nat.le_refl _)
          have hbr := HBR6.out.below hbe
          have VU := hide1 (hvs.vc i hlt)
          have VL' := hbr.bl i hlt
          rw [HN5.out i hlt] at VL'
          have VL := hide1 VL'
          obtain ⟨g0, o0, e0, d0', d1'⟩ := hvs.at' i hlt
          cases e0
          obtain ⟨gq, cq, eq0, hgq, hcq⟩ := hbr.at'
          cases eq0
          have hc0 := hcq i hlt
          rw [HN5.out i hlt] at hc0
          obtain ⟨ai, hai⟩ : ∃ x, x = aa i := ⟨_, rfl⟩
          obtain ⟨ca, hca⟩ : ∃ x, x = ab i := ⟨_, rfl⟩
          obtain ⟨ci, hci⟩ : ∃ x, x = cc i := ⟨_, rfl⟩
          rw [← hai] at d1' VU
          rw [← hca] at VL
          rw [← hca, ← hci] at hc0
          rw [Nat.zero_add] at d0' d1'
          have CU : Hid (∀ W, Below wr.heap.size wr W → W.cell? ⟨gs, i * 2, none⟩ = some (.int .i64 (N : Int)) ∧ W.cell? ⟨gs, i * 2 + 1, none⟩ = some (.slice ai (T.need N 64) (T.need N 64))) := fun W hW =>
            ⟨(hW.cell (p := ⟨gs, i * 2, none⟩) (T.lt_cell d0')).trans d0', (hW.cell (p := ⟨gs, i * 2 + 1, none⟩) (T.lt_cell d1')).trans d1'⟩
          have CC : Hid (∀ W, Below wr.heap.size wr W → W.cell? ⟨gc, i, none⟩ = some (.slice ca N ci)) := fun W hW => (hW.cell (p := ⟨gc, i, none⟩) hgq).trans hc0
          have kB := fun W (h : T.Vc 0 W N ai (sentC (dz p1) (dn p1) F N ch i)) => hide1 (T.bools_any 0 W N ai _ h (by omega))
          have HE := hide1 hbe
          clear hvs hbr VL' d0' d1' hc0 hai hca hci hbe hcq
          go_upto_region 15 with (fail)
          refine region_f (F := []) (S := fun W' => Below wr.heap.size wr W') (by kernel_rfl) (Below.refl _ _).drew (fun hS => ?_)
          refine take_p 0 89 (.slice (some ⟨gs, 0, none⟩) 128 128) rfl rfl (by kernel_rfl) (by kernel_rfl) (by kernel_rfl) (fun _ _ _ h => h) rfl (fun w => by go_simp) ?_
          try simp only [List.setIfInBounds_toArray, List.set_cons_zero, List.set_cons_succ]
          refine take_p 1 90 (.int .i64 (i : Int)) rfl rfl (by kernel_rfl) (by kernel_rfl) (by kernel_rfl) (fun _ _ _ h => h) rfl (fun w => by go_simp) ?_
          try simp only [List.setIfInBounds_toArray, List.set_cons_zero, List.set_cons_succ]
          refine take_p 2 91 (.pointer (some ⟨gs, i * 2, none⟩)) rfl rfl (by kernel_rfl) (by kernel_rfl) (by kernel_rfl) (fun _ _ _ h => h) rfl (fun w => by go_simp) ?_
          try simp only [List.setIfInBounds_toArray, List.set_cons_zero, List.set_cons_succ]
          refine take_f 3 92 (.agg #[.int .i64 (N : Int), .slice ai (T.need N 64) (T.need N 64)]) [4, 9, 10] rfl rfl (by kernel_rfl) (by kernel_rfl) (by kernel_rfl) (by kernel_rfl) (by kernel_rfl) (by kernel_rfl) (fun _ _ _ h => h) rfl (fun w hSw => by have h1 := (CU.out w hSw).1; have h2 := (CU.out w hSw).2; go_simp) hS ?_
          try simp only [List.setIfInBounds_toArray, List.set_cons_zero, List.set_cons_succ]
          refine take_p 5 94 (.slice (some ⟨gc, 0, none⟩) 128 cc0) rfl rfl (by kernel_rfl) (by kernel_rfl) (by kernel_rfl) (fun _ _ _ h => h) rfl (fun w => by go_simp) ?_
          try simp only [List.setIfInBounds_toArray, List.set_cons_zero, List.set_cons_succ]
          refine take_p 6 95 (.int .i64 (i : Int)) rfl rfl (by kernel_rfl) (by kernel_rfl) (by kernel_rfl) (fun _ _ _ h => h) rfl (fun w => by go_simp) ?_
          try simp only [List.setIfInBounds_toArray, List.set_cons_zero, List.set_cons_succ]
          refine take_p 7 96 (.pointer (some ⟨gc, i, none⟩)) rfl rfl (by kernel_rfl) (by kernel_rfl) (by kernel_rfl) (fun _ _ _ h => h) rfl (fun w => by go_simp) ?_
          try simp only [List.setIfInBounds_toArray, List.set_cons_zero, List.set_cons_succ]
          refine take_f 8 97 (.slice ca N ci) [9, 10] rfl rfl (by kernel_rfl) (by kernel_rfl) (by kernel_rfl) (by kernel_rfl) (by kernel_rfl) (by kernel_rfl) (fun _ _ _ h => h) rfl (fun w hSw => by have h1 := CC.out w hSw; go_simp) hS ?_
          try simp only [List.setIfInBounds_toArray, List.set_cons_zero, List.set_cons_succ]
          refine ready_f 4 (o := { dst := some 93, op := Op.call { callee := Callee.value (Operand.func 14), args := #[Operand.tmp 92], argTypes := #[40] }, type := 25, pos := "law.go:52", after := #[{ on := 3, ground := Ground.data }], guard := none }) (by kernel_rfl) rfl (fun K hK => ?_)
          go_simp
          refine (kB _ (VU.out.below hS (Nat.le_refl _))).out.mono ?_
          rintro e w7 ⟨a7, rfl, hl7, hb7⟩
          have hS1 : Below wr.heap.size wr w7 := hS.trans (hb7.mono hS.size)
          refine hK.out _ _ (fun _ _ => hS1) ?_
          clear hK K
          try simp only [Act.put, List.setIfInBounds_toArray, List.set_cons_zero, List.set_cons_succ]
          have kS := hide1 (T.same_any w7 N N N ci a7 ca _ _ hl7 (VL.out.below hS1 (Nat.le_refl _)) (by omega) (by omega))
          rw [decide_eq_true rfl] at kS
          refine ready_f 9 (o := { dst := some 98, op := Op.call { callee := Callee.value (Operand.func 13), args := #[Operand.tmp 93, Operand.tmp 97], argTypes := #[25, 25] }, type := 4, pos := "law.go:52", after := #[{ on := 4, ground := Ground.data }, { on := 8, ground := Ground.data }, { on := 4, ground := Ground.chain }], guard := none }) (by kernel_rfl) rfl (fun K hK => ?_)
          go_simp
          refine kS.out.mono ?_
          rintro e w8 ⟨rfl, q8, rfl⟩
          have hS2 : Below wr.heap.size wr (w7.drewN q8) := below_drewN' hS1 q8
          refine hK.out _ _ (fun _ _ => hS2) ?_
          clear hK K
          try simp only [Act.put, List.setIfInBounds_toArray, List.set_cons_zero, List.set_cons_succ]
          refine take_p 10 99 (.bool false) rfl rfl (by kernel_rfl) (by kernel_rfl) (by kernel_rfl) (fun _ _ _ h => h) rfl (fun w => by go_simp) ?_
          try simp only [List.setIfInBounds_toArray, List.set_cons_zero, List.set_cons_succ]
          refine done_f (by kernel_rfl) ?_ _
          have B9 := hide1 (HE.out.trans (hS2.mono HE.out.size))
          clear hS hS1 hS2 hb7 hl7 kS kB CU CC VU VL
          go_wp2
          go_roundw
          case rel => exact ⟨i + 1, by omega, by go_num, B9.out⟩
          case measure => simp [intOf]; omega
        · obtain rfl : i = 128 := by omega
          clear hbe
          go_wp2_with fail
          go_at_call 7
          refine (kA _).out.mono ?_
          rintro e w9 ⟨rfl, hb9⟩
          have B9 := hide1 (HBR.out.trans (hb9.mono HBR.out.size))
          clear hb9
          go_wp2
          go_ret
          exact ⟨rfl, B9.out⟩
  · obtain ⟨c, hcc⟩ : ∃ c, c = nC F N := ⟨_, rfl⟩
    have hc0 : c ≠ 0 := by rw [hcc]; exact hc
    have tcc : ((c : Int) != (c : Int)) = false := by simp
    cases t with
    | true =>
      go_upto_region 7 with (fail)
      have RK : Hid (Rk w (W3.setCell ⟨b11, 1, none⟩ (.slice (some ⟨go1, 32, none⟩) 127 127)) b11 N av ch (.slice (some ⟨gZ1, 0, none⟩) 128 cZ1) (.slice (some ⟨go1, 32, none⟩) 127 127) (dz p1)) := RK1.out
      generalize World.setCell _ _ _ = W4 at *
      have kR := fun W a => hide1 (receive_no (.slice (some ⟨gZ1, 0, none⟩) 128 cZ1) (.slice (some ⟨go1, 32, none⟩) 127 127) F N c a W rfl rfl hF (by omega) hcc.symm hc0)
      have kQ := fun W => hide1 (rreceive_no (.slice (some ⟨gZ1, 0, none⟩) 128 cZ1) (.slice (some ⟨go1, 32, none⟩) 127 127) F N c cb av W hF (by omega) hcc.symm hc0)
      clear c0 c1 f0 f1 l0 RK0 RK1 SO3 hc hcc
      have k2 := hide1 (T.of_any W4 N cb av ch RK.out.bl (by omega))
      go_wp2_with fail
      go_at_call 9
      refine k2.out.mono ?_
      rintro e w3 ⟨ac, rfl, hv3, hb3⟩
      obtain ⟨V3, hV3⟩ : ∃ W, W = w3.alloc (.cells #[.int .i64 (N : Int), .slice ac (T.need N 64) (T.need N 64)] 40) := ⟨_, rfl⟩
      have hb4 : Below w3.heap.size w3 V3 := by rw [hV3]; exact T.below_alloc1 _ _
      have R3 := hide1 ((RK.out.to hb3).to hb4)
      obtain ⟨b3, hb3'⟩ : ∃ b, b = w3.heap.size := ⟨_, rfl⟩
      have X3 : Hid (V3.heap[b3]? = some (.cells #[.int .i64 (N : Int), .slice ac (T.need N 64) (T.need N 64)] 40 (0, 0))) := by rw [hV3, hb3']; exact heap_alloc_new _ _
      have VC := hide1 ((hv3.below hb4 (Nat.le_refl _)).mono (Nat.zero_le _))
      clear hv3 hb3 hb4 k2 RK
      go_upto_region 8 with (fail)
      rw [← hb3', ← hV3]
      clear hb3' hV3
      obtain ⟨q0, q1, q2, q3, q4⟩ := T.box2 X3.out
      obtain ⟨s0, s1, s2, s3, s4⟩ := T.box2 R3.out.x1
      go_wp2_with fail
      go_at_call 10
      refine (kR _ _).out.mono ?_
      rintro e w4 ⟨rfl, hb⟩
      have R4 := hide1 (R3.out.to hb)
      clear q0 q1 q2 q3 q4 s0 s1 s2 s3 s4 hb R3 VC X3
      obtain ⟨s0, s1, s2, s3, s4⟩ := T.box2 R4.out.x1
      go_wp2_with fail
      go_at_call 11
      refine (kQ _).out.mono ?_
      rintro e w5 ⟨rfl, hb⟩
      have R5 := hide1 (R4.out.to hb)
      have kS := hide1 (rows_same w5 0 0 0 none none (fun _ _ => 0) ⟨fun j hj => by omega, fun _ _ => by omega⟩ ⟨fun j hj => by omega, fun _ _ => by omega⟩ (by omega))
      clear s0 s1 s2 s3 s4 hb R4
      go_wp2_with fail
      go_at_call 12
      refine kS.out.mono ?_
      rintro e w6 ⟨rfl, hb⟩
      have B6 := hide1 (R5.out.to hb).bel
      clear hb R5 kS
      go_wp2
      go_loopw [20] (fun iv wr => iv = .int .i64 0 ∧ Below w.heap.size w wr) (fun _ _ => 0)
      case atStart => exact ⟨rfl, B6.out⟩
      case round =>
        obtain ⟨rfl, hbe⟩ := hrel
        have HBR := hide1 hbe
        clear hbe
        go_wp2_with fail
        go_at_call 7
        refine (kA _).out.mono ?_
        rintro e w9 ⟨rfl, hb9⟩
        have B9 := hide1 (HBR.out.trans (hb9.mono HBR.out.size))
        clear hb9
        go_wp2
        go_ret
        exact ⟨rfl, B9.out⟩
    | false =>
      have RK := RK0
      go_upto_region 7 with (fail)
      have kR := fun W a => hide1 (receive_no (.slice (some ⟨gZ1, 0, none⟩) 128 cZ1) (.slice (some ⟨go1, 0, none⟩) 128 128) F N c a W rfl rfl hF (by omega) hcc.symm hc0)
      have kQ := fun W => hide1 (rreceive_no (.slice (some ⟨gZ1, 0, none⟩) 128 cZ1) (.slice (some ⟨go1, 0, none⟩) 128 128) F N c cb av W hF (by omega) hcc.symm hc0)
      clear c0 c1 f0 f1 l0 RK0 RK1 SO3 hc hcc
      have k2 := hide1 (T.of_any W3 N cb av ch RK.out.bl (by omega))
      go_wp2_with fail
      go_at_call 9
      refine k2.out.mono ?_
      rintro e w3 ⟨ac, rfl, hv3, hb3⟩
      obtain ⟨V3, hV3⟩ : ∃ W, W = w3.alloc (.cells #[.int .i64 (N : Int), .slice ac (T.need N 64) (T.need N 64)] 40) := ⟨_, rfl⟩
      have hb4 : Below w3.heap.size w3 V3 := by rw [hV3]; exact T.below_alloc1 _ _
      have R3 := hide1 ((RK.out.to hb3).to hb4)
      obtain ⟨b3, hb3'⟩ : ∃ b, b = w3.heap.size := ⟨_, rfl⟩
      have X3 : Hid (V3.heap[b3]? = some (.cells #[.int .i64 (N : Int), .slice ac (T.need N 64) (T.need N 64)] 40 (0, 0))) := by rw [hV3, hb3']; exact heap_alloc_new _ _
      have VC := hide1 ((hv3.below hb4 (Nat.le_refl _)).mono (Nat.zero_le _))
      clear hv3 hb3 hb4 k2 RK
      go_upto_region 8 with (fail)
      rw [← hb3', ← hV3]
      clear hb3' hV3
      obtain ⟨q0, q1, q2, q3, q4⟩ := T.box2 X3.out
      obtain ⟨s0, s1, s2, s3, s4⟩ := T.box2 R3.out.x1
      go_wp2_with fail
      go_at_call 10
      refine (kR _ _).out.mono ?_
      rintro e w4 ⟨rfl, hb⟩
      have R4 := hide1 (R3.out.to hb)
      clear q0 q1 q2 q3 q4 s0 s1 s2 s3 s4 hb R3 VC X3
      obtain ⟨s0, s1, s2, s3, s4⟩ := T.box2 R4.out.x1
      go_wp2_with fail
      go_at_call 11
      refine (kQ _).out.mono ?_
      rintro e w5 ⟨rfl, hb⟩
      have R5 := hide1 (R4.out.to hb)
      have kS := hide1 (rows_same w5 0 0 0 none none (fun _ _ => 0) ⟨fun j hj => by omega, fun _ _ => by omega⟩ ⟨fun j hj => by omega, fun _ _ => by omega⟩ (by omega))
      clear s0 s1 s2 s3 s4 hb R4
      go_wp2_with fail
      go_at_call 12
      refine kS.out.mono ?_
      rintro e w6 ⟨rfl, hb⟩
      have B6 := hide1 (R5.out.to hb).bel
      clear hb R5 kS
      go_wp2
      go_loopw [20] (fun iv wr => iv = .int .i64 0 ∧ Below w.heap.size w wr) (fun _ _ => 0)
      case atStart => exact ⟨rfl, B6.out⟩
      case round =>
        obtain ⟨rfl, hbe⟩ := hrel
        have HBR := hide1 hbe
        clear hbe
        go_wp2_with fail
        go_at_call 7
        refine (kA _).out.mono ?_
        rintro e w9 ⟨rfl, hb9⟩
        have B9 := hide1 (HBR.out.trans (hb9.mono HBR.out.size))
        clear hb9
        go_wp2
        go_ret
        exact ⟨rfl, B9.out⟩
theorem recs_all (kl : List Nat) (F N cb : Nat) (av : Option Addr) (ch : List Bool) (t : Bool) (w : World) (hk : kl.length = 32) (bk : Lt 256 kl) (hF : F < 18446744073709551616) (hv : T.Bl w N av ch) :
    Calls Try.prog 3 #[arr8 kl, .int .u64 (F : Int), .slice av N cb, .bool t] w fun e w' => e = .returned (.bool true) ∧ Below w.heap.size w w' := by
  by_cases h : 200 < N
  · exact recs_else kl F N cb av t w h
  · exact recs_in kl F N cb av ch t w hk bk hF hv (by omega)
end Go.Proofs.Ytdahnbojnleboaa.I
