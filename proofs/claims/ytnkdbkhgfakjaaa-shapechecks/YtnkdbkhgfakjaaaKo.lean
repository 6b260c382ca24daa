/- ShapeChecks: the walk. -/
import Derived.Test.YtnkdbkhgfakjaaaKn
namespace Go.Proofs.Ytnkdbkhgfakjaaa
open Go.RowKit
set_option maxRecDepth 100000
attribute [local go_sem] not_any mf_any

set_option maxHeartbeats 4000000 in
theorem checks_all (w : World) (k b m q n : Int) : Calls Try.prog 3 #[cls k b m q n] w fun e w' => e = .returned (.bool true) ∧ Below w.heap.size w w' := by
  have mx := mixed
  have kA := fun w => hide1 (awake9_any w)
  have k1 := fun w => hide1 (sizes_any k b m q n w)
  have k2 := fun w => hide1 (rsizes_any k b m q n w)
  have k3 := fun w => hide1 (widths_any k b m q n w)
  have k4 := fun w => hide1 (rwidths_any k b m q n w)
  have k5 := fun w => hide1 (transfers_any k b m q n w)
  have k6 := fun w => hide1 (rtransfers_any k b m q n w)
  have k7 := fun w => hide1 (check_any k b m q n w)
  have k8 := fun w => hide1 (rcheck_any k b m q n w)
  have k9 := fun w => hide1 (words_any k b m q n w)
  have k0 := fun w => hide1 (rwords_any k b m q n w)
  generalize sz1 k b m q n = x1 at *
  generalize sz2 k b m q n = x2 at *
  generalize sz3 k b m q n = x3 at *
  generalize wd1 k b m q n = y1 at *
  generalize wd2 k b m q n = y2 at *
  generalize tr1 k b m q n = z1 at *
  generalize tr2 k b m q n = z2 at *
  generalize chk k b m q n = u1 at *
  generalize wds k b m q n = u2 at *
  simp only [cls] at *
  go_enter Try.func3, Try.ntmps3
  go_upto_region 1 with (fail)
  generalize hX : World.alloc w _ = X
  have HX : Hid (Below w.heap.size w X) := by rw [← hX]; exact below1 _
  have H0 := hide1 (hX ▸ heap_alloc_new w _)
  obtain ⟨c, hc⟩ : ∃ c, w.heap.size = c := ⟨_, rfl⟩
  rw [hc] at H0 ⊢
  clear hX hc
  obtain ⟨d0, d1, d2, d3, d4, l1⟩ := box5 H0.out
  go_wp2_with fail
  refine (k1 _).out.mono ?_
  rintro e w1 ⟨rfl, hb⟩
  have H1 := hide1 ((hb.block _ (lt_heap H0.out)).trans H0.out)
  have HX1 := hide1 (HX.out.trans (hb.mono HX.out.size))
  clear hb d0 d1 d2 d3 d4 l1 H0 HX
  obtain ⟨d0, d1, d2, d3, d4, l1⟩ := box5 H1.out
  go_wp2_with fail
  refine (k2 _).out.mono ?_
  rintro e w2 ⟨gs, rfl, hg, hle, hb⟩
  have H2 := hide1 ((hb.block _ (lt_heap H1.out)).trans H1.out)
  have HX2 := hide1 (HX1.out.trans (hb.mono HX1.out.size))
  have Ts := hide1 hg
  clear hg hle
  clear hb d0 d1 d2 d3 d4 l1 H1 HX1
  obtain ⟨d0, d1, d2, d3, d4, l1⟩ := box5 H2.out
  go_wp2_with fail
  refine (k3 _).out.mono ?_
  rintro e w3 ⟨rfl, hb⟩
  have H3 := hide1 ((hb.block _ (lt_heap H2.out)).trans H2.out)
  have HX3 := hide1 (HX2.out.trans (hb.mono HX2.out.size))
  have Ts := hide1 ((hb.block _ (lt_heap Ts.out)).trans Ts.out)
  clear hb d0 d1 d2 d3 d4 l1 H2 HX2
  obtain ⟨d0, d1, d2, d3, d4, l1⟩ := box5 H3.out
  go_wp2_with fail
  refine (k4 _).out.mono ?_
  rintro e w4 ⟨gt, rfl, hg, hle, hb⟩
  have H4 := hide1 ((hb.block _ (lt_heap H3.out)).trans H3.out)
  have HX4 := hide1 (HX3.out.trans (hb.mono HX3.out.size))
  have Ts := hide1 ((hb.block _ (lt_heap Ts.out)).trans Ts.out)
  have Tt := hide1 hg
  clear hg hle
  clear hb d0 d1 d2 d3 d4 l1 H3 HX3
  obtain ⟨d0, d1, d2, d3, d4, l1⟩ := box5 H4.out
  go_wp2_with fail
  refine (k5 _).out.mono ?_
  rintro e w5 ⟨rfl, hb⟩
  have H5 := hide1 ((hb.block _ (lt_heap H4.out)).trans H4.out)
  have HX5 := hide1 (HX4.out.trans (hb.mono HX4.out.size))
  have Ts := hide1 ((hb.block _ (lt_heap Ts.out)).trans Ts.out)
  have Tt := hide1 ((hb.block _ (lt_heap Tt.out)).trans Tt.out)
  clear hb d0 d1 d2 d3 d4 l1 H4 HX4
  obtain ⟨d0, d1, d2, d3, d4, l1⟩ := box5 H5.out
  go_wp2_with fail
  refine (k6 _).out.mono ?_
  rintro e w6 ⟨rfl, hb⟩
  have H6 := hide1 ((hb.block _ (lt_heap H5.out)).trans H5.out)
  have HX6 := hide1 (HX5.out.trans (hb.mono HX5.out.size))
  have Ts := hide1 ((hb.block _ (lt_heap Ts.out)).trans Ts.out)
  have Tt := hide1 ((hb.block _ (lt_heap Tt.out)).trans Tt.out)
  clear hb d0 d1 d2 d3 d4 l1 H5 HX5
  obtain ⟨d0, d1, d2, d3, d4, l1⟩ := box5 H6.out
  obtain ⟨s0, s1, s2, ls⟩ := tri_cells Ts.out
  obtain ⟨t0, t1, t2, lt⟩ := tri_cells Tt.out
  go_wp2_with fail
  have s0 := bw_cell s0
  have s1 := bw_cell s1
  have s2 := bw_cell s2
  have t0 := bw_cell t0
  have t1 := bw_cell t1
  have t2 := bw_cell t2
  have d0 := bw_cell d0
  have d1 := bw_cell d1
  have d2 := bw_cell d2
  have d3 := bw_cell d3
  have d4 := bw_cell d4
  have hne : Nonempty (Bw w6) := ⟨⟨w6, Below.refl _ _⟩⟩
  have c7 := fun p : Bw w6 => k7 p.w
  have c8 := fun p : Bw w6 => k8 p.w
  have c9 := fun p : Bw w6 => k9 p.w
  have c0 := fun p : Bw w6 => k0 p.w
  have cA := fun p : Bw w6 => kA p.w
  clear k1 k2 k3 k4 k5 k6 k7 k8 k9 k0 kA
  refine wp_region_quiet_bw (by assumption) (by kernel_rfl) ?_
  simp only [List.append]
  repeat (go_big_quiet_step (first | (go_at_call 12; exact bw_of (c7 _).out) | (go_at_call 13; exact bw_of (c8 _).out) | (go_at_call 14; exact bw_of (c9 _).out) | (go_at_call 15; exact bw_of (c0 _).out) | (go_at_call 16; exact bw_of (cA _).out)))
  refine wpQuiet_nil ?_
  intro w1 hw1
  obtain ⟨p, rfl⟩ := hw1
  go_wp2
  go_ret
  exact ⟨rfl, HX6.out.trans (p.h.mono HX6.out.size)⟩

end Go.Proofs.Ytnkdbkhgfakjaaa
