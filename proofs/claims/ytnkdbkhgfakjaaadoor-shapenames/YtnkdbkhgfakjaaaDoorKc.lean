/- Sizes, Widths, Transfers, Words. -/
import Derived.Test.YtnkdbkhgfakjaaaDoorKb
namespace Go.Proofs.YtnkdbkhgfakjaaaDoor
open Go.RowKit
set_option maxRecDepth 100000
attribute [local go_sem] not_any mf_any

set_option maxHeartbeats 1000000 in
theorem sizes_any (k b m q n : Int) (w : World) :
    Calls Tryd.prog 11 #[cls k b m q n] w fun e w' => e = .returned (.tuple #[.int .i64 (sz1 k b m q n), .int .i64 (sz2 k b m q n), .int .i64 (sz3 k b m q n)]) ∧ Below w.heap.size w w' := by
  have kM := fun w => hide1 (mayBe_any k b m q n w)
  have mx := mixed
  by_cases hm : May k b m q n
  · have HM := hide1 hm
    rw [decide_eq_true hm] at kM
    unfold cls at *
    rcases may_ways hm with ⟨hk, rfl, rfl, rfl⟩ | ⟨rfl, rfl, rfl, rfl, rfl⟩ | ⟨rfl, h1, h2, h3⟩
    · clear hm
      rcases hk with rfl | rfl
      · skip
        go_enter Tryd.func11, Tryd.ntmps11
        go_upto_region 1 with (fail)
        generalize hX : World.alloc w _ = X
        have HX : Hid (Below w.heap.size w X) := by rw [← hX]; exact below1 _
        have h0 := hX ▸ heap_alloc_new w _
        obtain ⟨c0, c1, c2, c3, c4, l0⟩ := box5 h0
        have H0 := hide1 h0
        clear hX h0
        go_wp2_with (go_at_call 16; refine (kM _).out.mono ?_; rintro e w1 ⟨rfl, hb1⟩; have h1 := (hb1.block _ (lt_heap H0.out)).trans H0.out; obtain ⟨d0, d1, d2, d3, d4, l1⟩ := box5 h1; have HB := hide1 (HX.out.trans (hb1.mono HX.out.size)); clear h1 hb1)
        all_goals (first | (go_quiet (fail); go_wp2) | go_wp2 | skip)
        go_ret3
        exact ⟨by simp only [sz1, sz2, sz3, if_pos HM.out] <;> rfl, by first | exact HB.out | exact HB.out.drew | exact belowN HB.out _⟩
      · skip
        go_enter Tryd.func11, Tryd.ntmps11
        go_upto_region 1 with (fail)
        generalize hX : World.alloc w _ = X
        have HX : Hid (Below w.heap.size w X) := by rw [← hX]; exact below1 _
        have h0 := hX ▸ heap_alloc_new w _
        obtain ⟨c0, c1, c2, c3, c4, l0⟩ := box5 h0
        have H0 := hide1 h0
        clear hX h0
        go_wp2_with (go_at_call 16; refine (kM _).out.mono ?_; rintro e w1 ⟨rfl, hb1⟩; have h1 := (hb1.block _ (lt_heap H0.out)).trans H0.out; obtain ⟨d0, d1, d2, d3, d4, l1⟩ := box5 h1; have HB := hide1 (HX.out.trans (hb1.mono HX.out.size)); clear h1 hb1)
        all_goals (first | (go_quiet (fail); go_wp2) | go_wp2 | skip)
        go_ret3
        exact ⟨by simp only [sz1, sz2, sz3, if_pos HM.out] <;> rfl, by first | exact HB.out | exact HB.out.drew | exact belowN HB.out _⟩
    · clear hm
      go_enter Tryd.func11, Tryd.ntmps11
      go_upto_region 1 with (fail)
      generalize hX : World.alloc w _ = X
      have HX : Hid (Below w.heap.size w X) := by rw [← hX]; exact below1 _
      have h0 := hX ▸ heap_alloc_new w _
      obtain ⟨c0, c1, c2, c3, c4, l0⟩ := box5 h0
      have H0 := hide1 h0
      clear hX h0
      go_wp2_with (go_at_call 16; refine (kM _).out.mono ?_; rintro e w1 ⟨rfl, hb1⟩; have h1 := (hb1.block _ (lt_heap H0.out)).trans H0.out; obtain ⟨d0, d1, d2, d3, d4, l1⟩ := box5 h1; have HB := hide1 (HX.out.trans (hb1.mono HX.out.size)); clear h1 hb1)
      all_goals (first | (go_quiet (fail); go_wp2) | go_wp2 | skip)
      go_ret3
      exact ⟨by simp only [sz1, sz2, sz3, if_pos HM.out] <;> rfl, by first | exact HB.out | exact HB.out.drew | exact belowN HB.out _⟩
    · have e1 := wrap6 h1 h2
      have e2 := wrap6 h2 h3
      have e3 := wrap6 h1 h3
      have e4 := wrap64 (prod6 h1 h2) hm.2.1
      have hpos := hide1 (And.intro h1 (And.intro h2 h3))
      clear hm h1 h2 h3
      go_enter Tryd.func11, Tryd.ntmps11
      go_upto_region 1 with (fail)
      generalize hX : World.alloc w _ = X
      have HX : Hid (Below w.heap.size w X) := by rw [← hX]; exact below1 _
      have h0 := hX ▸ heap_alloc_new w _
      obtain ⟨c0, c1, c2, c3, c4, l0⟩ := box5 h0
      have H0 := hide1 h0
      clear hX h0
      go_wp2_with (go_at_call 16; refine (kM _).out.mono ?_; rintro e w1 ⟨rfl, hb1⟩; have h1 := (hb1.block _ (lt_heap H0.out)).trans H0.out; obtain ⟨d0, d1, d2, d3, d4, l1⟩ := box5 h1; have HB := hide1 (HX.out.trans (hb1.mono HX.out.size)); clear h1 hb1)
      all_goals
        all_goals (first | (go_quiet (fail); go_wp2) | go_wp2 | skip)
        go_ret3
        exact ⟨by simp only [sz1, sz2, sz3, if_pos HM.out] <;> rfl, by first | exact HB.out | exact HB.out.drew | exact belowN HB.out _⟩
  · have HM := hide1 hm
    rw [decide_eq_false hm] at kM
    unfold cls at *
    clear hm
    go_enter Tryd.func11, Tryd.ntmps11
    go_upto_region 1 with (fail)
    generalize hX : World.alloc w _ = X
    have HX : Hid (Below w.heap.size w X) := by rw [← hX]; exact below1 _
    have h0 := hX ▸ heap_alloc_new w _
    obtain ⟨c0, c1, c2, c3, c4, l0⟩ := box5 h0
    have H0 := hide1 h0
    clear hX h0
    go_wp2_with (go_at_call 16; refine (kM _).out.mono ?_; rintro e w1 ⟨rfl, hb1⟩; have h1 := (hb1.block _ (lt_heap H0.out)).trans H0.out; obtain ⟨d0, d1, d2, d3, d4, l1⟩ := box5 h1; have HB := hide1 (HX.out.trans (hb1.mono HX.out.size)); clear h1 hb1)
    all_goals (first | (go_quiet (fail); go_wp2) | go_wp2 | skip)
    go_ret3
    exact ⟨by simp only [sz1, sz2, sz3, if_neg HM.out] <;> rfl, HB.out⟩

set_option maxHeartbeats 1000000 in
theorem transfers_any (k b m q n : Int) (w : World) :
    Calls Tryd.prog 12 #[cls k b m q n] w fun e w' => e = .returned (.tuple #[.int .i64 (tr1 k b m q n), .int .i64 (tr2 k b m q n)]) ∧ Below w.heap.size w w' := by
  have kM := fun w => hide1 (mayBe_any k b m q n w)
  have mx := mixed
  by_cases hm : May k b m q n
  · have HM := hide1 hm
    rw [decide_eq_true hm] at kM
    unfold cls at *
    rcases may_ways hm with ⟨hk, rfl, rfl, rfl⟩ | ⟨rfl, rfl, rfl, rfl, rfl⟩ | ⟨rfl, h1, h2, h3⟩
    · clear hm
      rcases hk with rfl | rfl
      · skip
        go_enter Tryd.func12, Tryd.ntmps12
        go_upto_region 1 with (fail)
        generalize hX : World.alloc w _ = X
        have HX : Hid (Below w.heap.size w X) := by rw [← hX]; exact below1 _
        have h0 := hX ▸ heap_alloc_new w _
        obtain ⟨c0, c1, c2, c3, c4, l0⟩ := box5 h0
        have H0 := hide1 h0
        clear hX h0
        go_wp2_with (go_at_call 16; refine (kM _).out.mono ?_; rintro e w1 ⟨rfl, hb1⟩; have h1 := (hb1.block _ (lt_heap H0.out)).trans H0.out; obtain ⟨d0, d1, d2, d3, d4, l1⟩ := box5 h1; have HB := hide1 (HX.out.trans (hb1.mono HX.out.size)); clear h1 hb1)
        all_goals (first | (go_quiet (fail); go_wp2) | go_wp2 | skip)
        go_ret2
        exact ⟨by simp only [tr1, tr2, if_pos HM.out] <;> rfl, by first | exact HB.out | exact HB.out.drew | exact belowN HB.out _⟩
      · skip
        go_enter Tryd.func12, Tryd.ntmps12
        go_upto_region 1 with (fail)
        generalize hX : World.alloc w _ = X
        have HX : Hid (Below w.heap.size w X) := by rw [← hX]; exact below1 _
        have h0 := hX ▸ heap_alloc_new w _
        obtain ⟨c0, c1, c2, c3, c4, l0⟩ := box5 h0
        have H0 := hide1 h0
        clear hX h0
        go_wp2_with (go_at_call 16; refine (kM _).out.mono ?_; rintro e w1 ⟨rfl, hb1⟩; have h1 := (hb1.block _ (lt_heap H0.out)).trans H0.out; obtain ⟨d0, d1, d2, d3, d4, l1⟩ := box5 h1; have HB := hide1 (HX.out.trans (hb1.mono HX.out.size)); clear h1 hb1)
        all_goals (first | (go_quiet (fail); go_wp2) | go_wp2 | skip)
        go_ret2
        exact ⟨by simp only [tr1, tr2, if_pos HM.out] <;> rfl, by first | exact HB.out | exact HB.out.drew | exact belowN HB.out _⟩
    · clear hm
      go_enter Tryd.func12, Tryd.ntmps12
      go_upto_region 1 with (fail)
      generalize hX : World.alloc w _ = X
      have HX : Hid (Below w.heap.size w X) := by rw [← hX]; exact below1 _
      have h0 := hX ▸ heap_alloc_new w _
      obtain ⟨c0, c1, c2, c3, c4, l0⟩ := box5 h0
      have H0 := hide1 h0
      clear hX h0
      go_wp2_with (go_at_call 16; refine (kM _).out.mono ?_; rintro e w1 ⟨rfl, hb1⟩; have h1 := (hb1.block _ (lt_heap H0.out)).trans H0.out; obtain ⟨d0, d1, d2, d3, d4, l1⟩ := box5 h1; have HB := hide1 (HX.out.trans (hb1.mono HX.out.size)); clear h1 hb1)
      all_goals (first | (go_quiet (fail); go_wp2) | go_wp2 | skip)
      go_ret2
      exact ⟨by simp only [tr1, tr2, if_pos HM.out] <;> rfl, by first | exact HB.out | exact HB.out.drew | exact belowN HB.out _⟩
    · have e1 := wrap6 h1 h2
      have e2 := wrap6 h2 h3
      have e3 := wrap6 h1 h3
      have e4 := wrap64 (prod6 h1 h2) hm.2.1
      have hpos := hide1 (And.intro h1 (And.intro h2 h3))
      clear hm h1 h2 h3
      go_enter Tryd.func12, Tryd.ntmps12
      go_upto_region 1 with (fail)
      generalize hX : World.alloc w _ = X
      have HX : Hid (Below w.heap.size w X) := by rw [← hX]; exact below1 _
      have h0 := hX ▸ heap_alloc_new w _
      obtain ⟨c0, c1, c2, c3, c4, l0⟩ := box5 h0
      have H0 := hide1 h0
      clear hX h0
      go_wp2_with (go_at_call 16; refine (kM _).out.mono ?_; rintro e w1 ⟨rfl, hb1⟩; have h1 := (hb1.block _ (lt_heap H0.out)).trans H0.out; obtain ⟨d0, d1, d2, d3, d4, l1⟩ := box5 h1; have HB := hide1 (HX.out.trans (hb1.mono HX.out.size)); clear h1 hb1)
      all_goals
        all_goals (first | (go_quiet (fail); go_wp2) | go_wp2 | skip)
        go_ret2
        exact ⟨by simp only [tr1, tr2, if_pos HM.out] <;> rfl, by first | exact HB.out | exact HB.out.drew | exact belowN HB.out _⟩
  · have HM := hide1 hm
    rw [decide_eq_false hm] at kM
    unfold cls at *
    clear hm
    go_enter Tryd.func12, Tryd.ntmps12
    go_upto_region 1 with (fail)
    generalize hX : World.alloc w _ = X
    have HX : Hid (Below w.heap.size w X) := by rw [← hX]; exact below1 _
    have h0 := hX ▸ heap_alloc_new w _
    obtain ⟨c0, c1, c2, c3, c4, l0⟩ := box5 h0
    have H0 := hide1 h0
    clear hX h0
    go_wp2_with (go_at_call 16; refine (kM _).out.mono ?_; rintro e w1 ⟨rfl, hb1⟩; have h1 := (hb1.block _ (lt_heap H0.out)).trans H0.out; obtain ⟨d0, d1, d2, d3, d4, l1⟩ := box5 h1; have HB := hide1 (HX.out.trans (hb1.mono HX.out.size)); clear h1 hb1)
    all_goals (first | (go_quiet (fail); go_wp2) | go_wp2 | skip)
    go_ret2
    exact ⟨by simp only [tr1, tr2, if_neg HM.out] <;> rfl, HB.out⟩

end Go.Proofs.YtnkdbkhgfakjaaaDoor
