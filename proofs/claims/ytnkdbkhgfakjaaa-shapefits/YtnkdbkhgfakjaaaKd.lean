/- The document's Sizes, Widths, Transfers; Words. -/
import Derived.Test.YtnkdbkhgfakjaaaKc
namespace Go.Proofs.Ytnkdbkhgfakjaaa
open Go.RowKit
set_option maxRecDepth 100000
attribute [local go_sem] not_any mf_any

/- three numbers in a new block -/
structure Tri (w w' : World) (e : Ending) (x y z : Int) : Prop where
  out : ∃ g, e = .returned (.slice (some ⟨g, 0, none⟩) 3 3) ∧ w'.heap[g]? = some (.cells #[.int .i64 x, .int .i64 y, .int .i64 z] 3 (0, 0)) ∧ w.heap.size ≤ g ∧ Below w.heap.size w w'
theorem tri_cells {w : World} {g : Nat} {x y z : Value} {t : TypeId} (h : w.heap[g]? = some (.cells #[x, y, z] t (0, 0))) :
    w.cell? ⟨g, 0, none⟩ = some x ∧ w.cell? ⟨g, 1, none⟩ = some y ∧ w.cell? ⟨g, 2, none⟩ = some z ∧ g < w.heap.size :=
  ⟨by rw [cell_of_row w g 0 _ _ _ h]; rfl, by rw [cell_of_row w g 1 _ _ _ h]; rfl, by rw [cell_of_row w g 2 _ _ _ h]; rfl, lt_heap h⟩

set_option maxHeartbeats 1000000 in
theorem rsizes_any (k b m q n : Int) (w : World) :
    Calls Try.prog 7 #[cls k b m q n] w fun e w' => Tri w w' e (sz1 k b m q n) (sz2 k b m q n) (sz3 k b m q n) := by
  have kM := fun w => hide1 (rcheck_any k b m q n w)
  have mx := mixed
  by_cases hm : May k b m q n
  · have HM := hide1 hm
    rw [chk_ok hm] at kM
    unfold cls at *
    rcases may_ways hm with ⟨hk, rfl, rfl, rfl⟩ | ⟨rfl, rfl, rfl, rfl, rfl⟩ | ⟨rfl, h1, h2, h3⟩
    · clear hm
      rcases hk with rfl | rfl
      · skip
        go_enter Try.func7, Try.ntmps7
        go_upto_region 1 with (fail)
        generalize hX : World.alloc w _ = X
        have HX : Hid (Below w.heap.size w X) := by rw [← hX]; exact below1 _
        have h0 := hX ▸ heap_alloc_new w _
        obtain ⟨c0, c1, c2, c3, c4, l0⟩ := box5 h0
        have H0 := hide1 h0
        clear hX h0
        go_wp2_with (go_at_call 13; refine (kM _).out.mono ?_; rintro e w1 ⟨rfl, hb1⟩; have h1 := (hb1.block _ (lt_heap H0.out)).trans H0.out; obtain ⟨d0, d1, d2, d3, d4, l1⟩ := box5 h1; have HB := hide1 (HX.out.trans (hb1.mono HX.out.size)); clear h1 hb1)
        all_goals (first | (go_quiet (fail); go_wp2) | go_wp2 | skip)
        go_ret
        refine ⟨⟨_, rfl, by simp only [sz1, sz2, sz3, if_pos HM.out] <;> first | exact heap_alloc_new _ _ | exact heap_alloc_new (World.drew w1) _, by have := HB.out.size; first | exact this | (simp; exact this), ?_⟩⟩
        exact HB.out.alloc HB.out.size _
      · skip
        go_enter Try.func7, Try.ntmps7
        go_upto_region 1 with (fail)
        generalize hX : World.alloc w _ = X
        have HX : Hid (Below w.heap.size w X) := by rw [← hX]; exact below1 _
        have h0 := hX ▸ heap_alloc_new w _
        obtain ⟨c0, c1, c2, c3, c4, l0⟩ := box5 h0
        have H0 := hide1 h0
        clear hX h0
        go_wp2_with (go_at_call 13; refine (kM _).out.mono ?_; rintro e w1 ⟨rfl, hb1⟩; have h1 := (hb1.block _ (lt_heap H0.out)).trans H0.out; obtain ⟨d0, d1, d2, d3, d4, l1⟩ := box5 h1; have HB := hide1 (HX.out.trans (hb1.mono HX.out.size)); clear h1 hb1)
        all_goals (first | (go_quiet (fail); go_wp2) | go_wp2 | skip)
        go_ret
        refine ⟨⟨_, rfl, by simp only [sz1, sz2, sz3, if_pos HM.out] <;> first | exact heap_alloc_new _ _ | exact heap_alloc_new (World.drew w1) _, by have := HB.out.size; first | exact this | (simp; exact this), ?_⟩⟩
        exact HB.out.alloc HB.out.size _
    · clear hm
      go_enter Try.func7, Try.ntmps7
      go_upto_region 1 with (fail)
      generalize hX : World.alloc w _ = X
      have HX : Hid (Below w.heap.size w X) := by rw [← hX]; exact below1 _
      have h0 := hX ▸ heap_alloc_new w _
      obtain ⟨c0, c1, c2, c3, c4, l0⟩ := box5 h0
      have H0 := hide1 h0
      clear hX h0
      go_wp2_with (go_at_call 13; refine (kM _).out.mono ?_; rintro e w1 ⟨rfl, hb1⟩; have h1 := (hb1.block _ (lt_heap H0.out)).trans H0.out; obtain ⟨d0, d1, d2, d3, d4, l1⟩ := box5 h1; have HB := hide1 (HX.out.trans (hb1.mono HX.out.size)); clear h1 hb1)
      all_goals (first | (go_quiet (fail); go_wp2) | go_wp2 | skip)
      go_ret
      refine ⟨⟨_, rfl, by simp only [sz1, sz2, sz3, if_pos HM.out] <;> first | exact heap_alloc_new _ _ | exact heap_alloc_new (World.drew w1) _, by have := HB.out.size; first | exact this | (simp; exact this), ?_⟩⟩
      exact HB.out.alloc HB.out.size _
    · have e1 := wrap6 h1 h2
      have e2 := wrap6 h2 h3
      have e3 := wrap6 h1 h3
      have e4 := wrap64 (prod6 h1 h2) hm.2.1
      have hpos := hide1 (And.intro h1 (And.intro h2 h3))
      clear hm h1 h2 h3
      go_enter Try.func7, Try.ntmps7
      go_upto_region 1 with (fail)
      generalize hX : World.alloc w _ = X
      have HX : Hid (Below w.heap.size w X) := by rw [← hX]; exact below1 _
      have h0 := hX ▸ heap_alloc_new w _
      obtain ⟨c0, c1, c2, c3, c4, l0⟩ := box5 h0
      have H0 := hide1 h0
      clear hX h0
      go_wp2_with (go_at_call 13; refine (kM _).out.mono ?_; rintro e w1 ⟨rfl, hb1⟩; have h1 := (hb1.block _ (lt_heap H0.out)).trans H0.out; obtain ⟨d0, d1, d2, d3, d4, l1⟩ := box5 h1; have HB := hide1 (HX.out.trans (hb1.mono HX.out.size)); clear h1 hb1)
      all_goals (first | (go_quiet (fail); go_wp2) | go_wp2 | skip)
      all_goals
        go_ret
        refine ⟨⟨_, rfl, by simp only [sz1, sz2, sz3, if_pos HM.out] <;> first | exact heap_alloc_new _ _ | exact heap_alloc_new (World.drew w1) _, by have := HB.out.size; first | exact this | (simp; exact this), ?_⟩⟩
        exact HB.out.alloc HB.out.size _
  · have HM := hide1 hm
    have hne := chk_not hm
    have hnb : (chk k b m q n != 0) = true := by simpa using hne
    generalize chk k b m q n = c at *
    unfold cls at *
    clear hm
    go_enter Try.func7, Try.ntmps7
    go_upto_region 1 with (fail)
    generalize hX : World.alloc w _ = X
    have HX : Hid (Below w.heap.size w X) := by rw [← hX]; exact below1 _
    have h0 := hX ▸ heap_alloc_new w _
    obtain ⟨c0, c1, c2, c3, c4, l0⟩ := box5 h0
    have H0 := hide1 h0
    clear hX h0
    go_wp2_with (go_at_call 13; refine (kM _).out.mono ?_; rintro e w1 ⟨rfl, hb1⟩; have h1 := (hb1.block _ (lt_heap H0.out)).trans H0.out; obtain ⟨d0, d1, d2, d3, d4, l1⟩ := box5 h1; have HB := hide1 (HX.out.trans (hb1.mono HX.out.size)); clear h1 hb1)
    all_goals (first | (go_quiet (fail); go_wp2) | go_wp2 | skip)
    go_ret
    refine ⟨⟨_, rfl, by simp only [sz1, sz2, sz3, if_neg HM.out] <;> first | exact heap_alloc_new _ _ | exact heap_alloc_new (World.drew w1) _, by have := HB.out.size; first | exact this | (simp; exact this), ?_⟩⟩
    exact HB.out.alloc HB.out.size _

set_option maxHeartbeats 1000000 in
theorem rwidths_any (k b m q n : Int) (w : World) :
    Calls Try.prog 9 #[cls k b m q n] w fun e w' => Tri w w' e (wd1 k b m q n) (wd2 k b m q n) (wd2 k b m q n) := by
  have kM := fun w => hide1 (rcheck_any k b m q n w)
  have mx := mixed
  by_cases hm : May k b m q n
  · have HM := hide1 hm
    rw [chk_ok hm] at kM
    unfold cls at *
    rcases may_ways hm with ⟨hk, rfl, rfl, rfl⟩ | ⟨rfl, rfl, rfl, rfl, rfl⟩ | ⟨rfl, h1, h2, h3⟩
    · clear hm
      rcases hk with rfl | rfl
      · skip
        go_enter Try.func9, Try.ntmps9
        go_upto_region 1 with (fail)
        generalize hX : World.alloc w _ = X
        have HX : Hid (Below w.heap.size w X) := by rw [← hX]; exact below1 _
        have h0 := hX ▸ heap_alloc_new w _
        obtain ⟨c0, c1, c2, c3, c4, l0⟩ := box5 h0
        have H0 := hide1 h0
        clear hX h0
        go_wp2_with (go_at_call 13; refine (kM _).out.mono ?_; rintro e w1 ⟨rfl, hb1⟩; have h1 := (hb1.block _ (lt_heap H0.out)).trans H0.out; obtain ⟨d0, d1, d2, d3, d4, l1⟩ := box5 h1; have HB := hide1 (HX.out.trans (hb1.mono HX.out.size)); clear h1 hb1)
        all_goals (first | (go_quiet (fail); go_wp2) | go_wp2 | skip)
        go_ret
        refine ⟨⟨_, rfl, by simp only [wd1, wd2, if_pos HM.out] <;> first | exact heap_alloc_new _ _ | exact heap_alloc_new (World.drew w1) _, by have := HB.out.size; first | exact this | (simp; exact this), ?_⟩⟩
        exact HB.out.alloc HB.out.size _
      · skip
        go_enter Try.func9, Try.ntmps9
        go_upto_region 1 with (fail)
        generalize hX : World.alloc w _ = X
        have HX : Hid (Below w.heap.size w X) := by rw [← hX]; exact below1 _
        have h0 := hX ▸ heap_alloc_new w _
        obtain ⟨c0, c1, c2, c3, c4, l0⟩ := box5 h0
        have H0 := hide1 h0
        clear hX h0
        go_wp2_with (go_at_call 13; refine (kM _).out.mono ?_; rintro e w1 ⟨rfl, hb1⟩; have h1 := (hb1.block _ (lt_heap H0.out)).trans H0.out; obtain ⟨d0, d1, d2, d3, d4, l1⟩ := box5 h1; have HB := hide1 (HX.out.trans (hb1.mono HX.out.size)); clear h1 hb1)
        all_goals (first | (go_quiet (fail); go_wp2) | go_wp2 | skip)
        go_ret
        refine ⟨⟨_, rfl, by simp only [wd1, wd2, if_pos HM.out] <;> first | exact heap_alloc_new _ _ | exact heap_alloc_new (World.drew w1) _, by have := HB.out.size; first | exact this | (simp; exact this), ?_⟩⟩
        exact HB.out.alloc HB.out.size _
    · clear hm
      go_enter Try.func9, Try.ntmps9
      go_upto_region 1 with (fail)
      generalize hX : World.alloc w _ = X
      have HX : Hid (Below w.heap.size w X) := by rw [← hX]; exact below1 _
      have h0 := hX ▸ heap_alloc_new w _
      obtain ⟨c0, c1, c2, c3, c4, l0⟩ := box5 h0
      have H0 := hide1 h0
      clear hX h0
      go_wp2_with (go_at_call 13; refine (kM _).out.mono ?_; rintro e w1 ⟨rfl, hb1⟩; have h1 := (hb1.block _ (lt_heap H0.out)).trans H0.out; obtain ⟨d0, d1, d2, d3, d4, l1⟩ := box5 h1; have HB := hide1 (HX.out.trans (hb1.mono HX.out.size)); clear h1 hb1)
      all_goals (first | (go_quiet (fail); go_wp2) | go_wp2 | skip)
      go_ret
      refine ⟨⟨_, rfl, by simp only [wd1, wd2, if_pos HM.out] <;> first | exact heap_alloc_new _ _ | exact heap_alloc_new (World.drew w1) _, by have := HB.out.size; first | exact this | (simp; exact this), ?_⟩⟩
      exact HB.out.alloc HB.out.size _
    · have e1 := wrap6 h1 h2
      have e2 := wrap6 h2 h3
      have e3 := wrap6 h1 h3
      have e4 := wrap64 (prod6 h1 h2) hm.2.1
      have hpos := hide1 (And.intro h1 (And.intro h2 h3))
      clear hm h1 h2 h3
      go_enter Try.func9, Try.ntmps9
      go_upto_region 1 with (fail)
      generalize hX : World.alloc w _ = X
      have HX : Hid (Below w.heap.size w X) := by rw [← hX]; exact below1 _
      have h0 := hX ▸ heap_alloc_new w _
      obtain ⟨c0, c1, c2, c3, c4, l0⟩ := box5 h0
      have H0 := hide1 h0
      clear hX h0
      go_wp2_with (go_at_call 13; refine (kM _).out.mono ?_; rintro e w1 ⟨rfl, hb1⟩; have h1 := (hb1.block _ (lt_heap H0.out)).trans H0.out; obtain ⟨d0, d1, d2, d3, d4, l1⟩ := box5 h1; have HB := hide1 (HX.out.trans (hb1.mono HX.out.size)); clear h1 hb1)
      all_goals (first | (go_quiet (fail); go_wp2) | go_wp2 | skip)
      all_goals
        go_ret
        refine ⟨⟨_, rfl, by simp only [wd1, wd2, if_pos HM.out] <;> first | exact heap_alloc_new _ _ | exact heap_alloc_new (World.drew w1) _, by have := HB.out.size; first | exact this | (simp; exact this), ?_⟩⟩
        exact HB.out.alloc HB.out.size _
  · have HM := hide1 hm
    have hne := chk_not hm
    have hnb : (chk k b m q n != 0) = true := by simpa using hne
    generalize chk k b m q n = c at *
    unfold cls at *
    clear hm
    go_enter Try.func9, Try.ntmps9
    go_upto_region 1 with (fail)
    generalize hX : World.alloc w _ = X
    have HX : Hid (Below w.heap.size w X) := by rw [← hX]; exact below1 _
    have h0 := hX ▸ heap_alloc_new w _
    obtain ⟨c0, c1, c2, c3, c4, l0⟩ := box5 h0
    have H0 := hide1 h0
    clear hX h0
    go_wp2_with (go_at_call 13; refine (kM _).out.mono ?_; rintro e w1 ⟨rfl, hb1⟩; have h1 := (hb1.block _ (lt_heap H0.out)).trans H0.out; obtain ⟨d0, d1, d2, d3, d4, l1⟩ := box5 h1; have HB := hide1 (HX.out.trans (hb1.mono HX.out.size)); clear h1 hb1)
    all_goals (first | (go_quiet (fail); go_wp2) | go_wp2 | skip)
    go_ret
    refine ⟨⟨_, rfl, by simp only [wd1, wd2, if_neg HM.out] <;> first | exact heap_alloc_new _ _ | exact heap_alloc_new (World.drew w1) _, by have := HB.out.size; first | exact this | (simp; exact this), ?_⟩⟩
    exact HB.out.alloc HB.out.size _

set_option maxHeartbeats 1000000 in
theorem rtransfers_any (k b m q n : Int) (w : World) :
    Calls Try.prog 11 #[cls k b m q n] w fun e w' => e = .returned (.tuple #[.int .i64 (tr1 k b m q n), .int .i64 (tr2 k b m q n)]) ∧ Below w.heap.size w w' := by
  have kM := fun w => hide1 (rcheck_any k b m q n w)
  have mx := mixed
  by_cases hm : May k b m q n
  · have HM := hide1 hm
    rw [chk_ok hm] at kM
    unfold cls at *
    rcases may_ways hm with ⟨hk, rfl, rfl, rfl⟩ | ⟨rfl, rfl, rfl, rfl, rfl⟩ | ⟨rfl, h1, h2, h3⟩
    · clear hm
      rcases hk with rfl | rfl
      · skip
        go_enter Try.func11, Try.ntmps11
        go_upto_region 1 with (fail)
        generalize hX : World.alloc w _ = X
        have HX : Hid (Below w.heap.size w X) := by rw [← hX]; exact below1 _
        have h0 := hX ▸ heap_alloc_new w _
        obtain ⟨c0, c1, c2, c3, c4, l0⟩ := box5 h0
        have H0 := hide1 h0
        clear hX h0
        go_wp2_with (go_at_call 13; refine (kM _).out.mono ?_; rintro e w1 ⟨rfl, hb1⟩; have h1 := (hb1.block _ (lt_heap H0.out)).trans H0.out; obtain ⟨d0, d1, d2, d3, d4, l1⟩ := box5 h1; have HB := hide1 (HX.out.trans (hb1.mono HX.out.size)); clear h1 hb1)
        all_goals (first | (go_quiet (fail); go_wp2) | go_wp2 | skip)
        go_ret2
        exact ⟨by simp only [tr1, tr2, if_pos HM.out] <;> rfl, by first | exact HB.out | exact HB.out.drew | exact belowN HB.out _⟩
      · skip
        go_enter Try.func11, Try.ntmps11
        go_upto_region 1 with (fail)
        generalize hX : World.alloc w _ = X
        have HX : Hid (Below w.heap.size w X) := by rw [← hX]; exact below1 _
        have h0 := hX ▸ heap_alloc_new w _
        obtain ⟨c0, c1, c2, c3, c4, l0⟩ := box5 h0
        have H0 := hide1 h0
        clear hX h0
        go_wp2_with (go_at_call 13; refine (kM _).out.mono ?_; rintro e w1 ⟨rfl, hb1⟩; have h1 := (hb1.block _ (lt_heap H0.out)).trans H0.out; obtain ⟨d0, d1, d2, d3, d4, l1⟩ := box5 h1; have HB := hide1 (HX.out.trans (hb1.mono HX.out.size)); clear h1 hb1)
        all_goals (first | (go_quiet (fail); go_wp2) | go_wp2 | skip)
        go_ret2
        exact ⟨by simp only [tr1, tr2, if_pos HM.out] <;> rfl, by first | exact HB.out | exact HB.out.drew | exact belowN HB.out _⟩
    · clear hm
      go_enter Try.func11, Try.ntmps11
      go_upto_region 1 with (fail)
      generalize hX : World.alloc w _ = X
      have HX : Hid (Below w.heap.size w X) := by rw [← hX]; exact below1 _
      have h0 := hX ▸ heap_alloc_new w _
      obtain ⟨c0, c1, c2, c3, c4, l0⟩ := box5 h0
      have H0 := hide1 h0
      clear hX h0
      go_wp2_with (go_at_call 13; refine (kM _).out.mono ?_; rintro e w1 ⟨rfl, hb1⟩; have h1 := (hb1.block _ (lt_heap H0.out)).trans H0.out; obtain ⟨d0, d1, d2, d3, d4, l1⟩ := box5 h1; have HB := hide1 (HX.out.trans (hb1.mono HX.out.size)); clear h1 hb1)
      all_goals (first | (go_quiet (fail); go_wp2) | go_wp2 | skip)
      go_ret2
      exact ⟨by simp only [tr1, tr2, if_pos HM.out] <;> rfl, by first | exact HB.out | exact HB.out.drew | exact belowN HB.out _⟩
    · have e1 := wrap6 h1 h2
      have e2 := wrap6 h2 h3
      have e3 := wrap6 h1 h3
      have e4 := wrap64 (prod6 h1 h2) hm.2.1
      have hpos := hide1 (And.intro h1 (And.intro h2 h3))
      clear hm h1 h2 h3
      go_enter Try.func11, Try.ntmps11
      go_upto_region 1 with (fail)
      generalize hX : World.alloc w _ = X
      have HX : Hid (Below w.heap.size w X) := by rw [← hX]; exact below1 _
      have h0 := hX ▸ heap_alloc_new w _
      obtain ⟨c0, c1, c2, c3, c4, l0⟩ := box5 h0
      have H0 := hide1 h0
      clear hX h0
      go_wp2_with (go_at_call 13; refine (kM _).out.mono ?_; rintro e w1 ⟨rfl, hb1⟩; have h1 := (hb1.block _ (lt_heap H0.out)).trans H0.out; obtain ⟨d0, d1, d2, d3, d4, l1⟩ := box5 h1; have HB := hide1 (HX.out.trans (hb1.mono HX.out.size)); clear h1 hb1)
      all_goals (first | (go_quiet (fail); go_wp2) | go_wp2 | skip)
      all_goals
        go_ret2
        exact ⟨by simp only [tr1, tr2, if_pos HM.out] <;> rfl, by first | exact HB.out | exact HB.out.drew | exact belowN HB.out _⟩
  · have HM := hide1 hm
    have hne := chk_not hm
    have hnb : (chk k b m q n != 0) = true := by simpa using hne
    generalize chk k b m q n = c at *
    unfold cls at *
    clear hm
    go_enter Try.func11, Try.ntmps11
    go_upto_region 1 with (fail)
    generalize hX : World.alloc w _ = X
    have HX : Hid (Below w.heap.size w X) := by rw [← hX]; exact below1 _
    have h0 := hX ▸ heap_alloc_new w _
    obtain ⟨c0, c1, c2, c3, c4, l0⟩ := box5 h0
    have H0 := hide1 h0
    clear hX h0
    go_wp2_with (go_at_call 13; refine (kM _).out.mono ?_; rintro e w1 ⟨rfl, hb1⟩; have h1 := (hb1.block _ (lt_heap H0.out)).trans H0.out; obtain ⟨d0, d1, d2, d3, d4, l1⟩ := box5 h1; have HB := hide1 (HX.out.trans (hb1.mono HX.out.size)); clear h1 hb1)
    all_goals (first | (go_quiet (fail); go_wp2) | go_wp2 | skip)
    go_ret2
    exact ⟨by simp only [tr1, tr2, if_neg HM.out] <;> rfl, by first | exact HB.out | exact HB.out.drew | exact belowN HB.out _⟩

end Go.Proofs.Ytnkdbkhgfakjaaa
