/- ShapeBack: the walk. -/
import Derived.Test.YtnkdbkhgfakjaaaDoorNc
namespace Go.Proofs.YtnkdbkhgfakjaaaDoor
open Go.RowKit
set_option maxRecDepth 100000
attribute [local go_sem] not_any mf_any

theorem nameB_size (k b m q n : Int) : (nameB k b m q n).size ≤ 281474976710656 := by
  have := (digB_size b.toNat).1
  have := (digB_size m.toNat).1
  have := (digB_size q.toNat).1
  have := (digB_size n.toNat).1
  have e : ∀ c : UInt8, (⟨#[c]⟩ : ByteArray).size = 1 := fun _ => rfl
  unfold nameB
  split
  · split
    · rw [ByteArray.size_append, e]; omega
    · split
      · simp only [ByteArray.size_append, e]; omega
      · split
        · rw [e]; omega
        · rw [ByteArray.size_append, e]; omega
  · rw [e]; omega

theorem back_far (w : World) (k b m q n : Int) (s : ByteArray) (h : 200 < s.size) :
    Calls Tryd.prog 4 #[cls k b m q n, .string s] w fun e w' => e = .returned (.bool true) ∧ Below w.heap.size w w' := by
  have kA := fun w => hide1 (awake9_any w)
  have h1 : (200 : Int) < (s.size : Int) := by omega
  unfold cls
  go_enter Tryd.func4, Tryd.ntmps4
  go_wp2_with fail
  refine (kA _).out.mono ?_
  rintro e w1 ⟨rfl, hb⟩
  have H := hide1 ((below1 _).trans (hb.mono (below1 _).size))
  clear hb
  go_wp2
  go_ret
  exact ⟨rfl, H.out⟩

set_option maxHeartbeats 4000000 in
theorem back_mz (w : World) (k b m q n : Int) (s : ByteArray) (c : Cl) (f : Int) (hs : s.size ≤ 200) (hm : May k b m q n) (hp : parP (bs s) = (c, f)) (hf : f = 0) :
    Calls Tryd.prog 4 #[cls k b m q n, .string s] w fun e w' => e = .returned (.bool true) ∧ Below w.heap.size w w' := by
  have kA := fun w => hide1 (awake9_any w)
  have h1 : ¬ (200 : Int) < (s.size : Int) := by omega
  have kN := fun w => hide1 (name_any k b m q n w)
  have kP := fun w => hide1 (parse_any (nameB k b m q n) w (nameB_size k b m q n))
  have kQ := fun w => hide1 (parse_any s w (by omega))
  have kC := fun w => hide1 (rcheck_any k b m q n w)
  rw [back1 hm] at kP
  rw [hp] at kQ
  rw [chk_ok hm] at kC
  subst hf
  have kR := fun w => hide1 (name_any c.k c.b c.m c.q c.n w)
  rw [back3 hp] at kR
  generalize nameB k b m q n = t at *
  obtain ⟨ck, cb, cm, cq, cn⟩ := c
  clear hm hp hs
  simp only [Cl.v, cls] at *
  go_enter Tryd.func4, Tryd.ntmps4
  go_upto_region 3 with (fail)
  generalize hX : World.alloc w _ = X
  have HX : Hid (Below w.heap.size w X) := by rw [← hX]; exact below1 _
  have H0 := hide1 (hX ▸ heap_alloc_new w _)
  obtain ⟨b1, hb1⟩ : ∃ b, w.heap.size = b := ⟨_, rfl⟩
  rw [hb1] at H0 ⊢
  clear hX hb1
  obtain ⟨d0, d1, d2, d3, d4, l1⟩ := box5 H0.out
  go_wp2_with fail
  refine (kN _).out.mono ?_
  rintro e w1 ⟨rfl, hb⟩
  have H1 := hide1 ((hb.block _ (lt_heap H0.out)).trans H0.out)
  have X1 := hide1 (HX.out.trans (hb.mono HX.out.size))
  clear hb H0 HX d0 d1 d2 d3 d4 l1
  go_wp2_with fail
  refine (kP _).out.mono ?_
  rintro e w2 ⟨rfl, hb⟩
  have H2 := hide1 ((hb.block _ (lt_heap H1.out)).trans H1.out)
  have X2 := hide1 (X1.out.trans (hb.mono X1.out.size))
  clear hb H1 X1
  go_upto_region 4 with (fail)
  generalize hX : World.alloc w2 _ = X
  have X3 : Hid (Below w.heap.size w X) := by rw [← hX]; exact X2.out.alloc X2.out.size _
  have H3 := hide1 (hX ▸ (Below.heap_alloc _ _ _ (lt_heap H2.out)).trans H2.out)
  have J3 := hide1 (hX ▸ heap_alloc_new w2 _)
  obtain ⟨b2, hb2⟩ : ∃ b, w2.heap.size = b := ⟨_, rfl⟩
  rw [hb2] at J3 ⊢
  clear hX hb2 H2 X2
  obtain ⟨d0, d1, d2, d3, d4, l1⟩ := box5 H3.out
  go_wp2_with fail
  refine (kC _).out.mono ?_
  rintro e w3 ⟨rfl, hb⟩
  have H4 := hide1 ((hb.block _ (lt_heap H3.out)).trans H3.out)
  have J4 := hide1 ((hb.block _ (lt_heap J3.out)).trans J3.out)
  have X4 := hide1 (X3.out.trans (hb.mono X3.out.size))
  clear hb H3 J3 X3 d0 d1 d2 d3 d4 l1
  obtain ⟨d0, d1, d2, d3, d4, l1⟩ := box5 H4.out
  obtain ⟨g0, g1, g2, g3, g4, l2⟩ := box5 J4.out
  go_wp2_with fail
  refine (kC _).out.mono ?_
  rintro e w4 ⟨rfl, hb⟩
  have X5 := hide1 (X4.out.trans (hb.mono X4.out.size))
  clear hb d0 d1 d2 d3 d4 l1 g0 g1 g2 g3 g4 l2 H4 J4 X4
  go_wp2_with fail
  refine (kQ _).out.mono ?_
  rintro e w5 ⟨rfl, hb⟩
  have X6 := hide1 (X5.out.trans (hb.mono X5.out.size))
  clear hb X5
  go_upto_region 7 with (fail)
  generalize hX : World.alloc w5 _ = X
  have X7 : Hid (Below w.heap.size w X) := by rw [← hX]; exact X6.out.alloc X6.out.size _
  have H7 := hide1 (hX ▸ heap_alloc_new w5 _)
  obtain ⟨b3, hb3⟩ : ∃ b, w5.heap.size = b := ⟨_, rfl⟩
  rw [hb3] at H7 ⊢
  clear hX hb3 X6
  obtain ⟨d0, d1, d2, d3, d4, l1⟩ := box5 H7.out
  go_wp2_with fail
  refine (kR _).out.mono ?_
  rintro e w6 ⟨rfl, hb⟩
  have X8 := hide1 (X7.out.trans (hb.mono X7.out.size))
  clear hb
  go_wp2_with fail
  refine (kA _).out.mono ?_
  rintro e w7 ⟨rfl, hb⟩
  have X9 := hide1 (X8.out.trans (hb.mono X8.out.size))
  clear hb
  go_wp2
  go_ret
  exact ⟨rfl, X9.out⟩

set_option maxHeartbeats 4000000 in
theorem back_me (w : World) (k b m q n : Int) (s : ByteArray) (c : Cl) (f : Int) (hs : s.size ≤ 200) (hm : May k b m q n) (hp : parP (bs s) = (c, f)) (hf : f ≠ 0) :
    Calls Tryd.prog 4 #[cls k b m q n, .string s] w fun e w' => e = .returned (.bool true) ∧ Below w.heap.size w w' := by
  have kA := fun w => hide1 (awake9_any w)
  have h1 : ¬ (200 : Int) < (s.size : Int) := by omega
  have kN := fun w => hide1 (name_any k b m q n w)
  have kP := fun w => hide1 (parse_any (nameB k b m q n) w (nameB_size k b m q n))
  have kQ := fun w => hide1 (parse_any s w (by omega))
  have kC := fun w => hide1 (rcheck_any k b m q n w)
  rw [back1 hm] at kP
  rw [hp] at kQ
  rw [chk_ok hm] at kC
  have hfb : (f != 0) = true := by simpa using hf
  generalize nameB k b m q n = t at *
  obtain ⟨ck, cb, cm, cq, cn⟩ := c
  clear hm hp hs hf
  simp only [Cl.v, cls] at *
  go_enter Tryd.func4, Tryd.ntmps4
  go_upto_region 3 with (fail)
  generalize hX : World.alloc w _ = X
  have HX : Hid (Below w.heap.size w X) := by rw [← hX]; exact below1 _
  have H0 := hide1 (hX ▸ heap_alloc_new w _)
  obtain ⟨b1, hb1⟩ : ∃ b, w.heap.size = b := ⟨_, rfl⟩
  rw [hb1] at H0 ⊢
  clear hX hb1
  obtain ⟨d0, d1, d2, d3, d4, l1⟩ := box5 H0.out
  go_wp2_with fail
  refine (kN _).out.mono ?_
  rintro e w1 ⟨rfl, hb⟩
  have H1 := hide1 ((hb.block _ (lt_heap H0.out)).trans H0.out)
  have X1 := hide1 (HX.out.trans (hb.mono HX.out.size))
  clear hb H0 HX d0 d1 d2 d3 d4 l1
  go_wp2_with fail
  refine (kP _).out.mono ?_
  rintro e w2 ⟨rfl, hb⟩
  have H2 := hide1 ((hb.block _ (lt_heap H1.out)).trans H1.out)
  have X2 := hide1 (X1.out.trans (hb.mono X1.out.size))
  clear hb H1 X1
  go_upto_region 4 with (fail)
  generalize hX : World.alloc w2 _ = X
  have X3 : Hid (Below w.heap.size w X) := by rw [← hX]; exact X2.out.alloc X2.out.size _
  have H3 := hide1 (hX ▸ (Below.heap_alloc _ _ _ (lt_heap H2.out)).trans H2.out)
  have J3 := hide1 (hX ▸ heap_alloc_new w2 _)
  obtain ⟨b2, hb2⟩ : ∃ b, w2.heap.size = b := ⟨_, rfl⟩
  rw [hb2] at J3 ⊢
  clear hX hb2 H2 X2
  obtain ⟨d0, d1, d2, d3, d4, l1⟩ := box5 H3.out
  go_wp2_with fail
  refine (kC _).out.mono ?_
  rintro e w3 ⟨rfl, hb⟩
  have H4 := hide1 ((hb.block _ (lt_heap H3.out)).trans H3.out)
  have J4 := hide1 ((hb.block _ (lt_heap J3.out)).trans J3.out)
  have X4 := hide1 (X3.out.trans (hb.mono X3.out.size))
  clear hb H3 J3 X3 d0 d1 d2 d3 d4 l1
  obtain ⟨d0, d1, d2, d3, d4, l1⟩ := box5 H4.out
  obtain ⟨g0, g1, g2, g3, g4, l2⟩ := box5 J4.out
  go_wp2_with fail
  refine (kC _).out.mono ?_
  rintro e w4 ⟨rfl, hb⟩
  have X5 := hide1 (X4.out.trans (hb.mono X4.out.size))
  clear hb d0 d1 d2 d3 d4 l1 g0 g1 g2 g3 g4 l2 H4 J4 X4
  go_wp2_with fail
  refine (kQ _).out.mono ?_
  rintro e w5 ⟨rfl, hb⟩
  have X6 := hide1 (X5.out.trans (hb.mono X5.out.size))
  clear hb X5
  go_upto_region 7 with (fail)
  generalize hX : World.alloc w5 _ = X
  have X7 : Hid (Below w.heap.size w X) := by rw [← hX]; exact X6.out.alloc X6.out.size _
  have H7 := hide1 (hX ▸ heap_alloc_new w5 _)
  obtain ⟨b3, hb3⟩ : ∃ b, w5.heap.size = b := ⟨_, rfl⟩
  rw [hb3] at H7 ⊢
  clear hX hb3 X6
  obtain ⟨d0, d1, d2, d3, d4, l1⟩ := box5 H7.out
  go_wp2_with fail
  refine (kA _).out.mono ?_
  rintro e w7 ⟨rfl, hb⟩
  have X9 := hide1 (X7.out.trans (hb.mono X7.out.size))
  clear hb
  go_wp2
  go_ret
  exact ⟨rfl, X9.out⟩

set_option maxHeartbeats 4000000 in
theorem back_nz (w : World) (k b m q n : Int) (s : ByteArray) (c : Cl) (f : Int) (hs : s.size ≤ 200) (hm : ¬ May k b m q n) (hp : parP (bs s) = (c, f)) (hf : f = 0) :
    Calls Tryd.prog 4 #[cls k b m q n, .string s] w fun e w' => e = .returned (.bool true) ∧ Below w.heap.size w w' := by
  have kA := fun w => hide1 (awake9_any w)
  have h1 : ¬ (200 : Int) < (s.size : Int) := by omega
  have kN := fun w => hide1 (name_any k b m q n w)
  have kP := fun w => hide1 (parse_any (nameB k b m q n) w (nameB_size k b m q n))
  have kQ := fun w => hide1 (parse_any s w (by omega))
  have kC := fun w => hide1 (rcheck_any k b m q n w)
  rw [back2 hm] at kP
  rw [hp] at kQ
  have hne : (chk k b m q n != 0) = true := by simpa using chk_not hm
  have hne' : (chk k b m q n == 0) = false := by simpa using chk_not hm
  generalize chk k b m q n = x at *
  subst hf
  have kR := fun w => hide1 (name_any c.k c.b c.m c.q c.n w)
  rw [back3 hp] at kR
  generalize nameB k b m q n = t at *
  obtain ⟨ck, cb, cm, cq, cn⟩ := c
  clear hm hp hs
  simp only [Cl.v, cls, Cl.zero] at *
  go_enter Tryd.func4, Tryd.ntmps4
  go_upto_region 3 with (fail)
  generalize hX : World.alloc w _ = X
  have HX : Hid (Below w.heap.size w X) := by rw [← hX]; exact below1 _
  have H0 := hide1 (hX ▸ heap_alloc_new w _)
  obtain ⟨b1, hb1⟩ : ∃ b, w.heap.size = b := ⟨_, rfl⟩
  rw [hb1] at H0 ⊢
  clear hX hb1
  obtain ⟨d0, d1, d2, d3, d4, l1⟩ := box5 H0.out
  go_wp2_with fail
  refine (kN _).out.mono ?_
  rintro e w1 ⟨rfl, hb⟩
  have H1 := hide1 ((hb.block _ (lt_heap H0.out)).trans H0.out)
  have X1 := hide1 (HX.out.trans (hb.mono HX.out.size))
  clear hb H0 HX d0 d1 d2 d3 d4 l1
  go_wp2_with fail
  refine (kP _).out.mono ?_
  rintro e w2 ⟨rfl, hb⟩
  have H2 := hide1 ((hb.block _ (lt_heap H1.out)).trans H1.out)
  have X2 := hide1 (X1.out.trans (hb.mono X1.out.size))
  clear hb H1 X1
  go_upto_region 4 with (fail)
  generalize hX : World.alloc w2 _ = X
  have X3 : Hid (Below w.heap.size w X) := by rw [← hX]; exact X2.out.alloc X2.out.size _
  have H3 := hide1 (hX ▸ (Below.heap_alloc _ _ _ (lt_heap H2.out)).trans H2.out)
  have J3 := hide1 (hX ▸ heap_alloc_new w2 _)
  obtain ⟨b2, hb2⟩ : ∃ b, w2.heap.size = b := ⟨_, rfl⟩
  rw [hb2] at J3 ⊢
  clear hX hb2 H2 X2
  obtain ⟨d0, d1, d2, d3, d4, l1⟩ := box5 H3.out
  go_wp2_with fail
  refine (kC _).out.mono ?_
  rintro e w3 ⟨rfl, hb⟩
  have H4 := hide1 ((hb.block _ (lt_heap H3.out)).trans H3.out)
  have J4 := hide1 ((hb.block _ (lt_heap J3.out)).trans J3.out)
  have X4 := hide1 (X3.out.trans (hb.mono X3.out.size))
  clear hb H3 J3 X3 d0 d1 d2 d3 d4 l1
  obtain ⟨d0, d1, d2, d3, d4, l1⟩ := box5 H4.out
  obtain ⟨g0, g1, g2, g3, g4, l2⟩ := box5 J4.out
  go_wp2_with fail
  refine (kC _).out.mono ?_
  rintro e w4 ⟨rfl, hb⟩
  have X5 := hide1 (X4.out.trans (hb.mono X4.out.size))
  clear hb d0 d1 d2 d3 d4 l1 g0 g1 g2 g3 g4 l2 H4 J4 X4
  go_wp2_with fail
  refine (kQ _).out.mono ?_
  rintro e w5 ⟨rfl, hb⟩
  have X6 := hide1 (X5.out.trans (hb.mono X5.out.size))
  clear hb X5
  go_upto_region 7 with (fail)
  generalize hX : World.alloc w5 _ = X
  have X7 : Hid (Below w.heap.size w X) := by rw [← hX]; exact X6.out.alloc X6.out.size _
  have H7 := hide1 (hX ▸ heap_alloc_new w5 _)
  obtain ⟨b3, hb3⟩ : ∃ b, w5.heap.size = b := ⟨_, rfl⟩
  rw [hb3] at H7 ⊢
  clear hX hb3 X6
  obtain ⟨d0, d1, d2, d3, d4, l1⟩ := box5 H7.out
  go_wp2_with fail
  refine (kR _).out.mono ?_
  rintro e w6 ⟨rfl, hb⟩
  have X8 := hide1 (X7.out.trans (hb.mono X7.out.size))
  clear hb
  go_wp2_with fail
  refine (kA _).out.mono ?_
  rintro e w7 ⟨rfl, hb⟩
  have X9 := hide1 (X8.out.trans (hb.mono X8.out.size))
  clear hb
  go_wp2
  go_ret
  exact ⟨rfl, X9.out⟩

set_option maxHeartbeats 4000000 in
theorem back_ne (w : World) (k b m q n : Int) (s : ByteArray) (c : Cl) (f : Int) (hs : s.size ≤ 200) (hm : ¬ May k b m q n) (hp : parP (bs s) = (c, f)) (hf : f ≠ 0) :
    Calls Tryd.prog 4 #[cls k b m q n, .string s] w fun e w' => e = .returned (.bool true) ∧ Below w.heap.size w w' := by
  have kA := fun w => hide1 (awake9_any w)
  have h1 : ¬ (200 : Int) < (s.size : Int) := by omega
  have kN := fun w => hide1 (name_any k b m q n w)
  have kP := fun w => hide1 (parse_any (nameB k b m q n) w (nameB_size k b m q n))
  have kQ := fun w => hide1 (parse_any s w (by omega))
  have kC := fun w => hide1 (rcheck_any k b m q n w)
  rw [back2 hm] at kP
  rw [hp] at kQ
  have hne : (chk k b m q n != 0) = true := by simpa using chk_not hm
  have hne' : (chk k b m q n == 0) = false := by simpa using chk_not hm
  generalize chk k b m q n = x at *
  have hfb : (f != 0) = true := by simpa using hf
  generalize nameB k b m q n = t at *
  obtain ⟨ck, cb, cm, cq, cn⟩ := c
  clear hm hp hs hf
  simp only [Cl.v, cls, Cl.zero] at *
  go_enter Tryd.func4, Tryd.ntmps4
  go_upto_region 3 with (fail)
  generalize hX : World.alloc w _ = X
  have HX : Hid (Below w.heap.size w X) := by rw [← hX]; exact below1 _
  have H0 := hide1 (hX ▸ heap_alloc_new w _)
  obtain ⟨b1, hb1⟩ : ∃ b, w.heap.size = b := ⟨_, rfl⟩
  rw [hb1] at H0 ⊢
  clear hX hb1
  obtain ⟨d0, d1, d2, d3, d4, l1⟩ := box5 H0.out
  go_wp2_with fail
  refine (kN _).out.mono ?_
  rintro e w1 ⟨rfl, hb⟩
  have H1 := hide1 ((hb.block _ (lt_heap H0.out)).trans H0.out)
  have X1 := hide1 (HX.out.trans (hb.mono HX.out.size))
  clear hb H0 HX d0 d1 d2 d3 d4 l1
  go_wp2_with fail
  refine (kP _).out.mono ?_
  rintro e w2 ⟨rfl, hb⟩
  have H2 := hide1 ((hb.block _ (lt_heap H1.out)).trans H1.out)
  have X2 := hide1 (X1.out.trans (hb.mono X1.out.size))
  clear hb H1 X1
  go_upto_region 4 with (fail)
  generalize hX : World.alloc w2 _ = X
  have X3 : Hid (Below w.heap.size w X) := by rw [← hX]; exact X2.out.alloc X2.out.size _
  have H3 := hide1 (hX ▸ (Below.heap_alloc _ _ _ (lt_heap H2.out)).trans H2.out)
  have J3 := hide1 (hX ▸ heap_alloc_new w2 _)
  obtain ⟨b2, hb2⟩ : ∃ b, w2.heap.size = b := ⟨_, rfl⟩
  rw [hb2] at J3 ⊢
  clear hX hb2 H2 X2
  obtain ⟨d0, d1, d2, d3, d4, l1⟩ := box5 H3.out
  go_wp2_with fail
  refine (kC _).out.mono ?_
  rintro e w3 ⟨rfl, hb⟩
  have H4 := hide1 ((hb.block _ (lt_heap H3.out)).trans H3.out)
  have J4 := hide1 ((hb.block _ (lt_heap J3.out)).trans J3.out)
  have X4 := hide1 (X3.out.trans (hb.mono X3.out.size))
  clear hb H3 J3 X3 d0 d1 d2 d3 d4 l1
  obtain ⟨d0, d1, d2, d3, d4, l1⟩ := box5 H4.out
  obtain ⟨g0, g1, g2, g3, g4, l2⟩ := box5 J4.out
  go_wp2_with fail
  refine (kC _).out.mono ?_
  rintro e w4 ⟨rfl, hb⟩
  have X5 := hide1 (X4.out.trans (hb.mono X4.out.size))
  clear hb d0 d1 d2 d3 d4 l1 g0 g1 g2 g3 g4 l2 H4 J4 X4
  go_wp2_with fail
  refine (kQ _).out.mono ?_
  rintro e w5 ⟨rfl, hb⟩
  have X6 := hide1 (X5.out.trans (hb.mono X5.out.size))
  clear hb X5
  go_upto_region 7 with (fail)
  generalize hX : World.alloc w5 _ = X
  have X7 : Hid (Below w.heap.size w X) := by rw [← hX]; exact X6.out.alloc X6.out.size _
  have H7 := hide1 (hX ▸ heap_alloc_new w5 _)
  obtain ⟨b3, hb3⟩ : ∃ b, w5.heap.size = b := ⟨_, rfl⟩
  rw [hb3] at H7 ⊢
  clear hX hb3 X6
  obtain ⟨d0, d1, d2, d3, d4, l1⟩ := box5 H7.out
  go_wp2_with fail
  refine (kA _).out.mono ?_
  rintro e w7 ⟨rfl, hb⟩
  have X9 := hide1 (X7.out.trans (hb.mono X7.out.size))
  clear hb
  go_wp2
  go_ret
  exact ⟨rfl, X9.out⟩

theorem back_all (w : World) (k b m q n : Int) (s : ByteArray) :
    Calls Tryd.prog 4 #[cls k b m q n, .string s] w fun e w' => e = .returned (.bool true) ∧ Below w.heap.size w w' := by
  by_cases h : 200 < s.size
  · exact back_far w k b m q n s h
  obtain ⟨c, f, hp⟩ : ∃ c f, parP (bs s) = (c, f) := ⟨_, _, rfl⟩
  by_cases hm : May k b m q n
  · by_cases hf : f = 0
    · exact back_mz w k b m q n s c f (by omega) hm hp hf
    · exact back_me w k b m q n s c f (by omega) hm hp hf
  · by_cases hf : f = 0
    · exact back_nz w k b m q n s c f (by omega) hm hp hf
    · exact back_ne w k b m q n s c f (by omega) hm hp hf

end Go.Proofs.YtnkdbkhgfakjaaaDoor
