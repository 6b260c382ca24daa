/- ShapeNames holds. -/
import Derived.Test.YtnkdbkhgfakjaaaDoorNk
namespace Go.Proofs.YtnkdbkhgfakjaaaDoor
open Go.RowKit
set_option maxRecDepth 100000
attribute [local go_sem] not_any mf_any

theorem names_far (w : World) (k b m q n : Int) (s : ByteArray) (h : 200 < s.size) :
    Calls Tryd.prog 3 #[cls k b m q n, .string s] w fun e w' => e = .returned (.bool true) ∧ Below w.heap.size w w' := by
  have kA := fun w => hide1 (awake9_any w)
  have h1 : (200 : Int) < (s.size : Int) := by omega
  unfold cls
  go_enter Tryd.func3, Tryd.ntmps3
  go_wp2_with fail
  refine (kA _).out.mono ?_
  rintro e w1 ⟨rfl, hb⟩
  have H := hide1 ((below1 _).trans (hb.mono (below1 _).size))
  clear hb
  go_wp2
  go_ret
  exact ⟨rfl, H.out⟩

set_option maxHeartbeats 4000000 in
theorem names_all (w : World) (k b m q n : Int) (s : ByteArray) :
    Calls Tryd.prog 3 #[cls k b m q n, .string s] w fun e w' => e = .returned (.bool true) ∧ Below w.heap.size w w' := by
  by_cases h : 200 < s.size
  · exact names_far w k b m q n s h
  have mx := mixed
  have kA := fun w => hide1 (awake9_any w)
  have h1 : ¬ (200 : Int) < (s.size : Int) := by omega
  have kN := fun w => hide1 (name_any k b m q n w)
  have kO := fun w => hide1 (rname_any k b m q n w)
  have kP := fun w => hide1 (parse_any s w (by omega))
  have kR := fun w => hide1 (rparse_any s w (by omega))
  generalize nameB k b m q n = t at *
  obtain ⟨⟨ck, cb, cm, cq, cn⟩, f, hp⟩ : ∃ c f, parP (bs s) = (c, f) := ⟨_, _, rfl⟩
  rw [hp] at kP kR
  clear hp h
  simp only [Cl.v, cls] at *
  go_enter Tryd.func3, Tryd.ntmps3
  go_upto_region 3 with (fail)
  generalize hX : World.alloc w _ = X
  have HX : Hid (Below w.heap.size w X) := by rw [← hX]; exact below1 _
  have H0 := hide1 (hX ▸ heap_alloc_new w _)
  obtain ⟨b2, hb2⟩ : ∃ b, w.heap.size = b := ⟨_, rfl⟩
  rw [hb2] at H0 ⊢
  clear hX hb2
  go_wp2_with fail
  refine (kP _).out.mono ?_
  rintro e w1 ⟨rfl, hb⟩
  have H1 := hide1 ((hb.block _ (lt_heap H0.out)).trans H0.out)
  have X1 := hide1 (HX.out.trans (hb.mono HX.out.size))
  clear hb H0 HX
  go_upto_region 4 with (fail)
  generalize hX : World.alloc w1 _ = X
  have H2 := hide1 (hX ▸ (Below.heap_alloc _ _ _ (lt_heap H1.out)).trans H1.out)
  have J2 := hide1 (hX ▸ heap_alloc_new w1 _)
  have X2 : Hid (Below w.heap.size w X) := by rw [← hX]; exact X1.out.alloc X1.out.size _
  obtain ⟨b5, hb5⟩ : ∃ b, w1.heap.size = b := ⟨_, rfl⟩
  rw [hb5] at J2 ⊢
  clear hX hb5 H1 X1
  go_wp2_with fail
  refine (kR _).out.mono ?_
  rintro e w2 ⟨rfl, hb⟩
  have H3 := hide1 ((hb.block _ (lt_heap H2.out)).trans H2.out)
  have J3 := hide1 ((hb.block _ (lt_heap J2.out)).trans J2.out)
  have X3 := hide1 (X2.out.trans (hb.mono X2.out.size))
  clear hb H2 J2 X2
  go_upto_region 5 with (fail)
  generalize hX : World.alloc w2 _ = X
  have H4 := hide1 (hX ▸ (Below.heap_alloc _ _ _ (lt_heap H3.out)).trans H3.out)
  have J4 := hide1 (hX ▸ (Below.heap_alloc _ _ _ (lt_heap J3.out)).trans J3.out)
  have K4 := hide1 (hX ▸ heap_alloc_new w2 _)
  have X4 : Hid (Below w.heap.size w X) := by rw [← hX]; exact X3.out.alloc X3.out.size _
  obtain ⟨b7, hb7⟩ : ∃ b, w2.heap.size = b := ⟨_, rfl⟩
  rw [hb7] at K4 ⊢
  clear hX hb7 H3 J3 X3
  obtain ⟨d0, d1, d2, d3, d4, _⟩ := box5 H4.out
  obtain ⟨e0, e1, e2, e3, e4, _⟩ := box5 J4.out
  obtain ⟨g0, g1, g2, g3, g4, _⟩ := box5 K4.out
  have d0 := bw_cell d0
  have d1 := bw_cell d1
  have d2 := bw_cell d2
  have d3 := bw_cell d3
  have d4 := bw_cell d4
  have e0 := bw_cell e0
  have e1 := bw_cell e1
  have e2 := bw_cell e2
  have e3 := bw_cell e3
  have e4 := bw_cell e4
  have g0 := bw_cell g0
  have g1 := bw_cell g1
  have g2 := bw_cell g2
  have g3 := bw_cell g3
  have g4 := bw_cell g4
  have hne : Nonempty (Bw X) := ⟨⟨X, Below.refl _ _⟩⟩
  have cN := fun p : Bw X => kN p.w
  have cO := fun p : Bw X => kO p.w
  have cA := fun p : Bw X => kA p.w
  clear kN kO kA kP kR
  refine wp_region_quiet_bw (by assumption) (by kernel_rfl) ?_
  repeat (go_big_quiet_step (first | (go_at_call 8; exact bw_of (cN _).out) | (go_at_call 9; exact bw_of (cO _).out) | (go_at_call 5; exact bw_of (cA _).out)))
  refine wpQuiet_nil ?_
  intro w3 hw3
  obtain ⟨p, rfl⟩ := hw3
  go_wp2
  go_ret
  exact ⟨rfl, X4.out.trans (p.h.mono X4.out.size)⟩

end Go.Proofs.YtnkdbkhgfakjaaaDoor
