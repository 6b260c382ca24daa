/- The chapter's example. -/
import Derived.Test.YtnkdbkhgfakjaaaDoorKl
namespace Go.Proofs.YtnkdbkhgfakjaaaDoor
open Go.RowKit
set_option maxRecDepth 100000
attribute [local go_sem] not_any mf_any

set_option maxHeartbeats 1000000 in
theorem awake9_any (w : World) : Calls Tryd.prog 5 #[] w fun e w' => e = .returned (.bool true) ∧ Below w.heap.size w w' := by
  have kP := fun w => hide1 (parse_awake w)
  have kS := fun w => hide1 (sizes_any 2 16 2 3 4 w)
  have kT := fun w => hide1 (transfers_any 2 16 2 3 4 w)
  have kW := fun w => hide1 (words_any 2 16 2 3 4 w)
  rw [show sz1 2 16 2 3 4 = 6 by decide, show sz2 2 16 2 3 4 = 12 by decide, show sz3 2 16 2 3 4 = 8 by decide] at kS
  rw [show tr1 2 16 2 3 4 = 96 by decide, show tr2 2 16 2 3 4 = 4 by decide] at kT
  rw [show wds 2 16 2 3 4 = 18 by decide] at kW
  simp only [cls] at *
  go_enter Tryd.func5, Tryd.ntmps5
  go_wp2_with fail
  refine (kP _).out.mono ?_
  rintro e w1 ⟨rfl, hb1⟩
  have HB1 := hide1 hb1
  clear hb1
  go_upto_region 2 with (fail)
  generalize hX : World.alloc w1 _ = X
  have HX : Hid (Below w.heap.size w X) := by rw [← hX]; exact HB1.out.alloc HB1.out.size _
  have H0 := hide1 (hX ▸ heap_alloc_new w1 _)
  obtain ⟨b, hb⟩ : ∃ b, w1.heap.size = b := ⟨_, rfl⟩
  rw [hb] at H0 ⊢
  clear hX hb
  obtain ⟨d0, d1, d2, d3, d4, l1⟩ := box5 H0.out
  go_wp2_with fail
  refine (kS _).out.mono ?_
  rintro e w2 ⟨rfl, hb2⟩
  have H2 := hide1 ((hb2.block _ (lt_heap H0.out)).trans H0.out)
  have HX2 := hide1 (HX.out.trans (hb2.mono HX.out.size))
  clear hb2 H0 HX d0 d1 d2 d3 d4 l1
  obtain ⟨d0, d1, d2, d3, d4, l1⟩ := box5 H2.out
  go_wp2_with fail
  refine (kT _).out.mono ?_
  rintro e w3 ⟨rfl, hb2⟩
  have H3 := hide1 ((hb2.block _ (lt_heap H2.out)).trans H2.out)
  have HX3 := hide1 (HX2.out.trans (hb2.mono HX2.out.size))
  clear hb2 H2 HX2 d0 d1 d2 d3 d4 l1
  obtain ⟨d0, d1, d2, d3, d4, l1⟩ := box5 H3.out
  go_wp2_with fail
  refine (kW _).out.mono ?_
  rintro e w4 ⟨rfl, hb2⟩
  have HX4 := hide1 (HX3.out.trans (hb2.mono HX3.out.size))
  clear hb2 H3 HX3 d0 d1 d2 d3 d4 l1
  go_wp2
  go_ret
  exact ⟨rfl, HX4.out⟩

end Go.Proofs.YtnkdbkhgfakjaaaDoor
