/- Words. -/
import Derived.Test.YtnkdbkhgfakjaaaDoorKc
namespace Go.Proofs.YtnkdbkhgfakjaaaDoor
open Go.RowKit
set_option maxRecDepth 100000
attribute [local go_sem] not_any mf_any

theorem words_any (k b m q n : Int) (w : World) :
    Calls Tryd.prog 13 #[cls k b m q n] w fun e w' => e = .returned (.int .i64 (wds k b m q n)) ∧ Below w.heap.size w w' := by
  have kM := fun w => hide1 (sizes_any k b m q n w)
  have hw : IntKind.i64.wrap (sz1 k b m q n + sz2 k b m q n) = sz1 k b m q n + sz2 k b m q n := by
    have := sz1_le k b m q n
    have := sz2_le k b m q n
    rw [IntKind.wrap_i64]; omega
  unfold wds
  generalize sz1 k b m q n = x at *
  generalize sz2 k b m q n = y at *
  generalize sz3 k b m q n = z at *
  unfold cls at *
  by_cases hk : k = 4
  · subst hk
    go_enter Tryd.func13, Tryd.ntmps13
    go_upto_region 1 with (fail)
    generalize hX : World.alloc w _ = X
    have HX : Hid (Below w.heap.size w X) := by rw [← hX]; exact below1 _
    have h0 := hX ▸ heap_alloc_new w _
    obtain ⟨c0, c1, c2, c3, c4, l0⟩ := box5 h0
    have H0 := hide1 h0
    clear hX h0
    go_wp2_with (go_at_call 11; refine (kM _).out.mono ?_; rintro e w1 ⟨rfl, hb1⟩; have h1 := (hb1.block _ (lt_heap H0.out)).trans H0.out; obtain ⟨d0, d1, d2, d3, d4, l1⟩ := box5 h1; have HB := hide1 (HX.out.trans (hb1.mono HX.out.size)); clear h1 hb1)
    go_ret
    exact ⟨rfl, HB.out⟩
  · have hk' : (k == 4) = false := by simpa using hk
    rw [if_neg hk]
    clear hk
    go_enter Tryd.func13, Tryd.ntmps13
    go_upto_region 1 with (fail)
    generalize hX : World.alloc w _ = X
    have HX : Hid (Below w.heap.size w X) := by rw [← hX]; exact below1 _
    have h0 := hX ▸ heap_alloc_new w _
    obtain ⟨c0, c1, c2, c3, c4, l0⟩ := box5 h0
    have H0 := hide1 h0
    clear hX h0
    go_wp2_with (go_at_call 11; refine (kM _).out.mono ?_; rintro e w1 ⟨rfl, hb1⟩; have h1 := (hb1.block _ (lt_heap H0.out)).trans H0.out; obtain ⟨d0, d1, d2, d3, d4, l1⟩ := box5 h1; have HB := hide1 (HX.out.trans (hb1.mono HX.out.size)); clear h1 hb1)
    go_ret
    exact ⟨rfl, HB.out⟩

end Go.Proofs.YtnkdbkhgfakjaaaDoor
