/- FaultNone: its walk. -/
import Derived.Test.YtogninhgibbfnaaDoorQ
namespace Go.Proofs.YtogninhgibbfnaaDoor
open Go.RowKit Go.Shelf
set_option maxRecDepth 100000
attribute [local go_sem] not_any mf_any ev

theorem Et.below {w W : World} (h : Et w) (hB : Below w.heap.size w W) : Et W := (hB.cell (p := ⟨0, 0, none⟩) (lt_cell h)).trans h

theorem has_any (c : Int) (w : World) :
    Calls Tryd.prog 15 #[.nilIface, .int .i64 c] w fun e w' => e = .returned (.bool (c == 0)) ∧ Below w.heap.size w w' := by
  by_cases h : c = 0
  · subst h
    exact has_ok w
  · have hf : (c == 0) = false := by simpa using h
    rw [hf]
    exact has_nil c hf w

set_option maxHeartbeats 2000000 in
theorem none_any (s : ByteArray) (c : Int) (w : World) (he : Et w) :
    Calls Tryd.prog 5 #[.string s, .int .i64 c] w fun e w' => e = .returned (.bool true) ∧ Below w.heap.size w w' := by
  have HE := hide1 he
  clear he
  go_enter Tryd.func5, Tryd.ntmps5
  go_wp2_with fail
  refine (at_nil _).mono ?_
  rintro y W1 ⟨rfl, hB1⟩
  have HB1 := hide1 hB1
  clear hB1
  go_wp2_with (first | (go_at_call 23; refine (new_none _ _).mono ?_; rintro e w' ⟨rfl, rfl⟩) | (go_at_call 24; refine (wrap_none _ _).mono ?_; rintro e w' ⟨rfl, rfl⟩) | (go_at_call 25; refine (both_nil _).mono ?_; rintro e w' ⟨rfl, rfl⟩))
  refine (text_nil _).mono ?_
  rintro y W2 ⟨rfl, hB2⟩
  have HB2 := hide1 (HB1.out.trans (hB2.mono HB1.out.size))
  clear hB2
  go_wp2_with fail
  refine (codes_nil _).mono ?_
  rintro y W3 ⟨rfl, hB3⟩
  have HB3 := hide1 (HB2.out.trans (hB3.mono HB2.out.size))
  clear hB3
  go_wp2_with fail
  refine (path_nil _).mono ?_
  rintro y W4 ⟨rfl, hB4⟩
  have HB4 := hide1 (HB3.out.trans (hB4.mono HB3.out.size))
  clear hB4
  go_wp2_with (go_at_call 14; refine (code_nil _).mono ?_; rintro e w' ⟨rfl, rfl⟩)
  refine (has_ok _).mono ?_
  rintro y W5 ⟨rfl, hB5⟩
  have HB5 := hide1 (HB4.out.trans (hB5.mono HB4.out.size))
  clear hB5
  go_wp2_with fail
  refine (has_any c _).mono ?_
  rintro y W6 ⟨rfl, hB6⟩
  have HB6 := hide1 (HB5.out.trans (hB6.mono HB5.out.size))
  clear hB6
  go_wp2_with fail
  refine (awake_any W6 (HE.out.below HB6.out)).mono ?_
  rintro y W7 ⟨rfl, hB7⟩
  go_wp2
  go_ret
  exact ⟨rfl, HB6.out.trans (hB7.mono HB6.out.size)⟩

end Go.Proofs.YtogninhgibbfnaaDoor
