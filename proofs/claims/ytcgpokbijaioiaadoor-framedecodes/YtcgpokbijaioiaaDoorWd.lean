/- A writer's fields. -/
import Derived.Test.YtcgpokbijaioiaaDoorWc
import Derived.Test.YtcgpokbijaioiaaDoorFr
namespace Go.Proofs.YtcgpokbijaioiaaDoor
open Go.RowKit
set_option maxRecDepth 100000
attribute [local go_sem] not_any mf_any

theorem wU8_any (g : Nat) (w : World) (L : List Nat) (x : Nat) (h : Wr w g L) (hL : L.length ≤ 1000000000) (hx : x < 256) :
    Calls Tryd.prog 16 #[.pointer (some ⟨g, 0, none⟩), .int .u8 (x : Int)] w fun e w' => e = .returned (.tuple #[]) ∧ Wr w' g (L ++ fix x 1) ∧ But g w w' := by
  have k := hide1 (number_any g w L x 1 h hL (by omega))
  have e1 : IntKind.u64.wrap (x : Int) = (x : Int) := by rw [IntKind.wrap_u64]; omega
  clear h hL
  go_enter Tryd.func16, Tryd.ntmps16
  go_wp2_with (go_at_call 34; refine k.out.mono ?_; rintro e w' ⟨rfl, hw, hb⟩)
  go_end0
  exact ⟨rfl, hw, hb⟩
theorem wU32_any (g : Nat) (w : World) (L : List Nat) (x : Nat) (h : Wr w g L) (hL : L.length ≤ 1000000000) (hx : x < 4294967296) :
    Calls Tryd.prog 17 #[.pointer (some ⟨g, 0, none⟩), .int .u32 (x : Int)] w fun e w' => e = .returned (.tuple #[]) ∧ Wr w' g (L ++ fix x 4) ∧ But g w w' := by
  have k := hide1 (number_any g w L x 4 h hL (by omega))
  have e1 : IntKind.u64.wrap (x : Int) = (x : Int) := by rw [IntKind.wrap_u64]; omega
  clear h hL
  go_enter Tryd.func17, Tryd.ntmps17
  go_wp2_with (go_at_call 34; refine k.out.mono ?_; rintro e w' ⟨rfl, hw, hb⟩)
  go_end0
  exact ⟨rfl, hw, hb⟩
theorem wRaw_any (g : Nat) (w : World) (L : List Nat) (t : ByteArray) (h : Wr w g L) (hL : L.length ≤ 1000000000) (ht : t.size ≤ 1000000000) :
    Calls Tryd.prog 18 #[.pointer (some ⟨g, 0, none⟩), .string t] w fun e w' => e = .returned (.tuple #[]) ∧ Wr w' g (L ++ nums t) ∧ But g w w' := by
  have k := hide1 (clone_any t w (by omega))
  have HW := hide1 h
  clear h
  go_enter Tryd.func18, Tryd.ntmps18
  go_wp2_with fail
  refine k.out.mono ?_
  rintro e w1 ⟨rfl, hb⟩
  have k2 := hide1 (add_any g w1 L t (HW.out.below hb) (by omega))
  clear k hL ht
  go_wp2_with (go_at_call 35; refine k2.out.mono ?_; rintro e w' ⟨rfl, hw, hbt⟩)
  go_end0
  exact ⟨rfl, hw, (But.of_below hb).trans hbt⟩

end Go.Proofs.YtcgpokbijaioiaaDoor
