/- A writer's fields. -/
import Derived.Test.YtnkdbkhgfakjaaaGreatDoorWc
import Derived.Test.YtnkdbkhgfakjaaaGreatDoorFr
namespace Go.Proofs.YtnkdbkhgfakjaaaGreatDoor
open Go.RowKit
set_option maxRecDepth 100000
attribute [local go_sem] not_any mf_any

theorem wU8_any (g : Nat) (w : World) (L : List Nat) (x : Nat) (h : Wr w g L) (hL : L.length ≤ 1000000000) (hx : x < 256) :
    Calls Tryz.prog 31 #[.pointer (some ⟨g, 0, none⟩), .int .u8 (x : Int)] w fun e w' => e = .returned (.tuple #[]) ∧ Wr w' g (L ++ fix x 1) ∧ But g w w' := by
  have k := hide1 (number_any g w L x 1 h hL (by omega))
  have e1 : IntKind.u64.wrap (x : Int) = (x : Int) := by rw [IntKind.wrap_u64]; omega
  clear h hL
  go_enter Tryz.func31, Tryz.ntmps31
  go_wp2_with (go_at_call 48; refine k.out.mono ?_; rintro e w' ⟨rfl, hw, hb⟩)
  go_end0
  exact ⟨rfl, hw, hb⟩
end Go.Proofs.YtnkdbkhgfakjaaaGreatDoor
