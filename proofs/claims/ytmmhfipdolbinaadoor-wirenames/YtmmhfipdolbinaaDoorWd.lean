/- A writer's fields. -/
import Derived.Test.YtmmhfipdolbinaaDoorWc
import Derived.Test.YtmmhfipdolbinaaDoorFr
namespace Go.Proofs.YtmmhfipdolbinaaDoor
open Go.RowKit
set_option maxRecDepth 100000
attribute [local go_sem] not_any mf_any

theorem wU8_any (g : Nat) (w : World) (L : List Nat) (x : Nat) (h : Wr w g L) (hL : L.length ≤ 1000000000) (hx : x < 256) :
    Calls Tryd.prog 30 #[.pointer (some ⟨g, 0, none⟩), .int .u8 (x : Int)] w fun e w' => e = .returned (.tuple #[]) ∧ Wr w' g (L ++ fix x 1) ∧ But g w w' := by
  have k := hide1 (number_any g w L x 1 h hL (by omega))
  have e1 : IntKind.u64.wrap (x : Int) = (x : Int) := by rw [IntKind.wrap_u64]; omega
  clear h hL
  go_enter Tryd.func30, Tryd.ntmps30
  go_wp2_with (go_at_call 55; refine k.out.mono ?_; rintro e w' ⟨rfl, hw, hb⟩)
  go_end0
  exact ⟨rfl, hw, hb⟩
theorem wU32_any (g : Nat) (w : World) (L : List Nat) (x : Nat) (h : Wr w g L) (hL : L.length ≤ 1000000000) (hx : x < 4294967296) :
    Calls Tryd.prog 31 #[.pointer (some ⟨g, 0, none⟩), .int .u32 (x : Int)] w fun e w' => e = .returned (.tuple #[]) ∧ Wr w' g (L ++ fix x 4) ∧ But g w w' := by
  have k := hide1 (number_any g w L x 4 h hL (by omega))
  have e1 : IntKind.u64.wrap (x : Int) = (x : Int) := by rw [IntKind.wrap_u64]; omega
  clear h hL
  go_enter Tryd.func31, Tryd.ntmps31
  go_wp2_with (go_at_call 55; refine k.out.mono ?_; rintro e w' ⟨rfl, hw, hb⟩)
  go_end0
  exact ⟨rfl, hw, hb⟩
theorem wU64_any (g : Nat) (w : World) (L : List Nat) (x : Nat) (h : Wr w g L) (hL : L.length ≤ 1000000000) :
    Calls Tryd.prog 32 #[.pointer (some ⟨g, 0, none⟩), .int .u64 (x : Int)] w fun e w' => e = .returned (.tuple #[]) ∧ Wr w' g (L ++ fix x 8) ∧ But g w w' := by
  have k := hide1 (number_any g w L x 8 h hL (by omega))
  clear h hL
  go_enter Tryd.func32, Tryd.ntmps32
  go_wp2_with (go_at_call 55; refine k.out.mono ?_; rintro e w' ⟨rfl, hw, hb⟩)
  go_end0
  exact ⟨rfl, hw, hb⟩
theorem wBlob_any (g : Nat) (w : World) (L : List Nat) (t : ByteArray) (h : Wr w g L) (hL : L.length ≤ 1000000000) (ht : t.size ≤ 1000000000) :
    Calls Tryd.prog 33 #[.pointer (some ⟨g, 0, none⟩), .string t] w fun e w' => e = .returned (.tuple #[]) ∧ Wr w' g (L ++ (fix t.size 4 ++ nums t)) ∧ But g w w' := by
  have k := hide1 (list_any g w L t.size t h hL ht ht)
  clear h hL
  go_enter Tryd.func33, Tryd.ntmps33
  go_wp2_with (go_at_call 56; refine k.out.mono ?_; rintro e w' ⟨rfl, hw, hb⟩)
  go_end0
  exact ⟨rfl, hw, hb⟩
theorem wRaw_any (g : Nat) (w : World) (L : List Nat) (t : ByteArray) (h : Wr w g L) (hL : L.length ≤ 1000000000) (ht : t.size ≤ 1000000000) :
    Calls Tryd.prog 34 #[.pointer (some ⟨g, 0, none⟩), .string t] w fun e w' => e = .returned (.tuple #[]) ∧ Wr w' g (L ++ nums t) ∧ But g w w' := by
  have k := hide1 (clone_any t w (by omega))
  have HW := hide1 h
  clear h
  go_enter Tryd.func34, Tryd.ntmps34
  go_wp2_with fail
  refine k.out.mono ?_
  rintro e w1 ⟨rfl, hb⟩
  have k2 := hide1 (add_any g w1 L t (HW.out.below hb) (by omega))
  clear k hL ht
  go_wp2_with (go_at_call 57; refine k2.out.mono ?_; rintro e w' ⟨rfl, hw, hbt⟩)
  go_end0
  exact ⟨rfl, hw, (But.of_below hb).trans hbt⟩

end Go.Proofs.YtmmhfipdolbinaaDoor
