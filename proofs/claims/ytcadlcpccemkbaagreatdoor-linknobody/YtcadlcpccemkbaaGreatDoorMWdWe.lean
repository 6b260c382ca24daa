/- A writer's fields. A writer's words and bits; all that was written. -/
import Derived.Test.YtcadlcpccemkbaaGreatDoorWc
import Derived.Test.YtcadlcpccemkbaaGreatDoorFr
namespace Go.Proofs.YtcadlcpccemkbaaGreatDoor.X
open Go.RowKit
set_option maxRecDepth 100000
attribute [local go_sem] not_any mf_any

theorem wU8_any (g : Nat) (w : World) (L : List Nat) (x : Nat) (h : Wr w g L) (hL : L.length ≤ 1000000000) (hx : x < 256) :
    Calls Tryz.prog 107 #[.pointer (some ⟨g, 0, none⟩), .int .u8 (x : Int)] w fun e w' => e = .returned (.tuple #[]) ∧ Wr w' g (L ++ fix x 1) ∧ But g w w' := by
  have k := hide1 (number_any g w L x 1 h hL (by omega))
  have e1 : IntKind.u64.wrap (x : Int) = (x : Int) := by rw [IntKind.wrap_u64]; omega
  clear h hL
  go_enter Tryz.func107, Tryz.ntmps107
  go_wp2_with (go_at_call 115; refine k.out.mono ?_; rintro e w' ⟨rfl, hw, hb⟩)
  go_end0
  exact ⟨rfl, hw, hb⟩
theorem wU32_any (g : Nat) (w : World) (L : List Nat) (x : Nat) (h : Wr w g L) (hL : L.length ≤ 1000000000) (hx : x < 4294967296) :
    Calls Tryz.prog 108 #[.pointer (some ⟨g, 0, none⟩), .int .u32 (x : Int)] w fun e w' => e = .returned (.tuple #[]) ∧ Wr w' g (L ++ fix x 4) ∧ But g w w' := by
  have k := hide1 (number_any g w L x 4 h hL (by omega))
  have e1 : IntKind.u64.wrap (x : Int) = (x : Int) := by rw [IntKind.wrap_u64]; omega
  clear h hL
  go_enter Tryz.func108, Tryz.ntmps108
  go_wp2_with (go_at_call 115; refine k.out.mono ?_; rintro e w' ⟨rfl, hw, hb⟩)
  go_end0
  exact ⟨rfl, hw, hb⟩
theorem wRaw_any (g : Nat) (w : World) (L : List Nat) (t : ByteArray) (h : Wr w g L) (hL : L.length ≤ 1000000000) (ht : t.size ≤ 1000000000) :
    Calls Tryz.prog 109 #[.pointer (some ⟨g, 0, none⟩), .string t] w fun e w' => e = .returned (.tuple #[]) ∧ Wr w' g (L ++ nums t) ∧ But g w w' := by
  have k := hide1 (clone_any t w (by omega))
  have HW := hide1 h
  clear h
  go_enter Tryz.func109, Tryz.ntmps109
  go_wp2_with fail
  refine k.out.mono ?_
  rintro e w1 ⟨rfl, hb⟩
  have k2 := hide1 (add_any g w1 L t (HW.out.below hb) (by omega))
  clear k hL ht
  go_wp2_with (go_at_call 116; refine k2.out.mono ?_; rintro e w' ⟨rfl, hw, hbt⟩)
  go_end0
  exact ⟨rfl, hw, (But.of_below hb).trans hbt⟩

end Go.Proofs.YtcadlcpccemkbaaGreatDoor.X

namespace Go.Proofs.YtcadlcpccemkbaaGreatDoor.X
open Go.RowKit
set_option maxRecDepth 100000
attribute [local go_sem] not_any mf_any

/- words in so many bytes each -/
def wordsB (n : Nat) (ws : List Nat) : List Nat := ws.flatMap (fun x => fix x n)
theorem wordsB_snoc (n : Nat) (ws : List Nat) (x : Nat) : wordsB n (ws ++ [x]) = wordsB n ws ++ fix x n := by simp [wordsB]
theorem wordsB_length (n : Nat) : ∀ ws, (wordsB n ws).length = ws.length * n
  | [] => by simp [wordsB]
  | x :: ws => by
    have h : wordsB n (x :: ws) = fix x n ++ wordsB n ws := by simp [wordsB]
    rw [h, List.length_append, fix_length, wordsB_length n ws, List.length_cons, Nat.add_mul]; omega
theorem wordsB_lt (n : Nat) : ∀ ws, Lt 256 (wordsB n ws)
  | [] => fun x hx => by cases hx
  | x :: ws => by
    have h : wordsB n (x :: ws) = fix x n ++ wordsB n ws := by simp [wordsB]
    rw [h]
    exact (fix_lt n x).append (wordsB_lt n ws)

end Go.Proofs.YtcadlcpccemkbaaGreatDoor.X
