/- The small functions of package sha: rotr, and the document's right. -/
import Derived.Test.YtjcfllidandeiaaDoorRows
import Derived.Test.YtjcfllidandeiaaDoorB
import Derived.WalkKit
import Derived.WalkSpells
import Derived.WalkLawsBesides
import Derived.Below
import Derived.Deep.QuietTactic
import Derived.BigQuiet
import Derived.BigRegion
namespace Go.Proofs.YtjcfllidandeiaaDoor
open Go.RowKit
set_option maxRecDepth 100000

theorem hide1 {p : Prop} (h : p) : Hid p := h
theorem not_any (x : Bool) (w : World) : (Op.unary .not (.bool x)).run Tryd.prog w = .ok (.bool (!x)) w := rfl
attribute [local go_sem] not_any

theorem wrap32 (x : Nat) : IntKind.u32.wrap (x : Int) = ((x % 4294967296 : Nat) : Int) := by
  rw [IntKind.wrap_u32]
  omega
theorem wrap32_add (x y : Nat) : IntKind.u32.wrap ((x : Int) + (y : Int)) = (((x + y) % 4294967296 : Nat) : Int) := by
  rw [← Int.natCast_add, wrap32]
theorem ret_int {k : IntKind} {a b : Int} (h : a = b) : Ending.returned (.int k a) = .returned (.int k b) := by rw [h]

theorem neg_and : ∀ n : Nat, n < 32 → 1 ≤ n → bits .and .u64 (IntKind.u64.wrap (-(n : Int))) 31 = ((32 - n : Nat) : Int) := by decide +kernel

theorem rot_int {x n : Nat} (h1 : 1 ≤ n) (h2 : n ≤ 31) (hx : x < 4294967296) : bits .or .u32 ((x : Int) * 2 ^ (32 - n) % 4294967296) ((x : Int) / 2 ^ (32 - (32 - n))) = ((rot n x : Nat) : Int) := by
  have e1 : (x : Int) * 2 ^ (32 - n) % 4294967296 = ((x * 2 ^ (32 - n) % 4294967296 : Nat) : Int) := by
    rw [Int.natCast_emod, Int.natCast_mul, Int.natCast_pow]; rfl
  have e2 : (x : Int) / 2 ^ (32 - (32 - n)) = ((x / 2 ^ n : Nat) : Int) := by
    rw [show 32 - (32 - n) = n by omega, Int.natCast_ediv, Int.natCast_pow]; rfl
  rw [e1, e2, u32_or_nat _ _ (Nat.mod_lt _ (by omega)) (Nat.lt_of_le_of_lt (Nat.div_le_self _ _) hx)]
  rfl

theorem rot_int2 {x n : Nat} (hx : x < 4294967296) : bits .or .u32 ((x : Int) / 2 ^ n) ((x : Int) * 2 ^ (32 - n) % 4294967296) = ((rot n x : Nat) : Int) := by
  have e1 : (x : Int) * 2 ^ (32 - n) % 4294967296 = ((x * 2 ^ (32 - n) % 4294967296 : Nat) : Int) := by
    rw [Int.natCast_emod, Int.natCast_mul, Int.natCast_pow]; rfl
  have e2 : (x : Int) / 2 ^ n = ((x / 2 ^ n : Nat) : Int) := by
    rw [Int.natCast_ediv, Int.natCast_pow]; rfl
  rw [e1, e2, u32_or_nat _ _ (Nat.lt_of_le_of_lt (Nat.div_le_self _ _) hx) (Nat.mod_lt _ (by omega)), rot_comm]

theorem rl_any (x n : Nat) (w : World) (h1 : 1 ≤ n) (h2 : n ≤ 31) (hx : x < 4294967296) :
    Calls Tryd.prog 35 #[.int .u32 (x : Int), .int .i64 (-(n : Int))] w fun e w' => e = .returned (.int .u32 (rot n x : Nat)) ∧ w' = w := by
  have e1 := neg_and n (by omega) h1
  go_enter Tryd.func35, Tryd.ntmps35
  go_wp2
  go_ret
  exact ⟨ret_int (rot_int h1 h2 hx), rfl⟩

theorem rotr_any (x n : Nat) (w : World) (h1 : 1 ≤ n) (h2 : n ≤ 31) (hx : x < 4294967296) :
    Calls Tryd.prog 34 #[.int .u32 (x : Int), .int .i64 (n : Int)] w fun e w' => e = .returned (.int .u32 (rot n x : Nat)) ∧ w' = w := by
  have c := fun w => hide1 (rl_any x n w h1 h2 hx)
  go_enter Tryd.func34, Tryd.ntmps34
  go_wp2_with (first | (go_at_call 35; refine (c _).out.mono ?_; rintro e w' ⟨rfl, rfl⟩))
  go_ret
  exact ⟨rfl, rfl⟩

theorem rotr_i (x : Nat) (m : Int) (w : World) (h1 : 1 ≤ m) (h2 : m ≤ 31) (hx : x < 4294967296) :
    Calls Tryd.prog 34 #[.int .u32 (x : Int), .int .i64 m] w fun e w' => e = .returned (.int .u32 (rot m.toNat x : Nat)) ∧ w' = w := by
  obtain ⟨n, rfl⟩ := Int.eq_ofNat_of_zero_le (show 0 ≤ m by omega)
  exact rotr_any x n w (by omega) (by omega) hx

theorem right_any (x n : Nat) (w : World) (h1 : 1 ≤ n) (h2 : n ≤ 31) (hx : x < 4294967296) :
    Calls Tryd.prog 29 #[.int .u32 (x : Int), .int .u64 (n : Int)] w fun e w' => e = .returned (.int .u32 (rot n x : Nat)) ∧ w' = w := by
  go_enter Tryd.func29, Tryd.ntmps29
  go_wp2
  go_ret
  exact ⟨ret_int (rot_int2 hx), rfl⟩

theorem right_i (x : Nat) (m : Int) (w : World) (h1 : 1 ≤ m) (h2 : m ≤ 31) (hx : x < 4294967296) :
    Calls Tryd.prog 29 #[.int .u32 (x : Int), .int .u64 m] w fun e w' => e = .returned (.int .u32 (rot m.toNat x : Nat)) ∧ w' = w := by
  obtain ⟨n, rfl⟩ := Int.eq_ofNat_of_zero_le (show 0 ≤ m by omega)
  exact right_any x n w (by omega) (by omega) hx

end Go.Proofs.YtjcfllidandeiaaDoor
