/- The small functions of package ring: Mask, Fit, Add, Sub, Mul, Neg. -/
import Derived.Test.YtgcbdjmlhjbacaaRows
import Derived.Test.YtgcbdjmlhjbacaaJ02
import Derived.WalkKit
import Derived.WalkSpells
import Derived.WalkLawsBesides
import Derived.Deep.QuietTactic
namespace Go.Proofs.Ytgcbdjmlhjbacaa.Ri
open Go.RowKit
set_option maxRecDepth 100000

theorem hide1 {p : Prop} (h : p) : Hid p := h
theorem not_any (x : Bool) (w : World) : (Op.unary .not (.bool x)).run Try.prog w = .ok (.bool (!x)) w := rfl
theorem mf_any (fn : Fn) (first cap : Array Value) (w : World) : (Instr.makeFunc fn first cap).run Try.prog w = .ok (.func fn first cap) w := rfl
attribute [local go_sem] not_any mf_any

theorem wrap_mod (x : Int) : IntKind.u64.wrap x = x % 18446744073709551616 := by
  rw [IntKind.wrap_u64]

theorem wrap_nat (x : Nat) : IntKind.u64.wrap (x : Int) = ((x % 18446744073709551616 : Nat) : Int) := by
  rw [wrap_mod]
  omega

theorem good_nat {l : Int} (h : 1 ≤ l ∧ l ≤ 64) : ∃ L : Nat, l = L ∧ 1 ≤ L ∧ L ≤ 64 := ⟨l.toNat, by omega, by omega, by omega⟩

theorem allowed_any (l : Int) (w : World) :
    Calls Try.prog 41 #[.int .i64 l] w fun e w' => e = .returned (.bool (decide (1 ≤ l ∧ l ≤ 64))) ∧ w' = w := by
  go_enter Try.func41, Try.ntmps41
  go_wp2
  all_goals go_ret
  · exact ⟨by simp [*], rfl⟩
  · refine ⟨?_, rfl⟩
    have : ¬ 1 ≤ l := by omega
    simp [this]

theorem mask_no (l : Int) (w : World) (h : ¬ (1 ≤ l ∧ l ≤ 64)) :
    Calls Try.prog 47 #[.int .i64 l] w fun e w' => e = .returned (.tuple #[.int .u64 0, .int .i64 11]) ∧ w' = w := by
  have hA := fun w => hide1 (allowed_any l w)
  rw [decide_eq_false h] at hA
  go_enter Try.func47, Try.ntmps47
  go_wp2_with (first | (go_at_call 41; refine (hA _).out.mono ?_; rintro e w' ⟨rfl, rfl⟩))
  go_ret2
  exact ⟨rfl, rfl⟩

theorem mask_any (L : Nat) (w : World) (h1 : 1 ≤ L) (h2 : L ≤ 64) :
    Calls Try.prog 47 #[.int .i64 L] w fun e w' => e = .returned (.tuple #[.int .u64 ((2 ^ L - 1 : Nat) : Int), .int .i64 0]) ∧ w' = w := by
  have hA := fun w => hide1 (allowed_any L w)
  rw [decide_eq_true (by omega)] at hA
  go_enter Try.func47, Try.ntmps47
  go_wp2_with (first | (go_at_call 41; refine (hA _).out.mono ?_; rintro e w' ⟨rfl, rfl⟩))
  go_ret2
  refine ⟨?_, rfl⟩
  show Ending.returned (.tuple #[.int .u64 (18446744073709551615 / 2 ^ (64 - L)), .int .i64 0]) = _
  rw [← mask_eq h2, Int.natCast_ediv, Int.natCast_pow]
  rfl

theorem fit_no (l : Int) (x : Nat) (w : World) (h : ¬ (1 ≤ l ∧ l ≤ 64)) (hx : x < 18446744073709551616) :
    Calls Try.prog 45 #[.int .i64 l, .int .u64 (x : Int)] w fun e w' => e = .returned (.int .u64 0) ∧ w' = w := by
  have hA := fun w => hide1 (mask_no l w h)
  have e : bits .and .u64 (x : Int) 0 = 0 := by rw [show (0 : Int) = ((0 : Nat) : Int) from rfl, u64_and_nat _ _ hx (by omega), Nat.and_zero]
  go_enter Try.func45, Try.ntmps45
  go_wp2_with (first | (go_at_call 47; refine (hA _).out.mono ?_; rintro e w' ⟨rfl, rfl⟩))
  go_ret
  exact ⟨by trivial, rfl⟩

theorem fit_yes (L x : Nat) (w : World) (h1 : 1 ≤ L) (h2 : L ≤ 64) (hx : x < 18446744073709551616) :
    Calls Try.prog 45 #[.int .i64 L, .int .u64 (x : Int)] w fun e w' => e = .returned (.int .u64 ((x % 2 ^ L : Nat) : Int)) ∧ w' = w := by
  have hA := fun w => hide1 (mask_any L w h1 h2)
  have hm : 2 ^ L - 1 < 18446744073709551616 := by have := pow_le64 h2; omega
  have e : bits .and .u64 (x : Int) ((2 ^ L - 1 : Nat) : Int) = ((x % 2 ^ L : Nat) : Int) := by rw [u64_and_nat _ _ hx hm, and_mask]
  obtain ⟨m, hmm⟩ : ∃ m, m = 2 ^ L - 1 := ⟨_, rfl⟩
  rw [← hmm] at hA e
  clear hmm hm
  go_enter Try.func45, Try.ntmps45
  go_wp2_with (first | (go_at_call 47; refine (hA _).out.mono ?_; rintro e w' ⟨rfl, rfl⟩))
  go_ret
  exact ⟨by trivial, rfl⟩

theorem fit_any (l : Int) (x : Nat) (w : World) (hx : x < 18446744073709551616) :
    Calls Try.prog 45 #[.int .i64 l, .int .u64 (x : Int)] w fun e w' => e = .returned (.int .u64 (fit l x : Nat)) ∧ w' = w := by
  by_cases h : 1 ≤ l ∧ l ≤ 64
  · obtain ⟨L, rfl, h1, h2⟩ := good_nat h
    rw [fit_nat h1 h2]
    exact fit_yes L x w h1 h2 hx
  · rw [fit_bad h]
    exact fit_no l x w h hx

theorem fit_int (l : Int) (x : Nat) (y : Int) (w : World) (h : y = ((x % 18446744073709551616 : Nat) : Int)) :
    Calls Try.prog 45 #[.int .i64 l, .int .u64 y] w fun e w' => e = .returned (.int .u64 (fit l x : Nat)) ∧ w' = w := by
  rw [h, ← fit_64]
  exact fit_any l _ w (Nat.mod_lt _ (by omega))

theorem add_any (l : Int) (a b : Nat) (w : World) :
    Calls Try.prog 44 #[.int .i64 l, .int .u64 (a : Int), .int .u64 (b : Int)] w fun e w' => e = .returned (.int .u64 (fit l (a + b) : Nat)) ∧ w' = w := by
  have e : IntKind.u64.wrap ((a : Int) + (b : Int)) = (((a + b) % 18446744073709551616 : Nat) : Int) := by rw [← Int.natCast_add, wrap_nat]
  obtain ⟨z, hz⟩ : ∃ z, z = (((a + b) % 18446744073709551616 : Nat) : Int) := ⟨_, rfl⟩
  have hF := fun w => hide1 (fit_int l (a + b) z w hz)
  rw [← hz] at e
  clear hz
  go_enter Try.func44, Try.ntmps44
  go_wp2_with (first | (go_at_call 45; refine (hF _).out.mono ?_; rintro e w' ⟨rfl, rfl⟩))
  go_ret
  exact ⟨by trivial, rfl⟩

theorem mul_any (l : Int) (a b : Nat) (w : World) :
    Calls Try.prog 43 #[.int .i64 l, .int .u64 (a : Int), .int .u64 (b : Int)] w fun e w' => e = .returned (.int .u64 (fit l (a * b) : Nat)) ∧ w' = w := by
  have e : IntKind.u64.wrap ((a : Int) * (b : Int)) = (((a * b) % 18446744073709551616 : Nat) : Int) := by rw [← Int.natCast_mul, wrap_nat]
  obtain ⟨z, hz⟩ : ∃ z, z = (((a * b) % 18446744073709551616 : Nat) : Int) := ⟨_, rfl⟩
  have hF := fun w => hide1 (fit_int l (a * b) z w hz)
  rw [← hz] at e
  clear hz
  go_enter Try.func43, Try.ntmps43
  go_wp2_with (first | (go_at_call 45; refine (hF _).out.mono ?_; rintro e w' ⟨rfl, rfl⟩))
  go_ret
  exact ⟨by trivial, rfl⟩

end Go.Proofs.Ytgcbdjmlhjbacaa.Ri
