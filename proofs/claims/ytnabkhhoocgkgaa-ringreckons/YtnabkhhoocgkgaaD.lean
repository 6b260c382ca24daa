/- Powers: R.Pow, math/bits.Len, Pow. -/
import Derived.Test.YtnabkhhoocgkgaaT
namespace Go.Proofs.Ytnabkhhoocgkgaa
open Go.RowKit
set_option maxRecDepth 100000
attribute [local go_sem] not_any mf_any

set_option maxHeartbeats 1000000 in
theorem rpow_any (L a n : Nat) (w : World) (h1 : 1 ≤ L) (h2 : L ≤ 64) (ha : a < 18446744073709551616) (hn : n < 18446744073709551616) :
    Calls Try.prog 24 #[.int .i64 L, .int .u64 (a : Int), .int .u64 (n : Int)] w fun e w' => e = .returned (.int .u64 ((a ^ n % 2 ^ L : Nat) : Int)) ∧ w' = w := by
  have hF := fun w => hide1 (rfit_any L 1 w h1 h2 (by omega))
  have hn0 : n / 2 ^ 64 = 0 := Nat.div_eq_of_lt hn
  obtain ⟨o0, ho0⟩ : ∃ o, o = 1 % 2 ^ L := ⟨_, rfl⟩
  rw [← ho0] at hF
  have HO0 := hide1 ho0
  clear ho0
  go_enter Try.func24, Try.ntmps24
  go_wp2_with (first | (go_at_call 18; refine (hF _).out.mono ?_; rintro e w' ⟨rfl, rfl⟩))
  go_loopw [7, 8] (fun o i wr => ∃ k : Nat, k ≤ 64 ∧ i = .int .i64 ((k : Int) - 1) ∧ o = .int .u64 ((a ^ (n / 2 ^ k) % 2 ^ L : Nat) : Int) ∧ wr = w') (fun _ i _ => ((intOf i) + 1).toNat)
  case atStart => exact ⟨64, by omega, rfl, by rw [hn0, Nat.pow_zero, HO0.out], rfl⟩
  case round =>
    obtain ⟨k, hk, rfl, rfl, rfl⟩ := hrel
    cases k with
    | zero =>
      rw [Nat.pow_zero, Nat.div_one]
      obtain ⟨o, ho⟩ : ∃ o, o = a ^ n % 2 ^ L := ⟨_, rfl⟩
      rw [← ho]
      go_wp2
      all_goals go_ret
      all_goals exact ⟨by rw [ho]; rfl, rfl⟩
    | succ k =>
      rw [show (((k + 1 : Nat) : Int) - 1) = (k : Int) by omega]
      have hM := fun w => hide1 (rmul_any L (a ^ (n / 2 ^ (k + 1)) % 2 ^ L) (a ^ (n / 2 ^ (k + 1)) % 2 ^ L) w h1 h2 (cut_lt h2 _) (cut_lt h2 _))
      by_cases hbit : n / 2 ^ k % 2 = 1
      · have hbi := bit_is hbit
        have hA := fun w => hide1 (rmul_any L ((a ^ (n / 2 ^ (k + 1)) % 2 ^ L) * (a ^ (n / 2 ^ (k + 1)) % 2 ^ L) % 2 ^ L) a w h1 h2 (cut_lt h2 _) ha)
        rw [pow_step1 hbit] at hA
        obtain ⟨o, ho⟩ : ∃ o, o = a ^ (n / 2 ^ (k + 1)) % 2 ^ L := ⟨_, rfl⟩
        rw [← ho] at hA hM
        rw [← ho]
        obtain ⟨p, hp⟩ : ∃ p, p = o * o % 2 ^ L := ⟨_, rfl⟩
        obtain ⟨o', ho'⟩ : ∃ o, o = a ^ (n / 2 ^ k) % 2 ^ L := ⟨_, rfl⟩
        rw [← hp] at hM hA
        rw [← ho'] at hA
        have HO := hide1 ho'
        clear ho hp ho' hbit
        go_wp2_with fail
        refine (hM _).out.mono ?_
        rintro e w' ⟨rfl, rfl⟩
        go_wp2_with fail
        refine (hA _).out.mono ?_
        rintro e w' ⟨rfl, rfl⟩
        go_wp2
        go_roundw
        case rel => exact ⟨k, by omega, by go_num, by rw [HO.out], by trivial⟩
        case measure => simp [intOf]
      · have hbi := bit_isnt hbit
        rw [pow_step0 hbit] at hM
        obtain ⟨o, ho⟩ : ∃ o, o = a ^ (n / 2 ^ (k + 1)) % 2 ^ L := ⟨_, rfl⟩
        rw [← ho] at hM
        rw [← ho]
        obtain ⟨o', ho'⟩ : ∃ o, o = a ^ (n / 2 ^ k) % 2 ^ L := ⟨_, rfl⟩
        rw [← ho'] at hM
        have HO := hide1 ho'
        clear ho ho' hbit
        go_wp2_with fail
        refine (hM _).out.mono ?_
        rintro e w' ⟨rfl, rfl⟩
        go_wp2
        go_roundw
        case rel => exact ⟨k, by omega, by go_num, by rw [HO.out], by trivial⟩
        case measure => simp [intOf]

theorem and_one {n k : Nat} (hn : n < 18446744073709551616) : bits .and .u64 ((n : Int) / 2 ^ k) 1 = ((n / 2 ^ k % 2 : Nat) : Int) := by
  rw [pow_int, ← Int.natCast_ediv, show (1 : Int) = ((1 : Nat) : Int) from rfl, u64_and_nat _ _ (Nat.lt_of_le_of_lt (Nat.div_le_self _ _) hn) (by omega), Nat.and_one_is_mod]

theorem one_is {n k : Nat} (hn : n < 18446744073709551616) (h : n / 2 ^ k % 2 = 1) : (bits .and .u64 ((n : Int) / 2 ^ k) 1 == 1) = true := by rw [and_one hn, h]; rfl
theorem one_isnt {n k : Nat} (hn : n < 18446744073709551616) (h : ¬ n / 2 ^ k % 2 = 1) : (bits .and .u64 ((n : Int) / 2 ^ k) 1 == 1) = false := by
  rw [and_one hn, show n / 2 ^ k % 2 = 0 by omega]
  rfl

theorem wrap_mul (x y : Nat) : IntKind.u64.wrap ((x : Int) * (y : Int)) = ((x * y % 18446744073709551616 : Nat) : Int) := by rw [← Int.natCast_mul, wrap_nat]

set_option maxHeartbeats 1000000 in
theorem pow_any (l : Int) (a n : Nat) (w : World) (ha : a < 18446744073709551616) (hn : n < 18446744073709551616) :
    Calls Try.prog 16 #[.int .i64 l, .int .u64 (a : Int), .int .u64 (n : Int)] w fun e w' => e = .returned (.int .u64 (fit l (a ^ n) : Nat)) ∧ w' = w := by
  have hL := fun w => hide1 (len_any n w hn)
  have hF := fun w => hide1 (fit_int l (a ^ n) _ w rfl)
  go_enter Try.func16, Try.ntmps16
  go_wp2_with (first | (go_at_call 39; refine (hL _).out.mono ?_; rintro e w' ⟨⟨m, hm, hlen, rfl⟩, rfl⟩; have HM := hide1 hlen; clear hlen))
  go_loopw [7, 8, 13] (fun p s i wr => ∃ k : Nat, k ≤ m ∧ i = .int .i64 k ∧ p = .int .u64 ((a ^ (n % 2 ^ k) % 18446744073709551616 : Nat) : Int) ∧ s = .int .u64 ((a ^ (2 ^ k) % 18446744073709551616 : Nat) : Int) ∧ wr = w') (fun _ _ i _ => m - (intOf i).toNat)
  case atStart => exact ⟨0, Nat.zero_le _, rfl, by rw [Nat.pow_zero, Nat.mod_one, Nat.pow_zero]; rfl, by rw [Nat.pow_zero, Nat.pow_one, Nat.mod_eq_of_lt ha], rfl⟩
  case round =>
    obtain ⟨k, hk, rfl, rfl, rfl, rfl⟩ := hrel
    by_cases hlt : k < m
    · have HS := hide1 (sq_step a k 18446744073709551616)
      by_cases hbit : n / 2 ^ k % 2 = 1
      · have hb := one_is hn hbit
        have HP := hide1 (up_step1 (a := a) (m := 18446744073709551616) hbit)
        obtain ⟨p, hp⟩ : ∃ p, p = a ^ (n % 2 ^ k) % 18446744073709551616 := ⟨_, rfl⟩
        obtain ⟨s, hs⟩ : ∃ s, s = a ^ (2 ^ k) % 18446744073709551616 := ⟨_, rfl⟩
        rw [← hp, ← hs] at HP
        rw [← hs] at HS
        rw [← hp, ← hs]
        clear hp hs hbit
        go_wp2
        go_roundw
        case rel => exact ⟨k + 1, by omega, by go_num, by rw [wrap_mul, HP.out], by rw [wrap_mul, HS.out], by trivial⟩
        case measure => simp [intOf]; omega
      · have hb := one_isnt hn hbit
        have HP := hide1 (up_step0 (a := a) (m := 18446744073709551616) hbit)
        obtain ⟨p, hp⟩ : ∃ p, p = a ^ (n % 2 ^ k) % 18446744073709551616 := ⟨_, rfl⟩
        obtain ⟨s, hs⟩ : ∃ s, s = a ^ (2 ^ k) % 18446744073709551616 := ⟨_, rfl⟩
        rw [← hp] at HP
        rw [← hs] at HS
        rw [← hp, ← hs]
        clear hp hs hbit
        go_wp2
        go_roundw
        case rel => exact ⟨k + 1, by omega, by go_num, by rw [HP.out], by rw [wrap_mul, HS.out], by trivial⟩
        case measure => simp [intOf]; omega
    · have : k = m := by omega
      subst this
      rw [Nat.mod_eq_of_lt HM.out]
      obtain ⟨p, hp⟩ : ∃ p, p = a ^ n % 18446744073709551616 := ⟨_, rfl⟩
      rw [← hp] at hF
      rw [← hp]
      clear hp
      go_wp2_with (first | (go_at_call 11; refine (hF _).out.mono ?_; rintro e w' ⟨rfl, rfl⟩))
      go_ret
      exact ⟨rfl, rfl⟩

end Go.Proofs.Ytnabkhhoocgkgaa
