/- The document's sums and products, bit by bit: R.Fit, R.Add, R.Neg, R.Sub, R.Mul, R.Pow. -/
import Derived.Test.YtgcbdjmlhjbacaaJ03
namespace Go.Proofs.Ytgcbdjmlhjbacaa.Ri
open Go.RowKit
set_option maxRecDepth 100000
attribute [local go_sem] not_any mf_any

theorem pow_int (k : Nat) : ((2 : Int) ^ k) = ((2 ^ k : Nat) : Int) := by simp
theorem pow_lt64 {k : Nat} (h : k < 64) : 2 ^ k < 18446744073709551616 := Nat.pow_lt_pow_right (by omega) h
theorem wrap_pow {k : Nat} (h : k < 64) : IntKind.u64.wrap (2 ^ k) = ((2 ^ k : Nat) : Int) := by
  rw [pow_int, wrap_nat, Nat.mod_eq_of_lt (pow_lt64 h)]
theorem bit_int (x k : Nat) : ((x : Int) / 2 ^ k).tmod 2 = ((x / 2 ^ k % 2 : Nat) : Int) := by
  rw [pow_int, ← Int.natCast_ediv]
  rfl
theorem mod_int (x k : Nat) : (x : Int) % 2 ^ k = ((x % 2 ^ k : Nat) : Int) := by rw [pow_int, ← Int.natCast_emod]
theorem bit_shl {d k : Nat} (hd : d ≤ 1) (h : k < 64) : d * 2 ^ k < 18446744073709551616 := by
  have := pow_lt64 h
  obtain rfl | rfl : d = 0 ∨ d = 1 := by omega
  · omega
  · omega

theorem rfit_round {x k : Nat} (hx : x < 18446744073709551616) (h : k < 64) : bits .or .u64 ((x : Int) % 2 ^ k) (bits .and .u64 (x : Int) (IntKind.u64.wrap (2 ^ k))) = ((x % 2 ^ (k + 1) : Nat) : Int) := by
  rw [wrap_pow h, mod_int, u64_and_nat _ _ hx (pow_lt64 h), and_bit, u64_or_nat _ _ (cut_lt (by omega) x) (bit_shl (by omega) h), fit_step]

theorem add_bits (a b k : Nat) : IntKind.u64.wrap (IntKind.u64.wrap (((a : Int) / 2 ^ k).tmod 2 + ((b : Int) / 2 ^ k).tmod 2) + (car a b k : Nat)) = ((a / 2 ^ k % 2 + b / 2 ^ k % 2 + car a b k : Nat) : Int) := by
  have := car_le a b k
  rw [bit_int, bit_int, ← Int.natCast_add, wrap_nat, Nat.mod_eq_of_lt (by omega), ← Int.natCast_add, wrap_nat, Nat.mod_eq_of_lt (by omega)]

theorem radd_out {a b k : Nat} (h : k < 64) : bits .or .u64 (((a : Int) + (b : Int)) % 2 ^ k) (IntKind.u64.wrap ((IntKind.u64.wrap (IntKind.u64.wrap (((a : Int) / 2 ^ k).tmod 2 + ((b : Int) / 2 ^ k).tmod 2) + (car a b k : Nat))).tmod 2 * 2 ^ k)) = (((a + b) % 2 ^ (k + 1) : Nat) : Int) := by
  rw [add_bits, ← Int.natCast_add, mod_int, add_step, pow_int]
  obtain ⟨s, hs⟩ : ∃ s, s = a / 2 ^ k % 2 + b / 2 ^ k % 2 + car a b k := ⟨_, rfl⟩
  rw [← hs, show ((s : Nat) : Int).tmod 2 = ((s % 2 : Nat) : Int) from rfl, ← Int.natCast_mul, wrap_nat, Nat.mod_eq_of_lt (bit_shl (by omega) h), u64_or_nat _ _ (cut_lt (by omega) _) (bit_shl (by omega) h)]

theorem radd_car {a b k : Nat} : IntKind.u64.wrap ((IntKind.u64.wrap (IntKind.u64.wrap (((a : Int) / 2 ^ k).tmod 2 + ((b : Int) / 2 ^ k).tmod 2) + (car a b k : Nat))).tdiv 2) = (car a b (k + 1) : Nat) := by
  have := car_le a b k
  rw [add_bits, car_step]
  obtain ⟨s, hs⟩ : ∃ s, s = a / 2 ^ k % 2 + b / 2 ^ k % 2 + car a b k := ⟨_, rfl⟩
  rw [← hs, show ((s : Nat) : Int).tdiv 2 = ((s / 2 : Nat) : Int) from rfl, wrap_nat, Nat.mod_eq_of_lt (by omega)]

set_option maxHeartbeats 1000000 in
theorem rfit_any (L x : Nat) (w : World) (h1 : 1 ≤ L) (h2 : L ≤ 64) (hx : x < 18446744073709551616) :
    Calls Try.prog 19 #[.int .i64 L, .int .u64 (x : Int)] w fun e w' => e = .returned (.int .u64 ((x % 2 ^ L : Nat) : Int)) ∧ w' = w := by
  go_enter Try.func19, Try.ntmps19
  go_wp2
  go_loopw [5, 6] (fun o i wr => ∃ k : Nat, k ≤ L ∧ i = .int .i64 k ∧ o = .int .u64 ((x % 2 ^ k : Nat) : Int) ∧ wr = w) (fun _ i _ => L - (intOf i).toNat)
  case atStart => exact ⟨0, Nat.zero_le _, rfl, by simp [Nat.mod_one], rfl⟩
  case round =>
    obtain ⟨k, hk, rfl, rfl, rfl⟩ := hrel
    by_cases hlt : k < L
    · go_wp2
      go_roundw
      case rel => exact ⟨k + 1, by omega, by go_num, by rw [rfit_round hx (by omega)], by trivial⟩
      case measure => simp [intOf]; omega
    · have : k = L := by omega
      subst this
      go_wp2
      all_goals go_ret
      all_goals exact ⟨rfl, rfl⟩

set_option maxHeartbeats 1000000 in
theorem radd_any (L a b : Nat) (w : World) (h1 : 1 ≤ L) (h2 : L ≤ 64) (_ha : a < 18446744073709551616) (_hb : b < 18446744073709551616) :
    Calls Try.prog 23 #[.int .i64 L, .int .u64 (a : Int), .int .u64 (b : Int)] w fun e w' => e = .returned (.int .u64 (((a + b) % 2 ^ L : Nat) : Int)) ∧ w' = w := by
  go_enter Try.func23, Try.ntmps23
  go_wp2
  go_loopw [7, 8, 9] (fun o c i wr => ∃ k : Nat, k ≤ L ∧ i = .int .i64 k ∧ o = .int .u64 (((a + b) % 2 ^ k : Nat) : Int) ∧ c = .int .u64 (car a b k : Nat) ∧ wr = w) (fun _ _ i _ => L - (intOf i).toNat)
  case atStart => exact ⟨0, Nat.zero_le _, rfl, by simp [Nat.mod_one], by simp [car_zero], rfl⟩
  case round =>
    obtain ⟨k, hk, rfl, rfl, rfl, rfl⟩ := hrel
    by_cases hlt : k < L
    · go_wp2
      go_roundw
      case rel => exact ⟨k + 1, by omega, by go_num, by rw [radd_out (by omega)], by rw [radd_car], by trivial⟩
      case measure => simp [intOf]; omega
    · have : k = L := by omega
      subst this
      go_wp2
      all_goals go_ret
      all_goals exact ⟨rfl, rfl⟩

theorem rneg_any (a : Nat) (w : World) (ha : a < 18446744073709551616) :
    Calls Try.prog 37 #[.int .i64 64, .int .u64 (a : Int)] w fun e w' => e = .returned (.int .u64 (((18446744073709551616 - a) % 18446744073709551616 : Nat) : Int)) ∧ w' = w := by
  have e : IntKind.u64.wrap (18446744073709551615 - (a : Int)) = ((18446744073709551615 - a : Nat) : Int) := by rw [wrap_mod]; omega
  have hA := fun w => hide1 (radd_any 64 (18446744073709551615 - a) 1 w (by omega) (by omega) (by omega) (by omega))
  rw [show 18446744073709551615 - a + 1 = 18446744073709551616 - a by omega, show (2 : Nat) ^ 64 = 18446744073709551616 from rfl] at hA
  obtain ⟨z, hz⟩ : ∃ z, z = ((18446744073709551615 - a : Nat) : Int) := ⟨_, rfl⟩
  rw [← hz] at hA e
  clear hz
  go_enter Try.func37, Try.ntmps37
  go_wp2_with (first | (go_at_call 23; refine (hA _).out.mono ?_; rintro e w' ⟨rfl, rfl⟩))
  go_ret
  exact ⟨by trivial, rfl⟩

theorem rsub_any (L a b : Nat) (w : World) (h1 : 1 ≤ L) (h2 : L ≤ 64) (ha : a < 18446744073709551616) (hb : b < 18446744073709551616) :
    Calls Try.prog 22 #[.int .i64 L, .int .u64 (a : Int), .int .u64 (b : Int)] w fun e w' => e = .returned (.int .u64 (((a + (18446744073709551616 - b)) % 2 ^ L : Nat) : Int)) ∧ w' = w := by
  have hN := fun w => hide1 (rneg_any b w hb)
  have hA := fun w => hide1 (radd_any L a ((18446744073709551616 - b) % 18446744073709551616) w h1 h2 ha (by omega))
  rw [sub_cut L h2] at hA
  obtain ⟨z, hz⟩ : ∃ z, z = (18446744073709551616 - b) % 18446744073709551616 := ⟨_, rfl⟩
  rw [← hz] at hA hN
  clear hz
  go_enter Try.func22, Try.ntmps22
  go_wp2_with (first | (go_at_call 37; refine (hN _).out.mono ?_; rintro e w' ⟨rfl, rfl⟩) | (go_at_call 23; refine (hA _).out.mono ?_; rintro e w' ⟨rfl, rfl⟩))
  go_ret
  exact ⟨by trivial, rfl⟩

theorem bit_is {x k : Nat} (h : x / 2 ^ k % 2 = 1) : (((x : Int) / 2 ^ k).tmod 2 == 1) = true := by rw [bit_int, h]; rfl
theorem bit_isnt {x k : Nat} (h : ¬ x / 2 ^ k % 2 = 1) : (((x : Int) / 2 ^ k).tmod 2 == 1) = false := by
  rw [bit_int, show x / 2 ^ k % 2 = 0 by omega]
  rfl

set_option maxHeartbeats 1000000 in
theorem rmul_any (L a b : Nat) (w : World) (h1 : 1 ≤ L) (h2 : L ≤ 64) (ha : a < 18446744073709551616) (_hb : b < 18446744073709551616) :
    Calls Try.prog 24 #[.int .i64 L, .int .u64 (a : Int), .int .u64 (b : Int)] w fun e w' => e = .returned (.int .u64 ((a * b % 2 ^ L : Nat) : Int)) ∧ w' = w := by
  go_enter Try.func24, Try.ntmps24
  go_wp2
  go_loopw [1, 7, 8] (fun p o i wr => ∃ k : Nat, k ≤ L ∧ i = .int .i64 k ∧ o = .int .u64 ((a * (b % 2 ^ k) % 2 ^ L : Nat) : Int) ∧ p = .int .u64 ((a * 2 ^ k % 18446744073709551616 : Nat) : Int) ∧ wr = w) (fun _ _ i _ => L - (intOf i).toNat)
  case atStart => exact ⟨0, Nat.zero_le _, rfl, by simp [Nat.mod_one], by rw [Nat.pow_zero, Nat.mul_one, Nat.mod_eq_of_lt ha], rfl⟩
  case round =>
    obtain ⟨k, hk, rfl, rfl, rfl, rfl⟩ := hrel
    by_cases hlt : k < L
    · have hA := fun w => hide1 (radd_any L (a * (b % 2 ^ k) % 2 ^ L) (a * 2 ^ k % 18446744073709551616) w h1 h2 (cut_lt h2 _) (Nat.mod_lt _ (by omega)))
      have hD := fun w => hide1 (radd_any 64 (a * 2 ^ k % 18446744073709551616) (a * 2 ^ k % 18446744073709551616) w (by omega) (by omega) (Nat.mod_lt _ (by omega)) (Nat.mod_lt _ (by omega)))
      rw [show (2 : Nat) ^ 64 = 18446744073709551616 from rfl, dbl_step] at hD
      by_cases hbit : b / 2 ^ k % 2 = 1
      · have hbi := bit_is hbit
        rw [mul_step1 h2 hbit] at hA
        obtain ⟨o, ho⟩ : ∃ o, o = a * (b % 2 ^ k) % 2 ^ L := ⟨_, rfl⟩
        obtain ⟨p, hp⟩ : ∃ p, p = a * 2 ^ k % 18446744073709551616 := ⟨_, rfl⟩
        obtain ⟨o', ho'⟩ : ∃ o, o = a * (b % 2 ^ (k + 1)) % 2 ^ L := ⟨_, rfl⟩
        obtain ⟨p', hp'⟩ : ∃ p, p = a * 2 ^ (k + 1) % 18446744073709551616 := ⟨_, rfl⟩
        rw [← ho, ← hp, ← ho'] at hA
        rw [← hp, ← hp'] at hD
        rw [← ho, ← hp]
        clear ho hp hbit
        have HO := hide1 ho'
        have HP := hide1 hp'
        clear ho' hp'
        go_wp2_with fail
        refine (hA _).out.mono ?_
        rintro e w' ⟨rfl, rfl⟩
        go_wp2_with fail
        refine (hD _).out.mono ?_
        rintro e w' ⟨rfl, rfl⟩
        go_wp2
        go_roundw
        case rel => exact ⟨k + 1, by omega, by go_num, by rw [HO.out], by rw [HP.out], by trivial⟩
        case measure => simp [intOf]; omega
      · have hbi := bit_isnt hbit
        have HS := hide1 (mul_step0 (a := a) (L := L) hbit)
        obtain ⟨o, ho⟩ : ∃ o, o = a * (b % 2 ^ k) % 2 ^ L := ⟨_, rfl⟩
        obtain ⟨p, hp⟩ : ∃ p, p = a * 2 ^ k % 18446744073709551616 := ⟨_, rfl⟩
        obtain ⟨p', hp'⟩ : ∃ p, p = a * 2 ^ (k + 1) % 18446744073709551616 := ⟨_, rfl⟩
        rw [← ho] at HS
        rw [← hp, ← hp'] at hD
        rw [← ho, ← hp]
        clear ho hp hbit hA
        have HP := hide1 hp'
        clear hp'
        go_wp2_with (first | (go_at_call 23; refine (hD _).out.mono ?_; rintro e w' ⟨rfl, rfl⟩))
        go_roundw
        case rel => exact ⟨k + 1, by omega, by go_num, by rw [HS.out], by rw [HP.out], by trivial⟩
        case measure => simp [intOf]; omega
    · have : k = L := by omega
      subst this
      rw [mul_end]
      obtain ⟨o, ho⟩ : ∃ o, o = a * b % 2 ^ k := ⟨_, rfl⟩
      rw [← ho]
      go_wp2
      all_goals go_ret
      all_goals exact ⟨rfl, rfl⟩

end Go.Proofs.Ytgcbdjmlhjbacaa.Ri
