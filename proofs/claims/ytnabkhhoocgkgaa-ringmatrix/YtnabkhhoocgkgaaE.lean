/- Inverses: Inverse, R.Inverse, and the chapter's examples. -/
import Derived.Test.YtnabkhhoocgkgaaC
namespace Go.Proofs.Ytnabkhhoocgkgaa
open Go.RowKit
set_option maxRecDepth 100000
attribute [local go_sem] not_any mf_any

theorem even_is {a : Nat} (h : a % 2 = 0) : (((a : Int)).tmod 2 == 0) = true := by
  rw [show ((a : Int)).tmod 2 = ((a % 2 : Nat) : Int) from rfl, h]; rfl
theorem odd_is {a : Nat} (h : a % 2 = 1) : (((a : Int)).tmod 2 == 0) = false := by
  rw [show ((a : Int)).tmod 2 = ((a % 2 : Nat) : Int) from rfl, h]; rfl

theorem odd_is2 {a : Nat} (h : a % 2 = 1) : ((a : Int) % 2 == 0) = false := by
  rw [beq_eq_false_iff_ne]
  omega

theorem inverse_even (l : Int) (a : Nat) (w : World) (h : a % 2 = 0) :
    Calls Try.prog 25 #[.int .i64 l, .int .u64 (a : Int)] w fun e w' => e = .returned (.tuple #[.int .u64 0, .bool false]) ∧ w' = w := by
  have he := even_is h
  go_enter Try.func25, Try.ntmps25
  go_wp2
  go_ret2
  exact ⟨rfl, rfl⟩

theorem inverse_bad (l : Int) (a : Nat) (w : World) (h : a % 2 = 1) (hl : ¬ (1 ≤ l ∧ l ≤ 64)) :
    Calls Try.prog 25 #[.int .i64 l, .int .u64 (a : Int)] w fun e w' => e = .returned (.tuple #[.int .u64 0, .bool false]) ∧ w' = w := by
  have he := odd_is h
  have he2 := odd_is2 h
  have hA := fun w => hide1 (allowed_any l w)
  rw [decide_eq_false hl] at hA
  go_enter Try.func25, Try.ntmps25
  go_wp2_with (first | (go_at_call 38; refine (hA _).out.mono ?_; rintro e w' ⟨rfl, rfl⟩))
  go_ret2
  exact ⟨rfl, rfl⟩

def goes (k : Nat) : Nat := match k with
  | 0 => 3
  | 1 => 6
  | 2 => 12
  | 3 => 24
  | 4 => 48
  | _ => 64

theorem goes_next {k : Nat} (h : k < 5) : goes (k + 1) ≤ 2 * goes k ∧ goes (k + 1) ≤ 64 := by
  match k, h with
  | 0, _ => decide
  | 1, _ => decide
  | 2, _ => decide
  | 3, _ => decide
  | 4, _ => decide

set_option maxHeartbeats 1000000 in
theorem inverse_any (L a : Nat) (w : World) (h1 : 1 ≤ L) (h2 : L ≤ 64) (ha : a < 18446744073709551616) (hodd : a % 2 = 1) :
    Calls Try.prog 25 #[.int .i64 L, .int .u64 (a : Int)] w fun e w' => (∃ x : Nat, x < 2 ^ L ∧ a * x % 2 ^ L = 1 % 2 ^ L ∧ e = .returned (.tuple #[.int .u64 (x : Int), .bool true])) ∧ w' = w := by
  have he := odd_is hodd
  have he2 := odd_is2 hodd
  have hA := fun w => hide1 (allowed_any L w)
  rw [decide_eq_true (by omega)] at hA
  have HI := hide1 (odd_inv hodd)
  clear hodd
  go_enter Try.func25, Try.ntmps25
  go_wp2_with (first | (go_at_call 38; refine (hA _).out.mono ?_; rintro e w' ⟨rfl, rfl⟩))
  go_loopw [6, 16] (fun v i wr => ∃ k x : Nat, k ≤ 5 ∧ x < 18446744073709551616 ∧ i = .int .i64 k ∧ v = .int .u64 (x : Int) ∧ Inv a x (goes k) ∧ wr = w') (fun _ i _ => 5 - (intOf i).toNat)
  case atStart => exact ⟨0, a, Nat.zero_le _, ha, rfl, rfl, HI.out, rfl⟩
  case round =>
    obtain ⟨k, x, hk, hx, rfl, rfl, hI, rfl⟩ := hrel
    by_cases hlt : k < 5
    · obtain ⟨y, hy, e, hJ⟩ := newton (j := goes (k + 1)) hI (goes_next hlt).1 (goes_next hlt).2
      have E := hide1 e
      have J := hide1 hJ
      clear e hJ hI
      go_wp2
      go_roundw
      case rel => exact ⟨k + 1, y, by omega, hy, by go_num, by rw [wrap_mod, wrap_mod, wrap_mod, E.out], J.out, by trivial⟩
      case measure => simp [intOf]; omega
    · have : k = 5 := by omega
      subst this
      have J := hide1 hI
      clear hI
      have hF := fun w => hide1 (fit_yes L x w h1 h2 hx)
      obtain ⟨y, hy⟩ : ∃ y, y = x % 2 ^ L := ⟨_, rfl⟩
      rw [← hy] at hF
      have HY := hide1 hy
      clear hy
      go_wp2_with (first | (go_at_call 11; refine (hF _).out.mono ?_; rintro e w' ⟨rfl, rfl⟩))
      go_ret2
      refine ⟨⟨y, ?_, ?_, rfl⟩, rfl⟩
      · rw [HY.out]
        exact Nat.mod_lt _ (pow_pos2 L)
      · rw [HY.out, mul_cut2]
        exact (Inv.low J.out h2).mod

theorem rinverse_even (l : Int) (a : Nat) (w : World) (h : a % 2 = 0) :
    Calls Try.prog 26 #[.int .i64 l, .int .u64 (a : Int)] w fun e w' => e = .returned (.tuple #[.int .u64 0, .bool false]) ∧ w' = w := by
  have he := even_is h
  go_enter Try.func26, Try.ntmps26
  go_wp2
  go_ret2
  exact ⟨rfl, rfl⟩

theorem rinverse_bad (l : Int) (a : Nat) (w : World) (h : a % 2 = 1) (hl : ¬ (1 ≤ l ∧ l ≤ 64)) :
    Calls Try.prog 26 #[.int .i64 l, .int .u64 (a : Int)] w fun e w' => e = .returned (.tuple #[.int .u64 0, .bool false]) ∧ w' = w := by
  have he := odd_is h
  have he2 := odd_is2 h
  have hA := fun w => hide1 (good_any l w)
  rw [decide_eq_false hl] at hA
  go_enter Try.func26, Try.ntmps26
  go_wp2_with (first | (go_at_call 10; refine (hA _).out.mono ?_; rintro e w' ⟨rfl, rfl⟩))
  go_ret2
  exact ⟨rfl, rfl⟩

theorem rinv_or {o i : Nat} (hi : i < 64) (ho : o < 2 ^ i) : bits .or .u64 (o : Int) (IntKind.u64.wrap (2 ^ i)) = ((o + 2 ^ i : Nat) : Int) ∧ o + 2 ^ i < 2 ^ (i + 1) := by
  have h1 := pow_lt64 hi
  have h2 := or_bit 1 ho
  rw [Nat.one_mul] at h2
  refine ⟨by rw [wrap_pow hi, u64_or_nat _ _ (by omega) h1, h2], ?_⟩
  rw [Nat.pow_succ]
  omega

theorem rinv_shl (a i : Nat) : IntKind.u64.wrap ((a : Int) * 2 ^ i) = ((a * 2 ^ i % 18446744073709551616 : Nat) : Int) := by
  rw [pow_int, ← Int.natCast_mul, wrap_nat]

theorem bit_ne {s i : Nat} (b : Nat) (h : s / 2 ^ i % 2 ≠ b) : (((s : Int) / 2 ^ i).tmod 2 != (b : Int)) = true := by
  rw [bit_int, bne_iff_ne]
  omega
theorem bit_eq {s i : Nat} (b : Nat) (h : s / 2 ^ i % 2 = b) : (((s : Int) / 2 ^ i).tmod 2 != (b : Int)) = false := by
  rw [bit_int, h]
  simp

theorem bit_ne1 {s i : Nat} (h : s / 2 ^ i % 2 ≠ 1) : (((s : Int) / 2 ^ i).tmod 2 != 1) = true := bit_ne 1 h
theorem bit_ne0 {s i : Nat} (h : s / 2 ^ i % 2 ≠ 0) : (((s : Int) / 2 ^ i).tmod 2 != 0) = true := bit_ne 0 h
theorem bit_eq1 {s i : Nat} (h : s / 2 ^ i % 2 = 1) : (((s : Int) / 2 ^ i).tmod 2 != 1) = false := bit_eq 1 h
theorem bit_eq0 {s i : Nat} (h : s / 2 ^ i % 2 = 0) : (((s : Int) / 2 ^ i).tmod 2 != 0) = false := bit_eq 0 h

set_option maxHeartbeats 1000000 in
theorem rinverse_any (L a : Nat) (w : World) (h1 : 1 ≤ L) (h2 : L ≤ 64) (ha : a < 18446744073709551616) (hodd : a % 2 = 1) :
    Calls Try.prog 26 #[.int .i64 L, .int .u64 (a : Int)] w fun e w' => (∃ x : Nat, x < 2 ^ L ∧ a * x % 2 ^ L = 1 % 2 ^ L ∧ e = .returned (.tuple #[.int .u64 (x : Int), .bool true])) ∧ w' = w := by
  have he := odd_is hodd
  have he2 := odd_is2 hodd
  have hA := fun w => hide1 (good_any L w)
  rw [decide_eq_true (by omega)] at hA
  have HO := hide1 hodd
  clear hodd
  go_enter Try.func26, Try.ntmps26
  go_wp2_with (first | (go_at_call 10; refine (hA _).out.mono ?_; rintro e w' ⟨rfl, rfl⟩))
  go_loopw [6, 7, 8] (fun vo vs i wr => ∃ k o s : Nat, k ≤ L ∧ i = .int .i64 k ∧ vo = .int .u64 (o : Int) ∧ vs = .int .u64 (s : Int) ∧ o < 2 ^ k ∧ s = a * o % 18446744073709551616 ∧ s % 2 ^ k = 1 % 2 ^ k ∧ wr = w') (fun _ _ i _ => L - (intOf i).toNat)
  case atStart => exact ⟨0, 0, 0, Nat.zero_le _, rfl, rfl, rfl, by simp, by simp, by simp, rfl⟩
  case round =>
    obtain ⟨k, o, s, hk, rfl, rfl, rfl, ho, hs, hI, rfl⟩ := hrel
    have hsl : s < 18446744073709551616 := by rw [hs]; exact Nat.mod_lt _ (by omega)
    by_cases hlt : k < L
    · obtain ⟨q1, q2⟩ := rinv_or (by omega) ho
      have Q1 := hide1 q1
      have Q2 := hide1 q2
      have HA := fun w => hide1 (radd_any 64 s (a * 2 ^ k % 18446744073709551616) w (by omega) (by omega) hsl (Nat.mod_lt _ (by omega)))
      have hsh := rinv_shl a k
      rw [show (2 : Nat) ^ 64 = 18446744073709551616 from rfl] at HA
      obtain ⟨t, ht⟩ : ∃ t, t = (s + a * 2 ^ k % 18446744073709551616) % 18446744073709551616 := ⟨_, rfl⟩
      rw [← ht] at HA
      have T := hide1 ht
      have S := hide1 hs
      have I := hide1 hI
      have O := hide1 ho
      clear q1 q2 ht hs hI ho
      obtain ⟨z, hz⟩ : ∃ z, z = a * 2 ^ k % 18446744073709551616 := ⟨_, rfl⟩
      rw [← hz] at HA hsh T
      have Z := hide1 hz
      clear hz
      have HS : Hid (t = a * (o + 2 ^ k) % 18446744073709551616) := by
        show t = _
        rw [T.out, Z.out, S.out, sum_step O.out]
      by_cases hk0 : k = 0
      · have hz0 : ((k : Int) == 0) = true := by rw [beq_iff_eq]; omega
        by_cases hb : s / 2 ^ k % 2 = 1
        · skip
          have hne := bit_eq1 hb
          have H0 := hide1 (inv_step0 I.out (by rw [hb, if_pos hk0]))
          clear hb hk0
          go_wp2
          go_roundw
          case rel => exact ⟨k + 1, o, s, by omega, by go_num, rfl, rfl, Nat.lt_of_lt_of_le O.out (Nat.pow_le_pow_right (by omega) (by omega)), S.out, H0.out, by trivial⟩
          case measure => simp [intOf]; omega
        · skip
          have hne := bit_ne1 hb
          have H0 := hide1 (inv_step1 (a := a) (by omega) HO.out I.out (by rw [if_pos hk0]; exact hb))
          clear hb hk0
          go_wp2_with fail
          refine (HA _).out.mono ?_
          rintro e w' ⟨rfl, rfl⟩
          go_wp2
          go_roundw
          case rel => exact ⟨k + 1, o + 2 ^ k, t, by omega, by go_num, by rw [Q1.out], rfl, Q2.out, HS.out, by rw [T.out, Z.out]; exact H0.out, by trivial⟩
          case measure => simp [intOf]; omega
      · have hz0 : ((k : Int) == 0) = false := by rw [beq_eq_false_iff_ne]; omega
        by_cases hb : s / 2 ^ k % 2 = 0
        · skip
          have hne := bit_eq0 hb
          have H0 := hide1 (inv_step0 I.out (by rw [hb, if_neg hk0]))
          clear hb hk0
          go_wp2
          go_roundw
          case rel => exact ⟨k + 1, o, s, by omega, by go_num, rfl, rfl, Nat.lt_of_lt_of_le O.out (Nat.pow_le_pow_right (by omega) (by omega)), S.out, H0.out, by trivial⟩
          case measure => simp [intOf]; omega
        · skip
          have hne := bit_ne0 hb
          have H0 := hide1 (inv_step1 (a := a) (by omega) HO.out I.out (by rw [if_neg hk0]; exact hb))
          clear hb hk0
          go_wp2_with fail
          refine (HA _).out.mono ?_
          rintro e w' ⟨rfl, rfl⟩
          go_wp2
          go_roundw
          case rel => exact ⟨k + 1, o + 2 ^ k, t, by omega, by go_num, by rw [Q1.out], rfl, Q2.out, HS.out, by rw [T.out, Z.out]; exact H0.out, by trivial⟩
          case measure => simp [intOf]; omega
    · have : k = L := by omega
      subst this
      have S := hide1 hs
      have I := hide1 hI
      have O := hide1 ho
      clear hs hI ho
      go_wp2
      go_ret2
      refine ⟨⟨o, O.out, ?_, rfl⟩, rfl⟩
      have := I.out
      rw [S.out, cut_64 (by omega)] at this
      exact this

end Go.Proofs.Ytnabkhhoocgkgaa
