/- The walk of RingBits. -/
import Derived.Test.YtnabkhhoocgkgaaH
namespace Go.Proofs.Ytnabkhhoocgkgaa
open Go.RowKit
set_option maxRecDepth 100000
attribute [local go_sem] not_any mf_any

theorem bit_cut {x L j : Nat} (h : j < L) : x % 2 ^ L / 2 ^ j % 2 = x / 2 ^ j % 2 := by
  have h1 := Nat.testBit_mod_two_pow x L j
  rw [Nat.testBit_eq_decide_div_mod_eq, Nat.testBit_eq_decide_div_mod_eq] at h1
  simp [h] at h1
  have a1 : x % 2 ^ L / 2 ^ j % 2 < 2 := Nat.mod_lt _ (by omega)
  have a2 : x / 2 ^ j % 2 < 2 := Nat.mod_lt _ (by omega)
  omega

theorem fit64 {x : Nat} (h : x < 18446744073709551616) : fit 64 x = x := by
  have := fit_nat (L := 64) (by omega) (by omega) x
  rw [show ((64 : Nat) : Int) = 64 from rfl] at this
  rw [this, Nat.mod_eq_of_lt h]

theorem add64 (a b : Nat) (w : World) (h : a + b < 18446744073709551616) :
    Calls Try.prog 12 #[.int .i64 64, .int .u64 (a : Int), .int .u64 (b : Int)] w fun e w' => e = .returned (.int .u64 ((a + b : Nat) : Int)) ∧ w' = w := by
  have := add_any 64 a b w
  rw [fit64 h] at this
  exact this

theorem bits_law_no (l : Int) (x : Int) (w : World) (h : ¬ (1 ≤ l ∧ l ≤ 64)) :
    Calls Try.prog 8 #[.int .i64 l, .int .u64 x] w fun e w' => e = .returned (.bool true) ∧ w' = w := by
  have h1 := fun w => hide1 (bits_no l x w h)
  have h2 := fun w => hide1 (good_any l w)
  rw [decide_eq_false h] at h2
  have h3 := fun w => hide1 (awake_any w)
  clear h
  go_enter Try.func8, Try.ntmps8
  go_wp2_with (first | (go_at_call 37; refine (h1 _).out.mono ?_; rintro e w' ⟨rfl, rfl⟩) | (go_at_call 10; refine (h2 _).out.mono ?_; rintro e w' ⟨rfl, rfl⟩) | (go_at_call 17; refine (h3 _).out.mono ?_; rintro e w' ⟨rfl, rfl⟩))
  go_ret
  exact ⟨rfl, rfl⟩

set_option maxHeartbeats 1000000 in
theorem bits_law (L x : Nat) (w : World) (q1 : 1 ≤ L) (q2 : L ≤ 64) (hx : x < 18446744073709551616) :
    Calls Try.prog 8 #[.int .i64 L, .int .u64 (x : Int)] w fun e w' => e = .returned (.bool true) ∧ Below w.heap.size w w' := by
  have h1 := fun w => hide1 (bits_any L x w q1 q2 hx)
  have h2 := fun w => hide1 (good_any L w)
  rw [decide_eq_true (by omega)] at h2
  have h3 := fun w => hide1 (awake_any w)
  have h4 := fun w => hide1 (rfit_any L x w q1 q2 hx)
  have hXl : x % 2 ^ L < 18446744073709551616 := cut_lt q2 x
  have hXL : x % 2 ^ L / 2 ^ L = 0 := Nat.div_eq_of_lt (Nat.mod_lt _ (pow_pos2 L))
  have HBC := hide1 (fun j (h : j < L) => bit_cut (x := x) h)
  obtain ⟨X, hX⟩ : ∃ X, X = x % 2 ^ L := ⟨_, rfl⟩
  rw [← hX] at h4 hXl hXL HBC
  clear hX hx
  have hLL : ((L : Int) != (L : Int)) = false := by simp
  go_enter Try.func8, Try.ntmps8
  go_wp2_with fail
  refine (h1 _).out.mono ?_
  rintro e w1 ⟨rfl, hr, hB⟩
  have HR := hide1 hr
  have HB := hide1 hB
  clear hr hB
  go_wp2_with fail
  refine (h2 _).out.mono ?_
  rintro e w2 ⟨rfl, rfl⟩
  go_wp2
  clear h1 h2
  go_loopw [6, 7] (fun v i wr => ∃ k : Nat, k ≤ L ∧ i = .int .i64 ((k : Int) - 1) ∧ v = .int .u64 ((X / 2 ^ k : Nat) : Int) ∧ wr = w2) (fun _ i _ => ((intOf i) + 1).toNat)
  case atStart => exact ⟨L, Nat.le_refl _, rfl, by rw [hXL]; rfl, rfl⟩
  case round =>
    obtain ⟨k, hk, rfl, rfl, rfl⟩ := hrel
    cases k with
    | zero =>
      rw [Nat.pow_zero, Nat.div_one]
      go_wp2_with (first | (go_at_call 18; refine (h4 _).out.mono ?_; rintro e w' ⟨rfl, rfl⟩) | (go_at_call 17; refine (h3 _).out.mono ?_; rintro e w' ⟨rfl, rfl⟩))
      go_ret
      exact ⟨rfl, HB.out⟩
    | succ k =>
      rw [show (((k + 1 : Nat) : Int) - 1) = (k : Int) by omega]
      have hdb := div_bit X k
      have hle : X / 2 ^ k ≤ X := Nat.div_le_self _ _
      have hc := brow_cell HR.out (told_get (show k < L by omega))
      rw [if_pos (by omega)] at hc
      have hbc := HBC.out k (by omega)
      obtain ⟨n, hn⟩ : ∃ n, n = X / 2 ^ (k + 1) := ⟨_, rfl⟩
      rw [← hn] at hdb
      rw [← hn]
      have h5 := fun w => hide1 (add64 n n w (by omega))
      by_cases hbit : x / 2 ^ k % 2 = 1
      · have hb1 : bitAt x k = true := decide_eq_true hbit
        rw [hb1] at hc
        have h6 := fun w => hide1 (add64 (n + n) 1 w (by omega))
        have HE : Hid (n + n + 1 = X / 2 ^ k) := by show _ = _; omega
        obtain ⟨m, hm⟩ : ∃ m, m = n + n := ⟨_, rfl⟩
        rw [← hm] at h5 h6 HE
        obtain ⟨m', hm'⟩ : ∃ m', m' = m + 1 := ⟨_, rfl⟩
        rw [← hm'] at h6 HE
        clear hdb hle hbc hn hbit hb1 hm hm'
        go_wp2_with fail
        refine (h5 _).out.mono ?_
        rintro e w' ⟨rfl, rfl⟩
        go_wp2_with fail
        refine (h6 _).out.mono ?_
        rintro e w' ⟨rfl, rfl⟩
        go_wp2
        go_roundw
        case rel => exact ⟨k, by omega, by go_num, by rw [HE.out], by trivial⟩
        case measure => simp [intOf]
      · have hb1 : bitAt x k = false := decide_eq_false hbit
        rw [hb1] at hc
        have HE : Hid (n + n = X / 2 ^ k) := by show _ = _; omega
        obtain ⟨m, hm⟩ : ∃ m, m = n + n := ⟨_, rfl⟩
        rw [← hm] at h5 HE
        clear hdb hle hbc hn hbit hb1 hm
        go_wp2_with fail
        refine (h5 _).out.mono ?_
        rintro e w' ⟨rfl, rfl⟩
        go_wp2
        go_roundw
        case rel => exact ⟨k, by omega, by go_num, by rw [HE.out], by trivial⟩
        case measure => simp [intOf]

theorem bit_all (w : World) (l : Int) (x : Nat) (hx : x < 18446744073709551616) :
    Calls Try.prog 8 #[.int .i64 l, .int .u64 (x : Int)] w fun e w' => e = .returned (.bool true) ∧ Below w.heap.size w w' := by
  by_cases h : 1 ≤ l ∧ l ≤ 64
  · obtain ⟨L, rfl, h1, h2⟩ := good_nat h
    exact bits_law L x w h1 h2 hx
  · exact (bits_law_no l x w h).mono fun e w' ⟨h3, h4⟩ => ⟨h3, h4 ▸ Below.refl _ _⟩

end Go.Proofs.Ytnabkhhoocgkgaa
