/- The walk of PrgEven. -/
import Derived.Test.YtldopgngbnjlnaaSo
namespace Go.Proofs.Ytldopgngbnjlnaa
open Go.RowKit
set_option maxRecDepth 100000
attribute [local go_sem] not_any mf_any

/- what divides a power of 2 is one -/
theorem pow_of_dvd : ∀ (k n : Nat), n ∣ 2 ^ k → ∃ j, j ≤ k ∧ n = 2 ^ j
  | 0, n, h => ⟨0, Nat.le_refl _, by simpa using h⟩
  | k + 1, n, h => by
    rcases Nat.mod_two_eq_zero_or_one n with h0 | h1
    · obtain ⟨m, hm⟩ : ∃ m, n = 2 * m := ⟨n / 2, by omega⟩
      subst hm
      have h2 : m ∣ 2 ^ k := by
        obtain ⟨c, hc⟩ := h
        refine ⟨c, ?_⟩
        rw [Nat.pow_succ, Nat.mul_comm, Nat.mul_assoc] at hc
        exact Nat.eq_of_mul_eq_mul_left (by omega) hc
      obtain ⟨j, hj, e⟩ := pow_of_dvd k m h2
      exact ⟨j + 1, by omega, by rw [e, Nat.pow_succ, Nat.mul_comm]⟩
    · obtain ⟨c, hc⟩ := h
      have hc2 : c % 2 = 0 := by
        have := congrArg (· % 2) hc
        simp only [Nat.pow_succ, Nat.mul_mod_left] at this
        rw [Nat.mul_mod, h1, Nat.one_mul, Nat.mod_mod] at this
        omega
      obtain ⟨d, hd⟩ : ∃ d, c = 2 * d := ⟨c / 2, by omega⟩
      have h2 : n ∣ 2 ^ k := by
        refine ⟨d, ?_⟩
        rw [hd, Nat.pow_succ, Nat.mul_comm n, Nat.mul_assoc, Nat.mul_comm _ 2] at hc
        rw [Nat.mul_comm n]
        exact Nat.eq_of_mul_eq_mul_left (by omega) hc
      obtain ⟨j, hj, e⟩ := pow_of_dvd k n h2
      exact ⟨j, by omega, e⟩

theorem and_pred {n : Nat} (h0 : 0 < n) (hn : n < 18446744073709551616) (hc : cutN n = 0) : n &&& (n - 1) = 0 := by
  have hd : n ∣ 2 ^ 64 := by
    rw [cutN, if_neg (by omega)] at hc
    have h1 : 18446744073709551616 % n < n := Nat.mod_lt _ h0
    refine Nat.dvd_of_mod_eq_zero ?_
    show 18446744073709551616 % n = 0
    generalize 18446744073709551616 % n = r at *
    omega
  obtain ⟨j, _, rfl⟩ := pow_of_dvd 64 n hd
  rw [Nat.and_two_pow_sub_one_eq_mod, Nat.mod_self]

theorem cut_mult {n : Nat} (h0 : 0 < n) (hc : cutN n ≠ 0) : cutN n % n = 0 ∧ 18446744073709551616 - cutN n < n := by
  have h1 : 18446744073709551616 % n < n := Nat.mod_lt _ h0
  have h2 := Nat.div_add_mod 18446744073709551616 n
  rw [cutN, if_neg (by omega)] at hc ⊢
  have h3 : 18446744073709551616 % n ≠ 0 := by
    intro h
    rw [h] at hc
    omega
  have h4 : 18446744073709551616 % n ≤ 18446744073709551616 := Nat.mod_le _ _
  have h5 : (18446744073709551616 - 18446744073709551616 % n) % 18446744073709551616 = 18446744073709551616 - 18446744073709551616 % n := Nat.mod_eq_of_lt (by omega)
  rw [h5]
  refine ⟨?_, by omega⟩
  have : 18446744073709551616 - 18446744073709551616 % n = n * (18446744073709551616 / n) := by omega
  rw [this, Nat.mul_mod_right]

theorem even_zero (W : World) (z : Nat) : Calls Try.prog 6 #[.int .u64 0, .int .u64 (z : Int)] W fun e w' => e = .returned (.bool true) ∧ Below W.heap.size W w' := by
  have k1 := fun w => hide1 (cut_any 0 w (by omega))
  have k2 := fun w => hide1 (rcut_any 0 w (by omega))
  rw [show cutN 0 = 0 by rfl] at k1 k2
  go_enter Try.func6, Try.ntmps6
  go_wp2_with (first | (go_at_call 26; refine (k1 _).out.mono ?_; rintro e w' ⟨rfl, rfl⟩) | (go_at_call 27; refine (k2 _).out.mono ?_; rintro e w' ⟨rfl, rfl⟩) | (go_at_call 9; refine (awake_any _).mono ?_; rintro e w' ⟨rfl, rfl⟩))
  go_ret
  exact ⟨rfl, Below.refl _ _⟩

def two (a b : Nat) : List Nat := [a, b, 0, 0, 0, 0, 0, 0, 0, 0, 0, 0, 0, 0, 0, 0, 0, 0, 0, 0, 0, 0, 0, 0, 0, 0, 0, 0, 0, 0, 0, 0]
theorem two_lt {a b : Nat} (ha : a < 256) (hb : b < 256) : Lt 256 (two a b) := by
  intro x hx
  simp [two] at hx
  omega

set_option maxHeartbeats 4000000 in
theorem even_some (W : World) (n z : Nat) (hn0 : 0 < n) (hn : n < 18446744073709551616) (_hz : z < 18446744073709551616) : Calls Try.prog 6 #[.int .u64 (n : Int), .int .u64 (z : Int)] W fun e w' => e = .returned (.bool true) ∧ Below W.heap.size W w' := by
  obtain ⟨b0, hb0⟩ : ∃ v, v = z % 256 := ⟨_, rfl⟩
  obtain ⟨b1, hb1⟩ : ∃ v, v = z / 256 % 256 := ⟨_, rfl⟩
  have k1 := fun w => hide1 (cut_any n w hn)
  have k2 := fun w => hide1 (rcut_any n w hn)
  have kn := fun w => hide1 (new_any (two b0 b1) 1 w rfl)
  have kb : Hid (∀ (w : World) (g : Nat), w.heap[g]? = some (srow true (two b0 b1) 1 0) → Calls Try.prog 23 #[.pointer (some ⟨g, 0, none⟩), .int .u64 (n : Int)] w (SPost (two b0 b1) 1 g w (siftP (two b0 b1) 1 n 64 0))) :=
    fun w g h => below_any (two b0 b1) 1 n 0 g w rfl (two_lt (by omega) (by omega)) (by omega) hn0 hn (by omega) h
  have ho := siftP_out (two b0 b1) 1 n hn0 64 0
  have hc0 : cutN n = 0 → bits .and .u64 (n : Int) ((n : Int) - 1) = 0 := fun h => by
    have h1 := and_pred hn0 hn h
    have h2 := u64_and_nat n (n - 1) hn (by omega)
    rw [h1, show ((n - 1 : Nat) : Int) = (n : Int) - 1 by omega] at h2
    exact h2
  have hc1 := fun h => cut_mult (n := n) hn0 h
  have hcl := cutN_lt n
  have hnz : (n : Int) ≠ 0 := by omega
  have hnz2 : ((n : Int) == 0) = false := by rw [beq_eq_false_iff_ne]; exact hnz
  have e0 : IntKind.u8.wrap (z : Int) = (b0 : Int) := by rw [IntKind.wrap_u8]; omega
  have e1 : IntKind.u8.wrap ((z : Int) / 256) = (b1 : Int) := by rw [IntKind.wrap_u8]; omega
  have w1 : IntKind.u64.wrap ((n : Int) - 1) = (n : Int) - 1 := by rw [IntKind.wrap_u64]; omega
  obtain ⟨r, hr⟩ : ∃ r, siftP (two b0 b1) 1 n 64 0 = r := ⟨_, rfl⟩
  rw [hr] at kb ho
  obtain ⟨v, t', code⟩ := r
  generalize cutN n = c at *
  clear hr hb0 hb1 hn hn0
  by_cases hcz : c = 0
  · subst hcz
    have hand := hc0 rfl
    clear hc0 hc1
    go_enter Try.func6, Try.ntmps6
    go_wp2_with (first | (go_at_call 26; refine (k1 _).out.mono ?_; rintro e w' ⟨rfl, rfl⟩) | (go_at_call 27; refine (k2 _).out.mono ?_; rintro e w' ⟨rfl, rfl⟩) | fail)
    go_at_call 21
    refine (kn _).out.mono ?_
    rintro e wn ⟨g, rfl, hg, hrow, hbn⟩
    have K := hide1 (kb.out wn g hrow)
    have HB := hide1 hbn
    have HG := hide1 hg
    clear kb hrow hbn hg k1 k2 kn
    rcases ho with ⟨hcode, hv⟩ | ⟨hcode, hv⟩
    all_goals
      subst hcode
      first | (have hvi : (v : Int) < (n : Int) := by omega) | subst hv
      go_wp2_with fail
      go_at_call 23
      refine K.out.mono ?_
      rintro e wb ⟨rfl, _, hbut⟩
      have HE := hide1 (hbut.below HB.out HG.out HB.out.size)
      clear K hbut
      go_wp2_with (go_at_call 9; refine (awake_any _).mono ?_; rintro e w' ⟨rfl, rfl⟩)
      go_ret
      exact ⟨rfl, HE.out⟩
  · obtain ⟨h1, h2⟩ := hc1 hcz
    have hci : (c : Int) ≠ 0 := by omega
    have hci2 : ((c : Int) == 0) = false := by rw [beq_eq_false_iff_ne]; exact hci
    have hci3 : ((c : Int) != 0) = true := by rw [bne_iff_ne]; exact hci
    have hm : (c : Int) % (n : Int) = 0 := by omega
    obtain ⟨r, hr⟩ : ∃ r, r = 18446744073709551616 - c := ⟨_, rfl⟩
    have hsub : IntKind.u64.wrap (0 - (c : Int)) = (r : Int) := by rw [IntKind.wrap_u64]; omega
    have hsub2 : IntKind.u64.wrap (-(c : Int)) = (r : Int) := by rw [IntKind.wrap_u64]; omega
    have hge : decide ((n : Int) ≤ (r : Int)) = false := by rw [decide_eq_false_iff_not]; omega
    have hge2 : decide (n ≤ r) = false := by rw [decide_eq_false_iff_not]; omega
    clear hc0 hc1 h1 h2 hr hcz
    go_enter Try.func6, Try.ntmps6
    go_wp2_with (first | (go_at_call 26; refine (k1 _).out.mono ?_; rintro e w' ⟨rfl, rfl⟩) | (go_at_call 27; refine (k2 _).out.mono ?_; rintro e w' ⟨rfl, rfl⟩) | fail)
    go_at_call 21
    refine (kn _).out.mono ?_
    rintro e wn ⟨g, rfl, hg, hrow, hbn⟩
    have K := hide1 (kb.out wn g hrow)
    have HB := hide1 hbn
    have HG := hide1 hg
    clear kb hrow hbn hg k1 k2 kn
    rcases ho with ⟨hcode, hv⟩ | ⟨hcode, hv⟩
    all_goals
      subst hcode
      first | (have hvi : (v : Int) < (n : Int) := by omega) | subst hv
      go_wp2_with fail
      go_at_call 23
      refine K.out.mono ?_
      rintro e wb ⟨rfl, _, hbut⟩
      have HE := hide1 (hbut.below HB.out HG.out HB.out.size)
      clear K hbut
      go_wp2_with (go_at_call 9; refine (awake_any _).mono ?_; rintro e w' ⟨rfl, rfl⟩)
      go_ret
      exact ⟨rfl, HE.out⟩

theorem even_all (W : World) (n z : Nat) (hn : n < 18446744073709551616) (hz : z < 18446744073709551616) : Calls Try.prog 6 #[.int .u64 (n : Int), .int .u64 (z : Int)] W fun e w' => e = .returned (.bool true) ∧ Below W.heap.size W w' := by
  by_cases h0 : 0 < n
  · exact even_some W n z h0 hn hz
  · obtain rfl : n = 0 := by omega
    exact even_zero W z
end Go.Proofs.Ytldopgngbnjlnaa
