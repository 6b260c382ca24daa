/- The walk of RingReckons. -/
import Derived.Test.YtnabkhhoocgkgaaM
import Derived.Test.YtnabkhhoocgkgaaD
import Derived.Test.YtnabkhhoocgkgaaF
namespace Go.Proofs.Ytnabkhhoocgkgaa
open Go.RowKit
set_option maxRecDepth 100000
attribute [local go_sem] not_any mf_any

set_option maxHeartbeats 2000000 in
theorem reckons_no (l : Int) (a b n : Nat) (w : World) (h : ¬ (1 ≤ l ∧ l ≤ 64)) (ha : a < 18446744073709551616) (hb : b < 18446744073709551616) (hn : n < 18446744073709551616) :
    Calls Try.prog 3 #[.int .i64 l, .int .u64 (a : Int), .int .u64 (b : Int), .int .u64 (n : Int)] w fun e w' => e = .returned (.bool true) ∧ w' = w := by
  have h1 := fun w => hide1 (mask_no l w h)
  have h2 := fun w => hide1 (good_any l w)
  rw [decide_eq_false h] at h2
  have h3 := fun w => hide1 (fit_any l a w ha)
  have h4 := fun w => hide1 (add_any l a b w)
  have h5 := fun w => hide1 (sub_any l a b w hb)
  have h6 := fun w => hide1 (mul_any l a b w)
  have h7 := fun w => hide1 (neg_any l a w ha)
  have h8 := fun w => hide1 (pow_any l a n w ha hn)
  have h9 := fun w => hide1 (awake_any w)
  rw [fit_bad h] at h3 h4 h5 h6 h7 h8
  clear h ha hb hn
  go_enter Try.func3, Try.ntmps3
  go_wp2_with (first | (go_at_call 9; refine (h1 _).out.mono ?_; rintro e w' ⟨rfl, rfl⟩) | (go_at_call 10; refine (h2 _).out.mono ?_; rintro e w' ⟨rfl, rfl⟩) | (go_at_call 11; refine (h3 _).out.mono ?_; rintro e w' ⟨rfl, rfl⟩) | (go_at_call 12; refine (h4 _).out.mono ?_; rintro e w' ⟨rfl, rfl⟩) | (go_at_call 13; refine (h5 _).out.mono ?_; rintro e w' ⟨rfl, rfl⟩) | (go_at_call 14; refine (h6 _).out.mono ?_; rintro e w' ⟨rfl, rfl⟩) | (go_at_call 15; refine (h7 _).out.mono ?_; rintro e w' ⟨rfl, rfl⟩) | (go_at_call 16; refine (h8 _).out.mono ?_; rintro e w' ⟨rfl, rfl⟩) | (go_at_call 17; refine (h9 _).out.mono ?_; rintro e w' ⟨rfl, rfl⟩))
  go_ret
  exact ⟨rfl, rfl⟩

theorem mask_fit {L : Nat} (h : L ≤ 64) : 18446744073709551615 % 2 ^ L = 2 ^ L - 1 := by
  have h1 := pow_pos2 L
  obtain ⟨c, hc⟩ := pow_dvd64 h
  have hc' : 18446744073709551616 = c * 2 ^ L := by rw [Nat.mul_comm]; exact hc
  generalize 2 ^ L = p at *
  cases c with
  | zero => omega
  | succ c =>
    rw [Nat.succ_mul] at hc'
    rw [show 18446744073709551615 = (p - 1) + c * p by omega, Nat.add_mul_mod_self_right, Nat.mod_eq_of_lt (by omega)]

theorem two_nl {w : World} {g a b : Nat} (h : w.heap[g]? = some (.cells #[.int .u64 (a : Int), .int .u64 (b : Int)] 22 (0, 0))) : Nl w 2 (some ⟨g, 0, none⟩) [a, b] := nl_row (ws := [a, b]) h

theorem small_two {a b : Nat} (ha : a < 18446744073709551616) (hb : b < 18446744073709551616) : Small [a, b] := by
  intro j x hj
  match j, hj with
  | 0, hj => cases hj; exact ha
  | 1, hj => cases hj; exact hb
  | j + 2, hj => simp at hj

theorem fits_two {L a b : Nat} (h1 : 1 ≤ L) (h2 : L ≤ 64) : fitsAll (L : Int) [a, b] = decide (a % 2 ^ L = a ∧ b % 2 ^ L = b) := by
  unfold fitsAll
  simp only [List.mem_cons, List.not_mem_nil, or_false, forall_eq_or_imp, forall_eq, fit_nat h1 h2]

theorem below_drewN {B : Nat} {w w' : World} (h : Below B w w') (q : Nat) : Below B w (w'.drewN q) := ⟨h.1, h.2, h.3, h.4, h.5⟩

/- the second half: sums, differences, products, powers -/
structure Rest (L a b n : Nat) : Prop where
  l1 : 1 ≤ L
  l2 : L ≤ 64
  a1 : a < 18446744073709551616
  b1 : b < 18446744073709551616
  n1 : n < 18446744073709551616

set_option maxHeartbeats 4000000 in
theorem reckons_yes (L a b n : Nat) (w : World) (h : Rest L a b n) :
    Calls Try.prog 3 #[.int .i64 L, .int .u64 (a : Int), .int .u64 (b : Int), .int .u64 (n : Int)] w fun e w' => e = .returned (.bool true) ∧ Below w.heap.size w w' := by
  obtain ⟨h1, h2, ha, hb, hn⟩ := h
  have c1 := fun w => hide1 (mask_any L w h1 h2)
  have c2 := fun w => hide1 (good_any L w)
  rw [decide_eq_true (by omega)] at c2
  have c3 := fun w => hide1 (rfit_any L 18446744073709551615 w h1 h2 (by omega))
  rw [mask_fit h2] at c3
  have c4 := fun w => hide1 (fit_yes L a w h1 h2 ha)
  have c5 := fun w => hide1 (rfit_any L a w h1 h2 ha)
  have c6 := fun w => hide1 (rfit_any L b w h1 h2 hb)
  have cF := fun w (ad : Option Addr) hA => hide1 (fits_any L w 2 2 ad [a, b] hA (small_two ha hb) (by omega))
  rw [fits_two h1 h2] at cF
  have d1 := fun w => hide1 (add_any L a b w)
  have d2 := fun w => hide1 (radd_any L a b w h1 h2 ha hb)
  have d3 := fun w => hide1 (sub_any L a b w hb)
  have d4 := fun w => hide1 (rsub_any L a b w h1 h2 ha hb)
  have d5 := fun w => hide1 (mul_any L a b w)
  have d6 := fun w => hide1 (rmul_any L a b w h1 h2 ha hb)
  have d7 := fun w => hide1 (neg_any L a w ha)
  have d8 := fun w => hide1 (rneg_any a w ha)
  have d9 := fun w => hide1 (rfit_any L ((18446744073709551616 - a) % 18446744073709551616) w h1 h2 (Nat.mod_lt _ (by omega)))
  rw [cut_64 h2] at d9
  have e1 := fun w => hide1 (pow_any L a n w ha hn)
  have e2 := fun w => hide1 (rpow_any L a n w h1 h2 ha hn)
  have e3 := fun w => hide1 (awake_any w)
  rw [fit_nat h1 h2] at d1 d3 d5 d7 e1
  obtain ⟨m, hm⟩ : ∃ m, m = 2 ^ L - 1 := ⟨_, rfl⟩
  rw [← hm] at c1 c3
  obtain ⟨A, hA⟩ : ∃ A, A = a % 2 ^ L := ⟨_, rfl⟩
  obtain ⟨B, hB⟩ : ∃ B, B = b % 2 ^ L := ⟨_, rfl⟩
  rw [← hA] at c4 c5
  rw [← hB] at c6
  rw [← hA, ← hB] at cF
  obtain ⟨s1, hs1⟩ : ∃ s, s = (a + b) % 2 ^ L := ⟨_, rfl⟩
  rw [← hs1] at d1 d2
  obtain ⟨s2, hs2⟩ : ∃ s, s = (a + (18446744073709551616 - b)) % 2 ^ L := ⟨_, rfl⟩
  rw [← hs2] at d3 d4
  obtain ⟨s3, hs3⟩ : ∃ s, s = a * b % 2 ^ L := ⟨_, rfl⟩
  rw [← hs3] at d5 d6
  obtain ⟨s4, hs4⟩ : ∃ s, s = (18446744073709551616 - a) % 2 ^ L := ⟨_, rfl⟩
  rw [← hs4] at d7 d9
  obtain ⟨s5, hs5⟩ : ∃ s, s = (18446744073709551616 - a) % 18446744073709551616 := ⟨_, rfl⟩
  rw [← hs5] at d8 d9
  obtain ⟨s6, hs6⟩ : ∃ s, s = a ^ n % 2 ^ L := ⟨_, rfl⟩
  rw [← hs6] at e1 e2
  clear hm hA hB hs1 hs2 hs3 hs4 hs5 hs6 hn ha hb h1 h2
  by_cases hAa : A = a
  · subst hAa
    by_cases hBb : B = b
    · subst hBb
      rw [decide_eq_true (by simp)] at cF
      go_enter Try.func3, Try.ntmps3
      go_wp2_with fail
      refine (c1 _).out.mono ?_
      rintro e w' ⟨rfl, rfl⟩
      go_wp2_with fail
      refine (c2 _).out.mono ?_
      rintro e w' ⟨rfl, rfl⟩
      go_wp2_with fail
      refine (c3 _).out.mono ?_
      rintro e w' ⟨rfl, rfl⟩
      go_wp2_with fail
      refine (c4 _).out.mono ?_
      rintro e w' ⟨rfl, rfl⟩
      go_wp2_with fail
      refine (c5 _).out.mono ?_
      rintro e w' ⟨rfl, rfl⟩
      go_wp2_with fail
      refine (cF _ _ (two_nl (heap_alloc_new _ _))).out.mono ?_
      rintro e w1 ⟨rfl, q, hq⟩
      have HB := hide1 (show Below w'.heap.size w' w1 by rw [hq]; exact below_drewN ((Below.refl _ _).alloc (Nat.le_refl _) _) q)
      clear hq
      go_wp2_with fail
      refine (c5 _).out.mono ?_
      rintro e w2 ⟨rfl, rfl⟩
      go_wp2_with fail
      refine (c6 _).out.mono ?_
      rintro e w2 ⟨rfl, rfl⟩
      go_wp2_with fail
      refine (d1 _).out.mono ?_
      rintro e w2 ⟨rfl, rfl⟩
      go_wp2_with fail
      refine (d2 _).out.mono ?_
      rintro e w2 ⟨rfl, rfl⟩
      go_wp2_with fail
      refine (d3 _).out.mono ?_
      rintro e w2 ⟨rfl, rfl⟩
      go_wp2_with fail
      refine (d4 _).out.mono ?_
      rintro e w2 ⟨rfl, rfl⟩
      go_wp2_with fail
      refine (d5 _).out.mono ?_
      rintro e w2 ⟨rfl, rfl⟩
      go_wp2_with fail
      refine (d6 _).out.mono ?_
      rintro e w2 ⟨rfl, rfl⟩
      go_wp2_with fail
      refine (d7 _).out.mono ?_
      rintro e w2 ⟨rfl, rfl⟩
      go_wp2_with fail
      refine (d8 _).out.mono ?_
      rintro e w2 ⟨rfl, rfl⟩
      go_wp2_with fail
      refine (d9 _).out.mono ?_
      rintro e w2 ⟨rfl, rfl⟩
      go_wp2_with fail
      refine (e1 _).out.mono ?_
      rintro e w2 ⟨rfl, rfl⟩
      go_wp2_with fail
      refine (e2 _).out.mono ?_
      rintro e w2 ⟨rfl, rfl⟩
      go_wp2_with fail
      refine (e3 _).out.mono ?_
      rintro e w2 ⟨rfl, rfl⟩
      go_wp2
      go_ret
      exact ⟨rfl, HB.out⟩
    · have hne : ((B : Int) == (b : Int)) = false := by rw [beq_eq_false_iff_ne]; omega
      rw [decide_eq_false (by omega)] at cF
      clear hBb
      go_enter Try.func3, Try.ntmps3
      go_wp2_with fail
      refine (c1 _).out.mono ?_
      rintro e w' ⟨rfl, rfl⟩
      go_wp2_with fail
      refine (c2 _).out.mono ?_
      rintro e w' ⟨rfl, rfl⟩
      go_wp2_with fail
      refine (c3 _).out.mono ?_
      rintro e w' ⟨rfl, rfl⟩
      go_wp2_with fail
      refine (c4 _).out.mono ?_
      rintro e w' ⟨rfl, rfl⟩
      go_wp2_with fail
      refine (c5 _).out.mono ?_
      rintro e w' ⟨rfl, rfl⟩
      go_wp2_with fail
      refine (cF _ _ (two_nl (heap_alloc_new _ _))).out.mono ?_
      rintro e w1 ⟨rfl, q, hq⟩
      have HB := hide1 (show Below w'.heap.size w' w1 by rw [hq]; exact below_drewN ((Below.refl _ _).alloc (Nat.le_refl _) _) q)
      clear hq
      go_wp2_with fail
      refine (c5 _).out.mono ?_
      rintro e w2 ⟨rfl, rfl⟩
      go_wp2_with fail
      refine (c6 _).out.mono ?_
      rintro e w2 ⟨rfl, rfl⟩
      go_wp2_with fail
      refine (d1 _).out.mono ?_
      rintro e w2 ⟨rfl, rfl⟩
      go_wp2_with fail
      refine (d2 _).out.mono ?_
      rintro e w2 ⟨rfl, rfl⟩
      go_wp2_with fail
      refine (d3 _).out.mono ?_
      rintro e w2 ⟨rfl, rfl⟩
      go_wp2_with fail
      refine (d4 _).out.mono ?_
      rintro e w2 ⟨rfl, rfl⟩
      go_wp2_with fail
      refine (d5 _).out.mono ?_
      rintro e w2 ⟨rfl, rfl⟩
      go_wp2_with fail
      refine (d6 _).out.mono ?_
      rintro e w2 ⟨rfl, rfl⟩
      go_wp2_with fail
      refine (d7 _).out.mono ?_
      rintro e w2 ⟨rfl, rfl⟩
      go_wp2_with fail
      refine (d8 _).out.mono ?_
      rintro e w2 ⟨rfl, rfl⟩
      go_wp2_with fail
      refine (d9 _).out.mono ?_
      rintro e w2 ⟨rfl, rfl⟩
      go_wp2_with fail
      refine (e1 _).out.mono ?_
      rintro e w2 ⟨rfl, rfl⟩
      go_wp2_with fail
      refine (e2 _).out.mono ?_
      rintro e w2 ⟨rfl, rfl⟩
      go_wp2_with fail
      refine (e3 _).out.mono ?_
      rintro e w2 ⟨rfl, rfl⟩
      go_wp2
      go_ret
      exact ⟨rfl, HB.out⟩
  · have hne : ((A : Int) == (a : Int)) = false := by rw [beq_eq_false_iff_ne]; omega
    rw [decide_eq_false (by omega)] at cF
    clear hAa
    go_enter Try.func3, Try.ntmps3
    go_wp2_with fail
    refine (c1 _).out.mono ?_
    rintro e w' ⟨rfl, rfl⟩
    go_wp2_with fail
    refine (c2 _).out.mono ?_
    rintro e w' ⟨rfl, rfl⟩
    go_wp2_with fail
    refine (c3 _).out.mono ?_
    rintro e w' ⟨rfl, rfl⟩
    go_wp2_with fail
    refine (c4 _).out.mono ?_
    rintro e w' ⟨rfl, rfl⟩
    go_wp2_with fail
    refine (c5 _).out.mono ?_
    rintro e w' ⟨rfl, rfl⟩
    go_wp2_with fail
    refine (cF _ _ (two_nl (heap_alloc_new _ _))).out.mono ?_
    rintro e w1 ⟨rfl, q, hq⟩
    have HB := hide1 (show Below w'.heap.size w' w1 by rw [hq]; exact below_drewN ((Below.refl _ _).alloc (Nat.le_refl _) _) q)
    clear hq
    go_wp2_with fail
    refine (c5 _).out.mono ?_
    rintro e w2 ⟨rfl, rfl⟩
    go_wp2_with fail
    refine (d1 _).out.mono ?_
    rintro e w2 ⟨rfl, rfl⟩
    go_wp2_with fail
    refine (d2 _).out.mono ?_
    rintro e w2 ⟨rfl, rfl⟩
    go_wp2_with fail
    refine (d3 _).out.mono ?_
    rintro e w2 ⟨rfl, rfl⟩
    go_wp2_with fail
    refine (d4 _).out.mono ?_
    rintro e w2 ⟨rfl, rfl⟩
    go_wp2_with fail
    refine (d5 _).out.mono ?_
    rintro e w2 ⟨rfl, rfl⟩
    go_wp2_with fail
    refine (d6 _).out.mono ?_
    rintro e w2 ⟨rfl, rfl⟩
    go_wp2_with fail
    refine (d7 _).out.mono ?_
    rintro e w2 ⟨rfl, rfl⟩
    go_wp2_with fail
    refine (d8 _).out.mono ?_
    rintro e w2 ⟨rfl, rfl⟩
    go_wp2_with fail
    refine (d9 _).out.mono ?_
    rintro e w2 ⟨rfl, rfl⟩
    go_wp2_with fail
    refine (e1 _).out.mono ?_
    rintro e w2 ⟨rfl, rfl⟩
    go_wp2_with fail
    refine (e2 _).out.mono ?_
    rintro e w2 ⟨rfl, rfl⟩
    go_wp2_with fail
    refine (e3 _).out.mono ?_
    rintro e w2 ⟨rfl, rfl⟩
    go_wp2
    go_ret
    exact ⟨rfl, HB.out⟩

theorem rec_all (w : World) (l : Int) (a b n : Nat) (ha : a < 18446744073709551616) (hb : b < 18446744073709551616) (hn : n < 18446744073709551616) :
    Calls Try.prog 3 #[.int .i64 l, .int .u64 (a : Int), .int .u64 (b : Int), .int .u64 (n : Int)] w fun e w' => e = .returned (.bool true) ∧ Below w.heap.size w w' := by
  by_cases h : 1 ≤ l ∧ l ≤ 64
  · obtain ⟨L, rfl, h1, h2⟩ := good_nat h
    exact reckons_yes L a b n w ⟨h1, h2, ha, hb, hn⟩
  · exact (reckons_no l a b n w h ha hb hn).mono fun e w' ⟨h3, h4⟩ => ⟨h3, h4 ▸ Below.refl _ _⟩

end Go.Proofs.Ytnabkhhoocgkgaa
