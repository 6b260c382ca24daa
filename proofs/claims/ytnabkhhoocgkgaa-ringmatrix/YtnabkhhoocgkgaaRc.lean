/- The walk of RingMatrix. -/
import Derived.Test.YtnabkhhoocgkgaaRb
namespace Go.Proofs.Ytnabkhhoocgkgaa
open Go.RowKit
set_option maxRecDepth 100000
attribute [local go_sem] not_any mf_any

/- both products alike, whatever the sides -/
structure Both (l m k n : Int) (na nb ca cb : Nat) (a b : Option Addr) (xs ys : List Nat) (np : Nat) (lst : List Nat) (code : Int) : Prop where
  small : np ≤ 36
  mine : ∀ w, Nl w na a xs → Nl w nb b ys → Calls Try.prog 32 #[.int .i64 l, .int .i64 m, .int .i64 k, .int .i64 n, .slice a na ca, .slice b nb cb] w fun e w' => ∃ a' c', e = .returned (.tuple #[.slice a' np c', .int .i64 code]) ∧ Nl w' np a' lst ∧ Below w.heap.size w w'
  their : ∀ w, Nl w na a xs → Nl w nb b ys → Calls Try.prog 33 #[.int .i64 l, .int .i64 m, .int .i64 k, .int .i64 n, .slice a na ca, .slice b nb cb] w fun e w' => ∃ a' c', e = .returned (.tuple #[.slice a' np c', .int .i64 code]) ∧ Nl w' np a' lst ∧ Below w.heap.size w w'

theorem filled_sides {m k : Int} {na : Nat} (h : isFilled m k na = true) : ∃ M K : Nat, m = M ∧ k = K ∧ (1 ≤ M ∧ M ≤ 6) ∧ (1 ≤ K ∧ K ≤ 6) ∧ na = M * K := by
  have h' := of_decide_eq_true h
  obtain ⟨⟨hm, hk⟩, he⟩ := h'
  obtain ⟨M, rfl⟩ : ∃ M : Nat, m = M := ⟨m.toNat, by omega⟩
  obtain ⟨K, rfl⟩ : ∃ K : Nat, k = K := ⟨k.toNat, by omega⟩
  refine ⟨M, K, rfl, rfl, by omega, by omega, ?_⟩
  rw [← Int.natCast_mul] at he
  omega

theorem both_any (l m k n : Int) (na nb ca cb : Nat) (a b : Option Addr) (xs ys : List Nat) (sa : Small xs) (sb : Small ys) (hca : na ≤ ca) : ∃ np lst code, Both l m k n na nb ca cb a b xs ys np lst code := by
  by_cases h : isFilled m k na = true ∧ isFilled k n nb = true ∧ (1 ≤ l ∧ l ≤ 64)
  · obtain ⟨f1, f2, hl⟩ := h
    obtain ⟨L, rfl, h1, h2⟩ := good_nat hl
    obtain ⟨M, K, rfl, rfl, hm, hk, e1⟩ := filled_sides f1
    obtain ⟨K', N, eK, rfl, _, hn, e2⟩ := filled_sides f2
    have eK' : K' = K := by omega
    subst eK'
    have S : Sides M K' N na nb (M * N) := ⟨hm, hk, hn, e1, e2, rfl⟩
    refine ⟨M * N, told (mval L xs ys K' N) 0 (M * N) (M * N), 0, S.small.2.2, ?_, ?_⟩
    · intro w ha hb
      refine (matmul_any L M K' N na nb _ ca cb a b xs ys w h1 h2 S ha hb).mono ?_
      rintro e w' ⟨rfl, hr, hB⟩
      exact ⟨_, _, rfl, nl_told hr, hB⟩
    · intro w ha hb
      exact rmatmul_any L M K' N na nb _ ca cb a b xs ys w h1 h2 S ha hb sa sb hca
  · refine ⟨0, [], 11, by omega, ?_, ?_⟩
    · intro w _ _
      refine (matmul_no l m k n na nb ca cb a b w h).mono ?_
      rintro e w' ⟨rfl, rfl⟩
      exact ⟨_, _, rfl, ⟨rfl, fun j x hj => by simp at hj⟩, Below.refl _ _⟩
    · intro w _ _
      refine (rmatmul_no l m k n na nb ca cb a b w h).mono ?_
      rintro e w' ⟨rfl, rfl⟩
      exact ⟨_, _, rfl, ⟨rfl, fun j x hj => by simp at hj⟩, Below.refl _ _⟩

theorem matrix_else (l m k n : Int) (na nb ca cb : Nat) (a b : Option Addr) (w : World) (h : 40 < na ∨ 40 < nb) :
    Calls Try.prog 6 #[.int .i64 l, .int .i64 m, .int .i64 k, .int .i64 n, .slice a na ca, .slice b nb cb] w fun e w' => e = .returned (.bool true) ∧ w' = w := by
  have c4 := fun w => hide1 (awake_any w)
  by_cases h1 : 40 < na
  · have h1' : (40 : Int) < na := by omega
    clear h
    go_enter Try.func6, Try.ntmps6
    go_wp2_with fail
    refine (c4 _).out.mono ?_
    rintro e w' ⟨rfl, rfl⟩
    go_wp2
    go_ret
    exact ⟨rfl, rfl⟩
  · have h1' : ¬ (40 : Int) < na := by omega
    have h2' : (40 : Int) < nb := by omega
    clear h
    go_enter Try.func6, Try.ntmps6
    go_wp2_with fail
    refine (c4 _).out.mono ?_
    rintro e w' ⟨rfl, rfl⟩
    go_wp2
    go_ret
    exact ⟨rfl, rfl⟩

set_option maxHeartbeats 4000000 in
theorem matrix_no (l m k n : Int) (na nb ca cb : Nat) (a b : Option Addr) (xs ys : List Nat) (w : World) (ha : Nl w na a xs) (hb : Nl w nb b ys) (sa : Small xs) (sb : Small ys) (hca : na ≤ ca) (hna : na ≤ 40) (hnb : nb ≤ 40) (hf : isFilled m k na = false) :
    Calls Try.prog 6 #[.int .i64 l, .int .i64 m, .int .i64 k, .int .i64 n, .slice a na ca, .slice b nb cb] w fun e w' => e = .returned (.bool true) ∧ Below w.heap.size w w' := by
  obtain ⟨np, lst, code, hBo⟩ := both_any l m k n na nb ca cb a b xs ys sa sb hca
  have HBo := hide1 hBo
  have hnp := hBo.small
  have c1 := fun w => hide1 (turn_no m k na ca a w hf)
  have c2 := fun w => hide1 (sized_any m k w)
  have c4 := fun w => hide1 (awake_any w)
  have h1' : ¬ (40 : Int) < na := by omega
  have h2' : ¬ (40 : Int) < nb := by omega
  have hcc : (code != code) = false := by simp
  have HA := hide1 ha
  have HB := hide1 hb
  have hns : ¬ ((1 ≤ m ∧ m ≤ 6) ∧ (1 ≤ k ∧ k ≤ 6)) ∨ ∃ M K : Nat, m = M ∧ k = K ∧ (1 ≤ M ∧ M ≤ 6) ∧ (1 ≤ K ∧ K ≤ 6) ∧ na ≠ M * K := by
    by_cases h : (1 ≤ m ∧ m ≤ 6) ∧ (1 ≤ k ∧ k ≤ 6)
    · obtain ⟨M, rfl⟩ : ∃ M : Nat, m = M := ⟨m.toNat, by omega⟩
      obtain ⟨K, rfl⟩ : ∃ K : Nat, k = K := ⟨k.toNat, by omega⟩
      refine .inr ⟨M, K, rfl, rfl, by omega, by omega, fun e => ?_⟩
      rw [filled_nat (by omega) (by omega) e] at hf
      cases hf
    · exact .inl h
  clear ha hb sa sb hca hf hBo
  rcases hns with hns | ⟨M, K, rfl, rfl, hM, hK, hne⟩
  · rw [decide_eq_false hns] at c2
    clear hns
    go_enter Try.func6, Try.ntmps6
    go_wp2_with fail
    refine (HBo.out.mine _ HA.out HB.out).mono ?_
    rintro e w1 ⟨a1, q1, rfl, hz, hBe⟩
    have P1 := hide1 hz
    have A1 := hide1 (HA.out.below hBe (Nat.le_refl _))
    have B1 := hide1 (HB.out.below hBe (Nat.le_refl _))
    have E1 := hide1 hBe
    clear hz hBe HA HB
    go_wp2_with fail
    refine (HBo.out.their _ A1.out B1.out).mono ?_
    rintro e w2 ⟨a2, q2, rfl, hz, hBe⟩
    have P2 := hide1 (P1.out.below hBe (Nat.le_refl _))
    have Q2 := hide1 hz
    have E2 := hide1 (E1.out.trans (hBe.mono E1.out.size))
    clear hz hBe A1 B1 P1 E1
    go_wp2_with fail
    refine (c1 _).out.mono ?_
    rintro e w3 ⟨rfl, hw⟩
    cases hw
    go_wp2_with fail
    refine (nums_any _ np q1 q2 _ _ _ P2.out Q2.out (by omega)).mono ?_
    rintro e w4 ⟨rfl, q4, hq⟩
    have E4 : Hid (Below w.heap.size w w4) := by rw [hq]; exact below_drew2 E2.out q4
    clear hq E2 P2 Q2
    go_wp2_with fail
    refine (c2 _).out.mono ?_
    rintro e w5 ⟨rfl, hw⟩
    cases hw
    go_wp2_with fail
    refine (c4 _).out.mono ?_
    rintro e w5 ⟨rfl, hw⟩
    cases hw
    go_wp2
    go_ret
    exact ⟨rfl, E4.out⟩
  · rw [sized_yes2 hM hK] at c2
    have b1 : M * K ≤ 6 * 6 := Nat.mul_le_mul hM.2 hK.2
    have e1 : IntKind.i64.wrap ((M : Int) * (K : Int)) = ((M * K : Nat) : Int) := by rw [← Int.natCast_mul, wrap_i64_nat (by omega)]
    obtain ⟨p, hp⟩ : ∃ p, p = M * K := ⟨_, rfl⟩
    rw [← hp] at e1 hne
    have g1' : ((na : Int) != (p : Int)) = true := by rw [bne_iff_ne]; omega
    clear hne b1 hp hM hK
    go_enter Try.func6, Try.ntmps6
    go_wp2_with fail
    refine (HBo.out.mine _ HA.out HB.out).mono ?_
    rintro e w1 ⟨a1, q1, rfl, hz, hBe⟩
    have P1 := hide1 hz
    have A1 := hide1 (HA.out.below hBe (Nat.le_refl _))
    have B1 := hide1 (HB.out.below hBe (Nat.le_refl _))
    have E1 := hide1 hBe
    clear hz hBe HA HB
    go_wp2_with fail
    refine (HBo.out.their _ A1.out B1.out).mono ?_
    rintro e w2 ⟨a2, q2, rfl, hz, hBe⟩
    have P2 := hide1 (P1.out.below hBe (Nat.le_refl _))
    have Q2 := hide1 hz
    have E2 := hide1 (E1.out.trans (hBe.mono E1.out.size))
    clear hz hBe A1 B1 P1 E1
    go_wp2_with fail
    refine (c1 _).out.mono ?_
    rintro e w3 ⟨rfl, hw⟩
    cases hw
    go_wp2_with fail
    refine (nums_any _ np q1 q2 _ _ _ P2.out Q2.out (by omega)).mono ?_
    rintro e w4 ⟨rfl, q4, hq⟩
    have E4 : Hid (Below w.heap.size w w4) := by rw [hq]; exact below_drew2 E2.out q4
    clear hq E2 P2 Q2
    go_wp2_with fail
    refine (c2 _).out.mono ?_
    rintro e w5 ⟨rfl, hw⟩
    cases hw
    go_wp2_with fail
    refine (c4 _).out.mono ?_
    rintro e w5 ⟨rfl, hw⟩
    cases hw
    go_wp2
    go_ret
    exact ⟨rfl, E4.out⟩

end Go.Proofs.Ytnabkhhoocgkgaa
