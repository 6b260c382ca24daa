/- Sides of matrices: isSide, filled, R.Sized; R.Nums. -/
import Derived.Test.YtnabkhhoocgkgaaJ
namespace Go.Proofs.Ytnabkhhoocgkgaa
open Go.RowKit
set_option maxRecDepth 100000
attribute [local go_sem] not_any mf_any

theorem isSide_any (l : Int) (w : World) :
    Calls Try.prog 44 #[.int .i64 l] w fun e w' => e = .returned (.bool (decide (1 ≤ l ∧ l ≤ 6))) ∧ w' = w := by
  go_enter Try.func44, Try.ntmps44
  go_wp2
  all_goals go_ret
  · exact ⟨by simp [*], rfl⟩
  · refine ⟨?_, rfl⟩
    have : ¬ 1 ≤ l := by omega
    simp [this]

theorem sized_any (m k : Int) (w : World) :
    Calls Try.prog 36 #[.int .i64 m, .int .i64 k] w fun e w' => e = .returned (.bool (decide ((1 ≤ m ∧ m ≤ 6) ∧ (1 ≤ k ∧ k ≤ 6)))) ∧ w' = w := by
  by_cases h1 : 1 ≤ m
  · by_cases h2 : m ≤ 6
    · by_cases h3 : 1 ≤ k
      · by_cases h4 : k ≤ 6
        · go_enter Try.func36, Try.ntmps36
          go_wp2
          go_ret
          exact ⟨by simp [h1, h2, h3, h4], rfl⟩
        · go_enter Try.func36, Try.ntmps36
          go_wp2
          go_ret
          exact ⟨by simp [h4], rfl⟩
      · go_enter Try.func36, Try.ntmps36
        go_wp2
        go_ret
        exact ⟨by simp; omega, rfl⟩
    · go_enter Try.func36, Try.ntmps36
      go_wp2
      go_ret
      exact ⟨by simp; omega, rfl⟩
  · go_enter Try.func36, Try.ntmps36
    go_wp2
    go_ret
    exact ⟨by simp; omega, rfl⟩

def isFilled (m k : Int) (n : Nat) : Bool := decide (((1 ≤ m ∧ m ≤ 6) ∧ (1 ≤ k ∧ k ≤ 6)) ∧ (n : Int) = m * k)

theorem filled_any (m k : Int) (n c : Nat) (a : Option Addr) (w : World) :
    Calls Try.prog 41 #[.int .i64 m, .int .i64 k, .slice a n c] w fun e w' => e = .returned (.bool (isFilled m k n)) ∧ w' = w := by
  have hM := fun w => hide1 (isSide_any m w)
  have hK := fun w => hide1 (isSide_any k w)
  by_cases h1 : 1 ≤ m ∧ m ≤ 6
  · rw [decide_eq_true h1] at hM
    by_cases h2 : 1 ≤ k ∧ k ≤ 6
    · rw [decide_eq_true h2] at hK
      obtain ⟨M, rfl⟩ : ∃ M : Nat, m = M := ⟨m.toNat, by omega⟩
      obtain ⟨K, rfl⟩ : ∃ K : Nat, k = K := ⟨k.toNat, by omega⟩
      have hMK : M * K ≤ 6 * 6 := Nat.mul_le_mul (by omega) (by omega)
      have hw : IntKind.i64.wrap ((M : Int) * (K : Int)) = (M : Int) * (K : Int) := by
        rw [IntKind.wrap_i64, ← Int.natCast_mul]
        omega
      have he : isFilled M K n = ((n : Int) == (M : Int) * (K : Int)) := by
        unfold isFilled
        by_cases h : (n : Int) = (M : Int) * (K : Int)
        · simp [h1, h2, h]
        · simp [h1, h2, h]
      rw [he]
      go_enter Try.func41, Try.ntmps41
      go_wp2_with fail
      refine (hM _).out.mono ?_
      rintro e w' ⟨rfl, rfl⟩
      go_wp2_with fail
      refine (hK _).out.mono ?_
      rintro e w' ⟨rfl, rfl⟩
      go_wp2
      go_ret
      exact ⟨rfl, rfl⟩
    · rw [decide_eq_false h2] at hK
      have he : isFilled m k n = false := by
        unfold isFilled
        simp [h2]
      rw [he]
      clear he
      go_enter Try.func41, Try.ntmps41
      go_wp2_with fail
      refine (hM _).out.mono ?_
      rintro e w' ⟨rfl, rfl⟩
      go_wp2_with fail
      refine (hK _).out.mono ?_
      rintro e w' ⟨rfl, rfl⟩
      go_wp2
      go_ret
      exact ⟨rfl, rfl⟩
  · rw [decide_eq_false h1] at hM
    have he : isFilled m k n = false := by
      unfold isFilled
      simp [h1]
    rw [he]
    clear he
    go_enter Try.func41, Try.ntmps41
    go_wp2_with fail
    refine (hM _).out.mono ?_
    rintro e w' ⟨rfl, rfl⟩
    go_wp2
    go_ret
    exact ⟨rfl, rfl⟩

set_option maxHeartbeats 2000000 in
theorem nums_any (w : World) (m c c' : Nat) (a b : Option Addr) (xs : List Nat) (ha : Nl w m a xs) (hb : Nl w m b xs) (hm : m ≤ 65536) :
    Calls Try.prog 35 #[.slice a m c, .slice b m c'] w fun e w' => e = .returned (.bool true) ∧ ∃ q, w' = w.drewN q := by
  have HA := hide1 ha
  have HB := hide1 hb
  clear ha hb
  have h' : ((m : Int) != (m : Int)) = false := by simp
  go_enter Try.func35, Try.ntmps35
  go_wp2
  go_loopw [5] (fun i wr => ∃ k q : Nat, k ≤ m ∧ i = .int .i64 k ∧ wr = w.drewN q) (fun i _ => m - (intOf i).toNat)
  case atStart => exact ⟨0, 0, Nat.zero_le _, rfl, rfl⟩
  case round =>
    obtain ⟨k, q, hk, rfl, rfl⟩ := hrel
    by_cases hlt : k < m
    · obtain ⟨ga, oa, rfl, hca⟩ := (HA.out.drewN q).val hlt
      obtain ⟨gb, ob, rfl, hcb⟩ := (HB.out.drewN q).val hlt
      obtain ⟨x, hx⟩ : ∃ x, x = at0 xs k := ⟨_, rfl⟩
      rw [← hx] at hca hcb
      obtain ⟨W, hW⟩ : ∃ W, w.drewN q = W := ⟨_, rfl⟩
      rw [hW] at hca hcb
      rw [hW]
      have HW := hide1 hW
      clear hx hW
      have h2 : ((x : Int) != (x : Int)) = false := by simp
      go_wp2
      go_quiet (fail)
      go_wp2
      exact ⟨⟨k + 1, q + nq, by omega, by go_num, by rw [← HW.out]; exact World.drewN_drewN _ _ _⟩, by simp [intOf]; omega⟩
    · have : k = m := by omega
      subst this
      go_wp2
      go_ret
      exact ⟨rfl, q, rfl⟩

theorem nums_nil (w : World) (c c' : Nat) (a b : Option Addr) :
    Calls Try.prog 35 #[.slice a 0 c, .slice b 0 c'] w fun e w' => e = .returned (.bool true) ∧ ∃ q, w' = w.drewN q :=
  nums_any w 0 c c' a b [] ⟨rfl, fun j x h => by simp at h⟩ ⟨rfl, fun j x h => by simp at h⟩ (by omega)

end Go.Proofs.Ytnabkhhoocgkgaa
