/- The document's prime. -/
import Derived.Test.YtjcfllidandeiaaDoorBa
namespace Go.Proofs.YtjcfllidandeiaaDoor
open Go.RowKit
set_option maxRecDepth 100000
attribute [local go_sem] not_any

theorem prime_no {n d : Nat} (h1 : 2 ≤ d) (h2 : d < 18) (h3 : d * d ≤ n) (h4 : n % d = 0) : primeB n = false := by
  unfold primeB
  rw [Bool.and_eq_false_iff]
  right
  rw [List.all_eq_false]
  refine ⟨d, List.mem_range.2 h2, ?_⟩
  have a1 : ¬ d < 2 := by omega
  have a2 : ¬ n < d * d := by omega
  simp [a1, a2, h4]
theorem prime_end {n d : Nat} (h3 : n < d * d) (h4 : ∀ c, 2 ≤ c → c < d → n % c ≠ 0) : primeB n = decide (1 < n) := by
  unfold primeB
  have : (List.range 18).all (fun c => decide (c < 2) || decide (n < c * c) || !(n % c == 0)) = true := by
    rw [List.all_eq_true]
    intro c _
    by_cases a1 : c < 2
    · simp [a1]
    · by_cases a2 : n < c * c
      · simp [a2]
      · have hc : c < d := by
          rcases Nat.lt_or_ge c d with h | h
          · exact h
          · have := Nat.mul_le_mul h h
            omega
        simp [h4 c (by omega) hc]
  rw [this, Bool.and_true]

set_option maxHeartbeats 1000000 in
theorem prime_any (n : Nat) (w : World) (hn : n < 324) :
    Calls Tryd.prog 27 #[.int .u64 (n : Int)] w fun e w' => e = .returned (.bool (primeB n)) ∧ w' = w := by
  go_enter Tryd.func27, Tryd.ntmps27
  go_wp2
  go_loop [3] (fun v => ∃ d : Nat, 2 ≤ d ∧ d ≤ 18 ∧ v = .int .u64 d ∧ ∀ c, 2 ≤ c → c < d → n % c ≠ 0) (fun v => 18 - (intOf v).toNat)
  case atStart => exact ⟨2, by omega, by omega, rfl, fun c h1 h2 => by omega⟩
  case round =>
    obtain ⟨d, h1, h2, rfl, h3⟩ := hrel
    have H3 := hide1 h3
    clear h3
    have hq0 : d * d ≤ 18 * 18 := Nat.mul_le_mul h2 h2
    obtain ⟨q, hq⟩ : ∃ q, q = d * d := ⟨_, rfl⟩
    have eq : (d : Int) * (d : Int) = (q : Int) := by rw [hq, Int.natCast_mul]
    rw [← hq] at hq0
    by_cases hle : q ≤ n
    · have h18 : d < 18 := by
        rcases Nat.lt_or_ge d 18 with h | h
        · exact h
        · have : d = 18 := by omega
          subst this
          omega
      have hq' := hide1 hq
      clear hq
      by_cases hr : n % d = 0
      · have HF := hide1 (prime_no h1 h18 (by rw [← hq'.out]; exact hle) hr)
        have e1 : (n : Int).tmod (d : Int) = 0 := by rw [show (n : Int).tmod (d : Int) = ((n % d : Nat) : Int) from rfl, hr]; rfl
        have e2 : (n : Int) % (d : Int) = 0 := by rw [← Int.natCast_emod, hr]; rfl
        have d0 : ¬ d = 0 := by omega
        clear hr
        go_wp2
        go_ret
        exact ⟨by rw [HF.out]; rfl, rfl⟩
      · obtain ⟨m, hm⟩ : ∃ m, m = n % d := ⟨_, rfl⟩
        have e1 : (n : Int).tmod (d : Int) = (m : Int) := by rw [hm]; rfl
        have e2 : (n : Int) % (d : Int) = (m : Int) := by rw [hm, Int.natCast_emod]
        have hm0 : ((m : Int) == 0) = false := by rw [beq_eq_false_iff_ne]; omega
        have Hr := hide1 hr
        have d0 : ¬ d = 0 := by omega
        clear hr hm
        go_wp2
        go_round
        case rel => exact ⟨d + 1, by omega, by omega, by go_num, fun c a1 a2 => by
          by_cases e : c = d
          · subst e; exact Hr.out
          · exact H3.out c a1 (by omega)⟩
        case measure => simp [intOf]; omega
    · have HE := hide1 (prime_end (d := d) (by rw [← hq]; omega) H3.out)
      have e1 : decide ((1 : Int) < (n : Int)) = decide (1 < n) := by
        by_cases h : 1 < n
        · rw [decide_eq_true h, decide_eq_true (by omega)]
        · rw [decide_eq_false h, decide_eq_false (by omega)]
      have E1 := hide1 e1
      clear hq e1
      go_wp2
      go_ret
      exact ⟨by rw [HE.out, ← E1.out]; rfl, rfl⟩
end Go.Proofs.YtjcfllidandeiaaDoor
