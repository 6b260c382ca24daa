/- The chapter's examples, and the walk of RingInverse. -/
import Derived.Test.YtnabkhhoocgkgaaE
import Derived.Below
namespace Go.Proofs.Ytnabkhhoocgkgaa
open Go.RowKit
set_option maxRecDepth 100000
attribute [local go_sem] not_any mf_any

theorem ex_inv (w : World) : Calls Try.prog 25 #[.int .i64 8, .int .u64 3] w fun e w' => e = .returned (.tuple #[.int .u64 171, .bool true]) ∧ w' = w := by
  refine (inverse_any 8 3 w (by omega) (by omega) (by omega) (by omega)).mono ?_
  rintro e w' ⟨⟨x, h1, h2, rfl⟩, rfl⟩
  have : x = 171 := by omega
  subst this
  exact ⟨rfl, rfl⟩
theorem ex_add (w : World) : Calls Try.prog 12 #[.int .i64 8, .int .u64 200, .int .u64 100] w fun e w' => e = .returned (.int .u64 44) ∧ w' = w := add_any 8 200 100 w
theorem ex_mul (w : World) : Calls Try.prog 14 #[.int .i64 8, .int .u64 16, .int .u64 16] w fun e w' => e = .returned (.int .u64 0) ∧ w' = w := mul_any 8 16 16 w
theorem ex_neg (w : World) : Calls Try.prog 15 #[.int .i64 8, .int .u64 1] w fun e w' => e = .returned (.int .u64 255) ∧ w' = w := neg_any 8 1 w (by omega)

set_option maxHeartbeats 1000000 in
theorem awake_any (w : World) : Calls Try.prog 17 #[] w fun e w' => e = .returned (.bool true) ∧ w' = w := by
  have h1 := fun w => hide1 (ex_inv w)
  have h2 := fun w => hide1 (ex_add w)
  have h3 := fun w => hide1 (ex_mul w)
  have h4 := fun w => hide1 (ex_neg w)
  go_enter Try.func17, Try.ntmps17
  go_wp2_with (first | (go_at_call 25; refine (h1 _).out.mono ?_; rintro e w' ⟨rfl, rfl⟩) | (go_at_call 12; refine (h2 _).out.mono ?_; rintro e w' ⟨rfl, rfl⟩) | (go_at_call 14; refine (h3 _).out.mono ?_; rintro e w' ⟨rfl, rfl⟩) | (go_at_call 15; refine (h4 _).out.mono ?_; rintro e w' ⟨rfl, rfl⟩))
  go_ret
  exact ⟨rfl, rfl⟩

set_option maxHeartbeats 1000000 in
theorem inverse_law_no (l : Int) (a : Nat) (w : World) (_ha : a < 18446744073709551616) (h : a % 2 = 0 ∨ ¬ (1 ≤ l ∧ l ≤ 64)) :
    Calls Try.prog 4 #[.int .i64 l, .int .u64 (a : Int)] w fun e w' => e = .returned (.bool true) ∧ w' = w := by
  have h1 : ∀ w, Hid (Calls Try.prog 25 #[.int .i64 l, .int .u64 (a : Int)] w fun e w' => e = .returned (.tuple #[.int .u64 0, .bool false]) ∧ w' = w) := fun w => by
    by_cases h0 : a % 2 = 0
    · exact inverse_even l a w h0
    · exact inverse_bad l a w (by omega) (by omega)
  have h2 : ∀ w, Hid (Calls Try.prog 26 #[.int .i64 l, .int .u64 (a : Int)] w fun e w' => e = .returned (.tuple #[.int .u64 0, .bool false]) ∧ w' = w) := fun w => by
    by_cases h0 : a % 2 = 0
    · exact rinverse_even l a w h0
    · exact rinverse_bad l a w (by omega) (by omega)
  have h3 := fun w => hide1 (awake_any w)
  clear h
  go_enter Try.func4, Try.ntmps4
  go_wp2_with (first | (go_at_call 25; refine (h1 _).out.mono ?_; rintro e w' ⟨rfl, rfl⟩) | (go_at_call 26; refine (h2 _).out.mono ?_; rintro e w' ⟨rfl, rfl⟩) | (go_at_call 17; refine (h3 _).out.mono ?_; rintro e w' ⟨rfl, rfl⟩))
  go_ret
  exact ⟨rfl, rfl⟩

set_option maxHeartbeats 1000000 in
theorem inverse_law (L a : Nat) (w : World) (q1 : 1 ≤ L) (q2 : L ≤ 64) (ha : a < 18446744073709551616) (hodd : a % 2 = 1) :
    Calls Try.prog 4 #[.int .i64 L, .int .u64 (a : Int)] w fun e w' => e = .returned (.bool true) ∧ w' = w := by
  have h1 := fun w => hide1 (inverse_any L a w q1 q2 ha hodd)
  have h2 := fun w => hide1 (rinverse_any L a w q1 q2 ha hodd)
  have h3 := fun w => hide1 (awake_any w)
  have h5 := fun w => hide1 (fit_yes L 1 w q1 q2 (by omega))
  obtain ⟨o, ho⟩ : ∃ o, o = 1 % 2 ^ L := ⟨_, rfl⟩
  rw [← ho] at h5
  have HO := hide1 ho
  clear ho hodd
  go_enter Try.func4, Try.ntmps4
  go_wp2_with fail
  refine (h1 _).out.mono ?_
  rintro e w' ⟨⟨x, hx, hax, rfl⟩, rfl⟩
  go_wp2_with fail
  refine (h2 _).out.mono ?_
  rintro e w' ⟨⟨y, hy, hay, rfl⟩, rfl⟩
  have := inv_unique hx hy hax hay
  subst this
  have h4 := fun w => hide1 (mul_any L a x w)
  rw [fit_nat q1 q2, hax, ← HO.out] at h4
  clear hx hy hax hay
  go_wp2_with (first | (go_at_call 14; refine (h4 _).out.mono ?_; rintro e w' ⟨rfl, rfl⟩) | (go_at_call 11; refine (h5 _).out.mono ?_; rintro e w' ⟨rfl, rfl⟩) | (go_at_call 17; refine (h3 _).out.mono ?_; rintro e w' ⟨rfl, rfl⟩))
  go_ret
  exact ⟨rfl, rfl⟩

theorem inv_all (w : World) (l : Int) (a : Nat) (ha : a < 18446744073709551616) :
    Calls Try.prog 4 #[.int .i64 l, .int .u64 (a : Int)] w fun e w' => e = .returned (.bool true) ∧ Below w.heap.size w w' := by
  by_cases h : a % 2 = 1 ∧ (1 ≤ l ∧ l ≤ 64)
  · obtain ⟨L, rfl, h1, h2⟩ := good_nat h.2
    exact (inverse_law L a w h1 h2 ha h.1).mono fun e w' ⟨h3, h4⟩ => ⟨h3, h4 ▸ Below.refl _ _⟩
  · exact (inverse_law_no l a w ha (by omega)).mono fun e w' ⟨h3, h4⟩ => ⟨h3, h4 ▸ Below.refl _ _⟩

end Go.Proofs.Ytnabkhhoocgkgaa
