/- The walk of RingLists. -/
import Derived.Test.YtnabkhhoocgkgaaL
import Derived.BigQuiet
namespace Go.Proofs.Ytnabkhhoocgkgaa
open Go.RowKit
set_option maxRecDepth 100000
attribute [local go_sem] not_any mf_any

theorem scaled_any (l : Int) (k0 : Nat) (w : World) (m ca : Nat) (a : Option Addr) (xs : List Nat) (ha : Nl w m a xs) (hm : m ≤ 4194304) :
    Calls Try.prog 31 #[.int .i64 l, .int .u64 (k0 : Int), .slice a m ca] w fun e w' => ∃ a', e = .returned (.slice a' m m) ∧ Nl w' m a' (scaled l k0 xs m) ∧ Below w.heap.size w w' := by
  refine (scale_any l k0 w m ca a xs ha hm).mono ?_
  rintro e w' ⟨rfl, hr, hB⟩
  exact ⟨_, rfl, nl_told hr, hB⟩

theorem scaled_at {L k0 m j : Nat} {xs : List Nat} (h1 : 1 ≤ L) (h2 : L ≤ 64) (h : j < m) : at0 (scaled L k0 xs m) j = k0 * at0 xs j % 2 ^ L := by
  unfold scaled
  rw [told_at0 h, fit_nat h1 h2]

theorem below_drew2 {B : Nat} {w w' : World} (h : Below B w w') (q : Nat) : Below B w (w'.drewN q) := ⟨h.1, h.2, h.3, h.4, h.5⟩

set_option maxHeartbeats 4000000 in
theorem lists_ne (L : Nat) (w : World) (m n ca cb k0 : Nat) (a b : Option Addr) (xs : List Nat) (q1 : 1 ≤ L) (q2 : L ≤ 64) (hm : m ≤ 60) (hn : n ≤ 60) (hmn : m ≠ n) (ha : Nl w m a xs) (hsa : Small xs) (hk0 : k0 < 18446744073709551616) :
    Calls Try.prog 5 #[.int .i64 L, .slice a m ca, .slice b n cb, .int .u64 (k0 : Int)] w fun e w' => e = .returned (.bool true) ∧ Below w.heap.size w w' := by
  have h1 := fun w => hide1 (good_any L w)
  rw [decide_eq_true (by omega)] at h1
  have h2 := fun w => hide1 (awake_any w)
  have h3 := fun w => hide1 (all_no 27 (.inl rfl) L w m n ca cb a b hmn)
  have h4 := fun w => hide1 (all_no 28 (.inr rfl) L w m n ca cb a b hmn)
  have h5 := fun w => hide1 (dot_no L w m n ca cb a b hmn)
  have h6 := fun w => hide1 (rdot_no L w m n ca cb a b hmn)
  have h7 := fun w h => hide1 (scaled_any L k0 w m ca a xs h (by omega))
  have HA := hide1 ha
  have SA := hide1 hsa
  have hmm : ((m : Int) != (m : Int)) = false := by simp
  clear ha hsa hmn
  go_enter Try.func5, Try.ntmps5
  go_wp2_with (first | (go_at_call 10; refine (h1 _).out.mono ?_; rintro e w' ⟨rfl, rfl⟩) | (go_at_call 27; refine (h3 _).out.mono ?_; rintro e w' ⟨rfl, rfl⟩) | (go_at_call 28; refine (h4 _).out.mono ?_; rintro e w' ⟨rfl, rfl⟩) | (go_at_call 29; refine (h5 _).out.mono ?_; rintro e w' ⟨rfl, rfl⟩) | (go_at_call 30; refine (h6 _).out.mono ?_; rintro e w' ⟨rfl, rfl⟩) | (go_at_call 31; refine (h7 _ HA.out).out.mono ?_; rintro e w1 ⟨a', rfl, hz, hB⟩; have HZ := hide1 hz; have HA1 := hide1 (HA.out.below hB (Nat.le_refl _)); have HB := hide1 hB; clear hz hB HA))
  clear h1 h3 h4 h5 h6 h7
  go_loopw [18] (fun i wr => ∃ k q : Nat, k ≤ m ∧ i = .int .i64 k ∧ wr = w1.drewN q) (fun i _ => m - (intOf i).toNat)
  case atStart => exact ⟨0, 0, Nat.zero_le _, rfl, rfl⟩
  case round =>
    obtain ⟨k, q, hk, rfl, rfl⟩ := hrel
    by_cases hlt : k < m
    · obtain ⟨ga, oa, rfl, hca⟩ := (HA1.out.drewN q).val hlt
      obtain ⟨gb, ob, rfl, hcb⟩ := (HZ.out.drewN q).val hlt
      rw [scaled_at q1 q2 hlt] at hcb
      obtain ⟨W, hW⟩ : ∃ W, w1.drewN q = W := ⟨_, rfl⟩
      rw [hW] at hca hcb
      rw [hW]
      have HW := hide1 hW
      have hM := fun w => hide1 (rmul_any L k0 (at0 xs k) w q1 q2 hk0 (SA.out.at0 k))
      obtain ⟨p, hp⟩ : ∃ p, p = k0 * at0 xs k % 2 ^ L := ⟨_, rfl⟩
      obtain ⟨x, hx⟩ : ∃ x, x = at0 xs k := ⟨_, rfl⟩
      rw [← hp, ← hx] at hM
      rw [← hx] at hca
      rw [← hp] at hcb
      clear hW hp hx
      have hpp : ((p : Int) != (p : Int)) = false := by simp
      go_wp2
      go_quiet (first | (go_at_call 22; exact Calls.quiet_of_same (hM _).out))
      go_wp2
      go_roundw
      case rel => exact ⟨k + 1, q + nq, by omega, by go_num, by rw [← HW.out]; exact World.drewN_drewN _ _ _⟩
      case measure => simp [intOf]; omega
    · have : k = m := by omega
      subst this
      go_wp2_with (first | (go_at_call 17; refine (h2 _).out.mono ?_; rintro e w' ⟨rfl, rfl⟩))
      go_ret
      exact ⟨rfl, below_drew2 HB.out q⟩

end Go.Proofs.Ytnabkhhoocgkgaa
