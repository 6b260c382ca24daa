/- The walk of RingLists, where both have as many. -/
import Derived.Test.YtnabkhhoocgkgaaN
namespace Go.Proofs.Ytnabkhhoocgkgaa
open Go.RowKit
set_option maxRecDepth 100000
attribute [local go_sem] not_any mf_any

theorem sums_at {L m j : Nat} {xs ys : List Nat} (h1 : 1 ≤ L) (h2 : L ≤ 64) (h : j < m) : at0 (sums L xs ys m) j = (at0 xs j + at0 ys j) % 2 ^ L := by
  unfold sums
  rw [told_at0 h, fit_nat h1 h2]
theorem diffs_at {L m j : Nat} {xs ys : List Nat} (h1 : 1 ≤ L) (h2 : L ≤ 64) (h : j < m) : at0 (diffs L xs ys m) j = (at0 xs j + (18446744073709551616 - at0 ys j)) % 2 ^ L := by
  unfold diffs
  rw [told_at0 h, fit_nat h1 h2]

set_option maxHeartbeats 8000000 in
theorem lists_eq (L : Nat) (w : World) (m ca cb k0 : Nat) (a b : Option Addr) (xs ys : List Nat) (q1 : 1 ≤ L) (q2 : L ≤ 64) (hm : m ≤ 60) (ha : Nl w m a xs) (hsa : Small xs) (hb : Nl w m b ys) (hsb : Small ys) (hk0 : k0 < 18446744073709551616) :
    Calls Try.prog 5 #[.int .i64 L, .slice a m ca, .slice b m cb, .int .u64 (k0 : Int)] w fun e w' => e = .returned (.bool true) ∧ Below w.heap.size w w' := by
  have h1 := fun w => hide1 (good_any L w)
  rw [decide_eq_true (by omega)] at h1
  have h2 := fun w => hide1 (awake_any w)
  have h3 := fun w p q => hide1 (addall_any L w m ca cb a b xs ys p q (by omega))
  have h4 := fun w p q => hide1 (suball_any L w m ca cb a b xs ys p q hsb (by omega))
  have h5 := fun w p q => hide1 (dot_any L w m ca cb a b xs ys p q (by omega))
  have h6 := fun w p q => hide1 (rdot_any L w m ca cb a b xs ys q1 q2 p q hsa hsb (by omega))
  have h7 := fun w h => hide1 (scaled_any L k0 w m ca a xs h (by omega))
  rw [fit_nat q1 q2] at h5
  obtain ⟨d, hd⟩ : ∃ d, d = sumTo (prods xs ys) m % 2 ^ L := ⟨_, rfl⟩
  rw [← hd] at h5 h6
  have HA := hide1 ha
  have HB := hide1 hb
  have SA := hide1 hsa
  have SB := hide1 hsb
  have hmm : ((m : Int) != (m : Int)) = false := by simp
  have hdd : ((d : Int) != (d : Int)) = false := by simp
  clear ha hsa hb hsb hd
  go_enter Try.func5, Try.ntmps5
  go_wp2_with fail
  refine (h1 _).out.mono ?_
  rintro e w' ⟨rfl, rfl⟩
  go_wp2_with fail
  refine (h3 _ HA.out HB.out).out.mono ?_
  rintro e w1 ⟨a1, rfl, hz, hBe⟩
  have HS := hide1 hz
  have HA1 := hide1 (HA.out.below hBe (Nat.le_refl _))
  have HB1 := hide1 (HB.out.below hBe (Nat.le_refl _))
  have E1 := hide1 hBe
  clear hz hBe HA HB
  go_wp2_with fail
  refine (h4 _ HA1.out HB1.out).out.mono ?_
  rintro e w2 ⟨a2, rfl, hz, hBe⟩
  have HD := hide1 hz
  have HS2 := hide1 (HS.out.below hBe (Nat.le_refl _))
  have HA2 := hide1 (HA1.out.below hBe (Nat.le_refl _))
  have HB2 := hide1 (HB1.out.below hBe (Nat.le_refl _))
  have E2 := hide1 (E1.out.trans (hBe.mono E1.out.size))
  clear hz hBe HA1 HB1 HS E1
  go_wp2_with fail
  refine (h5 _ HA2.out HB2.out).out.mono ?_
  rintro e w3 ⟨rfl, q3, hq⟩
  have HD3 := hide1 (HD.out.drewN q3)
  have HS3 := hide1 (HS2.out.drewN q3)
  have HA3 := hide1 (HA2.out.drewN q3)
  have HB3 := hide1 (HB2.out.drewN q3)
  have E3 := hide1 (below_drew2 E2.out q3)
  rw [← hq] at HD3 HS3 HA3 HB3 E3
  clear hq HD HS2 HA2 HB2 E2
  go_wp2_with fail
  refine (h6 _ HA3.out HB3.out).out.mono ?_
  rintro e w4 ⟨rfl, q4, hq⟩
  have HD4 := hide1 (HD3.out.drewN q4)
  have HS4 := hide1 (HS3.out.drewN q4)
  have HA4 := hide1 (HA3.out.drewN q4)
  have HB4 := hide1 (HB3.out.drewN q4)
  have E4 := hide1 (below_drew2 E3.out q4)
  rw [← hq] at HD4 HS4 HA4 HB4 E4
  clear hq HD3 HS3 HA3 HB3 E3
  go_wp2_with fail
  refine (h7 _ HA4.out).out.mono ?_
  rintro e w5 ⟨a5, rfl, hz, hBe⟩
  have HZ := hide1 hz
  have HD5 := hide1 (HD4.out.below hBe (Nat.le_refl _))
  have HS5 := hide1 (HS4.out.below hBe (Nat.le_refl _))
  have HA5 := hide1 (HA4.out.below hBe (Nat.le_refl _))
  have HB5 := hide1 (HB4.out.below hBe (Nat.le_refl _))
  have E5 := hide1 (E4.out.trans (hBe.mono E4.out.size))
  clear hz hBe HD4 HS4 HA4 HB4 E4 h1 h3 h4 h5 h6 h7
  go_wp2
  go_loopw [18] (fun i wr => ∃ k q : Nat, k ≤ m ∧ i = .int .i64 k ∧ wr = w5.drewN q) (fun i _ => m - (intOf i).toNat)
  case atStart => exact ⟨0, 0, Nat.zero_le _, rfl, rfl⟩
  case round =>
    obtain ⟨k, q, hk, rfl, rfl⟩ := hrel
    by_cases hlt : k < m
    · obtain ⟨ga, oa, rfl, hca⟩ := (HA5.out.drewN q).val hlt
      obtain ⟨gb, ob, rfl, hcb⟩ := (HZ.out.drewN q).val hlt
      rw [scaled_at q1 q2 hlt] at hcb
      obtain ⟨W, hW⟩ : ∃ W, w5.drewN q = W := ⟨_, rfl⟩
      rw [hW] at hca hcb
      rw [hW]
      have HW := hide1 hW
      have hM := fun w => hide1 (rmul_any L k0 (at0 xs k) w q1 q2 hk0 (SA.out.at0 k))
      obtain ⟨p, hp⟩ : ∃ p, p = k0 * at0 xs k % 2 ^ L := ⟨_, rfl⟩
      obtain ⟨x, hx⟩ : ∃ x, x = at0 xs k := ⟨_, rfl⟩
      rw [← hp, ← hx] at hM
      rw [← hx] at hca
      rw [← hp] at hcb
      clear hW hp hx
      have hpp : ((p : Int) != (p : Int)) = false := by simp
      go_wp2
      go_quiet (first | (go_at_call 22; exact Calls.quiet_of_same (hM _).out))
      go_wp2
      go_roundw
      case rel => exact ⟨k + 1, q + nq, by omega, by go_num, by rw [← HW.out]; exact World.drewN_drewN _ _ _⟩
      case measure => simp [intOf]; omega
    · have : k = m := by omega
      subst this
      go_wp2
      go_loopw [19] (fun i wr => ∃ j q : Nat, j ≤ k ∧ i = .int .i64 j ∧ wr = w5.drewN q) (fun i _ => k - (intOf i).toNat)
      case atStart => exact ⟨0, q, Nat.zero_le _, rfl, rfl⟩
      case round =>
        obtain ⟨j, p, hj, rfl, rfl⟩ := hrel
        by_cases hlt2 : j < k
        · obtain ⟨ga, oa, rfl, hca⟩ := (HA5.out.drewN p).val hlt2
          obtain ⟨gb, ob, rfl, hcb⟩ := (HB5.out.drewN p).val hlt2
          obtain ⟨gs, os, rfl, hcs⟩ := (HS5.out.drewN p).val hlt2
          obtain ⟨gd, od, rfl, hcd⟩ := (HD5.out.drewN p).val hlt2
          rw [sums_at q1 q2 hlt2] at hcs
          rw [diffs_at q1 q2 hlt2] at hcd
          obtain ⟨W, hW⟩ : ∃ W, w5.drewN p = W := ⟨_, rfl⟩
          rw [hW] at hca hcb hcs hcd
          rw [hW]
          have HW := hide1 hW
          have hP := fun w => hide1 (radd_any L (at0 xs j) (at0 ys j) w q1 q2 (SA.out.at0 j) (SB.out.at0 j))
          have hM := fun w => hide1 (rsub_any L (at0 xs j) (at0 ys j) w q1 q2 (SA.out.at0 j) (SB.out.at0 j))
          obtain ⟨s, hs⟩ : ∃ p, p = (at0 xs j + at0 ys j) % 2 ^ L := ⟨_, rfl⟩
          obtain ⟨t, ht⟩ : ∃ p, p = (at0 xs j + (18446744073709551616 - at0 ys j)) % 2 ^ L := ⟨_, rfl⟩
          obtain ⟨x, hx⟩ : ∃ x, x = at0 xs j := ⟨_, rfl⟩
          obtain ⟨y, hy⟩ : ∃ y, y = at0 ys j := ⟨_, rfl⟩
          rw [← hs, ← hx, ← hy] at hP
          rw [← ht, ← hx, ← hy] at hM
          rw [← hx] at hca
          rw [← hy] at hcb
          rw [← hs] at hcs
          rw [← ht] at hcd
          clear hW hs ht hx hy
          have hss : ((s : Int) != (s : Int)) = false := by simp
          have htt : ((t : Int) != (t : Int)) = false := by simp
          go_wp2
          go_quiet (first | (go_at_call 20; exact Calls.quiet_of_same (hP _).out) | (go_at_call 21; exact Calls.quiet_of_same (hM _).out))
          go_wp2
          go_roundw
          case rel => exact ⟨j + 1, p + nq, by omega, by go_num, by rw [← HW.out]; exact World.drewN_drewN _ _ _⟩
          case measure => simp [intOf]; omega
        · have : j = k := by omega
          subst this
          go_wp2_with (first | (go_at_call 17; refine (h2 _).out.mono ?_; rintro e w' ⟨rfl, rfl⟩))
          go_ret
          exact ⟨rfl, below_drew2 E5.out p⟩

theorem list_all (w : World) (l : Int) (m ca : Nat) (a : Option Addr) (xs : List Nat) (n cb : Nat) (b : Option Addr) (ys : List Nat) (k0 : Nat) (ha : Nl w m a xs) (hsa : Small xs) (hb : Nl w n b ys) (hsb : Small ys) (hk0 : k0 < 18446744073709551616) :
    Calls Try.prog 5 #[.int .i64 l, .slice a m ca, .slice b n cb, .int .u64 (k0 : Int)] w fun e w' => e = .returned (.bool true) ∧ Below w.heap.size w w' := by
  by_cases h : m ≤ 60 ∧ n ≤ 60 ∧ (1 ≤ l ∧ l ≤ 64)
  · obtain ⟨hm, hn, hl⟩ := h
    obtain ⟨L, rfl, h1, h2⟩ := good_nat hl
    by_cases hmn : m = n
    · subst hmn
      exact lists_eq L w m ca cb k0 a b xs ys h1 h2 hm ha hsa hb hsb hk0
    · exact lists_ne L w m n ca cb k0 a b xs h1 h2 hm hn hmn ha hsa hk0
  · exact (lists_else l w m n ca cb k0 a b (by omega)).mono fun e w' ⟨h3, h4⟩ => ⟨h3, h4 ▸ Below.refl _ _⟩

end Go.Proofs.Ytnabkhhoocgkgaa
