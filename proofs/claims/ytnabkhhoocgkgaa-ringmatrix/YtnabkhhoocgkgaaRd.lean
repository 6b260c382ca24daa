/- The walk of RingMatrix, where the sides are right. -/
import Derived.Test.YtnabkhhoocgkgaaRc
namespace Go.Proofs.Ytnabkhhoocgkgaa
open Go.RowKit
set_option maxRecDepth 100000
attribute [local go_sem] not_any mf_any

theorem turned_any (m k N c : Nat) (a : Option Addr) (xs : List Nat) (w : World) (hm : 1 ≤ m ∧ m ≤ 6) (hk : 1 ≤ k ∧ k ≤ 6) (hN : N = m * k) (ha : Nl w N a xs) :
    Calls Try.prog 34 #[.int .i64 m, .int .i64 k, .slice a N c] w fun e w' => ∃ a', e = .returned (.tuple #[.slice a' N N, .int .i64 0]) ∧ Nl w' N a' (pts (tval xs m k) (fun _ => true) N) ∧ Below w.heap.size w w' := by
  refine (turn_any m k N c a xs w hm hk hN ha).mono ?_
  rintro e w' ⟨rfl, hr, hB⟩
  have := nl_row hr
  rw [pts_length] at this
  exact ⟨_, rfl, this, hB⟩

theorem turned_at {xs : List Nat} {m k N i j : Nat} (hN : N = m * k) (hi : i < m) (hj : j < k) : at0 (pts (tval xs m k) (fun _ => true) N) (j * m + i) = at0 xs (i * k + j) := by
  have b : j * m + i < N := by rw [hN, Nat.mul_comm m k]; exact prod_lt hj hi
  rw [at0_eq (pts_get b)]
  simp only [if_true]
  unfold tval
  rw [(tpos hi).1, (tpos hi).2]

set_option maxHeartbeats 8000000 in
theorem matrix_yes (l n : Int) (m k na nb ca cb : Nat) (a b : Option Addr) (xs ys : List Nat) (w : World) (ha : Nl w na a xs) (hb : Nl w nb b ys) (sa : Small xs) (sb : Small ys) (hca : na ≤ ca) (hna : na ≤ 40) (hnb : nb ≤ 40) (hm : 1 ≤ m ∧ m ≤ 6) (hk : 1 ≤ k ∧ k ≤ 6) (hN : na = m * k) :
    Calls Try.prog 6 #[.int .i64 l, .int .i64 m, .int .i64 k, .int .i64 n, .slice a na ca, .slice b nb cb] w fun e w' => e = .returned (.bool true) ∧ Below w.heap.size w w' := by
  obtain ⟨np, lst, code, hBo⟩ := both_any l m k n na nb ca cb a b xs ys sa sb hca
  have HBo := hide1 hBo
  have hnp := hBo.small
  have c1 := fun w p => hide1 (turned_any m k na ca a xs w hm hk hN p)
  have c2 := fun w => hide1 (sized_any m k w)
  rw [sized_yes2 hm hk] at c2
  have c4 := fun w => hide1 (awake_any w)
  have h1' : ¬ (40 : Int) < na := by omega
  have h2' : ¬ (40 : Int) < nb := by omega
  have hcc : (code != code) = false := by simp
  have e1 : IntKind.i64.wrap ((m : Int) * (k : Int)) = (na : Int) := by rw [← Int.natCast_mul, ← hN, wrap_i64_nat (by omega)]
  have g1' : ((na : Int) != (na : Int)) = false := by simp
  have HA := hide1 ha
  have HB := hide1 hb
  have HN := hide1 hN
  have HT := hide1 (fun i j (p : i < m) (q : j < k) => turned_at (xs := xs) hN p q)
  obtain ⟨hm1, hm2⟩ := hm
  obtain ⟨hk1, hk2⟩ := hk
  clear ha hb sa sb hca hBo hN
  go_enter Try.func6, Try.ntmps6
  go_wp2_with fail
  refine (HBo.out.mine _ HA.out HB.out).mono ?_
  rintro e w1 ⟨a1, q1, rfl, hz, hBe⟩
  have P1 := hide1 hz
  have A1 := hide1 (HA.out.below hBe (Nat.le_refl _))
  have B1 := hide1 (HB.out.below hBe (Nat.le_refl _))
  have E1 := hide1 hBe
  clear hz hBe HA HB
  go_wp2_with fail
  refine (HBo.out.their _ A1.out B1.out).mono ?_
  rintro e w2 ⟨a2, q2, rfl, hz, hBe⟩
  have P2 := hide1 (P1.out.below hBe (Nat.le_refl _))
  have A2 := hide1 (A1.out.below hBe (Nat.le_refl _))
  have Q2 := hide1 hz
  have E2 := hide1 (E1.out.trans (hBe.mono E1.out.size))
  clear hz hBe A1 B1 P1 E1
  go_wp2_with fail
  refine (c1 _ A2.out).out.mono ?_
  rintro e w3 ⟨a3, rfl, hz, hBe⟩
  have T3 := hide1 hz
  have P3 := hide1 (P2.out.below hBe (Nat.le_refl _))
  have Q3 := hide1 (Q2.out.below hBe (Nat.le_refl _))
  have A3 := hide1 (A2.out.below hBe (Nat.le_refl _))
  have E3 := hide1 (E2.out.trans (hBe.mono E2.out.size))
  clear hz hBe A2 P2 Q2 E2
  go_wp2_with fail
  refine (nums_any _ np q1 q2 _ _ _ P3.out Q3.out (by omega)).mono ?_
  rintro e w4 ⟨rfl, q4, hq⟩
  have T4 := hide1 (T3.out.drewN q4)
  have A4 := hide1 (A3.out.drewN q4)
  have E4 := hide1 (below_drew2 E3.out q4)
  rw [← hq] at T4 A4 E4
  clear hq T3 A3 E3 P3 Q3 c1
  go_wp2_with fail
  refine (c2 _).out.mono ?_
  rintro e w5 ⟨rfl, hw⟩
  cases hw
  go_wp2
  clear c2 e1
  go_loopw [19] (fun v wr => ∃ i q : Nat, i ≤ m ∧ v = .int .i64 i ∧ wr = w4.drewN q) (fun v _ => m - (intOf v).toNat)
  case atStart => exact ⟨0, 0, Nat.zero_le _, rfl, rfl⟩
  case round =>
    obtain ⟨i, q, hi, rfl, rfl⟩ := hrel
    by_cases hlt : i < m
    · go_wp2
      go_loopw [20] (fun v wr => ∃ j p : Nat, j ≤ k ∧ v = .int .i64 j ∧ wr = w4.drewN p) (fun v _ => k - (intOf v).toNat)
      case atStart => exact ⟨0, q, Nat.zero_le _, rfl, rfl⟩
      case round =>
        obtain ⟨j, p, hj, rfl, rfl⟩ := hrel
        by_cases hlt2 : j < k
        · have b1 : j * m + i < na := by rw [HN.out, Nat.mul_comm m k]; exact prod_lt hlt2 hlt
          have b2 : i * k + j < na := by rw [HN.out]; exact prod_lt hlt hlt2
          have e2 : IntKind.i64.wrap ((j : Int) * (m : Int)) = ((j * m : Nat) : Int) := by rw [← Int.natCast_mul, wrap_i64_nat (by omega)]
          have e3 : IntKind.i64.wrap ((i : Int) * (k : Int)) = ((i * k : Nat) : Int) := by rw [← Int.natCast_mul, wrap_i64_nat (by omega)]
          obtain ⟨gt, ot, rfl, hct⟩ := (T4.out.drewN p).val b1
          obtain ⟨ga, oa, rfl, hca⟩ := (A4.out.drewN p).val b2
          rw [HT.out i j hlt hlt2] at hct
          obtain ⟨W, hW⟩ : ∃ W, w4.drewN p = W := ⟨_, rfl⟩
          rw [hW] at hct hca
          rw [hW]
          have HW := hide1 hW
          obtain ⟨x, hx⟩ : ∃ x, x = at0 xs (i * k + j) := ⟨_, rfl⟩
          rw [← hx] at hct hca
          obtain ⟨jm, hjm⟩ : ∃ jm, jm = j * m := ⟨_, rfl⟩
          obtain ⟨ik, hik⟩ : ∃ ik, ik = i * k := ⟨_, rfl⟩
          rw [← hjm] at e2 hct b1
          rw [← hik] at e3 hca b2
          clear hW hx hjm hik
          have hxx : ((x : Int) != (x : Int)) = false := by simp
          have f2 : IntKind.i64.wrap ((jm : Int) + (i : Int)) = (jm : Int) + (i : Int) := by rw [← Int.natCast_add, wrap_i64_nat (by omega)]
          have f3 : IntKind.i64.wrap ((ik : Int) + (j : Int)) = (ik : Int) + (j : Int) := by rw [← Int.natCast_add, wrap_i64_nat (by omega)]
          go_wp2
          go_quiet (fail)
          go_wp2
          go_roundw
          case rel => exact ⟨j + 1, p + nq, by omega, by go_num, by rw [← HW.out]; exact World.drewN_drewN _ _ _⟩
          case measure => simp [intOf]; omega
        · have : j = k := by omega
          subst this
          go_wp2
          go_roundw
          case rel => exact ⟨i + 1, p, by omega, by go_num, by trivial⟩
          case measure => simp [intOf]; omega
    · have : i = m := by omega
      subst this
      go_wp2_with fail
      refine (c4 _).out.mono ?_
      rintro e w5 ⟨rfl, hw⟩
      cases hw
      go_wp2
      go_ret
      exact ⟨rfl, below_drew2 E4.out q⟩

theorem mat_all (w : World) (l m k n : Int) (na ca : Nat) (a : Option Addr) (xs : List Nat) (nb cb : Nat) (b : Option Addr) (ys : List Nat) (ha : Nl w na a xs) (sa : Small xs) (hca : na ≤ ca) (hb : Nl w nb b ys) (sb : Small ys) (_hcb : nb ≤ cb) :
    Calls Try.prog 6 #[.int .i64 l, .int .i64 m, .int .i64 k, .int .i64 n, .slice a na ca, .slice b nb cb] w fun e w' => e = .returned (.bool true) ∧ Below w.heap.size w w' := by
  by_cases h : na ≤ 40 ∧ nb ≤ 40
  · cases hf : isFilled m k na with
    | false => exact matrix_no l m k n na nb ca cb a b xs ys w ha hb sa sb hca h.1 h.2 hf
    | true =>
      obtain ⟨M, K, rfl, rfl, hM, hK, hN⟩ := filled_sides hf
      exact matrix_yes l n M K na nb ca cb a b xs ys w ha hb sa sb hca h.1 h.2 hM hK hN
  · exact (matrix_else l m k n na nb ca cb a b w (by omega)).mono fun e w' ⟨h3, h4⟩ => ⟨h3, h4 ▸ Below.refl _ _⟩

end Go.Proofs.Ytnabkhhoocgkgaa
