/- The document's product of matrices. -/
import Derived.Test.YtnabkhhoocgkgaaRa
namespace Go.Proofs.Ytnabkhhoocgkgaa
open Go.RowKit
set_option maxRecDepth 100000
attribute [local go_sem] not_any mf_any

set_option maxHeartbeats 8000000 in
theorem rmatmul_any (L m k n na nb N ca cb : Nat) (a b : Option Addr) (xs ys : List Nat) (w : World) (h1 : 1 ≤ L) (h2 : L ≤ 64) (S : Sides m k n na nb N) (ha : Nl w na a xs) (hb : Nl w nb b ys) (sa : Small xs) (sb : Small ys) (hca : na ≤ ca) :
    Calls Try.prog 33 #[.int .i64 L, .int .i64 m, .int .i64 k, .int .i64 n, .slice a na ca, .slice b nb cb] w fun e w' => ∃ a' c', e = .returned (.tuple #[.slice a' N c', .int .i64 0]) ∧ Nl w' N a' (told (mval L xs ys k n) 0 N N) ∧ Below w.heap.size w w' := by
  obtain ⟨i0, hi, hz0, hz1, hz2⟩ := info_parts info22'
  have c1 := fun w => hide1 (good_any L w)
  have c2 := fun w => hide1 (sized_any m k w)
  have c3 := fun w => hide1 (sized_any k n w)
  rw [decide_eq_true (by omega)] at c1
  rw [sized_yes2 S.m1 S.k1] at c2
  rw [sized_yes2 S.k1 S.n1] at c3
  have hs := S.small
  have e1 : IntKind.i64.wrap ((m : Int) * (k : Int)) = (na : Int) := by rw [← Int.natCast_mul, ← S.ha, wrap_i64_nat (by omega)]
  have e2 : IntKind.i64.wrap ((k : Int) * (n : Int)) = (nb : Int) := by rw [← Int.natCast_mul, ← S.hb, wrap_i64_nat (by omega)]
  have g1 : ((na : Int) != (na : Int)) = false := by simp
  have g2 : ((nb : Int) != (nb : Int)) = false := by simp
  have HA := hide1 ha
  have HB := hide1 hb
  have HS := hide1 S
  have SA := hide1 sa
  have SB := hide1 sb
  have HCA := hide1 hca
  have HF : Hid (∀ p, mval L xs ys k n p = sumTo (mprod xs ys k n p) k % 2 ^ L) := fun p => by
    unfold mval
    rw [fit_nat h1 h2]
  have hk6 := S.k1.2
  have hn6 := S.n1.2
  have hm6 := S.m1.2
  clear ha hb S sa sb hca hs
  go_enter Try.func33, Try.ntmps33
  go_wp2_with fail
  refine (c1 _).out.mono ?_
  rintro e w' ⟨rfl, rfl⟩
  go_wp2_with fail
  refine (c2 _).out.mono ?_
  rintro e w' ⟨rfl, rfl⟩
  go_wp2_with fail
  refine (c3 _).out.mono ?_
  rintro e w' ⟨rfl, rfl⟩
  go_wp2
  clear c1 c2 c3 e1 e2 g1 g2
  go_loopw [14, 15] (fun ov v wr => ∃ i : Nat, i ≤ m ∧ v = .int .i64 i ∧ wr.ownsRow w'.heap.size 22 1 ov (i * n) (u64s (upto (mval L xs ys k n) (i * n))) ∧ Below w'.heap.size w' wr) (fun _ v _ => m - (intOf v).toNat)
  case atStart =>
    refine ⟨0, Nat.zero_le _, rfl, ?_, Below.refl _ _⟩
    rw [Nat.zero_mul]
    exact World.ownsRow_nil _ _ _ _
  case round =>
    obtain ⟨i, hi', rfl, hrow, hBe⟩ := hrel
    by_cases hlt : i < m
    · have HR := hide1 hrow
      have HBe := hide1 hBe
      clear hrow hBe
      obtain ⟨la, lc, rfl⟩ := row_form HR.out
      go_wp2
      go_loopw [14, 16] (fun ov v wr2 => ∃ j : Nat, j ≤ n ∧ v = .int .i64 j ∧ wr2.ownsRow w'.heap.size 22 1 ov (i * n + j) (u64s (upto (mval L xs ys k n) (i * n + j))) ∧ Below w'.heap.size w' wr2) (fun _ v _ => n - (intOf v).toNat)
      case atStart => exact ⟨0, Nat.zero_le _, rfl, HR.out, HBe.out⟩
      case round =>
        obtain ⟨j, hj, rfl, hrow, hB2⟩ := hrel
        by_cases hlt2 : j < n
        · have HR2 := hide1 hrow
          have HB2 := hide1 hB2
          clear hrow hB2 HR HBe
          obtain ⟨la2, lc2, rfl⟩ := row_form HR2.out
          obtain ⟨W, hW⟩ : ∃ W, wr = W := ⟨_, rfl⟩
          rw [hW] at HR2 HB2
          rw [hW]
          clear hW
          go_wp2
          go_loopw [17, 18] (fun ov v wr3 => ∃ t : Nat, t ≤ k ∧ v = .int .i64 t ∧ wr3.ownsRow W.heap.size 22 1 ov t (u64s (upto (fun t => at0 ys (t * n + j)) t)) ∧ Below W.heap.size W wr3) (fun _ v _ => k - (intOf v).toNat)
          case atStart => exact ⟨0, Nat.zero_le _, rfl, World.ownsRow_nil _ _ _ _, Below.refl _ _⟩
          case round =>
            obtain ⟨t, ht, rfl, hrow, hB3⟩ := hrel
            by_cases hlt3 : t < k
            · have b2 : t * n + j < nb := by rw [HS.out.hb]; exact prod_lt hlt3 hlt2
              have hs := HS.out.small
              have e2 : IntKind.i64.wrap ((t : Int) * (n : Int)) = ((t * n : Nat) : Int) := by rw [← Int.natCast_mul, wrap_i64_nat (by omega)]
              obtain ⟨gb, ob, rfl, hcb⟩ := ((HB.out.below HB2.out (Nat.le_refl _)).below hB3 (Nat.le_refl _)).val b2
              have HU := hide1 (upto_succ (fun t => at0 ys (t * n + j)) t)
              obtain ⟨y, hy⟩ : ∃ y, y = at0 ys (t * n + j) := ⟨_, rfl⟩
              rw [← hy] at hcb HU
              obtain ⟨tn, htn⟩ : ∃ tn, tn = t * n := ⟨_, rfl⟩
              rw [← htn] at e2 hcb b2
              obtain ⟨la3, lc3, rfl⟩ := row_form hrow
              have HW := hide1 (And.intro hrow hB3)
              clear hrow hB3 hy htn
              go_wp2_with (at_builtin; go_must (refine wpList_append_own _ rfl _ _ 33 rfl W.heap.size 22 i0 (.int .u64 0) 1 8 Try.underlying33 hi hz0 hz1 hz2 rfl (by decide) _ _ _ rfl (HW.out.1.alloc _) ⟨wr.heap.size, 0, none⟩ 1 1 [.int .u64 (y : Int)] rfl rfl (cell_one_new _ _ _) (by simp [Value.oneCell']) (by unfold maxLen; omega) (by omega) (by have := HW.out.2.size; simp; omega) ?_); intro v' w1 hown' hgrow _)
              go_roundw
              case rel =>
                refine ⟨t + 1, by omega, by go_num, ?_, (HW.out.2.alloc HW.out.2.size _).grown hgrow (by have := HW.out.2.size; simp; omega) (fun b hb => (HW.out.1.lt b hb).1)⟩
                rw [HU.out, ← u64s_snoc]
                exact hown'
              case measure => simp [intOf]; omega
            · have : t = k := by omega
              subst this
              have hs := HS.out.small
              have b0 : i * n + j < N := by rw [HS.out.hN]; exact prod_lt hlt hlt2
              have b1 : i * t + t ≤ na := by
                rw [HS.out.ha]
                have := Nat.mul_le_mul_right t (show i + 1 ≤ m by omega)
                rw [Nat.succ_mul] at this
                exact this
              have e1 : IntKind.i64.wrap ((i : Int) * (t : Int)) = ((i * t : Nat) : Int) := by rw [← Int.natCast_mul, wrap_i64_nat (by omega)]
              obtain ⟨la3, lc3, rfl⟩ := row_form hrow
              have HCol := hide1 (own_nl hrow (upto_length _ _))
              have hb3 := hB3
              have HCut := hide1 (nl_cut (c := ca) (q := i * t) (k := t) ((HA.out.below HB2.out (Nat.le_refl _)).below hB3 (Nat.le_refl _)) b1 HCA.out)
              have hcut := fun w => run_cut w a na ca (i * t) t (Nat.le_trans b1 HCA.out)
              have hD := fun w p q => hide1 (rdot_any L w t (ca - i * t) lc3 (cutAt a ca (i * t)) la3 (cutOut xs (i * t) t) (upto (fun t => at0 ys (t * n + j)) t) h1 h2 p q (small_cut SA.out _ _) (small_upto (fun t => SB.out.at0 _)) (by omega))
              rw [dot_place xs ys hlt2, ← HF.out] at hD
              have HU := hide1 (upto_succ (mval L xs ys t n) (i * n + j))
              have HRo := hide1 (row_below HR2.out hB3)
              have HBo := hide1 (HB2.out.trans (hB3.mono HB2.out.size))
              obtain ⟨s, hs'⟩ : ∃ s, s = mval L xs ys t n (i * n + j) := ⟨_, rfl⟩
              rw [← hs'] at hD HU
              obtain ⟨q, hq⟩ : ∃ q, q = i * t := ⟨_, rfl⟩
              rw [← hq] at e1 HCut hcut hD b1
              generalize cutAt a ca q = ac at HCut hcut hD
              clear hrow hB3 hs' hq hb3
              go_wp2_with fail
              refine (hD _ HCut.out HCol.out).out.mono ?_
              rintro e w4 ⟨rfl, q4, hq4⟩
              have HR4 : Hid (w4.ownsRow w'.heap.size 22 1 (.slice la2 (i * n + j) lc2) (i * n + j) (u64s (upto (mval L xs ys t n) (i * n + j)))) := by rw [hq4]; exact HRo.out
              have HB4 : Hid (Below w'.heap.size w' w4) := by rw [hq4]; exact below_drew2 HBo.out q4
              clear hq4 HRo HBo HCut HCol hcut hD HR2 HB2
              go_wp2_with (at_builtin; go_must (refine wpList_append_own _ rfl _ _ 33 rfl w'.heap.size 22 i0 (.int .u64 0) 1 8 Try.underlying33 hi hz0 hz1 hz2 rfl (by decide) _ _ _ rfl (HR4.out.alloc _) ⟨w4.heap.size, 0, none⟩ 1 1 [.int .u64 (s : Int)] rfl rfl (cell_one_new _ _ _) (by simp [Value.oneCell']) (by unfold maxLen; omega) (by omega) (by have := HB4.out.size; simp; omega) ?_); intro v' w1 hown' hgrow _)
              go_roundw
              case rel =>
                refine ⟨j + 1, by omega, by go_num, ?_, (HB4.out.alloc HB4.out.size _).grown hgrow (by have := HB4.out.size; simp; omega) (fun b hb => (HR4.out.lt b hb).1)⟩
                rw [← Nat.add_assoc, HU.out, ← u64s_snoc]
                exact hown'
              case measure => simp [intOf]; omega
        · have : j = n := by omega
          subst this
          have HR2 := hide1 hrow
          have HB2 := hide1 hB2
          clear hrow hB2 HR HBe
          obtain ⟨la2, lc2, rfl⟩ := row_form HR2.out
          go_wp2
          go_roundw
          case rel => exact ⟨i + 1, by omega, by go_num, by rw [Nat.succ_mul]; exact HR2.out, HB2.out⟩
          case measure => simp [intOf]; omega
    · have : i = m := by omega
      subst this
      obtain ⟨la, lc, rfl⟩ := row_form hrow
      rw [← HS.out.hN] at hrow
      rw [← HS.out.hN]
      go_wp2
      go_ret2
      refine ⟨_, _, rfl, ?_, hBe⟩
      rw [← upto_told]
      exact own_nl hrow (upto_length _ _)

end Go.Proofs.Ytnabkhhoocgkgaa
