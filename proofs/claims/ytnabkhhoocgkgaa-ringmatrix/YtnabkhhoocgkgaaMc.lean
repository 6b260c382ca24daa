/- The product of matrices: MatMul. -/
import Derived.Test.YtnabkhhoocgkgaaMb
import Derived.BigRegion
namespace Go.Proofs.Ytnabkhhoocgkgaa
open Go.RowKit
set_option maxRecDepth 100000
attribute [local go_sem] not_any mf_any

/- the products of place i: row i / n of the first, column i % n of the second -/
def mprod (xs ys : List Nat) (k n i j : Nat) : Nat := at0 xs (i / n * k + j) * at0 ys (j * n + i % n)
def mval (l : Int) (xs ys : List Nat) (k n i : Nat) : Nat := fit l (sumTo (mprod xs ys k n i) k)

theorem matmul_no (l m k n : Int) (na nb ca cb : Nat) (a b : Option Addr) (w : World) (h : ¬ (isFilled m k na = true ∧ isFilled k n nb = true ∧ (1 ≤ l ∧ l ≤ 64))) :
    Calls Try.prog 32 #[.int .i64 l, .int .i64 m, .int .i64 k, .int .i64 n, .slice a na ca, .slice b nb cb] w fun e w' => e = .returned (.tuple #[.slice none 0 0, .int .i64 11]) ∧ w' = w := by
  have h1 := fun w => hide1 (filled_any m k na ca a w)
  have h2 := fun w => hide1 (filled_any k n nb cb b w)
  have h3 := fun w => hide1 (allowed_any l w)
  cases ha : isFilled m k na with
  | false =>
    rw [ha] at h1
    clear h
    go_enter Try.func32, Try.ntmps32
    go_wp2_with fail
    refine (h1 _).out.mono ?_
    rintro e w' ⟨rfl, rfl⟩
    go_wp2
    go_ret2
    exact ⟨rfl, rfl⟩
  | true =>
    rw [ha] at h1
    cases hb : isFilled k n nb with
    | false =>
      rw [hb] at h2
      clear h
      go_enter Try.func32, Try.ntmps32
      go_wp2_with fail
      refine (h1 _).out.mono ?_
      rintro e w' ⟨rfl, rfl⟩
      go_wp2_with fail
      refine (h2 _).out.mono ?_
      rintro e w' ⟨rfl, rfl⟩
      go_wp2
      go_ret2
      exact ⟨rfl, rfl⟩
    | true =>
      rw [hb] at h2
      have hl : ¬ (1 ≤ l ∧ l ≤ 64) := fun hl => h ⟨ha, hb, hl⟩
      rw [decide_eq_false hl] at h3
      clear h hl
      go_enter Try.func32, Try.ntmps32
      go_wp2_with fail
      refine (h1 _).out.mono ?_
      rintro e w' ⟨rfl, rfl⟩
      go_wp2_with fail
      refine (h2 _).out.mono ?_
      rintro e w' ⟨rfl, rfl⟩
      go_wp2_with fail
      refine (h3 _).out.mono ?_
      rintro e w' ⟨rfl, rfl⟩
      go_wp2
      go_ret2
      exact ⟨rfl, rfl⟩

/- the sides of a product -/
theorem below_drew3 {B : Nat} {w w' : World} (h : Below B w w') (q : Nat) : Below B w (w'.drewN q) := ⟨h.1, h.2, h.3, h.4, h.5⟩

structure Sides (m k n na nb N : Nat) : Prop where
  m1 : 1 ≤ m ∧ m ≤ 6
  k1 : 1 ≤ k ∧ k ≤ 6
  n1 : 1 ≤ n ∧ n ≤ 6
  ha : na = m * k
  hb : nb = k * n
  hN : N = m * n

theorem Sides.place {m k n na nb N : Nat} (S : Sides m k n na nb N) {i j : Nat} (hi : i < N) (hj : j < k) : i / n * k + j < na ∧ j * n + i % n < nb := by
  have h1 : i / n < m := Nat.div_lt_of_lt_mul (by rw [Nat.mul_comm, ← S.hN]; exact hi)
  have h2 : i % n < n := Nat.mod_lt _ (by have := S.n1; omega)
  refine ⟨by rw [S.ha]; exact prod_lt h1 hj, by rw [S.hb]; exact prod_lt hj h2⟩

theorem Sides.small {m k n na nb N : Nat} (S : Sides m k n na nb N) : na ≤ 36 ∧ nb ≤ 36 ∧ N ≤ 36 :=
  ⟨by rw [S.ha]; exact Nat.mul_le_mul S.m1.2 S.k1.2, by rw [S.hb]; exact Nat.mul_le_mul S.k1.2 S.n1.2, by rw [S.hN]; exact Nat.mul_le_mul S.m1.2 S.n1.2⟩

theorem told_self {f : Nat → Nat} {N i : Nat} : (told f 0 N i).set i 0 = told f 0 N i := by
  apply List.ext_getElem
  · simp
  · intro j h1 h2
    rw [List.getElem_set]
    split
    · rename_i h
      subst h
      simp [told]
    · rfl

set_option maxHeartbeats 4000000 in
theorem matmul_any (L m k n na nb N ca cb : Nat) (a b : Option Addr) (xs ys : List Nat) (w : World) (h1 : 1 ≤ L) (h2 : L ≤ 64) (S : Sides m k n na nb N) (ha : Nl w na a xs) (hb : Nl w nb b ys) :
    Calls Try.prog 32 #[.int .i64 L, .int .i64 m, .int .i64 k, .int .i64 n, .slice a na ca, .slice b nb cb] w fun e w' => e = .returned (.tuple #[.slice (some ⟨w.heap.size, 0, none⟩) N N, .int .i64 0]) ∧ w'.heap[w.heap.size]? = some (wrow (told (mval L xs ys k n) 0 N N)) ∧ Below w.heap.size w w' := by
  have c1 := fun w => hide1 (filled_any m k na ca a w)
  have c2 := fun w => hide1 (filled_any k n nb cb b w)
  have c3 := fun w => hide1 (allowed_any L w)
  rw [filled_nat S.m1 S.k1 S.ha] at c1
  rw [filled_nat S.k1 S.n1 S.hb] at c2
  rw [decide_eq_true (by omega)] at c3
  have hN36 := S.small.2.2
  have hw : IntKind.i64.wrap ((m : Int) * (n : Int)) = (N : Int) := by
    rw [← Int.natCast_mul, ← S.hN, wrap_i64_nat (by omega)]
  have hmk := make_words N (by omega)
  have HA := hide1 ha
  have HB := hide1 hb
  have HS := hide1 S
  have hk6 := S.k1.2
  clear ha hb S
  go_enter Try.func32, Try.ntmps32
  go_wp2_with fail
  refine (c1 _).out.mono ?_
  rintro e w' ⟨rfl, rfl⟩
  go_wp2_with fail
  refine (c2 _).out.mono ?_
  rintro e w' ⟨rfl, rfl⟩
  go_wp2_with fail
  refine (c3 _).out.mono ?_
  rintro e w' ⟨rfl, rfl⟩
  go_wp2
  clear hmk c1 c2 c3 hw
  go_loopw [43] (fun v wr => ∃ i : Nat, i ≤ N ∧ v = .int .i64 i ∧ wr.heap[w'.heap.size]? = some (wrow (told (mval L xs ys k n) 0 N i)) ∧ Below w'.heap.size w' wr) (fun v _ => N - (intOf v).toNat)
  case atStart =>
    refine ⟨0, Nat.zero_le _, rfl, ?_, (Below.refl _ _).alloc (Nat.le_refl _) _⟩
    rw [told_zero]
    exact heap_alloc_new _ _
  case round =>
    obtain ⟨i, hi, rfl, hrow, hBe⟩ := hrel
    by_cases hlt : i < N
    · have HR := hide1 hrow
      have HBe := hide1 hBe
      clear hrow hBe
      have hn0 : ¬ n = 0 := by have := HS.out.n1.1; omega
      have hle : i / n ≤ i := Nat.div_le_self _ _
      have f1 : IntKind.i64.wrap ((i : Int).tdiv (n : Int)) = ((i / n : Nat) : Int) := by
        rw [show (i : Int).tdiv (n : Int) = ((i / n : Nat) : Int) from rfl, wrap_i64_nat (by omega)]
      have f2 : (i : Int).tmod (n : Int) = ((i % n : Nat) : Int) := rfl
      have f3 : IntKind.i64.wrap ((i : Int) / (n : Int)) = ((i / n : Nat) : Int) := by
        rw [← Int.natCast_ediv, wrap_i64_nat (by omega)]
      have f4 : (i : Int) % (n : Int) = ((i % n : Nat) : Int) := (Int.natCast_emod _ _).symm
      have HP := hide1 (fun j (h : j < k) => HS.out.place (j := j) hlt h)
      obtain ⟨ro, hro⟩ : ∃ ro, ro = i / n := ⟨_, rfl⟩
      obtain ⟨co, hco⟩ : ∃ co, co = i % n := ⟨_, rfl⟩
      rw [← hro] at f1 f3 hle
      rw [← hco] at f2 f4
      have HRO := hide1 hro
      have HCO := hide1 hco
      clear hro hco
      go_wp2
      go_quiet (fail)
      go_wp2
      clear f1 f2 f3 f4 hn0
      go_loopw [53] (fun v wr2 => ∃ j : Nat, j ≤ k ∧ v = .int .i64 j ∧ wr2.heap[w'.heap.size]? = some (wrow ((told (mval L xs ys k n) 0 N i).set i (sumTo (mprod xs ys k n i) j % 18446744073709551616))) ∧ Below w'.heap.size w' wr2) (fun v _ => k - (intOf v).toNat)
      case atStart =>
        refine ⟨0, Nat.zero_le _, rfl, ?_, below_drew3 HBe.out nq⟩
        show _ = some (wrow ((told (mval L xs ys k n) 0 N i).set i (0 % 18446744073709551616)))
        rw [Nat.zero_mod, told_self]
        exact HR.out
      case round =>
        obtain ⟨j, hj, rfl, hrow, hB2⟩ := hrel
        clear HR
        by_cases hlt2 : j < k
        · obtain ⟨b1, b2⟩ := HP.out j hlt2
          have hs := HS.out.small
          rw [← HRO.out] at b1
          rw [← HCO.out] at b2
          have e1 : IntKind.i64.wrap ((ro : Int) * (k : Int)) = ((ro * k : Nat) : Int) := by rw [← Int.natCast_mul, wrap_i64_nat (by omega)]
          have e2 : IntKind.i64.wrap ((j : Int) * (n : Int)) = ((j * n : Nat) : Int) := by rw [← Int.natCast_mul, wrap_i64_nat (by omega)]
          obtain ⟨ga, oa, rfl, hca⟩ := (HA.out.below hB2 (Nat.le_refl _)).val b1
          obtain ⟨gb, ob, rfl, hcb⟩ := (HB.out.below hB2 (Nat.le_refl _)).val b2
          have hf := frozen_of_row wr w'.heap.size i _ _ hrow
          have hc2 := row_cell hrow (List.getElem?_set_self (by rw [told_length]; exact hlt))
          have HD : Hid ((sumTo (mprod xs ys k n i) j % 18446744073709551616 + at0 xs (ro * k + j) * at0 ys (j * n + co) % 18446744073709551616) % 18446744073709551616 = sumTo (mprod xs ys k n i) (j + 1) % 18446744073709551616) := by
            show (_ % _ + _ % _) % _ = _
            rw [HRO.out, HCO.out, ← Nat.add_mod]
            rfl
          obtain ⟨s, hs'⟩ : ∃ s, s = sumTo (mprod xs ys k n i) j % 18446744073709551616 := ⟨_, rfl⟩
          obtain ⟨x, hx⟩ : ∃ x, x = at0 xs (ro * k + j) := ⟨_, rfl⟩
          obtain ⟨y, hy⟩ : ∃ y, y = at0 ys (j * n + co) := ⟨_, rfl⟩
          rw [← hs'] at hc2 HD hrow
          rw [← hx] at hca HD
          rw [← hy] at hcb HD
          obtain ⟨rk, hrk⟩ : ∃ rk, rk = ro * k := ⟨_, rfl⟩
          obtain ⟨jn, hjn⟩ : ∃ jn, jn = j * n := ⟨_, rfl⟩
          rw [← hrk] at e1 hca b1
          rw [← hjn] at e2 hcb b2
          have HR2 := hide1 hrow
          have HB2 := hide1 hB2
          clear hrow hB2 hs' hx hy hrk hjn
          go_wp2
          go_region
          go_wp2
          go_roundw
          case rel =>
            refine ⟨j + 1, by omega, by go_num, ?_, ?_⟩
            · show (wr.setCell _ _).heap[_]? = _
              rw [wrap_mulN, wrap_add, HD.out, wset HR2.out, List.set_set]
            · exact (HB2.out.setCell (Nat.le_refl _) _).drew
          case measure => simp [intOf]; omega
        · have : j = k := by omega
          subst this
          have hf := frozen_of_row wr w'.heap.size i _ _ hrow
          have hc2 := row_cell hrow (List.getElem?_set_self (by rw [told_length]; exact hlt))
          have hF := fun w => hide1 (fit_int L (sumTo (mprod xs ys j n i) j) _ w rfl)
          have HT := hide1 (told_succ (mval L xs ys j n) 0 (m := N) (k := i))
          have HM : Hid (mval L xs ys j n i = fit L (sumTo (mprod xs ys j n i) j)) := (rfl : mval L xs ys j n i = fit L (sumTo (mprod xs ys j n i) j))
          rw [HM.out] at HT
          obtain ⟨s, hs'⟩ : ∃ s, s = sumTo (mprod xs ys j n i) j % 18446744073709551616 := ⟨_, rfl⟩
          obtain ⟨t, ht⟩ : ∃ t, t = fit L (sumTo (mprod xs ys j n i) j) := ⟨_, rfl⟩
          rw [← hs'] at hc2 hrow hF
          rw [← ht] at hF HT
          have HR2 := hide1 hrow
          have HB2 := hide1 hB2
          clear hrow hB2 hs' ht HM
          go_wp2_with (first | (go_at_call 11; refine (hF _).out.mono ?_; rintro e w1 ⟨rfl, rfl⟩))
          go_roundw
          case rel =>
            refine ⟨i + 1, by omega, by go_num, ?_, ?_⟩
            · rw [wset HR2.out, List.set_set, HT.out]
            · exact HB2.out.setCell (Nat.le_refl _) _
          case measure => simp [intOf]; omega
    · have : i = N := by omega
      subst this
      go_wp2
      go_ret2
      exact ⟨rfl, hrow, hBe⟩

end Go.Proofs.Ytnabkhhoocgkgaa
