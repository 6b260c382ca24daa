/- TransCols. -/
import Derived.Test.YtaghcbmipihpmaaUm
import Derived.Laws.StructEq
namespace Go.Proofs.Ytaghcbmipihpmaa
open Go.RowKit
set_option maxRecDepth 100000
attribute [local go_sem] not_any

theorem run_equalIn_u64s {P : Program} (w : World) (d : Nat) (t e : TypeId) (n : Nat) (ht : P.underlying t = some (.array n e)) (he : P.underlying e = some (.int .u64)) (hsz : ∀ w, (sizeOf e).run P w = .ok 1 w)
    (xs : List Nat) (hx : xs.length = n) : (Op.equalIn (d + 2) t (.agg (u64s xs).toArray) (.agg (u64s xs).toArray)).run P w = .ok true w := by
  rw [Op.equalIn]
  simp only [Sem.run_bind, run_underlying ht, Result.andThen_ok, hsz, Std.Legacy.Range.forIn_eq_forIn_range', Std.Legacy.Range.size, Nat.sub_zero, Nat.add_sub_cancel, Nat.div_one]
  have hl : ∀ i ∈ List.range' 0 n 1, i < n := fun i hi => by simpa using (List.mem_range'_1.1 hi).2
  generalize List.range' 0 n 1 = l at hl ⊢
  induction l with
  | nil => simp
  | cons i l ih =>
    have hi : i < n := hl i (by simp)
    have px : (part e (u64s xs).toArray (i * 1)).run P w = .ok (.int .u64 (xs.getD i 0 : Nat)) w := by
      simp [part, isAgg, run_underlying he, u64s, List.getD, List.getElem?_eq_getElem (show i < xs.length by omega)]
    have pe : (Op.equalIn (d + 1) e (.int .u64 (xs.getD i 0 : Nat)) (.int .u64 (xs.getD i 0 : Nat))).run P w = .ok true w := by
      rw [run_equalIn_int w d e .u64 .u64 _ _ he]
      congr 1
      simp
    simp only [List.forIn_cons, Sem.run_bind, px, pe, Result.andThen_ok]
    simp only [Bool.not_true, Bool.false_eq_true, if_false, Sem.run_pure, Result.andThen_ok]
    exact ih fun j hj => hl j (by simp [hj])
theorem eq_row (a b : Nat) (w : World) : (Op.equalIn 10000 39 (.agg #[.int .u64 (a : Int), .int .u64 (b : Int)]) (.agg #[.int .u64 (a : Int), .int .u64 (b : Int)])).run Try.prog w = .ok true w :=
  run_equalIn_u64s w 9998 39 37 2 Try.underlying39 Try.underlying37 (fun w => by kernel_rfl) [a, b] rfl
theorem guard39 : Try.prog.eqGuardType Try.prog.depth 39 = false := by kernel_rfl

theorem rowV_back {R : Nat → Nat → Nat} (hlt : ∀ j p, R j p < 18446744073709551616) {n j p : Nat} (hj : j < n) : rowV (colB R n) j p = R j p := by
  refine Nat.eq_of_testBit_eq fun b => ?_
  by_cases hb : b < 64
  · rw [rowV_bit _ _ _ _ hb, List.getD_eq_getElem?_getD, colB_get hj, Option.getD_some, show (p * 64 + b) / 64 = p by omega, show (p * 64 + b) % 64 = b by omega]
  · have h : ∀ x, x < 18446744073709551616 → x.testBit b = false := fun x hx => Nat.testBit_lt_two_pow (Nat.lt_of_lt_of_le (show x < 2 ^ 64 from hx) (Nat.pow_le_pow_right (by omega) (by omega)))
    rw [h _ (rowV_lt _ _ _), h _ (hlt _ _)]

set_option maxHeartbeats 4000000 in
theorem cols_law (w : World) (n c : Nat) (a : Option Addr) (R : Nat → Nat → Nat) (hR : Rws w n a R) (hc : n ≤ c) :
    Calls Try.prog 3 #[.slice a n c] w fun e w' => e = .returned (.bool true) ∧ Below w.heap.size w w' := by
  have kA := fun w => hide1 (awake_any w)
  by_cases hbig : 300 < n
  · have h1 : (300 : Int) < (n : Int) := by omega
    go_enter Try.func3, Try.ntmps3
    go_wp2_with fail
    go_at_call 6
    refine (kA _).out.mono ?_
    rintro e w1 ⟨rfl, hb⟩
    have HB := hide1 hb
    clear hb kA
    go_wp2
    go_ret
    exact ⟨rfl, HB.out⟩
  · have h1 : ¬ (300 : Int) < (n : Int) := by omega
    have kC := hide1 (cols_any w n c a R hR (by omega) hc)
    have HR := hide1 hR
    have h128 : ((128 : Int) != 128) = false := by decide
    have hnn : ((n : Int) != (n : Int)) = false := by simp
    clear hR
    go_enter Try.func3, Try.ntmps3
    go_wp2_with fail
    go_at_call 7
    refine kC.out.mono ?_
    rintro e w1 ⟨g, aa, rfl, hv, hb⟩
    have HV := hide1 hv
    have HB := hide1 hb
    clear hv hb kC
    go_wp2
    go_loopw [5] (fun i wr => ∃ k : Nat, k ≤ 128 ∧ i = .int .i64 k ∧ Below w1.heap.size w1 wr) (fun i _ => 128 - (intOf i).toNat)
    case atStart => exact ⟨0, Nat.zero_le _, rfl, Below.refl _ _⟩
    case round =>
      obtain ⟨k, hk, rfl, hbe⟩ := hrel
      have HBE := hide1 hbe
      have HV2 := hide1 (HV.out.below hbe (Nat.le_refl _))
      have HR2 := hide1 ((HR.out.below HB.out (Nat.le_refl _)).below hbe (Nat.le_refl _))
      by_cases hlt : k < 128
      · obtain ⟨g', o', e', _, hcs⟩ := HV2.out.first (by omega)
        cases e'
        have d := hcs k hlt
        rw [Nat.zero_add] at d
        obtain ⟨d0, d1⟩ := d
        have hvk := HV2.out.vc k hlt
        obtain ⟨ak, hak⟩ : ∃ ak, ak = aa k := ⟨_, rfl⟩
        rw [← hak] at d1 hvk
        have kB := hide1 (bools_any 0 wr n ak _ hvk (by omega))
        clear hcs hbe hak hvk
        go_wp2_with fail
        go_at_call 9
        refine kB.out.mono ?_
        rintro e w2 ⟨a2, rfl, hl2, hb2⟩
        have kO := hide1 (column_any w2 n c k a R (HR2.out.below hb2 (Nat.le_refl _)) (by omega) hlt)
        have HL2 := hide1 hl2
        have HB2 := hide1 (HBE.out.trans (hb2.mono HBE.out.size))
        clear hl2 hb2 kB d0 d1
        go_wp2_with fail
        go_at_call 10
        refine kO.out.mono ?_
        rintro e w3 ⟨a3, c3, rfl, hl3, hb3⟩
        have kS := hide1 (same_any w3 n n n c3 a2 a3 _ _ (HL2.out.below hb3 (Nat.le_refl _)) hl3 (by omega) (by omega))
        rw [decide_eq_true rfl] at kS
        have HB3 := hide1 (HB2.out.trans (hb3.mono HB2.out.size))
        clear hl3 hb3 kO
        go_wp2_with fail
        go_at_call 8
        refine kS.out.mono ?_
        rintro e w4 ⟨rfl, q4, rfl⟩
        have HB4 : Hid (Below w1.heap.size w1 (w3.drewN q4)) := HB3.out.trans (below_dn _ _ _)
        clear kS
        go_wp2
        go_roundw
        case rel => exact ⟨k + 1, by omega, by go_num, HB4.out⟩
        case measure => simp [intOf]; omega
      · obtain rfl : k = 128 := by omega
        have kR := hide1 (rows_yes wr n 128 _ _ _ _ HV2.out (by omega) (fun _ _ => rfl) (by omega))
        clear hbe
        go_wp2_with fail
        go_at_call 11
        refine kR.out.mono ?_
        rintro e w2 ⟨gr, rfl, hr2, hb2⟩
        have HRR := hide1 hr2
        have HB2 := hide1 (HB.out.trans ((HBE.out.trans (hb2.mono HBE.out.size)).mono HB.out.size))
        clear hr2 hb2 kR HV HV2 HR2 HBE
        go_wp2
        go_loopw [8] (fun i wr => ∃ j : Nat, j ≤ n ∧ i = .int .i64 j ∧ Below w2.heap.size w2 wr) (fun i _ => n - (intOf i).toNat)
        case atStart => exact ⟨0, Nat.zero_le _, rfl, Below.refl _ _⟩
        case round =>
          obtain ⟨j, hj, rfl, hbe⟩ := hrel
          have HBE := hide1 hbe
          by_cases hlt : j < n
          · have hr3 := (hbe.block _ (lt_heap HRR.out)).trans HRR.out
            have c0 := rrow_cell (p := 0) hr3 hlt (by omega)
            have c1 := rrow_cell (p := 1) hr3 hlt (by omega)
            rw [rowV_back HR.out.lt hlt] at c0 c1
            rw [Nat.add_zero] at c0
            obtain ⟨gq, oq, rfl, d0, d1⟩ := ((HR.out.below HB2.out (Nat.le_refl _)).below hbe (Nat.le_refl _)).at' j hlt
            obtain ⟨x0, hx0⟩ : ∃ x0, x0 = R j 0 := ⟨_, rfl⟩
            obtain ⟨x1, hx1⟩ : ∃ x1, x1 = R j 1 := ⟨_, rfl⟩
            rw [← hx0] at c0 d0
            rw [← hx1] at c1 d1
            have heq := eq_row x0 x1
            have heg := guard39
            clear hx0 hx1 hr3 hbe
            go_wp2
            go_quiet (fail)
            go_wp2
            go_roundw
            case rel => exact ⟨j + 1, by omega, by go_num, HBE.out.trans (below_dn _ _ _)⟩
            case measure => simp [intOf]; omega
          · obtain rfl : j = n := by omega
            clear hbe
            go_wp2_with fail
            go_at_call 6
            refine (kA _).out.mono ?_
            rintro e w9 ⟨rfl, hb9⟩
            have HB9 := hide1 hb9
            clear hb9
            go_wp2
            go_ret
            have h9 := HB2.out.trans (HBE.out.mono HB2.out.size)
            exact ⟨rfl, h9.trans (HB9.out.mono h9.size)⟩
end Go.Proofs.Ytaghcbmipihpmaa
