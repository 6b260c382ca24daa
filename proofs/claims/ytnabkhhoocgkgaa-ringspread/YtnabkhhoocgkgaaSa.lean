/- Products spread over sums, as numbers; a list's head; RingSpread where it says little. -/
import Derived.Test.YtnabkhhoocgkgaaMc
import Derived.Test.YtnabkhhoocgkgaaL
namespace Go.Proofs.Ytnabkhhoocgkgaa
open Go.RowKit
set_option maxRecDepth 100000
attribute [local go_sem] not_any mf_any

theorem info22 : (Try.prog.info? 22).map (fun i => (i.zero, i.size, i.bytes)) = some (some (.int .u64 0), 1, 8) := by kernel_rfl

theorem addr_add0 (g o : Nat) : (⟨g, o, none⟩ : Addr).add 0 = ⟨g, o, none⟩ := by unfold Addr.add; split <;> simp_all

theorem run_head (w : World) (g o n c r : Nat) (h2 : r ≤ c) :
    (Instr.slice 33 (.slice (some ⟨g, o, none⟩) n c) none (some (.int .i64 (r : Int))) none).run Try.prog w = .ok (.slice (some ⟨g, o, none⟩) r c) w := by
  obtain ⟨i0, hi, hz0, hz1, hz2⟩ := info_parts info22
  have a2 : (r : Int) ≤ (c : Int) := by omega
  simp [Instr.slice, run_underlying Try.underlying33, Instr.sliceBounds, run_sliceBound, sizeOf, typeInfo, hi, h2, addr_add0]

theorem nl_head {w : World} {n r : Nat} {a : Option Addr} {ws : List Nat} (h : Nl w n a ws) (hr : r ≤ n) : Nl w r a (ws.take r) := by
  refine ⟨by rw [List.length_take, h.len]; omega, fun j x hj => ?_⟩
  have hjl : j < r := by
    have := (List.getElem?_eq_some_iff.1 hj).1
    rw [List.length_take] at this
    omega
  rw [List.getElem?_take_of_lt hjl] at hj
  exact h.at' j x hj

theorem small_head {ws : List Nat} (h : Small ws) (r : Nat) : Small (ws.take r) := fun j x hj => by
  have hjl : j < r := by
    have := (List.getElem?_eq_some_iff.1 hj).1
    rw [List.length_take] at this
    omega
  rw [List.getElem?_take_of_lt hjl] at hj
  exact h j x hj

/- products spread over sums -/
theorem spread_place {L m k n na nb N : Nat} (xs ys zs : List Nat) (h1 : 1 ≤ L) (h2 : L ≤ 64) (S : Sides m k n na nb N) {i : Nat} (hi : i < N) :
    mval L xs (sums L ys zs nb) k n i = fit L (mval L xs ys k n i + mval L xs zs k n i) := by
  unfold mval
  rw [fit_nat h1 h2, fit_nat h1 h2, fit_nat h1 h2, fit_nat h1 h2, ← Nat.add_mod, ← sumTo_add, ← sumTo_mod, ← sumTo_mod (fun j => mprod xs ys k n i j + mprod xs zs k n i j)]
  congr 1
  apply sumTo_ext
  intro j hj
  have hb := (S.place hi hj).2
  unfold mprod sums
  rw [told_at0 hb, fit_nat h1 h2, mul_cut2, Nat.mul_add]

theorem told_ext {f g : Nat → Nat} {N : Nat} (h : ∀ i, i < N → f i = g i) : told f 0 N N = told g 0 N N := by
  unfold told
  apply List.map_congr_left
  intro i hi
  have : i < N := by simpa using hi
  rw [if_pos this, if_pos this, h i this]

theorem spread_lists {L m k n na nb N : Nat} (xs ys zs : List Nat) (h1 : 1 ≤ L) (h2 : L ≤ 64) (S : Sides m k n na nb N) :
    told (mval L xs (sums L ys zs nb) k n) 0 N N = sums L (told (mval L xs ys k n) 0 N N) (told (mval L xs zs k n) 0 N N) N := by
  unfold sums
  apply told_ext
  intro i hi
  rw [told_at0 hi, told_at0 hi]
  exact spread_place xs ys zs h1 h2 S hi

theorem assoc_num {L u v w : Nat} : (u * v % 2 ^ L) * w % 2 ^ L = u * (v * w % 2 ^ L) % 2 ^ L := by
  rw [mul_cut1, mul_cut2, Nat.mul_assoc]
theorem spread_num {L u v w : Nat} : u * ((v + w) % 2 ^ L) % 2 ^ L = (u * v % 2 ^ L + u * w % 2 ^ L) % 2 ^ L := by
  rw [mul_cut2, ← Nat.add_mod, Nat.mul_add]
theorem back_num {L u v : Nat} (h2 : L ≤ 64) (hv : v < 18446744073709551616) : ((u + v) % 2 ^ L + (18446744073709551616 - v)) % 2 ^ L = u % 2 ^ L := by
  rw [Nat.mod_add_mod, show u + v + (18446744073709551616 - v) = u + 18446744073709551616 by omega]
  obtain ⟨c, hc⟩ := pow_dvd64 h2
  rw [hc, Nat.add_mul_mod_self_left]

theorem sized_yes {m k : Nat} (h1 : 1 ≤ m ∧ m ≤ 6) (h2 : 1 ≤ k ∧ k ≤ 6) : decide ((1 ≤ (m : Int) ∧ (m : Int) ≤ 6) ∧ (1 ≤ (k : Int) ∧ (k : Int) ≤ 6)) = true := by
  apply decide_eq_true
  omega

set_option maxHeartbeats 2000000 in
theorem spread_short (l m k n : Int) (na nb nc ca cb cc : Nat) (a b c : Option Addr) (w : World) (h : ¬ ((1 ≤ l ∧ l ≤ 64) ∧ ((1 ≤ m ∧ m ≤ 6) ∧ (1 ≤ k ∧ k ≤ 6)) ∧ ((1 ≤ k ∧ k ≤ 6) ∧ (1 ≤ n ∧ n ≤ 6)))) :
    Calls Try.prog 7 #[.int .i64 l, .int .i64 m, .int .i64 k, .int .i64 n, .slice a na ca, .slice b nb cb, .slice c nc cc] w fun e w' => e = .returned (.bool true) ∧ w' = w := by
  have c1 := fun w => hide1 (good_any l w)
  have c2 := fun w => hide1 (sized_any m k w)
  have c3 := fun w => hide1 (sized_any k n w)
  have c4 := fun w => hide1 (awake_any w)
  by_cases h1 : 1 ≤ l ∧ l ≤ 64
  · rw [decide_eq_true h1] at c1
    by_cases h2 : (1 ≤ m ∧ m ≤ 6) ∧ (1 ≤ k ∧ k ≤ 6)
    · rw [decide_eq_true h2] at c2
      rw [decide_eq_false (fun h3 => h ⟨h1, h2, h3⟩)] at c3
      clear h
      go_enter Try.func7, Try.ntmps7
      go_wp2_with fail
      refine (c1 _).out.mono ?_
      rintro e w' ⟨rfl, rfl⟩
      go_wp2_with fail
      refine (c2 _).out.mono ?_
      rintro e w' ⟨rfl, rfl⟩
      go_wp2_with fail
      refine (c3 _).out.mono ?_
      rintro e w' ⟨rfl, rfl⟩
      go_wp2_with fail
      refine (c4 _).out.mono ?_
      rintro e w' ⟨rfl, rfl⟩
      go_wp2
      go_ret
      exact ⟨rfl, rfl⟩
    · rw [decide_eq_false h2] at c2
      clear h
      go_enter Try.func7, Try.ntmps7
      go_wp2_with fail
      refine (c1 _).out.mono ?_
      rintro e w' ⟨rfl, rfl⟩
      go_wp2_with fail
      refine (c2 _).out.mono ?_
      rintro e w' ⟨rfl, rfl⟩
      go_wp2_with fail
      refine (c4 _).out.mono ?_
      rintro e w' ⟨rfl, rfl⟩
      go_wp2
      go_ret
      exact ⟨rfl, rfl⟩
  · rw [decide_eq_false h1] at c1
    clear h
    go_enter Try.func7, Try.ntmps7
    go_wp2_with fail
    refine (c1 _).out.mono ?_
    rintro e w' ⟨rfl, rfl⟩
    go_wp2_with fail
    refine (c4 _).out.mono ?_
    rintro e w' ⟨rfl, rfl⟩
    go_wp2
    go_ret
    exact ⟨rfl, rfl⟩

set_option maxHeartbeats 2000000 in
theorem spread_few (L m k n na nb N la lb lc ca cb cc : Nat) (a b c : Option Addr) (w : World) (h1 : 1 ≤ L) (h2 : L ≤ 64) (S : Sides m k n na nb N) (h : la < na ∨ lb < nb ∨ lc < nb) :
    Calls Try.prog 7 #[.int .i64 L, .int .i64 m, .int .i64 k, .int .i64 n, .slice a la ca, .slice b lb cb, .slice c lc cc] w fun e w' => e = .returned (.bool true) ∧ w' = w := by
  have c1 := fun w => hide1 (good_any L w)
  have c2 := fun w => hide1 (sized_any m k w)
  have c3 := fun w => hide1 (sized_any k n w)
  have c4 := fun w => hide1 (awake_any w)
  rw [decide_eq_true (by omega)] at c1
  rw [sized_yes S.m1 S.k1] at c2
  rw [sized_yes S.k1 S.n1] at c3
  have hs := S.small
  have e1 : IntKind.i64.wrap ((m : Int) * (k : Int)) = (na : Int) := by rw [← Int.natCast_mul, ← S.ha, wrap_i64_nat (by omega)]
  have e2 : IntKind.i64.wrap ((k : Int) * (n : Int)) = (nb : Int) := by rw [← Int.natCast_mul, ← S.hb, wrap_i64_nat (by omega)]
  clear S
  by_cases g1 : la < na
  · have g1' : (la : Int) < na := by omega
    clear h
    go_enter Try.func7, Try.ntmps7
    go_wp2_with fail
    refine (c1 _).out.mono ?_
    rintro e w' ⟨rfl, rfl⟩
    go_wp2_with fail
    refine (c2 _).out.mono ?_
    rintro e w' ⟨rfl, rfl⟩
    go_wp2_with fail
    refine (c3 _).out.mono ?_
    rintro e w' ⟨rfl, rfl⟩
    go_wp2_with fail
    refine (c4 _).out.mono ?_
    rintro e w' ⟨rfl, rfl⟩
    go_wp2
    go_ret
    exact ⟨rfl, rfl⟩
  · have g1' : ¬ (la : Int) < na := by omega
    by_cases g2 : lb < nb
    · have g2' : (lb : Int) < nb := by omega
      clear h
      go_enter Try.func7, Try.ntmps7
      go_wp2_with fail
      refine (c1 _).out.mono ?_
      rintro e w' ⟨rfl, rfl⟩
      go_wp2_with fail
      refine (c2 _).out.mono ?_
      rintro e w' ⟨rfl, rfl⟩
      go_wp2_with fail
      refine (c3 _).out.mono ?_
      rintro e w' ⟨rfl, rfl⟩
      go_wp2_with fail
      refine (c4 _).out.mono ?_
      rintro e w' ⟨rfl, rfl⟩
      go_wp2
      go_ret
      exact ⟨rfl, rfl⟩
    · have g2' : ¬ (lb : Int) < nb := by omega
      have g3' : (lc : Int) < nb := by omega
      clear h
      go_enter Try.func7, Try.ntmps7
      go_wp2_with fail
      refine (c1 _).out.mono ?_
      rintro e w' ⟨rfl, rfl⟩
      go_wp2_with fail
      refine (c2 _).out.mono ?_
      rintro e w' ⟨rfl, rfl⟩
      go_wp2_with fail
      refine (c3 _).out.mono ?_
      rintro e w' ⟨rfl, rfl⟩
      go_wp2_with fail
      refine (c4 _).out.mono ?_
      rintro e w' ⟨rfl, rfl⟩
      go_wp2
      go_ret
      exact ⟨rfl, rfl⟩

end Go.Proofs.Ytnabkhhoocgkgaa
