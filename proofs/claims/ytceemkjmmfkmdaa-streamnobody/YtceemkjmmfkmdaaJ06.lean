/- The chapter's example; the walk of StreamPlans. -/
import Derived.Test.YtceemkjmmfkmdaaJ05
namespace Go.Proofs.Ytceemkjmmfkmdaa.St
open Go.RowKit
set_option maxRecDepth 100000
attribute [local go_sem] not_any

theorem same_own {n c d base : Nat} {a b : Option Addr} {t : TypeId} {l : List Chk} {w : World} (ha : w.ownsRow base t 3 (.slice a n c) n (chks l)) (hb : Cl w n b l) (hn : n ≤ 4096) :
    Calls Try.prog 10 #[.slice a n c, .slice b n d] w fun e w' => e = .returned (.bool true) ∧ ∃ q, w' = w.drewN q := same_yes n c d a b l w (cl_own ha) hb hn

theorem awake_any (w : World) : Calls Try.prog 11 #[] w fun e w' => e = .returned (.bool true) ∧ Below w.heap.size w w' := by
  have kP := hide1 (pplan_any 5 600 w (by omega))
  unfold PPost at kP
  rw [show planC 5 600 = 0 from rfl, show planL 5 600 = [⟨5, 512, 0⟩, ⟨517, 88, 512⟩] from rfl] at kP
  go_enter Try.func11, Try.ntmps11
  go_wp2_with fail
  go_at_call 8
  refine kP.out.mono ?_
  rintro e w1 ⟨a, m, c, rfl, ho, hb⟩
  have hm : m = 2 := by have := ho.1; rw [chks_length] at this; simp at this; omega
  subst hm
  have HO := hide1 ho
  have HB := hide1 hb
  clear ho hb kP
  go_wp2_with fail
  generalize hX : World.alloc w1 _ = X
  have x0 : X.heap[w1.heap.size]? = some (.cells #[.int .u64 5, .int .i64 512, .int .i64 0, .int .u64 517, .int .i64 88, .int .i64 512] 54 (0, 0)) := by rw [← hX]; exact heap_alloc_new _ _
  have xb : Below w1.heap.size w1 X := by rw [← hX]; exact below1 _
  have hc : Cl X 2 (some ⟨w1.heap.size, 0, none⟩) [⟨5, 512, 0⟩, ⟨517, 88, 512⟩] := cl_own (base := 0) (c := 2) ⟨rfl, .inr ⟨w1.heap.size, 2, _, rfl, Nat.zero_le _, x0, Nat.le_refl _, by unfold maxLen; omega, rfl, rfl⟩⟩
  go_at_call 10
  refine (same_own (own_below HO.out xb) hc (by omega)).mono ?_
  rintro e w2 ⟨rfl, q2, hq⟩
  have hw2 : Below X.heap.size X w2 := by rw [hq]; exact below_drewN (Below.refl _ _) q2
  have hw3 := xb.trans (hw2.mono xb.size)
  have hb2 := HB.out.trans (hw3.mono HB.out.size)
  have B2 := hide1 hb2
  clear hX x0 xb hc hq hb2 hw2 hw3 HO HB
  go_wp2
  go_ret
  exact ⟨rfl, B2.out⟩

/- how many transfers the first k chunks have -/
def sm (n k : Nat) : Nat := min n (512 * k)
theorem sm_zero (n : Nat) : sm n 0 = 0 := by simp [sm]
theorem sm_lt {n k : Nat} (h : k < pn n) : sm n k = 512 * k := by unfold pn at h; unfold sm; omega
theorem sm_all (n : Nat) : sm n (pn n) = n := by unfold pn sm; omega
theorem sm_succ {n k : Nat} (h : k < pn n) : 512 * k + min 512 (n - 512 * k) = sm n (k + 1) := by unfold pn at h; unfold sm; omega

set_option maxHeartbeats 8000000 in
theorem plans_good (F n : Nat) (w : World) (hn : n ≤ 4096) (hF : F + n ≤ 67108864) :
    Calls Try.prog 3 #[.int .u64 (F : Int), .int .i64 (n : Int)] w fun e w' => e = .returned (.bool true) ∧ Below w.heap.size w w' := by
  have hC : planC F (n : Int) = 0 := by unfold planC; rw [if_neg (by omega), if_neg (by omega)]
  have hL : planL F (n : Int) = pl F n := by unfold planL; rw [if_pos hC]; rfl
  have kP := hide1 (pplan_any F n w (by omega))
  have kR := fun w => hide1 (rplan_any F n w (by omega))
  have kA := fun w => hide1 (awake_any w)
  unfold PPost at kP kR
  rw [hC, hL] at kP
  rw [hC, hL] at kR
  have HF := hide1 hF
  clear hC hL hF
  go_enter Try.func3, Try.ntmps3
  go_wp2_with fail
  go_at_call 8
  refine kP.out.mono ?_
  rintro e w1 ⟨a, m, c, rfl, ho, hb⟩
  have hm : m = pn n := by have := ho.1; rw [chks_length, pl_length] at this; omega
  subst hm
  have HO := hide1 ho
  have HB := hide1 hb
  clear ho hb kP
  go_wp2_with fail
  go_at_call 9
  refine (kR _).out.mono ?_
  rintro e w2 ⟨a2, m2, c2, rfl, ho2, hb2⟩
  have hm : m2 = pn n := by have := ho2.1; rw [chks_length, pl_length] at this; omega
  subst hm
  have HO := hide1 (own_below HO.out hb2)
  have HB := hide1 (HB.out.trans (hb2.mono HB.out.size))
  have HO2 := hide1 ho2
  clear ho2 hb2 kR
  go_wp2_with fail
  go_at_call 10
  have hp8 := pn_le hn
  refine (same_own HO.out (cl_own HO2.out) (by omega)).mono ?_
  rintro e w3 ⟨rfl, q3, hq⟩
  have hb3 : Below w2.heap.size w2 w3 := by rw [hq]; exact below_drewN (Below.refl _ _) q3
  have HC := hide1 (cl_own (own_below HO.out hb3))
  have HB := hide1 (HB.out.trans (hb3.mono HB.out.size))
  obtain ⟨N, hN⟩ : ∃ N, N = pn n := ⟨_, rfl⟩
  rw [← hN] at HC hp8 ⊢
  have HN := hide1 hN
  clear hq hb3 HO HO2 hN
  go_wp2
  go_loopw [9, 10, 11] (fun v9 v10 v11 wr => ∃ k : Nat, k ≤ N ∧ v11 = .int .i64 k ∧ v9 = .int .u64 ((F + sm n k : Nat) : Int) ∧ v10 = .int .i64 ((sm n k : Nat) : Int) ∧ Below w3.heap.size w3 wr) (fun _ _ v11 _ => N - (intOf v11).toNat)
  case atStart => exact ⟨0, Nat.zero_le _, rfl, by rw [sm_zero]; rfl, by rw [sm_zero]; rfl, Below.refl _ _⟩
  case round =>
    obtain ⟨k, hk, rfl, rfl, rfl, hbe⟩ := hrel
    by_cases hlt : k < N
    · have bk : (k : Int) < (N : Int) := by omega
      have hkp : k < pn n := by rw [← HN.out]; exact hlt
      obtain ⟨g, o, rfl, a0, a1, a2⟩ := (HC.out.below hbe (Nat.le_refl _)).at' k _ (pl_get hkp)
      have hs1 := sm_lt hkp
      have hs2 := sm_succ hkp
      obtain ⟨s0, hs0⟩ : ∃ s, s = 512 * k := ⟨_, rfl⟩
      obtain ⟨C, hC⟩ : ∃ C, C = min 512 (n - 512 * k) := ⟨_, rfl⟩
      have a0 : wr.cell? ⟨g, o + k * 3, none⟩ = some (.int .u64 ((F + 512 * k : Nat) : Int)) := a0
      have a1 : wr.cell? ⟨g, o + k * 3 + 1, none⟩ = some (.int .i64 ((min 512 (n - 512 * k) : Nat) : Int)) := a1
      have a2 : wr.cell? ⟨g, o + k * 3 + 2, none⟩ = some (.int .i64 ((512 * k : Nat) : Int)) := a2
      rw [← hC] at hs2 a1
      rw [← hs0] at hs1 hs2 a0 a2
      have hsn : s0 + C ≤ n := by rw [hs2]; unfold sm; omega
      rw [hs1]
      obtain ⟨X, hX⟩ : ∃ X, X = F + s0 := ⟨_, rfl⟩
      rw [← hX] at a0 ⊢
      have q0 : ((X : Int) != (X : Int)) = false := by simp
      have q1 : ((s0 : Int) != (s0 : Int)) = false := by simp
      have c1 : ¬ (C : Int) < 1 := by
        have := HN.out
        unfold pn at this
        omega
      have c2 : ¬ (512 : Int) < (C : Int) := by omega
      have hF := HF.out
      have w1 : IntKind.u64.wrap (C : Int) = (C : Int) := by rw [IntKind.wrap_u64]; omega
      have w2 : IntKind.u64.wrap ((X : Int) + (C : Int)) = ((F + sm n (k + 1) : Nat) : Int) := by rw [IntKind.wrap_u64, ← hs2]; omega
      have w3' : IntKind.i64.wrap ((s0 : Int) + (C : Int)) = ((sm n (k + 1) : Nat) : Int) := by rw [IntKind.wrap_i64, ← hs2]; omega
      obtain ⟨S2, hS2⟩ : ∃ s, s = sm n (k + 1) := ⟨_, rfl⟩
      rw [← hS2] at w3'
      obtain ⟨X2, hX2⟩ : ∃ s, s = F + sm n (k + 1) := ⟨_, rfl⟩
      rw [← hX2] at w2
      obtain ⟨jo, hjo⟩ : ∃ j, j = o + k * 3 := ⟨_, rfl⟩
      rw [← hjo] at a0 a1 a2
      have ejo : o + k * 3 = jo := hjo.symm
      have HS2 := hide1 (And.intro hS2 hX2)
      have HE := hide1 hbe
      have k12 : Hid ((k : Int) + 1 ≤ 8) := (by omega : (k : Int) + 1 ≤ 8)
      clear hs0 hC hsn hX hF hS2 hX2 hjo hs1 hs2 hkp hbe
      go_upto_region 11 with (fail)
      refine region_f (F := []) (S := fun W => Below wr.heap.size wr W) (by kernel_rfl) (Below.refl _ _).drew (fun hS => ?_)
      refine take_p 0 72 (.int .u64 (X : Int)) rfl rfl (by kernel_rfl) (by kernel_rfl) (by kernel_rfl) (fun _ _ _ h => h) rfl (fun w => by go_simp) ?_
      try simp only [List.setIfInBounds_toArray, List.set_cons_zero, List.set_cons_succ]
      refine take_p 1 73 (.slice (some ⟨g, o, none⟩) N c) rfl rfl (by kernel_rfl) (by kernel_rfl) (by kernel_rfl) (fun _ _ _ h => h) rfl (fun w => by go_simp) ?_
      try simp only [List.setIfInBounds_toArray, List.set_cons_zero, List.set_cons_succ]
      refine take_p 2 74 (.int .i64 (k : Int)) rfl rfl (by kernel_rfl) (by kernel_rfl) (by kernel_rfl) (fun _ _ _ h => h) rfl (fun w => by go_simp) ?_
      try simp only [List.setIfInBounds_toArray, List.set_cons_zero, List.set_cons_succ]
      refine take_p 3 75 (.pointer (some ⟨g, jo, none⟩)) rfl rfl (by kernel_rfl) (by kernel_rfl) (by kernel_rfl) (fun _ _ _ h => h) rfl (fun w => by go_simp) ?_
      try simp only [List.setIfInBounds_toArray, List.set_cons_zero, List.set_cons_succ]
      refine take_p 4 76 (.pointer (some ⟨g, jo + 1, none⟩)) rfl rfl (by kernel_rfl) (by kernel_rfl) (by kernel_rfl) (fun _ _ _ h => h) rfl (fun w => by go_simp) ?_
      try simp only [List.setIfInBounds_toArray, List.set_cons_zero, List.set_cons_succ]
      refine take_f 5 77 (.int .i64 (C : Int)) [6, 7, 15, 16] rfl rfl (by kernel_rfl) (by kernel_rfl) (by kernel_rfl) (by kernel_rfl) (by kernel_rfl) (by kernel_rfl) (fun _ _ _ h => h) rfl (fun w hSw => by have h1 := (hSw.cell (p := ⟨g, _, none⟩) (lt_cell a1)).trans a1; go_simp) hS ?_
      try simp only [List.setIfInBounds_toArray, List.set_cons_zero, List.set_cons_succ]
      refine take_p 6 78 (.int .u64 (C : Int)) rfl rfl (by kernel_rfl) (by kernel_rfl) (by kernel_rfl) (fun _ _ _ h => h) rfl (fun w => by go_simp) ?_
      try simp only [List.setIfInBounds_toArray, List.set_cons_zero, List.set_cons_succ]
      refine take_p 7 79 (.int .u64 (X2 : Int)) rfl rfl (by kernel_rfl) (by kernel_rfl) (by kernel_rfl) (fun _ _ _ h => h) rfl (fun w => by go_simp) ?_
      try simp only [List.setIfInBounds_toArray, List.set_cons_zero, List.set_cons_succ]
      refine take_p 8 80 (.int .i64 (s0 : Int)) rfl rfl (by kernel_rfl) (by kernel_rfl) (by kernel_rfl) (fun _ _ _ h => h) rfl (fun w => by go_simp) ?_
      try simp only [List.setIfInBounds_toArray, List.set_cons_zero, List.set_cons_succ]
      refine take_p 9 81 (.slice (some ⟨g, o, none⟩) N c) rfl rfl (by kernel_rfl) (by kernel_rfl) (by kernel_rfl) (fun _ _ _ h => h) rfl (fun w => by go_simp) ?_
      try simp only [List.setIfInBounds_toArray, List.set_cons_zero, List.set_cons_succ]
      refine take_p 10 82 (.int .i64 (k : Int)) rfl rfl (by kernel_rfl) (by kernel_rfl) (by kernel_rfl) (fun _ _ _ h => h) rfl (fun w => by go_simp) ?_
      try simp only [List.setIfInBounds_toArray, List.set_cons_zero, List.set_cons_succ]
      refine take_p 11 83 (.pointer (some ⟨g, jo, none⟩)) rfl rfl (by kernel_rfl) (by kernel_rfl) (by kernel_rfl) (fun _ _ _ h => h) rfl (fun w => by go_simp) ?_
      try simp only [List.setIfInBounds_toArray, List.set_cons_zero, List.set_cons_succ]
      refine take_p 12 84 (.pointer (some ⟨g, jo + 1, none⟩)) rfl rfl (by kernel_rfl) (by kernel_rfl) (by kernel_rfl) (fun _ _ _ h => h) rfl (fun w => by go_simp) ?_
      try simp only [List.setIfInBounds_toArray, List.set_cons_zero, List.set_cons_succ]
      refine take_f 13 85 (.int .i64 (C : Int)) [14, 16] rfl rfl (by kernel_rfl) (by kernel_rfl) (by kernel_rfl) (by kernel_rfl) (by kernel_rfl) (by kernel_rfl) (fun _ _ _ h => h) rfl (fun w hSw => by have h1 := (hSw.cell (p := ⟨g, _, none⟩) (lt_cell a1)).trans a1; go_simp) hS ?_
      try simp only [List.setIfInBounds_toArray, List.set_cons_zero, List.set_cons_succ]
      refine take_p 14 86 (.int .i64 (S2 : Int)) rfl rfl (by kernel_rfl) (by kernel_rfl) (by kernel_rfl) (fun _ _ _ h => h) rfl (fun w => by go_simp) ?_
      try simp only [List.setIfInBounds_toArray, List.set_cons_zero, List.set_cons_succ]
      refine take_p 15 9 (.int .u64 (X2 : Int)) rfl rfl (by kernel_rfl) (by kernel_rfl) (by kernel_rfl) (fun _ _ _ h => h) rfl (fun w => by go_simp) ?_
      try simp only [List.setIfInBounds_toArray, List.set_cons_zero, List.set_cons_succ]
      refine take_p 16 10 (.int .i64 (S2 : Int)) rfl rfl (by kernel_rfl) (by kernel_rfl) (by kernel_rfl) (fun _ _ _ h => h) rfl (fun w => by go_simp) ?_
      try simp only [List.setIfInBounds_toArray, List.set_cons_zero, List.set_cons_succ]
      refine done_f (by kernel_rfl) ?_ _
      have HEW := hide1 (HE.out.trans ((show Below wr.heap.size wr wr.drew from (Below.refl _ _).drew).mono HE.out.size))
      clear hS
      go_wp2
      go_roundw
      case rel => exact ⟨k + 1, by omega, by go_num, by rw [HS2.out.2], by rw [HS2.out.1], HEW.out⟩
      case measure => simp [intOf]; omega
    · obtain rfl : k = N := by omega
      have hsm : sm n k = n := by rw [HN.out]; exact sm_all n
      rw [hsm]
      have nk : ¬ (k : Int) < (k : Int) := by omega
      have qq : ((n : Int) == (n : Int)) = true := by simp
      have HE := hide1 (HB.out.trans (hbe.mono HB.out.size))
      clear hbe hsm
      go_wp2_with fail
      go_at_call 11
      refine (kA _).out.mono ?_
      rintro e w6 ⟨rfl, hb6⟩
      have B6 := hide1 (HE.out.trans (hb6.mono HE.out.size))
      clear hb6
      go_wp2
      go_ret
      exact ⟨rfl, B6.out⟩

set_option maxHeartbeats 4000000 in
theorem plans_bad (F : Nat) (n : Int) (w : World) (hF : F < 18446744073709551616) (hq : planC F n ≠ 0) :
    Calls Try.prog 3 #[.int .u64 (F : Int), .int .i64 n] w fun e w' => e = .returned (.bool true) ∧ Below w.heap.size w w' := by
  have hL : planL F n = [] := by unfold planL; rw [if_neg hq]
  have kP := hide1 (pplan_any F n w hF)
  have kR := fun w => hide1 (rplan_any F n w hF)
  have kA := fun w => hide1 (awake_any w)
  unfold PPost at kP kR
  rw [hL] at kP
  rw [hL] at kR
  generalize planC F n = q at *
  have q0 : (q != q) = false := by simp
  have q1 : (q != 0) = true := by rw [bne_iff_ne]; exact hq
  clear hL hq hF
  go_enter Try.func3, Try.ntmps3
  go_wp2_with fail
  go_at_call 8
  refine kP.out.mono ?_
  rintro e w1 ⟨a, m, c, rfl, ho, hb⟩
  have hm : m = 0 := by have := ho.1; rw [chks_length] at this; simp at this; omega
  subst hm
  have HO := hide1 ho
  have HB := hide1 hb
  clear ho hb kP
  go_wp2_with fail
  go_at_call 9
  refine (kR _).out.mono ?_
  rintro e w2 ⟨a2, m2, c2, rfl, ho2, hb2⟩
  have hm : m2 = 0 := by have := ho2.1; rw [chks_length] at this; simp at this; omega
  subst hm
  have HO := hide1 (own_below HO.out hb2)
  have HB := hide1 (HB.out.trans (hb2.mono HB.out.size))
  have HO2 := hide1 ho2
  clear ho2 hb2 kR
  go_wp2_with fail
  go_at_call 10
  refine (same_own HO.out (cl_own HO2.out) (by omega)).mono ?_
  rintro e w3 ⟨rfl, q3, hq⟩
  have hb3 : Below w2.heap.size w2 w3 := by rw [hq]; exact below_drewN (Below.refl _ _) q3
  have HB := hide1 (HB.out.trans (hb3.mono HB.out.size))
  clear hq hb3 HO HO2
  go_wp2
  go_loopw [11] (fun v11 wr => v11 = .int .i64 0 ∧ wr = w3) (fun _ _ => 0)
  case atStart => exact ⟨rfl, rfl⟩
  case round =>
    obtain ⟨rfl, rfl⟩ := hrel
    go_wp2_with fail
    go_at_call 11
    refine (kA _).out.mono ?_
    rintro e w6 ⟨rfl, hb6⟩
    have B6 := hide1 (HB.out.trans (hb6.mono HB.out.size))
    clear hb6
    go_wp2
    go_ret
    exact ⟨rfl, B6.out⟩

theorem plans_all (F : Nat) (n : Int) (w : World) (hF : F < 18446744073709551616) :
    Calls Try.prog 3 #[.int .u64 (F : Int), .int .i64 n] w fun e w' => e = .returned (.bool true) ∧ Below w.heap.size w w' := by
  by_cases h : planC F n = 0
  · obtain ⟨k, rfl, h1, h2⟩ := planC_good h
    exact plans_good F k w h1 h2
  · exact plans_bad F n w hF h
end Go.Proofs.Ytceemkjmmfkmdaa.St
