/- fair. -/
import Derived.Test.YtcadlcpccemkbaaMEjVt
namespace Go.Proofs.Ytcadlcpccemkbaa
open Go.RowKit
set_option maxRecDepth 100000
attribute [local go_sem] not_any

theorem Lst.cut {B : Nat} {w : World} {v : Value} {A : List ByteArray} (h : Lst B w v A) {q : Nat} (hq : q ≤ A.length) :
    ∃ vs, (∀ W, (Instr.slice 31 v none (some (.int .i64 (q : Int))) none).run Try.prog W = .ok vs W) ∧ ∀ W, Lst B W v A → Rdl W vs (A.take q) := by
  rcases id h.2 with ⟨rfl, h0⟩ | ⟨g, cap, cur, rfl, hb, hgg, hnc, hcm, hcs, htake⟩
  · obtain rfl : A = [] := List.eq_nil_of_length_eq_zero h0
    obtain rfl : q = 0 := by simpa using hq
    exact ⟨.slice none 0 0, fun W => by simp [Instr.slice, run_underlying Try.underlying31, Instr.sliceBounds, run_sliceBound], fun W _ => ⟨none, 0, rfl, fun j hj => by simp at hj⟩⟩
  · exact ⟨_, fun W => run_head W g A.length cap q hq hnc, fun W hW => hW.head hq⟩
theorem Wld.fair0 {N : Nat} {S : Es} (h : Wld N S) (h1 : (S.L 0).peer = (S.L 1).own) (h2 : (S.L 1).peer = (S.L 0).own) : (S.ls 6).length ≤ (S.ls 5).length ∧ (S.ls 5).take (S.ls 6).length = S.ls 6 := by
  rcases h.p0.got h1 with ⟨_, g2, g3, _⟩ | ⟨g1, _⟩
  · rw [g2, List.length_take, Nat.min_eq_left g3]
    exact ⟨g3, rfl⟩
  · exact absurd h2 g1
theorem Wld.fair1 {N : Nat} {S : Es} (h : Wld N S) (h1 : (S.L 1).peer = (S.L 0).own) (h2 : (S.L 0).peer = (S.L 1).own) : (S.ls 7).length ≤ (S.ls 4).length ∧ (S.ls 4).take (S.ls 7).length = S.ls 7 := by
  rcases h.p1.got h1 with ⟨_, g2, g3, _⟩ | ⟨g1, _⟩
  · rw [g2, List.length_take, Nat.min_eq_left g3]
    exact ⟨g3, rfl⟩
  · exact absurd h2 g1

set_option maxHeartbeats 8000000 in
theorem fair_any {N B e n : Nat} {p : Nat → Nat} {vl : Nat → Value} {Fp : Nat → Nat → Prop} {S : Es} {w : World} (h : Em B e p vl Fp n S w) (hS : Wld N S) (hN : N + 2000 < 900000) :
    Calls Try.prog 7 #[.pointer (some ⟨e, 0, none⟩)] w fun x w' => x = .returned (.bool true) ∧ Below w.heap.size w w' := by
  have H := hide1 h
  have HS := hide1 hS
  have HN := hide1 hN
  clear h hS hN
  go_enter Try.func7, Try.ntmps7
  go_wp2_with fail
  go_loopw [3] (fun i wr => (i = .int .i64 0 ∨ i = .int .i64 1 ∨ i = .int .i64 2) ∧ Below w.heap.size w wr) (fun i _ => 2 - (intOf i).toNat)
  case atStart => exact ⟨.inl rfl, Below.refl _ _⟩
  case round =>
    obtain ⟨hi, hB⟩ := hrel
    have HB := hide1 hB
    have E0 := hide1 (H.out.below hB (Nat.le_refl _))
    clear hB
    rcases hi with rfl | rfl | rfl
    · go_upto_region 4 with (fail)
      refine region_f (F := []) (S := fun X => X.cell? ⟨e, 0, none⟩ = some (.pointer (some ⟨p 0, 0, none⟩)) ∧ X.cell? ⟨e, 1, none⟩ = some (.pointer (some ⟨p 1, 0, none⟩))) (by kernel_rfl) ⟨(box13 E0.out.row).1.1, (box13 E0.out.row).1.2.1⟩ (fun hS => ?_)
      have E1 : Hid (Em B e p vl Fp n S (World.drew wr)) := E0.out.below (Below.refl _ _).drew (Nat.le_refl _)
      have B1 : Hid (Below w.heap.size w (World.drew wr)) := HB.out.drew
      generalize World.drew wr = W1 at hS E1 B1 ⊢
      refine take_p 0 10 (.pointer (some ⟨e, 0, none⟩)) rfl rfl (by kernel_rfl) (by kernel_rfl) (by kernel_rfl) (fun _ _ _ h => h) rfl (fun w => by go_simp) ?_
      try simp only [List.setIfInBounds_toArray, List.set_cons_zero, List.set_cons_succ]
      refine take_p 1 11 (.int .i64 0) rfl rfl (by kernel_rfl) (by kernel_rfl) (by kernel_rfl) (fun _ _ _ h => h) rfl (fun w => by go_simp) ?_
      try simp only [List.setIfInBounds_toArray, List.set_cons_zero, List.set_cons_succ]
      refine take_p 2 12 (.pointer (some ⟨e, 0, none⟩)) rfl rfl (by kernel_rfl) (by kernel_rfl) (by kernel_rfl) (fun _ _ _ h => h) rfl (fun w => by go_simp) ?_
      try simp only [List.setIfInBounds_toArray, List.set_cons_zero, List.set_cons_succ]
      refine take_p 3 13 (.pointer (some ⟨e, 0, none⟩)) rfl rfl (by kernel_rfl) (by kernel_rfl) (by kernel_rfl) (fun _ _ _ h => h) rfl (fun w => by go_simp) ?_
      try simp only [List.setIfInBounds_toArray, List.set_cons_zero, List.set_cons_succ]
      refine take_p 4 14 (.pointer (some ⟨e, 0, none⟩)) rfl rfl (by kernel_rfl) (by kernel_rfl) (by kernel_rfl) (fun _ _ _ h => h) rfl (fun w => by go_simp) ?_
      try simp only [List.setIfInBounds_toArray, List.set_cons_zero, List.set_cons_succ]
      refine take_f 5 15 (.pointer (some ⟨p 0, 0, none⟩)) [13, 14] rfl rfl (by kernel_rfl) (by kernel_rfl) (by kernel_rfl) (by kernel_rfl) (by kernel_rfl) (by kernel_rfl) (fun _ _ _ h => h) rfl (fun w hSw => by obtain ⟨g0, g1⟩ := hSw; go_simp) hS ?_
      try simp only [List.setIfInBounds_toArray, List.set_cons_zero, List.set_cons_succ]
      refine take_p 6 16 (.pointer (some ⟨e, 0, none⟩)) rfl rfl (by kernel_rfl) (by kernel_rfl) (by kernel_rfl) (fun _ _ _ h => h) rfl (fun w => by go_simp) ?_
      try simp only [List.setIfInBounds_toArray, List.set_cons_zero, List.set_cons_succ]
      refine take_p 7 17 (.int .i64 0) rfl rfl (by kernel_rfl) (by kernel_rfl) (by kernel_rfl) (fun _ _ _ h => h) rfl (fun w => by go_simp) ?_
      try simp only [List.setIfInBounds_toArray, List.set_cons_zero, List.set_cons_succ]
      refine take_p 8 18 (.int .i64 1) rfl rfl (by kernel_rfl) (by kernel_rfl) (by kernel_rfl) (fun _ _ _ h => h) rfl (fun w => by go_simp; rfl) ?_
      try simp only [List.setIfInBounds_toArray, List.set_cons_zero, List.set_cons_succ]
      refine take_p 9 19 (.pointer (some ⟨e, 0, none⟩)) rfl rfl (by kernel_rfl) (by kernel_rfl) (by kernel_rfl) (fun _ _ _ h => h) rfl (fun w => by go_simp) ?_
      try simp only [List.setIfInBounds_toArray, List.set_cons_zero, List.set_cons_succ]
      refine take_p 10 20 (.pointer (some ⟨e, 0, none⟩)) rfl rfl (by kernel_rfl) (by kernel_rfl) (by kernel_rfl) (fun _ _ _ h => h) rfl (fun w => by go_simp) ?_
      try simp only [List.setIfInBounds_toArray, List.set_cons_zero, List.set_cons_succ]
      refine take_p 11 21 (.pointer (some ⟨e, 1, none⟩)) rfl rfl (by kernel_rfl) (by kernel_rfl) (by kernel_rfl) (fun _ _ _ h => h) rfl (fun w => by go_simp) ?_
      try simp only [List.setIfInBounds_toArray, List.set_cons_zero, List.set_cons_succ]
      refine take_f 12 22 (.pointer (some ⟨p 1, 0, none⟩)) [14] rfl rfl (by kernel_rfl) (by kernel_rfl) (by kernel_rfl) (by kernel_rfl) (by kernel_rfl) (by kernel_rfl) (fun _ _ _ h => h) rfl (fun w hSw => by obtain ⟨g0, g1⟩ := hSw; go_simp) hS ?_
      try simp only [List.setIfInBounds_toArray, List.set_cons_zero, List.set_cons_succ]
      refine take_p 13 4 (.pointer (some ⟨p 0, 0, none⟩)) rfl rfl (by kernel_rfl) (by kernel_rfl) (by kernel_rfl) (fun _ _ _ h => h) rfl (fun w => by go_simp) ?_
      try simp only [List.setIfInBounds_toArray, List.set_cons_zero, List.set_cons_succ]
      refine take_p 14 5 (.pointer (some ⟨p 1, 0, none⟩)) rfl rfl (by kernel_rfl) (by kernel_rfl) (by kernel_rfl) (fun _ _ _ h => h) rfl (fun w => by go_simp) ?_
      try simp only [List.setIfInBounds_toArray, List.set_cons_zero, List.set_cons_succ]
      refine done_f (by kernel_rfl) ?_ _
      obtain ⟨v0, m0, u0, l0, _⟩ := E1.out.lk 0 (by omega)
      obtain ⟨v1, m1, u1, l1, _⟩ := E1.out.lk 1 (by omega)
      have q1 := hide1 (lpeer_any l0 HS.out.l0.own0)
      have q2 := hide1 (lown_any l1 HS.out.l1.own0)
      have q3 := hide1 (lpeer_any l1 HS.out.l1.own0)
      have q4 := hide1 (lown_any l0 HS.out.l0.own0)
      clear l0 l1 hS
      by_cases hp1 : (S.L 0).peer = (S.L 1).own
      · have hb1 : (((S.L 0).peer : Int) != ((S.L 1).own : Int)) = false := by simp; omega
        by_cases hp2 : (S.L 1).peer = (S.L 0).own
        · have hb2 : (((S.L 1).peer : Int) != ((S.L 0).own : Int)) = false := by simp; omega
          obtain ⟨f1, f2⟩ := HS.out.fair0 hp1 hp2
          obtain ⟨LG, _⟩ := E1.out.ls 6 (by omega) (by omega)
          obtain ⟨LS, _⟩ := E1.out.ls 5 (by omega) (by omega)
          obtain ⟨ga, gc, hgv⟩ := LG.form
          obtain ⟨sa, sc, hsv⟩ := LS.form
          obtain ⟨gn, hgn⟩ : ∃ k, (S.ls 6).length = k := ⟨_, rfl⟩
          obtain ⟨sn, hsn⟩ : ∃ k, (S.ls 5).length = k := ⟨_, rfl⟩
          rw [hgn] at hgv f1 f2
          rw [hsn] at hsv f1
          have HGV := hide1 hgv
          have HSV := hide1 hsv
          have HLE := hide1 f1
          have HTK := hide1 f2
          rw [hsv] at LS
          obtain ⟨cv, hcv, hcr⟩ := LS.cut (q := gn) (by omega)
          have HSL := hide1 hcv
          have HCR := hide1 hcr
          have CG := hide1 ((box13 E1.out.row).2.1.2.2.1)
          rw [hgv] at CG
          have CS := hide1 ((box13 E1.out.row).2.1.2.1)
          rw [hsv] at CS
          clear f1 f2 LG LS hgv hsv hgn hsn hcv hcr hp1 hp2
          generalize ((S.L 0).peer : Int) = i1 at q1 hb1
          generalize ((S.L 1).own : Int) = i2 at q2 hb1
          generalize ((S.L 1).peer : Int) = i3 at q3 hb2
          generalize ((S.L 0).own : Int) = i4 at q4 hb2
          go_wp2_with fail
          refine q1.out.mono ?_
          rintro x9 w9 ⟨rfl, hw9⟩
          obtain rfl := hw9.symm
          go_wp2_with fail
          refine q2.out.mono ?_
          rintro x9 w9 ⟨rfl, hw9⟩
          obtain rfl := hw9.symm
          go_wp2_with fail
          refine q3.out.mono ?_
          rintro x9 w9 ⟨rfl, hw9⟩
          obtain rfl := hw9.symm
          go_wp2_with fail
          refine q4.out.mono ?_
          rintro x9 w9 ⟨rfl, hw9⟩
          obtain rfl := hw9.symm
          go_upto_region 6 with (fail)
          refine region_f (F := [38]) (S := fun X => X.cell? ⟨e, 6, none⟩ = some (.slice ga gn gc) ∧ X.cell? ⟨e, 5, none⟩ = some (.slice sa sn sc)) (by kernel_rfl) ⟨CG.out, CS.out⟩ (fun hS => ?_)
          have E2 : Hid (Em B e p vl Fp n S (World.drew W1)) := E1.out.below (Below.refl _ _).drew (Nat.le_refl _)
          have B2 : Hid (Below w.heap.size w (World.drew W1)) := B1.out.drew
          generalize World.drew W1 = W2 at hS E2 B2 ⊢
          refine take_p 0 35 (.pointer (some ⟨e, 0, none⟩)) rfl rfl (by kernel_rfl) (by kernel_rfl) (by kernel_rfl) (fun _ _ _ h => h) rfl (fun w => by go_simp) ?_
          try simp only [List.setIfInBounds_toArray, List.set_cons_zero, List.set_cons_succ]
          refine take_p 1 36 (.int .i64 0) rfl rfl (by kernel_rfl) (by kernel_rfl) (by kernel_rfl) (fun _ _ _ h => h) rfl (fun w => by go_simp) ?_
          try simp only [List.setIfInBounds_toArray, List.set_cons_zero, List.set_cons_succ]
          refine take_p 2 37 (.pointer (some ⟨e, 0, none⟩)) rfl rfl (by kernel_rfl) (by kernel_rfl) (by kernel_rfl) (fun _ _ _ h => h) rfl (fun w => by go_simp) ?_
          try simp only [List.setIfInBounds_toArray, List.set_cons_zero, List.set_cons_succ]
          refine take_p 3 38 (.pointer (some ⟨e, 6, none⟩)) rfl rfl (by kernel_rfl) (by kernel_rfl) (by kernel_rfl) (fun _ _ _ h => h) rfl (fun w => by go_simp) ?_
          try simp only [List.setIfInBounds_toArray, List.set_cons_zero, List.set_cons_succ]
          refine take_p 4 39 (.pointer (some ⟨e, 6, none⟩)) rfl rfl (by kernel_rfl) (by kernel_rfl) (by kernel_rfl) (fun _ _ _ h => h) rfl (fun w => by go_simp) ?_
          try simp only [List.setIfInBounds_toArray, List.set_cons_zero, List.set_cons_succ]
          refine take_f 5 40 (.slice ga gn gc) [6, 15, 16, 17, 18, 19, 20, 21, 22, 23, 24, 25, 26, 27, 28, 29, 30, 31, 32, 33, 34, 35, 36, 37, 38, 39, 40] rfl rfl (by kernel_rfl) (by kernel_rfl) (by kernel_rfl) (by kernel_rfl) (by kernel_rfl) (by kernel_rfl) (fun _ _ _ h => h) rfl (fun w hSw => by obtain ⟨g0, g1⟩ := hSw; go_simp) hS ?_
          try simp only [List.setIfInBounds_toArray, List.set_cons_zero, List.set_cons_succ]
          refine take_p 6 41 (.int .i64 (gn : Int)) rfl rfl (by kernel_rfl) (by kernel_rfl) (by kernel_rfl) (fun _ _ _ h => h) rfl (fun w => by go_simp) ?_
          try simp only [List.setIfInBounds_toArray, List.set_cons_zero, List.set_cons_succ]
          refine take_p 7 42 (.pointer (some ⟨e, 0, none⟩)) rfl rfl (by kernel_rfl) (by kernel_rfl) (by kernel_rfl) (fun _ _ _ h => h) rfl (fun w => by go_simp) ?_
          try simp only [List.setIfInBounds_toArray, List.set_cons_zero, List.set_cons_succ]
          refine take_p 8 43 (.int .i64 0) rfl rfl (by kernel_rfl) (by kernel_rfl) (by kernel_rfl) (fun _ _ _ h => h) rfl (fun w => by go_simp) ?_
          try simp only [List.setIfInBounds_toArray, List.set_cons_zero, List.set_cons_succ]
          refine take_p 9 44 (.int .i64 1) rfl rfl (by kernel_rfl) (by kernel_rfl) (by kernel_rfl) (fun _ _ _ h => h) rfl (fun w => by go_simp; rfl) ?_
          try simp only [List.setIfInBounds_toArray, List.set_cons_zero, List.set_cons_succ]
          refine take_p 10 45 (.pointer (some ⟨e, 0, none⟩)) rfl rfl (by kernel_rfl) (by kernel_rfl) (by kernel_rfl) (fun _ _ _ h => h) rfl (fun w => by go_simp) ?_
          try simp only [List.setIfInBounds_toArray, List.set_cons_zero, List.set_cons_succ]
          refine take_p 11 46 (.pointer (some ⟨e, 4, none⟩)) rfl rfl (by kernel_rfl) (by kernel_rfl) (by kernel_rfl) (fun _ _ _ h => h) rfl (fun w => by go_simp) ?_
          try simp only [List.setIfInBounds_toArray, List.set_cons_zero, List.set_cons_succ]
          refine take_p 12 47 (.pointer (some ⟨e, 5, none⟩)) rfl rfl (by kernel_rfl) (by kernel_rfl) (by kernel_rfl) (fun _ _ _ h => h) rfl (fun w => by go_simp) ?_
          try simp only [List.setIfInBounds_toArray, List.set_cons_zero, List.set_cons_succ]
          refine take_f 13 48 (.slice sa sn sc) [14, 15, 16, 17, 18, 19, 20, 21, 22, 23, 24, 25, 26, 27, 28, 29, 30, 31, 32, 33, 34, 35, 36, 37, 38, 39, 40] rfl rfl (by kernel_rfl) (by kernel_rfl) (by kernel_rfl) (by kernel_rfl) (by kernel_rfl) (by kernel_rfl) (fun _ _ _ h => h) rfl (fun w hSw => by obtain ⟨g0, g1⟩ := hSw; go_simp) hS ?_
          try simp only [List.setIfInBounds_toArray, List.set_cons_zero, List.set_cons_succ]
          refine take_p 14 49 (.int .i64 (sn : Int)) rfl rfl (by kernel_rfl) (by kernel_rfl) (by kernel_rfl) (fun _ _ _ h => h) rfl (fun w => by go_simp) ?_
          try simp only [List.setIfInBounds_toArray, List.set_cons_zero, List.set_cons_succ]
          refine take_p 15 50 (.bool false) rfl rfl (by kernel_rfl) (by kernel_rfl) (by kernel_rfl) (fun _ _ _ h => h) rfl (fun w => by have h9 := HLE.out; go_simp) ?_
          try simp only [List.setIfInBounds_toArray, List.set_cons_zero, List.set_cons_succ]
          refine take_p 16 51 (.bool false) rfl rfl (by kernel_rfl) (by kernel_rfl) (by kernel_rfl) (fun _ _ _ h => h) rfl (fun w => by go_simp) ?_
          try simp only [List.setIfInBounds_toArray, List.set_cons_zero, List.set_cons_succ]
          refine take_p 17 52 (.pointer (some ⟨e, 0, none⟩)) rfl rfl (by kernel_rfl) (by kernel_rfl) (by kernel_rfl) (fun _ _ _ h => h) rfl (fun w => by go_simp) ?_
          try simp only [List.setIfInBounds_toArray, List.set_cons_zero, List.set_cons_succ]
          refine take_p 18 53 (.int .i64 0) rfl rfl (by kernel_rfl) (by kernel_rfl) (by kernel_rfl) (fun _ _ _ h => h) rfl (fun w => by go_simp) ?_
          try simp only [List.setIfInBounds_toArray, List.set_cons_zero, List.set_cons_succ]
          refine take_p 19 54 (.pointer (some ⟨e, 0, none⟩)) rfl rfl (by kernel_rfl) (by kernel_rfl) (by kernel_rfl) (fun _ _ _ h => h) rfl (fun w => by go_simp) ?_
          try simp only [List.setIfInBounds_toArray, List.set_cons_zero, List.set_cons_succ]
          refine take_p 20 55 (.pointer (some ⟨e, 6, none⟩)) rfl rfl (by kernel_rfl) (by kernel_rfl) (by kernel_rfl) (fun _ _ _ h => h) rfl (fun w => by go_simp) ?_
          try simp only [List.setIfInBounds_toArray, List.set_cons_zero, List.set_cons_succ]
          refine take_p 21 56 (.pointer (some ⟨e, 6, none⟩)) rfl rfl (by kernel_rfl) (by kernel_rfl) (by kernel_rfl) (fun _ _ _ h => h) rfl (fun w => by go_simp) ?_
          try simp only [List.setIfInBounds_toArray, List.set_cons_zero, List.set_cons_succ]
          refine take_f 22 57 (.slice ga gn gc) [38, 39, 40] rfl rfl (by kernel_rfl) (by kernel_rfl) (by kernel_rfl) (by kernel_rfl) (by kernel_rfl) (by kernel_rfl) (fun _ _ _ h => h) rfl (fun w hSw => by obtain ⟨g0, g1⟩ := hSw; go_simp) hS ?_
          try simp only [List.setIfInBounds_toArray, List.set_cons_zero, List.set_cons_succ]
          refine take_p 23 58 (.pointer (some ⟨e, 0, none⟩)) rfl rfl (by kernel_rfl) (by kernel_rfl) (by kernel_rfl) (fun _ _ _ h => h) rfl (fun w => by go_simp) ?_
          try simp only [List.setIfInBounds_toArray, List.set_cons_zero, List.set_cons_succ]
          refine take_p 24 59 (.int .i64 0) rfl rfl (by kernel_rfl) (by kernel_rfl) (by kernel_rfl) (fun _ _ _ h => h) rfl (fun w => by go_simp) ?_
          try simp only [List.setIfInBounds_toArray, List.set_cons_zero, List.set_cons_succ]
          refine take_p 25 60 (.int .i64 1) rfl rfl (by kernel_rfl) (by kernel_rfl) (by kernel_rfl) (fun _ _ _ h => h) rfl (fun w => by go_simp; rfl) ?_
          try simp only [List.setIfInBounds_toArray, List.set_cons_zero, List.set_cons_succ]
          refine take_p 26 61 (.pointer (some ⟨e, 0, none⟩)) rfl rfl (by kernel_rfl) (by kernel_rfl) (by kernel_rfl) (fun _ _ _ h => h) rfl (fun w => by go_simp) ?_
          try simp only [List.setIfInBounds_toArray, List.set_cons_zero, List.set_cons_succ]
          refine take_p 27 62 (.pointer (some ⟨e, 4, none⟩)) rfl rfl (by kernel_rfl) (by kernel_rfl) (by kernel_rfl) (fun _ _ _ h => h) rfl (fun w => by go_simp) ?_
          try simp only [List.setIfInBounds_toArray, List.set_cons_zero, List.set_cons_succ]
          refine take_p 28 63 (.pointer (some ⟨e, 5, none⟩)) rfl rfl (by kernel_rfl) (by kernel_rfl) (by kernel_rfl) (fun _ _ _ h => h) rfl (fun w => by go_simp) ?_
          try simp only [List.setIfInBounds_toArray, List.set_cons_zero, List.set_cons_succ]
          refine take_f 29 64 (.slice sa sn sc) [37, 38, 39, 40] rfl rfl (by kernel_rfl) (by kernel_rfl) (by kernel_rfl) (by kernel_rfl) (by kernel_rfl) (by kernel_rfl) (fun _ _ _ h => h) rfl (fun w hSw => by obtain ⟨g0, g1⟩ := hSw; go_simp) hS ?_
          try simp only [List.setIfInBounds_toArray, List.set_cons_zero, List.set_cons_succ]
          refine take_p 30 65 (.pointer (some ⟨e, 0, none⟩)) rfl rfl (by kernel_rfl) (by kernel_rfl) (by kernel_rfl) (fun _ _ _ h => h) rfl (fun w => by go_simp) ?_
          try simp only [List.setIfInBounds_toArray, List.set_cons_zero, List.set_cons_succ]
          refine take_p 31 66 (.int .i64 0) rfl rfl (by kernel_rfl) (by kernel_rfl) (by kernel_rfl) (fun _ _ _ h => h) rfl (fun w => by go_simp) ?_
          try simp only [List.setIfInBounds_toArray, List.set_cons_zero, List.set_cons_succ]
          refine take_p 32 67 (.pointer (some ⟨e, 0, none⟩)) rfl rfl (by kernel_rfl) (by kernel_rfl) (by kernel_rfl) (fun _ _ _ h => h) rfl (fun w => by go_simp) ?_
          try simp only [List.setIfInBounds_toArray, List.set_cons_zero, List.set_cons_succ]
          refine take_p 33 68 (.pointer (some ⟨e, 6, none⟩)) rfl rfl (by kernel_rfl) (by kernel_rfl) (by kernel_rfl) (fun _ _ _ h => h) rfl (fun w => by go_simp) ?_
          try simp only [List.setIfInBounds_toArray, List.set_cons_zero, List.set_cons_succ]
          refine take_p 34 69 (.pointer (some ⟨e, 6, none⟩)) rfl rfl (by kernel_rfl) (by kernel_rfl) (by kernel_rfl) (fun _ _ _ h => h) rfl (fun w => by go_simp) ?_
          try simp only [List.setIfInBounds_toArray, List.set_cons_zero, List.set_cons_succ]
          refine take_f 35 70 (.slice ga gn gc) [36, 37, 38, 39, 40] rfl rfl (by kernel_rfl) (by kernel_rfl) (by kernel_rfl) (by kernel_rfl) (by kernel_rfl) (by kernel_rfl) (fun _ _ _ h => h) rfl (fun w hSw => by obtain ⟨g0, g1⟩ := hSw; go_simp) hS ?_
          try simp only [List.setIfInBounds_toArray, List.set_cons_zero, List.set_cons_succ]
          refine take_p 36 71 (.int .i64 (gn : Int)) rfl rfl (by kernel_rfl) (by kernel_rfl) (by kernel_rfl) (fun _ _ _ h => h) rfl (fun w => by go_simp) ?_
          try simp only [List.setIfInBounds_toArray, List.set_cons_zero, List.set_cons_succ]
          refine take_p 37 72 (cv) rfl rfl (by kernel_rfl) (by kernel_rfl) (by kernel_rfl) (fun _ _ _ h => h) rfl (fun w => by have h9 := HSL.out w; go_simp) ?_
          try simp only [List.setIfInBounds_toArray, List.set_cons_zero, List.set_cons_succ]
          obtain ⟨LG2, _⟩ := E2.out.ls 6 (by omega) (by omega)
          obtain ⟨LS2, _⟩ := E2.out.ls 5 (by omega) (by omega)
          rw [HGV.out] at LG2
          rw [HSV.out] at LS2
          have RS2 := HCR.out _ LS2
          rw [HTK.out] at RS2
          have kT := hide1 (texts_any LG2.rd RS2 (by have h1 := HS.out.g6; have h2 := HN.out; omega))
          refine ready_f 38 (o := { dst := some 73, op := Op.call { callee := Callee.value (Operand.func 11), args := #[Operand.tmp 57, Operand.tmp 72], argTypes := #[31, 31] }, type := 4, pos := "law.go:165", after := #[{ on := 22, ground := Ground.data }, { on := 37, ground := Ground.data }, { on := 16, ground := Ground.chain }, { on := 16, ground := Ground.guard }], guard := some (16, false) }) (by kernel_rfl) rfl (fun K hK => ?_)
          go_simp
          refine kT.out.mono ?_
          rintro x9 W3 ⟨rfl, hb3⟩
          refine hK.out _ _ (fun h => absurd (by decide) h) ?_
          clear hK K
          try simp only [Act.put, List.setIfInBounds_toArray, List.set_cons_zero, List.set_cons_succ]
          have B3 : Hid (Below w.heap.size w W3) := B2.out.trans (hb3.mono B2.out.size)
          clear kT hb3 LG2 LS2 RS2 hS
          refine take_p 39 74 (.bool false) rfl rfl (by kernel_rfl) (by kernel_rfl) (by kernel_rfl) (fun _ _ _ h => h) rfl (fun w => by go_simp) ?_
          try simp only [List.setIfInBounds_toArray, List.set_cons_zero, List.set_cons_succ]
          refine take_p 40 75 (.bool false) rfl rfl (by kernel_rfl) (by kernel_rfl) (by kernel_rfl) (fun _ _ _ h => h) rfl (fun w => by go_simp) ?_
          try simp only [List.setIfInBounds_toArray, List.set_cons_zero, List.set_cons_succ]
          refine done_f (by kernel_rfl) ?_ _
          go_wp2
          go_roundw
          case rel => exact ⟨.inr (.inl (by go_num)), B3.out⟩
          case measure => simp [intOf]
        · have hb2 : (((S.L 1).peer : Int) != ((S.L 0).own : Int)) = true := by simp; omega
          clear hp1 hp2
          generalize ((S.L 0).peer : Int) = i1 at q1 hb1
          generalize ((S.L 1).own : Int) = i2 at q2 hb1
          generalize ((S.L 1).peer : Int) = i3 at q3 hb2
          generalize ((S.L 0).own : Int) = i4 at q4 hb2
          go_wp2_with fail
          refine q1.out.mono ?_
          rintro x9 w9 ⟨rfl, hw9⟩
          obtain rfl := hw9.symm
          go_wp2_with fail
          refine q2.out.mono ?_
          rintro x9 w9 ⟨rfl, hw9⟩
          obtain rfl := hw9.symm
          go_wp2_with fail
          refine q3.out.mono ?_
          rintro x9 w9 ⟨rfl, hw9⟩
          obtain rfl := hw9.symm
          go_wp2_with fail
          refine q4.out.mono ?_
          rintro x9 w9 ⟨rfl, hw9⟩
          obtain rfl := hw9.symm
          go_wp2
          go_roundw
          case rel => exact ⟨.inr (.inl (by go_num)), B1.out⟩
          case measure => simp [intOf]
      · have hb1 : (((S.L 0).peer : Int) != ((S.L 1).own : Int)) = true := by simp; omega
        clear hp1 q3 q4
        generalize ((S.L 0).peer : Int) = i1 at q1 hb1
        generalize ((S.L 1).own : Int) = i2 at q2 hb1
        go_wp2_with fail
        refine q1.out.mono ?_
        rintro x9 w9 ⟨rfl, hw9⟩
        obtain rfl := hw9.symm
        go_wp2_with fail
        refine q2.out.mono ?_
        rintro x9 w9 ⟨rfl, hw9⟩
        obtain rfl := hw9.symm
        go_wp2
        go_roundw
        case rel => exact ⟨.inr (.inl (by go_num)), B1.out⟩
        case measure => simp [intOf]
    · go_upto_region 4 with (fail)
      refine region_f (F := []) (S := fun X => X.cell? ⟨e, 1, none⟩ = some (.pointer (some ⟨p 1, 0, none⟩)) ∧ X.cell? ⟨e, 0, none⟩ = some (.pointer (some ⟨p 0, 0, none⟩))) (by kernel_rfl) ⟨(box13 E0.out.row).1.2.1, (box13 E0.out.row).1.1⟩ (fun hS => ?_)
      have E1 : Hid (Em B e p vl Fp n S (World.drew wr)) := E0.out.below (Below.refl _ _).drew (Nat.le_refl _)
      have B1 : Hid (Below w.heap.size w (World.drew wr)) := HB.out.drew
      generalize World.drew wr = W1 at hS E1 B1 ⊢
      refine take_p 0 10 (.pointer (some ⟨e, 0, none⟩)) rfl rfl (by kernel_rfl) (by kernel_rfl) (by kernel_rfl) (fun _ _ _ h => h) rfl (fun w => by go_simp) ?_
      try simp only [List.setIfInBounds_toArray, List.set_cons_zero, List.set_cons_succ]
      refine take_p 1 11 (.int .i64 1) rfl rfl (by kernel_rfl) (by kernel_rfl) (by kernel_rfl) (fun _ _ _ h => h) rfl (fun w => by go_simp) ?_
      try simp only [List.setIfInBounds_toArray, List.set_cons_zero, List.set_cons_succ]
      refine take_p 2 12 (.pointer (some ⟨e, 0, none⟩)) rfl rfl (by kernel_rfl) (by kernel_rfl) (by kernel_rfl) (fun _ _ _ h => h) rfl (fun w => by go_simp) ?_
      try simp only [List.setIfInBounds_toArray, List.set_cons_zero, List.set_cons_succ]
      refine take_p 3 13 (.pointer (some ⟨e, 0, none⟩)) rfl rfl (by kernel_rfl) (by kernel_rfl) (by kernel_rfl) (fun _ _ _ h => h) rfl (fun w => by go_simp) ?_
      try simp only [List.setIfInBounds_toArray, List.set_cons_zero, List.set_cons_succ]
      refine take_p 4 14 (.pointer (some ⟨e, 1, none⟩)) rfl rfl (by kernel_rfl) (by kernel_rfl) (by kernel_rfl) (fun _ _ _ h => h) rfl (fun w => by go_simp) ?_
      try simp only [List.setIfInBounds_toArray, List.set_cons_zero, List.set_cons_succ]
      refine take_f 5 15 (.pointer (some ⟨p 1, 0, none⟩)) [13, 14] rfl rfl (by kernel_rfl) (by kernel_rfl) (by kernel_rfl) (by kernel_rfl) (by kernel_rfl) (by kernel_rfl) (fun _ _ _ h => h) rfl (fun w hSw => by obtain ⟨g0, g1⟩ := hSw; go_simp) hS ?_
      try simp only [List.setIfInBounds_toArray, List.set_cons_zero, List.set_cons_succ]
      refine take_p 6 16 (.pointer (some ⟨e, 0, none⟩)) rfl rfl (by kernel_rfl) (by kernel_rfl) (by kernel_rfl) (fun _ _ _ h => h) rfl (fun w => by go_simp) ?_
      try simp only [List.setIfInBounds_toArray, List.set_cons_zero, List.set_cons_succ]
      refine take_p 7 17 (.int .i64 1) rfl rfl (by kernel_rfl) (by kernel_rfl) (by kernel_rfl) (fun _ _ _ h => h) rfl (fun w => by go_simp) ?_
      try simp only [List.setIfInBounds_toArray, List.set_cons_zero, List.set_cons_succ]
      refine take_p 8 18 (.int .i64 0) rfl rfl (by kernel_rfl) (by kernel_rfl) (by kernel_rfl) (fun _ _ _ h => h) rfl (fun w => by go_simp; rfl) ?_
      try simp only [List.setIfInBounds_toArray, List.set_cons_zero, List.set_cons_succ]
      refine take_p 9 19 (.pointer (some ⟨e, 0, none⟩)) rfl rfl (by kernel_rfl) (by kernel_rfl) (by kernel_rfl) (fun _ _ _ h => h) rfl (fun w => by go_simp) ?_
      try simp only [List.setIfInBounds_toArray, List.set_cons_zero, List.set_cons_succ]
      refine take_p 10 20 (.pointer (some ⟨e, 0, none⟩)) rfl rfl (by kernel_rfl) (by kernel_rfl) (by kernel_rfl) (fun _ _ _ h => h) rfl (fun w => by go_simp) ?_
      try simp only [List.setIfInBounds_toArray, List.set_cons_zero, List.set_cons_succ]
      refine take_p 11 21 (.pointer (some ⟨e, 0, none⟩)) rfl rfl (by kernel_rfl) (by kernel_rfl) (by kernel_rfl) (fun _ _ _ h => h) rfl (fun w => by go_simp) ?_
      try simp only [List.setIfInBounds_toArray, List.set_cons_zero, List.set_cons_succ]
      refine take_f 12 22 (.pointer (some ⟨p 0, 0, none⟩)) [14] rfl rfl (by kernel_rfl) (by kernel_rfl) (by kernel_rfl) (by kernel_rfl) (by kernel_rfl) (by kernel_rfl) (fun _ _ _ h => h) rfl (fun w hSw => by obtain ⟨g0, g1⟩ := hSw; go_simp) hS ?_
      try simp only [List.setIfInBounds_toArray, List.set_cons_zero, List.set_cons_succ]
      refine take_p 13 4 (.pointer (some ⟨p 1, 0, none⟩)) rfl rfl (by kernel_rfl) (by kernel_rfl) (by kernel_rfl) (fun _ _ _ h => h) rfl (fun w => by go_simp) ?_
      try simp only [List.setIfInBounds_toArray, List.set_cons_zero, List.set_cons_succ]
      refine take_p 14 5 (.pointer (some ⟨p 0, 0, none⟩)) rfl rfl (by kernel_rfl) (by kernel_rfl) (by kernel_rfl) (fun _ _ _ h => h) rfl (fun w => by go_simp) ?_
      try simp only [List.setIfInBounds_toArray, List.set_cons_zero, List.set_cons_succ]
      refine done_f (by kernel_rfl) ?_ _
      obtain ⟨v0, m0, u0, l0, _⟩ := E1.out.lk 1 (by omega)
      obtain ⟨v1, m1, u1, l1, _⟩ := E1.out.lk 0 (by omega)
      have q1 := hide1 (lpeer_any l0 HS.out.l1.own0)
      have q2 := hide1 (lown_any l1 HS.out.l0.own0)
      have q3 := hide1 (lpeer_any l1 HS.out.l0.own0)
      have q4 := hide1 (lown_any l0 HS.out.l1.own0)
      clear l0 l1 hS
      by_cases hp1 : (S.L 1).peer = (S.L 0).own
      · have hb1 : (((S.L 1).peer : Int) != ((S.L 0).own : Int)) = false := by simp; omega
        by_cases hp2 : (S.L 0).peer = (S.L 1).own
        · have hb2 : (((S.L 0).peer : Int) != ((S.L 1).own : Int)) = false := by simp; omega
          obtain ⟨f1, f2⟩ := HS.out.fair1 hp1 hp2
          obtain ⟨LG, _⟩ := E1.out.ls 7 (by omega) (by omega)
          obtain ⟨LS, _⟩ := E1.out.ls 4 (by omega) (by omega)
          obtain ⟨ga, gc, hgv⟩ := LG.form
          obtain ⟨sa, sc, hsv⟩ := LS.form
          obtain ⟨gn, hgn⟩ : ∃ k, (S.ls 7).length = k := ⟨_, rfl⟩
          obtain ⟨sn, hsn⟩ : ∃ k, (S.ls 4).length = k := ⟨_, rfl⟩
          rw [hgn] at hgv f1 f2
          rw [hsn] at hsv f1
          have HGV := hide1 hgv
          have HSV := hide1 hsv
          have HLE := hide1 f1
          have HTK := hide1 f2
          rw [hsv] at LS
          obtain ⟨cv, hcv, hcr⟩ := LS.cut (q := gn) (by omega)
          have HSL := hide1 hcv
          have HCR := hide1 hcr
          have CG := hide1 ((box13 E1.out.row).2.1.2.2.2)
          rw [hgv] at CG
          have CS := hide1 ((box13 E1.out.row).2.1.1)
          rw [hsv] at CS
          clear f1 f2 LG LS hgv hsv hgn hsn hcv hcr hp1 hp2
          generalize ((S.L 1).peer : Int) = i1 at q1 hb1
          generalize ((S.L 0).own : Int) = i2 at q2 hb1
          generalize ((S.L 0).peer : Int) = i3 at q3 hb2
          generalize ((S.L 1).own : Int) = i4 at q4 hb2
          go_wp2_with fail
          refine q1.out.mono ?_
          rintro x9 w9 ⟨rfl, hw9⟩
          obtain rfl := hw9.symm
          go_wp2_with fail
          refine q2.out.mono ?_
          rintro x9 w9 ⟨rfl, hw9⟩
          obtain rfl := hw9.symm
          go_wp2_with fail
          refine q3.out.mono ?_
          rintro x9 w9 ⟨rfl, hw9⟩
          obtain rfl := hw9.symm
          go_wp2_with fail
          refine q4.out.mono ?_
          rintro x9 w9 ⟨rfl, hw9⟩
          obtain rfl := hw9.symm
          go_upto_region 6 with (fail)
          refine region_f (F := [38]) (S := fun X => X.cell? ⟨e, 7, none⟩ = some (.slice ga gn gc) ∧ X.cell? ⟨e, 4, none⟩ = some (.slice sa sn sc)) (by kernel_rfl) ⟨CG.out, CS.out⟩ (fun hS => ?_)
          have E2 : Hid (Em B e p vl Fp n S (World.drew W1)) := E1.out.below (Below.refl _ _).drew (Nat.le_refl _)
          have B2 : Hid (Below w.heap.size w (World.drew W1)) := B1.out.drew
          generalize World.drew W1 = W2 at hS E2 B2 ⊢
          refine take_p 0 35 (.pointer (some ⟨e, 0, none⟩)) rfl rfl (by kernel_rfl) (by kernel_rfl) (by kernel_rfl) (fun _ _ _ h => h) rfl (fun w => by go_simp) ?_
          try simp only [List.setIfInBounds_toArray, List.set_cons_zero, List.set_cons_succ]
          refine take_p 1 36 (.int .i64 1) rfl rfl (by kernel_rfl) (by kernel_rfl) (by kernel_rfl) (fun _ _ _ h => h) rfl (fun w => by go_simp) ?_
          try simp only [List.setIfInBounds_toArray, List.set_cons_zero, List.set_cons_succ]
          refine take_p 2 37 (.pointer (some ⟨e, 0, none⟩)) rfl rfl (by kernel_rfl) (by kernel_rfl) (by kernel_rfl) (fun _ _ _ h => h) rfl (fun w => by go_simp) ?_
          try simp only [List.setIfInBounds_toArray, List.set_cons_zero, List.set_cons_succ]
          refine take_p 3 38 (.pointer (some ⟨e, 6, none⟩)) rfl rfl (by kernel_rfl) (by kernel_rfl) (by kernel_rfl) (fun _ _ _ h => h) rfl (fun w => by go_simp) ?_
          try simp only [List.setIfInBounds_toArray, List.set_cons_zero, List.set_cons_succ]
          refine take_p 4 39 (.pointer (some ⟨e, 7, none⟩)) rfl rfl (by kernel_rfl) (by kernel_rfl) (by kernel_rfl) (fun _ _ _ h => h) rfl (fun w => by go_simp) ?_
          try simp only [List.setIfInBounds_toArray, List.set_cons_zero, List.set_cons_succ]
          refine take_f 5 40 (.slice ga gn gc) [6, 15, 16, 17, 18, 19, 20, 21, 22, 23, 24, 25, 26, 27, 28, 29, 30, 31, 32, 33, 34, 35, 36, 37, 38, 39, 40] rfl rfl (by kernel_rfl) (by kernel_rfl) (by kernel_rfl) (by kernel_rfl) (by kernel_rfl) (by kernel_rfl) (fun _ _ _ h => h) rfl (fun w hSw => by obtain ⟨g0, g1⟩ := hSw; go_simp) hS ?_
          try simp only [List.setIfInBounds_toArray, List.set_cons_zero, List.set_cons_succ]
          refine take_p 6 41 (.int .i64 (gn : Int)) rfl rfl (by kernel_rfl) (by kernel_rfl) (by kernel_rfl) (fun _ _ _ h => h) rfl (fun w => by go_simp) ?_
          try simp only [List.setIfInBounds_toArray, List.set_cons_zero, List.set_cons_succ]
          refine take_p 7 42 (.pointer (some ⟨e, 0, none⟩)) rfl rfl (by kernel_rfl) (by kernel_rfl) (by kernel_rfl) (fun _ _ _ h => h) rfl (fun w => by go_simp) ?_
          try simp only [List.setIfInBounds_toArray, List.set_cons_zero, List.set_cons_succ]
          refine take_p 8 43 (.int .i64 1) rfl rfl (by kernel_rfl) (by kernel_rfl) (by kernel_rfl) (fun _ _ _ h => h) rfl (fun w => by go_simp) ?_
          try simp only [List.setIfInBounds_toArray, List.set_cons_zero, List.set_cons_succ]
          refine take_p 9 44 (.int .i64 0) rfl rfl (by kernel_rfl) (by kernel_rfl) (by kernel_rfl) (fun _ _ _ h => h) rfl (fun w => by go_simp; rfl) ?_
          try simp only [List.setIfInBounds_toArray, List.set_cons_zero, List.set_cons_succ]
          refine take_p 10 45 (.pointer (some ⟨e, 0, none⟩)) rfl rfl (by kernel_rfl) (by kernel_rfl) (by kernel_rfl) (fun _ _ _ h => h) rfl (fun w => by go_simp) ?_
          try simp only [List.setIfInBounds_toArray, List.set_cons_zero, List.set_cons_succ]
          refine take_p 11 46 (.pointer (some ⟨e, 4, none⟩)) rfl rfl (by kernel_rfl) (by kernel_rfl) (by kernel_rfl) (fun _ _ _ h => h) rfl (fun w => by go_simp) ?_
          try simp only [List.setIfInBounds_toArray, List.set_cons_zero, List.set_cons_succ]
          refine take_p 12 47 (.pointer (some ⟨e, 4, none⟩)) rfl rfl (by kernel_rfl) (by kernel_rfl) (by kernel_rfl) (fun _ _ _ h => h) rfl (fun w => by go_simp) ?_
          try simp only [List.setIfInBounds_toArray, List.set_cons_zero, List.set_cons_succ]
          refine take_f 13 48 (.slice sa sn sc) [14, 15, 16, 17, 18, 19, 20, 21, 22, 23, 24, 25, 26, 27, 28, 29, 30, 31, 32, 33, 34, 35, 36, 37, 38, 39, 40] rfl rfl (by kernel_rfl) (by kernel_rfl) (by kernel_rfl) (by kernel_rfl) (by kernel_rfl) (by kernel_rfl) (fun _ _ _ h => h) rfl (fun w hSw => by obtain ⟨g0, g1⟩ := hSw; go_simp) hS ?_
          try simp only [List.setIfInBounds_toArray, List.set_cons_zero, List.set_cons_succ]
          refine take_p 14 49 (.int .i64 (sn : Int)) rfl rfl (by kernel_rfl) (by kernel_rfl) (by kernel_rfl) (fun _ _ _ h => h) rfl (fun w => by go_simp) ?_
          try simp only [List.setIfInBounds_toArray, List.set_cons_zero, List.set_cons_succ]
          refine take_p 15 50 (.bool false) rfl rfl (by kernel_rfl) (by kernel_rfl) (by kernel_rfl) (fun _ _ _ h => h) rfl (fun w => by have h9 := HLE.out; go_simp) ?_
          try simp only [List.setIfInBounds_toArray, List.set_cons_zero, List.set_cons_succ]
          refine take_p 16 51 (.bool false) rfl rfl (by kernel_rfl) (by kernel_rfl) (by kernel_rfl) (fun _ _ _ h => h) rfl (fun w => by go_simp) ?_
          try simp only [List.setIfInBounds_toArray, List.set_cons_zero, List.set_cons_succ]
          refine take_p 17 52 (.pointer (some ⟨e, 0, none⟩)) rfl rfl (by kernel_rfl) (by kernel_rfl) (by kernel_rfl) (fun _ _ _ h => h) rfl (fun w => by go_simp) ?_
          try simp only [List.setIfInBounds_toArray, List.set_cons_zero, List.set_cons_succ]
          refine take_p 18 53 (.int .i64 1) rfl rfl (by kernel_rfl) (by kernel_rfl) (by kernel_rfl) (fun _ _ _ h => h) rfl (fun w => by go_simp) ?_
          try simp only [List.setIfInBounds_toArray, List.set_cons_zero, List.set_cons_succ]
          refine take_p 19 54 (.pointer (some ⟨e, 0, none⟩)) rfl rfl (by kernel_rfl) (by kernel_rfl) (by kernel_rfl) (fun _ _ _ h => h) rfl (fun w => by go_simp) ?_
          try simp only [List.setIfInBounds_toArray, List.set_cons_zero, List.set_cons_succ]
          refine take_p 20 55 (.pointer (some ⟨e, 6, none⟩)) rfl rfl (by kernel_rfl) (by kernel_rfl) (by kernel_rfl) (fun _ _ _ h => h) rfl (fun w => by go_simp) ?_
          try simp only [List.setIfInBounds_toArray, List.set_cons_zero, List.set_cons_succ]
          refine take_p 21 56 (.pointer (some ⟨e, 7, none⟩)) rfl rfl (by kernel_rfl) (by kernel_rfl) (by kernel_rfl) (fun _ _ _ h => h) rfl (fun w => by go_simp) ?_
          try simp only [List.setIfInBounds_toArray, List.set_cons_zero, List.set_cons_succ]
          refine take_f 22 57 (.slice ga gn gc) [38, 39, 40] rfl rfl (by kernel_rfl) (by kernel_rfl) (by kernel_rfl) (by kernel_rfl) (by kernel_rfl) (by kernel_rfl) (fun _ _ _ h => h) rfl (fun w hSw => by obtain ⟨g0, g1⟩ := hSw; go_simp) hS ?_
          try simp only [List.setIfInBounds_toArray, List.set_cons_zero, List.set_cons_succ]
          refine take_p 23 58 (.pointer (some ⟨e, 0, none⟩)) rfl rfl (by kernel_rfl) (by kernel_rfl) (by kernel_rfl) (fun _ _ _ h => h) rfl (fun w => by go_simp) ?_
          try simp only [List.setIfInBounds_toArray, List.set_cons_zero, List.set_cons_succ]
          refine take_p 24 59 (.int .i64 1) rfl rfl (by kernel_rfl) (by kernel_rfl) (by kernel_rfl) (fun _ _ _ h => h) rfl (fun w => by go_simp) ?_
          try simp only [List.setIfInBounds_toArray, List.set_cons_zero, List.set_cons_succ]
          refine take_p 25 60 (.int .i64 0) rfl rfl (by kernel_rfl) (by kernel_rfl) (by kernel_rfl) (fun _ _ _ h => h) rfl (fun w => by go_simp; rfl) ?_
          try simp only [List.setIfInBounds_toArray, List.set_cons_zero, List.set_cons_succ]
          refine take_p 26 61 (.pointer (some ⟨e, 0, none⟩)) rfl rfl (by kernel_rfl) (by kernel_rfl) (by kernel_rfl) (fun _ _ _ h => h) rfl (fun w => by go_simp) ?_
          try simp only [List.setIfInBounds_toArray, List.set_cons_zero, List.set_cons_succ]
          refine take_p 27 62 (.pointer (some ⟨e, 4, none⟩)) rfl rfl (by kernel_rfl) (by kernel_rfl) (by kernel_rfl) (fun _ _ _ h => h) rfl (fun w => by go_simp) ?_
          try simp only [List.setIfInBounds_toArray, List.set_cons_zero, List.set_cons_succ]
          refine take_p 28 63 (.pointer (some ⟨e, 4, none⟩)) rfl rfl (by kernel_rfl) (by kernel_rfl) (by kernel_rfl) (fun _ _ _ h => h) rfl (fun w => by go_simp) ?_
          try simp only [List.setIfInBounds_toArray, List.set_cons_zero, List.set_cons_succ]
          refine take_f 29 64 (.slice sa sn sc) [37, 38, 39, 40] rfl rfl (by kernel_rfl) (by kernel_rfl) (by kernel_rfl) (by kernel_rfl) (by kernel_rfl) (by kernel_rfl) (fun _ _ _ h => h) rfl (fun w hSw => by obtain ⟨g0, g1⟩ := hSw; go_simp) hS ?_
          try simp only [List.setIfInBounds_toArray, List.set_cons_zero, List.set_cons_succ]
          refine take_p 30 65 (.pointer (some ⟨e, 0, none⟩)) rfl rfl (by kernel_rfl) (by kernel_rfl) (by kernel_rfl) (fun _ _ _ h => h) rfl (fun w => by go_simp) ?_
          try simp only [List.setIfInBounds_toArray, List.set_cons_zero, List.set_cons_succ]
          refine take_p 31 66 (.int .i64 1) rfl rfl (by kernel_rfl) (by kernel_rfl) (by kernel_rfl) (fun _ _ _ h => h) rfl (fun w => by go_simp) ?_
          try simp only [List.setIfInBounds_toArray, List.set_cons_zero, List.set_cons_succ]
          refine take_p 32 67 (.pointer (some ⟨e, 0, none⟩)) rfl rfl (by kernel_rfl) (by kernel_rfl) (by kernel_rfl) (fun _ _ _ h => h) rfl (fun w => by go_simp) ?_
          try simp only [List.setIfInBounds_toArray, List.set_cons_zero, List.set_cons_succ]
          refine take_p 33 68 (.pointer (some ⟨e, 6, none⟩)) rfl rfl (by kernel_rfl) (by kernel_rfl) (by kernel_rfl) (fun _ _ _ h => h) rfl (fun w => by go_simp) ?_
          try simp only [List.setIfInBounds_toArray, List.set_cons_zero, List.set_cons_succ]
          refine take_p 34 69 (.pointer (some ⟨e, 7, none⟩)) rfl rfl (by kernel_rfl) (by kernel_rfl) (by kernel_rfl) (fun _ _ _ h => h) rfl (fun w => by go_simp) ?_
          try simp only [List.setIfInBounds_toArray, List.set_cons_zero, List.set_cons_succ]
          refine take_f 35 70 (.slice ga gn gc) [36, 37, 38, 39, 40] rfl rfl (by kernel_rfl) (by kernel_rfl) (by kernel_rfl) (by kernel_rfl) (by kernel_rfl) (by kernel_rfl) (fun _ _ _ h => h) rfl (fun w hSw => by obtain ⟨g0, g1⟩ := hSw; go_simp) hS ?_
          try simp only [List.setIfInBounds_toArray, List.set_cons_zero, List.set_cons_succ]
          refine take_p 36 71 (.int .i64 (gn : Int)) rfl rfl (by kernel_rfl) (by kernel_rfl) (by kernel_rfl) (fun _ _ _ h => h) rfl (fun w => by go_simp) ?_
          try simp only [List.setIfInBounds_toArray, List.set_cons_zero, List.set_cons_succ]
          refine take_p 37 72 (cv) rfl rfl (by kernel_rfl) (by kernel_rfl) (by kernel_rfl) (fun _ _ _ h => h) rfl (fun w => by have h9 := HSL.out w; go_simp) ?_
          try simp only [List.setIfInBounds_toArray, List.set_cons_zero, List.set_cons_succ]
          obtain ⟨LG2, _⟩ := E2.out.ls 7 (by omega) (by omega)
          obtain ⟨LS2, _⟩ := E2.out.ls 4 (by omega) (by omega)
          rw [HGV.out] at LG2
          rw [HSV.out] at LS2
          have RS2 := HCR.out _ LS2
          rw [HTK.out] at RS2
          have kT := hide1 (texts_any LG2.rd RS2 (by have h1 := HS.out.g7; have h2 := HN.out; omega))
          refine ready_f 38 (o := { dst := some 73, op := Op.call { callee := Callee.value (Operand.func 11), args := #[Operand.tmp 57, Operand.tmp 72], argTypes := #[31, 31] }, type := 4, pos := "law.go:165", after := #[{ on := 22, ground := Ground.data }, { on := 37, ground := Ground.data }, { on := 16, ground := Ground.chain }, { on := 16, ground := Ground.guard }], guard := some (16, false) }) (by kernel_rfl) rfl (fun K hK => ?_)
          go_simp
          refine kT.out.mono ?_
          rintro x9 W3 ⟨rfl, hb3⟩
          refine hK.out _ _ (fun h => absurd (by decide) h) ?_
          clear hK K
          try simp only [Act.put, List.setIfInBounds_toArray, List.set_cons_zero, List.set_cons_succ]
          have B3 : Hid (Below w.heap.size w W3) := B2.out.trans (hb3.mono B2.out.size)
          clear kT hb3 LG2 LS2 RS2 hS
          refine take_p 39 74 (.bool false) rfl rfl (by kernel_rfl) (by kernel_rfl) (by kernel_rfl) (fun _ _ _ h => h) rfl (fun w => by go_simp) ?_
          try simp only [List.setIfInBounds_toArray, List.set_cons_zero, List.set_cons_succ]
          refine take_p 40 75 (.bool false) rfl rfl (by kernel_rfl) (by kernel_rfl) (by kernel_rfl) (fun _ _ _ h => h) rfl (fun w => by go_simp) ?_
          try simp only [List.setIfInBounds_toArray, List.set_cons_zero, List.set_cons_succ]
          refine done_f (by kernel_rfl) ?_ _
          go_wp2
          go_roundw
          case rel => exact ⟨.inr (.inr (by go_num)), B3.out⟩
          case measure => simp [intOf]
        · have hb2 : (((S.L 0).peer : Int) != ((S.L 1).own : Int)) = true := by simp; omega
          clear hp1 hp2
          generalize ((S.L 1).peer : Int) = i1 at q1 hb1
          generalize ((S.L 0).own : Int) = i2 at q2 hb1
          generalize ((S.L 0).peer : Int) = i3 at q3 hb2
          generalize ((S.L 1).own : Int) = i4 at q4 hb2
          go_wp2_with fail
          refine q1.out.mono ?_
          rintro x9 w9 ⟨rfl, hw9⟩
          obtain rfl := hw9.symm
          go_wp2_with fail
          refine q2.out.mono ?_
          rintro x9 w9 ⟨rfl, hw9⟩
          obtain rfl := hw9.symm
          go_wp2_with fail
          refine q3.out.mono ?_
          rintro x9 w9 ⟨rfl, hw9⟩
          obtain rfl := hw9.symm
          go_wp2_with fail
          refine q4.out.mono ?_
          rintro x9 w9 ⟨rfl, hw9⟩
          obtain rfl := hw9.symm
          go_wp2
          go_roundw
          case rel => exact ⟨.inr (.inr (by go_num)), B1.out⟩
          case measure => simp [intOf]
      · have hb1 : (((S.L 1).peer : Int) != ((S.L 0).own : Int)) = true := by simp; omega
        clear hp1 q3 q4
        generalize ((S.L 1).peer : Int) = i1 at q1 hb1
        generalize ((S.L 0).own : Int) = i2 at q2 hb1
        go_wp2_with fail
        refine q1.out.mono ?_
        rintro x9 w9 ⟨rfl, hw9⟩
        obtain rfl := hw9.symm
        go_wp2_with fail
        refine q2.out.mono ?_
        rintro x9 w9 ⟨rfl, hw9⟩
        obtain rfl := hw9.symm
        go_wp2
        go_roundw
        case rel => exact ⟨.inr (.inr (by go_num)), B1.out⟩
        case measure => simp [intOf]
    · go_wp2
      go_ret
      exact ⟨rfl, HB.out⟩

end Go.Proofs.Ytcadlcpccemkbaa
