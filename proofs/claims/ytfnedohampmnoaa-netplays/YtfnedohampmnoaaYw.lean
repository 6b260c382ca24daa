/- All; byte strings compared, and looked for. -/
import Derived.Test.YtfnedohampmnoaaYv
namespace Go.Proofs.Ytfnedohampmnoaa
open Go.RowKit
set_option maxRecDepth 100000
attribute [local go_sem] not_any

/- a network that keeps its limits -/
structure Sm (N : Nat → List ByteArray) : Prop where
  len : ∀ k, (N k).length ≤ 64
  each : ∀ k s, s ∈ N k → s.size ≤ 131072

theorem getD_mem {A : List ByteArray} {j : Nat} (h : j < A.length) : A.getD j ByteArray.empty ∈ A := by
  rw [List.getD_eq_getElem?_getD, List.getElem?_eq_getElem h]
  exact List.getElem_mem h

theorem all_none {B t : Nat} {x : Nat → Value} {N : Nat → List ByteArray} {w : World} (h : Nw B t x N w) (q : Int) (hb : q < 0 ∨ 1 < q) :
    Calls Try.prog 9 #[.pointer (some ⟨t, 0, none⟩), .int .i64 q] w fun e w' => e = .returned (.slice none 0 0) ∧ w' = w := by
  have kP := hide1 (party_any h q)
  unfold pty at kP
  rw [if_pos hb] at kP
  clear h hb
  go_enter Try.func9, Try.ntmps9
  go_wp2_with (go_at_call 28; refine kP.out.mono ?_; rintro e w1 ⟨rfl, rfl⟩)
  go_ret
  exact ⟨rfl, rfl⟩

theorem set_same_at {A : List ByteArray} {j : Nat} (h : j < A.length) : A.set j (A.getD j ByteArray.empty) = A := by
  apply List.ext_getElem?
  intro m
  rw [List.getElem?_set]
  by_cases hm : j = m
  · subst hm
    rw [if_pos rfl, if_pos h, List.getD_eq_getElem?_getD, List.getElem?_eq_getElem h]
    rfl
  · rw [if_neg hm]

set_option maxHeartbeats 1000000 in
theorem all_ok0 {B t : Nat} {x : Nat → Value} {N : Nat → List ByteArray} {w : World} (h : Nw B t x N w) (hs : Sm N) :
    Calls Try.prog 9 #[.pointer (some ⟨t, 0, none⟩), .int .i64 0] w fun e w' => ∃ v', e = .returned v' ∧ Lst w.heap.size w' v' (N 0) ∧ Below w.heap.size w w' := by
  have kP := hide1 (party_any h 0)
  have e0 : pty 0 = 0 := by decide
  rw [e0] at kP
  obtain ⟨c0, c1, c2, z1, z2⟩ := nw_cells h
  have kA := hide1 (cloneAll_any (h.own 0 (by omega)) (hs.len 0))
  have kC := fun (j : Nat) (hj : j < (N 0).length) w => hide1 (clone_any ((N 0).getD j ByteArray.empty) w (by have := hs.each 0 _ (getD_mem hj); omega))
  have h64 := hs.len 0
  obtain ⟨a, c, hx⟩ := (h.own 0 (by omega)).form
  rw [hx] at c1 kA
  generalize N 0 = A at *
  have KC := hide1 kC
  clear h hs e0 hx z1 z2 c2 kC
  go_enter Try.func9, Try.ntmps9
  go_wp2_with fail
  refine kP.out.mono ?_
  rintro e w1 ⟨rfl, hw1⟩
  obtain rfl := hw1.symm
  go_wp2_with fail
  refine kA.out.mono ?_
  rintro e W1 ⟨v', rfl, ho, hb⟩
  obtain ⟨a', c', rfl⟩ := ho.form
  obtain ⟨n, hn⟩ : ∃ n, A.length = n := ⟨_, rfl⟩
  rw [hn] at h64
  have HN := hide1 hn
  have HO := hide1 ho
  rw [hn] at HO
  have HB := hide1 hb
  rw [hn]
  clear kP kA c0 c1 ho hb hn
  go_wp2_with fail
  go_loopw [20] (fun v wr => ∃ j : Nat, j ≤ n ∧ v = .int .i64 (j : Int) ∧ Lst w.heap.size wr (.slice a' n c') A ∧ Below w.heap.size w wr) (fun v _ => n - (intOf v).toNat)
  case atStart => exact ⟨0, Nat.zero_le _, rfl, HO.out, HB.out⟩
  case round =>
    obtain ⟨j, hj, rfl, hL, hB⟩ := hrel
    have HL := hide1 hL
    have HBr := hide1 hB
    by_cases hjn : j < n
    · have hjA : j < A.length := by have := HN.out; omega
      have gin : (j : Int) < (n : Int) := by omega
      obtain ⟨g, c2', e2, hcc, hff, hgl, hgb, _⟩ := hL.cell hjA
      rw [HN.out] at e2
      cases e2
      have kC := KC.out j hjA
      have HS := hide1 (set_same_at hjA)
      obtain ⟨s, hs⟩ : ∃ s, A.getD j ByteArray.empty = s := ⟨_, rfl⟩
      rw [hs] at hcc kC HS
      clear hL hB hs hff
      go_wp2_with fail
      refine (kC _).out.mono ?_
      rintro e W2 ⟨rfl, hb2⟩
      have hL2 := HL.out.below hb2 (Nat.le_refl _)
      have ff := hL2.free j
      obtain ⟨y, cc⟩ := hL2.has hjA
      have l3 := hL2.set j s
      rw [HS.out] at l3
      have B2 : Hid (Below w.heap.size w W2) := HBr.out.trans (hb2.mono HBr.out.size)
      have L3 := hide1 l3.1
      clear hL2 l3 hb2 kC hcc
      go_wp2
      go_roundw
      case rel => exact ⟨j + 1, by omega, by go_num, L3.out, B2.out.setCell (p := ⟨g, j, none⟩) hgb _⟩
      case measure => simp [intOf]; omega
    · have gin : ¬ (j : Int) < (n : Int) := by omega
      clear hL hB
      go_wp2
      go_ret
      exact ⟨_, rfl, HL.out, HBr.out⟩

set_option maxHeartbeats 1000000 in
theorem all_ok1 {B t : Nat} {x : Nat → Value} {N : Nat → List ByteArray} {w : World} (h : Nw B t x N w) (hs : Sm N) :
    Calls Try.prog 9 #[.pointer (some ⟨t, 0, none⟩), .int .i64 1] w fun e w' => ∃ v', e = .returned v' ∧ Lst w.heap.size w' v' (N 1) ∧ Below w.heap.size w w' := by
  have kP := hide1 (party_any h 1)
  have e0 : pty 1 = 0 := by decide
  rw [e0] at kP
  obtain ⟨c0, c1, c2, z1, z2⟩ := nw_cells h
  have kA := hide1 (cloneAll_any (h.own 1 (by omega)) (hs.len 1))
  have kC := fun (j : Nat) (hj : j < (N 1).length) w => hide1 (clone_any ((N 1).getD j ByteArray.empty) w (by have := hs.each 1 _ (getD_mem hj); omega))
  have h64 := hs.len 1
  obtain ⟨a, c, hx⟩ := (h.own 1 (by omega)).form
  rw [hx] at c2 kA
  generalize N 1 = A at *
  have KC := hide1 kC
  clear h hs e0 hx z1 z2 c1 kC
  go_enter Try.func9, Try.ntmps9
  go_wp2_with fail
  refine kP.out.mono ?_
  rintro e w1 ⟨rfl, hw1⟩
  obtain rfl := hw1.symm
  go_wp2_with fail
  refine kA.out.mono ?_
  rintro e W1 ⟨v', rfl, ho, hb⟩
  obtain ⟨a', c', rfl⟩ := ho.form
  obtain ⟨n, hn⟩ : ∃ n, A.length = n := ⟨_, rfl⟩
  rw [hn] at h64
  have HN := hide1 hn
  have HO := hide1 ho
  rw [hn] at HO
  have HB := hide1 hb
  rw [hn]
  clear kP kA c0 c2 ho hb hn
  go_wp2_with fail
  go_loopw [20] (fun v wr => ∃ j : Nat, j ≤ n ∧ v = .int .i64 (j : Int) ∧ Lst w.heap.size wr (.slice a' n c') A ∧ Below w.heap.size w wr) (fun v _ => n - (intOf v).toNat)
  case atStart => exact ⟨0, Nat.zero_le _, rfl, HO.out, HB.out⟩
  case round =>
    obtain ⟨j, hj, rfl, hL, hB⟩ := hrel
    have HL := hide1 hL
    have HBr := hide1 hB
    by_cases hjn : j < n
    · have hjA : j < A.length := by have := HN.out; omega
      have gin : (j : Int) < (n : Int) := by omega
      obtain ⟨g, c2', e2, hcc, hff, hgl, hgb, _⟩ := hL.cell hjA
      rw [HN.out] at e2
      cases e2
      have kC := KC.out j hjA
      have HS := hide1 (set_same_at hjA)
      obtain ⟨s, hs⟩ : ∃ s, A.getD j ByteArray.empty = s := ⟨_, rfl⟩
      rw [hs] at hcc kC HS
      clear hL hB hs hff
      go_wp2_with fail
      refine (kC _).out.mono ?_
      rintro e W2 ⟨rfl, hb2⟩
      have hL2 := HL.out.below hb2 (Nat.le_refl _)
      have ff := hL2.free j
      obtain ⟨y, cc⟩ := hL2.has hjA
      have l3 := hL2.set j s
      rw [HS.out] at l3
      have B2 : Hid (Below w.heap.size w W2) := HBr.out.trans (hb2.mono HBr.out.size)
      have L3 := hide1 l3.1
      clear hL2 l3 hb2 kC hcc
      go_wp2
      go_roundw
      case rel => exact ⟨j + 1, by omega, by go_num, L3.out, B2.out.setCell (p := ⟨g, j, none⟩) hgb _⟩
      case measure => simp [intOf]; omega
    · have gin : ¬ (j : Int) < (n : Int) := by omega
      clear hL hB
      go_wp2
      go_ret
      exact ⟨_, rfl, HL.out, HBr.out⟩

theorem all_any {B t : Nat} {x : Nat → Value} {N : Nat → List ByteArray} {w : World} (h : Nw B t x N w) (hs : Sm N) (k : Nat) (hk : k < 2) :
    Calls Try.prog 9 #[.pointer (some ⟨t, 0, none⟩), .int .i64 (k : Int)] w fun e w' => ∃ v', e = .returned v' ∧ Lst w.heap.size w' v' (N k) ∧ Below w.heap.size w w' := by
  rcases (show k = 0 ∨ k = 1 by omega) with rfl | rfl
  · exact all_ok0 h hs
  · exact all_ok1 h hs

theorem has_any {w : World} {v : Value} {A : List ByteArray} (h : Rdl w v A) (s : ByteArray) (hs : s ∈ A) (hA : A.length ≤ 1000000) :
    Calls Try.prog 14 #[v, .string s] w fun e w' => e = .returned (.bool true) ∧ w' = w := by
  obtain ⟨a, c, rfl, hc⟩ := h
  obtain ⟨p, hp, hps⟩ := List.getElem_of_mem hs
  have hpd : A.getD p ByteArray.empty = s := by rw [List.getD_eq_getElem?_getD, List.getElem?_eq_getElem hp]; exact hps
  have HC := hide1 hc
  have HP := hide1 hpd
  clear hs hc hps hpd
  generalize A.length = n at *
  go_enter Try.func14, Try.ntmps14
  go_wp2_with fail
  go_loopw [5] (fun v wr => ∃ j : Nat, j ≤ p ∧ v = .int .i64 (j : Int) ∧ wr = w) (fun v _ => n - (intOf v).toNat)
  case atStart => exact ⟨0, Nat.zero_le _, rfl, rfl⟩
  case round =>
    obtain ⟨j, hj, rfl, rfl⟩ := hrel
    have gin : (j : Int) < (n : Int) := by omega
    have hjn : j < n := by omega
    obtain ⟨g, o, rfl, hcc⟩ := HC.out j hjn
    obtain ⟨m, hm⟩ : ∃ m, o + j = m := ⟨_, rfl⟩
    rw [hm] at hcc
    obtain ⟨y, hy⟩ : ∃ y, A.getD j ByteArray.empty = y := ⟨_, rfl⟩
    rw [hy] at hcc
    by_cases hys : y = s
    · subst hys
      clear hy
      go_wp2
      go_ret
      exact ⟨rfl, rfl⟩
    · have hne : j ≠ p := fun e => hys (by rw [← hy, e]; exact HP.out)
      clear hy
      go_wp2
      · go_ret
        exact ⟨rfl, rfl⟩
      · exact ⟨⟨j + 1, by omega, by go_num, trivial⟩, by simp [intOf]; omega⟩

theorem drew_rdl {w : World} {v : Value} {A : List ByteArray} (h : Rdl w v A) : Rdl w.drew v A := h

set_option maxHeartbeats 1000000 in
theorem texts_any {w : World} {u v : Value} {A : List ByteArray} (h : Rdl w u A) (h' : Rdl w v A) (hA : A.length ≤ 1000000) :
    Calls Try.prog 8 #[u, v] w fun e w' => e = .returned (.bool true) ∧ Below w.heap.size w w' := by
  have hU := fun w' (hb : Below w.heap.size w w') => h.below hb (Nat.le_refl _)
  have hV := fun w' (hb : Below w.heap.size w w') => h'.below hb (Nat.le_refl _)
  have HU := hide1 hU
  have HV := hide1 hV
  obtain ⟨a, c, rfl, _⟩ := h
  obtain ⟨a', c', rfl, _⟩ := h'
  obtain ⟨n, hn⟩ : ∃ n, A.length = n := ⟨_, rfl⟩
  have HN := hide1 hn
  rw [hn] at HU HV hA ⊢
  clear hU hV hn
  go_enter Try.func8, Try.ntmps8
  go_wp2_with fail
  go_loopw [5] (fun v wr => ∃ j : Nat, j ≤ n ∧ v = .int .i64 (j : Int) ∧ Below w.heap.size w wr) (fun v _ => n - (intOf v).toNat)
  case atStart => exact ⟨0, Nat.zero_le _, rfl, Below.refl _ _⟩
  case round =>
    obtain ⟨j, hj, rfl, hB⟩ := hrel
    have HB := hide1 hB
    by_cases hjn : j < n
    · have gin : (j : Int) < (n : Int) := by omega
      have hjA : j < A.length := by have := HN.out; omega
      obtain ⟨b, d, e1, h1⟩ := HU.out wr hB
      obtain ⟨b', d', e2, h2⟩ := HV.out wr hB
      rw [HN.out] at e1 e2
      cases e1
      cases e2
      obtain ⟨g1, o1, rfl, k1⟩ := h1 j hjA
      obtain ⟨g2, o2, rfl, k2⟩ := h2 j hjA
      obtain ⟨m1, hm1⟩ : ∃ m, o1 + j = m := ⟨_, rfl⟩
      obtain ⟨m2, hm2⟩ : ∃ m, o2 + j = m := ⟨_, rfl⟩
      rw [hm1] at k1
      rw [hm2] at k2
      generalize A.getD j ByteArray.empty = s at *
      have K1 := hide1 k1
      have K2 := hide1 k2
      clear h1 h2 hB k1 k2
      go_upto_region 6 with (fail)
      refine region_f (F := []) (S := fun W => W.cell? ⟨g1, m1, none⟩ = some (.string s) ∧ W.cell? ⟨g2, m2, none⟩ = some (.string s)) (by kernel_rfl) ⟨K1.out, K2.out⟩ (fun hS => ?_)
      refine take_p 0 17 (.slice (some ⟨g1, o1, none⟩) n c) rfl rfl (by kernel_rfl) (by kernel_rfl) (by kernel_rfl) (fun _ _ _ h => h) rfl (fun w => by go_simp) ?_
      try simp only [List.setIfInBounds_toArray, List.set_cons_zero, List.set_cons_succ]
      refine take_p 1 18 (.int .i64 (j : Int)) rfl rfl (by kernel_rfl) (by kernel_rfl) (by kernel_rfl) (fun _ _ _ h => h) rfl (fun w => by go_simp) ?_
      try simp only [List.setIfInBounds_toArray, List.set_cons_zero, List.set_cons_succ]
      refine take_p 2 19 (.pointer (some ⟨g1, m1, none⟩)) rfl rfl (by kernel_rfl) (by kernel_rfl) (by kernel_rfl) (fun _ _ _ h => h) rfl (fun w => by go_simp) ?_
      try simp only [List.setIfInBounds_toArray, List.set_cons_zero, List.set_cons_succ]
      refine take_f 3 20 (.string s) [8] rfl rfl (by kernel_rfl) (by kernel_rfl) (by kernel_rfl) (by kernel_rfl) (by kernel_rfl) (by kernel_rfl) (fun _ _ _ h => h) rfl (fun w hSw => by obtain ⟨g0, g1⟩ := hSw; go_simp) hS ?_
      try simp only [List.setIfInBounds_toArray, List.set_cons_zero, List.set_cons_succ]
      refine take_p 4 21 (.slice (some ⟨g2, o2, none⟩) n c') rfl rfl (by kernel_rfl) (by kernel_rfl) (by kernel_rfl) (fun _ _ _ h => h) rfl (fun w => by go_simp) ?_
      try simp only [List.setIfInBounds_toArray, List.set_cons_zero, List.set_cons_succ]
      refine take_p 5 22 (.int .i64 (j : Int)) rfl rfl (by kernel_rfl) (by kernel_rfl) (by kernel_rfl) (fun _ _ _ h => h) rfl (fun w => by go_simp) ?_
      try simp only [List.setIfInBounds_toArray, List.set_cons_zero, List.set_cons_succ]
      refine take_p 6 23 (.pointer (some ⟨g2, m2, none⟩)) rfl rfl (by kernel_rfl) (by kernel_rfl) (by kernel_rfl) (fun _ _ _ h => h) rfl (fun w => by go_simp) ?_
      try simp only [List.setIfInBounds_toArray, List.set_cons_zero, List.set_cons_succ]
      refine take_f 7 24 (.string s) [8] rfl rfl (by kernel_rfl) (by kernel_rfl) (by kernel_rfl) (by kernel_rfl) (by kernel_rfl) (by kernel_rfl) (fun _ _ _ h => h) rfl (fun w hSw => by obtain ⟨g0, g1⟩ := hSw; go_simp) hS ?_
      try simp only [List.setIfInBounds_toArray, List.set_cons_zero, List.set_cons_succ]
      refine take_p 8 25 (.bool false) rfl rfl (by kernel_rfl) (by kernel_rfl) (by kernel_rfl) (fun _ _ _ h => h) rfl (fun w => by go_simp) ?_
      try simp only [List.setIfInBounds_toArray, List.set_cons_zero, List.set_cons_succ]
      refine done_f (by kernel_rfl) ?_ _
      clear hS
      go_wp2
      go_roundw
      case rel => exact ⟨j + 1, by omega, by go_num, HB.out.drew⟩
      case measure => simp [intOf]; omega
    · have gin : ¬ (j : Int) < (n : Int) := by omega
      clear hB
      go_wp2
      go_ret
      exact ⟨rfl, HB.out⟩

end Go.Proofs.Ytfnedohampmnoaa
