/- Byte strings compared. -/
import Derived.Test.YtcadlcpccemkbaaGreatDoorMQdVaVpVs
import Derived.Test.YtcadlcpccemkbaaGreatDoorMJaJiVlVf
namespace Go.Proofs.YtcadlcpccemkbaaGreatDoor
open Go.RowKit
set_option maxRecDepth 100000
attribute [local go_sem] not_any

theorem drew_rdl {w : World} {v : Value} {A : List ByteArray} (h : Rdl w v A) : Rdl w.drew v A := h

set_option maxHeartbeats 1000000 in
theorem texts_any {w : World} {u v : Value} {A : List ByteArray} (h : Rdl w u A) (h' : Rdl w v A) (hA : A.length ≤ 1000000) :
    Calls Tryz.prog 28 #[u, v] w fun e w' => e = .returned (.bool true) ∧ Below w.heap.size w w' := by
  have hU := fun w' (hb : Below w.heap.size w w') => h.below hb (Nat.le_refl _)
  have hV := fun w' (hb : Below w.heap.size w w') => h'.below hb (Nat.le_refl _)
  have HU := hide1 hU
  have HV := hide1 hV
  obtain ⟨a, c, rfl, _⟩ := h
  obtain ⟨a', c', rfl, _⟩ := h'
  obtain ⟨n, hn⟩ : ∃ n, A.length = n := ⟨_, rfl⟩
  have HN := hide1 hn
  rw [hn] at HU HV hA ⊢
  clear hU hV hn
  go_enter Tryz.func28, Tryz.ntmps28
  go_wp2_with fail
  go_loopw [5] (fun v wr => ∃ j : Nat, j ≤ n ∧ v = .int .i64 (j : Int) ∧ Below w.heap.size w wr) (fun v _ => n - (intOf v).toNat)
  case atStart => exact ⟨0, Nat.zero_le _, rfl, Below.refl _ _⟩
  case round =>
    obtain ⟨j, hj, rfl, hB⟩ := hrel
    have HB := hide1 hB
    by_cases hjn : j < n
    · have gin : (j : Int) < (n : Int) := by omega
      have hjA : j < A.length := by have := HN.out; omega
      obtain ⟨b, d, e1, h1⟩ := HU.out wr hB
      obtain ⟨b', d', e2, h2⟩ := HV.out wr hB
      rw [HN.out] at e1 e2
      cases e1
      cases e2
      obtain ⟨g1, o1, rfl, k1⟩ := h1 j hjA
      obtain ⟨g2, o2, rfl, k2⟩ := h2 j hjA
      obtain ⟨m1, hm1⟩ : ∃ m, o1 + j = m := ⟨_, rfl⟩
      obtain ⟨m2, hm2⟩ : ∃ m, o2 + j = m := ⟨_, rfl⟩
      rw [hm1] at k1
      rw [hm2] at k2
      generalize A.getD j ByteArray.empty = s at *
      have K1 := hide1 k1
      have K2 := hide1 k2
      clear h1 h2 hB k1 k2
      go_upto_region 6 with (fail)
      refine region_f (F := []) (S := fun W => W.cell? ⟨g1, m1, none⟩ = some (.string s) ∧ W.cell? ⟨g2, m2, none⟩ = some (.string s)) (by kernel_rfl) ⟨K1.out, K2.out⟩ (fun hS => ?_)
      refine take_p 0 17 (.slice (some ⟨g1, o1, none⟩) n c) rfl rfl (by kernel_rfl) (by kernel_rfl) (by kernel_rfl) (fun _ _ _ h => h) rfl (fun w => by go_simp) ?_
      try simp only [List.setIfInBounds_toArray, List.set_cons_zero, List.set_cons_succ]
      refine take_p 1 18 (.int .i64 (j : Int)) rfl rfl (by kernel_rfl) (by kernel_rfl) (by kernel_rfl) (fun _ _ _ h => h) rfl (fun w => by go_simp) ?_
      try simp only [List.setIfInBounds_toArray, List.set_cons_zero, List.set_cons_succ]
      refine take_p 2 19 (.pointer (some ⟨g1, m1, none⟩)) rfl rfl (by kernel_rfl) (by kernel_rfl) (by kernel_rfl) (fun _ _ _ h => h) rfl (fun w => by go_simp) ?_
      try simp only [List.setIfInBounds_toArray, List.set_cons_zero, List.set_cons_succ]
      refine take_f 3 20 (.string s) [8] rfl rfl (by kernel_rfl) (by kernel_rfl) (by kernel_rfl) (by kernel_rfl) (by kernel_rfl) (by kernel_rfl) (fun _ _ _ h => h) rfl (fun w hSw => by obtain ⟨g0, g1⟩ := hSw; go_simp) hS ?_
      try simp only [List.setIfInBounds_toArray, List.set_cons_zero, List.set_cons_succ]
      refine take_p 4 21 (.slice (some ⟨g2, o2, none⟩) n c') rfl rfl (by kernel_rfl) (by kernel_rfl) (by kernel_rfl) (fun _ _ _ h => h) rfl (fun w => by go_simp) ?_
      try simp only [List.setIfInBounds_toArray, List.set_cons_zero, List.set_cons_succ]
      refine take_p 5 22 (.int .i64 (j : Int)) rfl rfl (by kernel_rfl) (by kernel_rfl) (by kernel_rfl) (fun _ _ _ h => h) rfl (fun w => by go_simp) ?_
      try simp only [List.setIfInBounds_toArray, List.set_cons_zero, List.set_cons_succ]
      refine take_p 6 23 (.pointer (some ⟨g2, m2, none⟩)) rfl rfl (by kernel_rfl) (by kernel_rfl) (by kernel_rfl) (fun _ _ _ h => h) rfl (fun w => by go_simp) ?_
      try simp only [List.setIfInBounds_toArray, List.set_cons_zero, List.set_cons_succ]
      refine take_f 7 24 (.string s) [8] rfl rfl (by kernel_rfl) (by kernel_rfl) (by kernel_rfl) (by kernel_rfl) (by kernel_rfl) (by kernel_rfl) (fun _ _ _ h => h) rfl (fun w hSw => by obtain ⟨g0, g1⟩ := hSw; go_simp) hS ?_
      try simp only [List.setIfInBounds_toArray, List.set_cons_zero, List.set_cons_succ]
      refine take_p 8 25 (.bool false) rfl rfl (by kernel_rfl) (by kernel_rfl) (by kernel_rfl) (fun _ _ _ h => h) rfl (fun w => by go_simp) ?_
      try simp only [List.setIfInBounds_toArray, List.set_cons_zero, List.set_cons_succ]
      refine done_f (by kernel_rfl) ?_ _
      clear hS
      go_wp2
      go_roundw
      case rel => exact ⟨j + 1, by omega, by go_num, HB.out.drew⟩
      case measure => simp [intOf]; omega
    · have gin : ¬ (j : Int) < (n : Int) := by omega
      clear hB
      go_wp2
      go_ret
      exact ⟨rfl, HB.out⟩

end Go.Proofs.YtcadlcpccemkbaaGreatDoor
