/- Numbered bodies told, and compared. -/
import Derived.Test.YtjingknkjokldaaVh
namespace Go.Proofs.Ytjingknkjokldaa
open Go.RowKit
set_option maxRecDepth 100000
attribute [local go_sem] not_any

theorem eq_same (k : Int) (b : ByteArray) (w : World) : (Op.equalIn 10000 71 (.agg #[.int .u32 k, .string b]) (.agg #[.int .u32 k, .string b])).run Try.prog w = .ok true w := by
  have u9 := Try.underlying9
  have u22 := Try.underlying22
  have hS : Try.prog.underlying 71 = some (.struct (Try.prog.fieldsOf 71)) := by kernel_rfl
  have hp : Try.prog.stoodInHeld 71 = false := by kernel_rfl
  rw [show (10000 : Nat) = 9999 + 1 from rfl, run_equalIn_agg w 9999 71 _ _ hS hp]
  simp only [Program.fieldsOf, Try.underlying71]
  go_simp

theorem at_pair {l : List (Nat × ByteArray)} {j : Nat} (h : j < l.length) : (kAt l j, sAt l j) = l[j] := by
  simp [kAt, sAt, List.getElem?_eq_getElem h]
theorem take_pair {l : List (Nat × ByteArray)} {j : Nat} (h : j < l.length) : l.take j ++ [(kAt l j, sAt l j)] = l.take (j + 1) := by
  rw [at_pair h]
  exact List.take_append_getElem h

set_option maxHeartbeats 1000000 in
theorem told_any {w : World} {u : Value} {l : List (Nat × ByteArray)} (h : Rnl w u l) (hl : l.length ≤ 1000) :
    Calls Try.prog 14 #[u] w fun e w' => ∃ v, e = .returned v ∧ Nls 71 w.heap.size w' v l ∧ Below w.heap.size w w' := by
  have hU := fun w' (hb : Below w.heap.size w w') => h.below hb (Nat.le_refl _)
  have HU := hide1 hU
  obtain ⟨a, c, rfl, _⟩ := h
  obtain ⟨n, hn⟩ : ∃ n, l.length = n := ⟨_, rfl⟩
  have HN := hide1 hn
  have HLE := hide1 hl
  rw [hn] at HU hl ⊢
  clear hU hn
  go_enter Try.func14, Try.ntmps14
  go_wp2_with fail
  go_loopw [3, 4] (fun v i wr => ∃ (j : Nat) (z : Value), j ≤ n ∧ i = .int .i64 (j : Int) ∧ v = z ∧ Nls 71 w.heap.size wr z (l.take j) ∧ Below w.heap.size w wr) (fun _ i _ => n - (intOf i).toNat)
  case atStart => exact ⟨0, _, Nat.zero_le _, rfl, rfl, Nls.nil _ _ _, Below.refl _ _⟩
  case round =>
    obtain ⟨j, v, hj, rfl, hv, hL, hB⟩ := hrel
    obtain rfl := hv.symm
    have HL := hide1 hL
    have HB := hide1 hB
    clear hL
    by_cases hjn : j < n
    · have gin : (j : Int) < (n : Int) := by omega
      have hjA : j < l.length := by have := HN.out; omega
      obtain ⟨b, d, e1, h1⟩ := HU.out wr hB
      rw [HN.out] at e1
      cases e1
      obtain ⟨g1, o1, rfl, k1, k2⟩ := h1 j hjA
      obtain ⟨m1, hm1⟩ : ∃ m, o1 + j * 2 = m := ⟨_, rfl⟩
      rw [hm1] at k1 k2
      have htk := take_pair hjA
      have HTK := hide1 htk
      generalize kAt l j = k at *
      generalize sAt l j = s at *
      have K1 := hide1 k1
      have K2 := hide1 k2
      clear h1 hB k1 k2 htk hv
      go_upto_region 5 with (fail)
      refine region_f (F := [12, 13]) (S := fun W => W.cell? ⟨g1, m1, none⟩ = some (.int .u32 (k : Int)) ∧ W.cell? ⟨g1, m1 + 1, none⟩ = some (.string s)) (by kernel_rfl) ⟨K1.out, K2.out⟩ (fun hS => ?_)
      generalize hU : World.drew wr = U at hS ⊢
      have bU : Hid (Below wr.heap.size wr U) := by rw [← hU]; exact (Below.refl _ _).drew
      clear hU
      refine take_p 0 11 (v) rfl rfl (by kernel_rfl) (by kernel_rfl) (by kernel_rfl) (fun _ _ _ h => h) rfl (fun w => by go_simp) ?_
      try simp only [List.setIfInBounds_toArray, List.set_cons_zero, List.set_cons_succ]
      refine take_p 1 12 (.slice (some ⟨g1, o1, none⟩) n c) rfl rfl (by kernel_rfl) (by kernel_rfl) (by kernel_rfl) (fun _ _ _ h => h) rfl (fun w => by go_simp) ?_
      try simp only [List.setIfInBounds_toArray, List.set_cons_zero, List.set_cons_succ]
      refine take_p 2 13 (.int .i64 (j : Int)) rfl rfl (by kernel_rfl) (by kernel_rfl) (by kernel_rfl) (fun _ _ _ h => h) rfl (fun w => by go_simp) ?_
      try simp only [List.setIfInBounds_toArray, List.set_cons_zero, List.set_cons_succ]
      refine take_p 3 14 (.pointer (some ⟨g1, m1, none⟩)) rfl rfl (by kernel_rfl) (by kernel_rfl) (by kernel_rfl) (fun _ _ _ h => h) rfl (fun w => by go_simp) ?_
      try simp only [List.setIfInBounds_toArray, List.set_cons_zero, List.set_cons_succ]
      refine take_p 4 15 (.pointer (some ⟨g1, m1, none⟩)) rfl rfl (by kernel_rfl) (by kernel_rfl) (by kernel_rfl) (fun _ _ _ h => h) rfl (fun w => by go_simp) ?_
      try simp only [List.setIfInBounds_toArray, List.set_cons_zero, List.set_cons_succ]
      refine take_f 5 16 (.int .u32 (k : Int)) [11, 12, 13, 14] rfl rfl (by kernel_rfl) (by kernel_rfl) (by kernel_rfl) (by kernel_rfl) (by kernel_rfl) (by kernel_rfl) (fun _ _ _ h => h) rfl (fun w hSw => by obtain ⟨c0, c1⟩ := hSw; go_simp) hS ?_
      try simp only [List.setIfInBounds_toArray, List.set_cons_zero, List.set_cons_succ]
      refine take_p 6 17 (.slice (some ⟨g1, o1, none⟩) n c) rfl rfl (by kernel_rfl) (by kernel_rfl) (by kernel_rfl) (fun _ _ _ h => h) rfl (fun w => by go_simp) ?_
      try simp only [List.setIfInBounds_toArray, List.set_cons_zero, List.set_cons_succ]
      refine take_p 7 18 (.int .i64 (j : Int)) rfl rfl (by kernel_rfl) (by kernel_rfl) (by kernel_rfl) (fun _ _ _ h => h) rfl (fun w => by go_simp) ?_
      try simp only [List.setIfInBounds_toArray, List.set_cons_zero, List.set_cons_succ]
      refine take_p 8 19 (.pointer (some ⟨g1, m1, none⟩)) rfl rfl (by kernel_rfl) (by kernel_rfl) (by kernel_rfl) (fun _ _ _ h => h) rfl (fun w => by go_simp) ?_
      try simp only [List.setIfInBounds_toArray, List.set_cons_zero, List.set_cons_succ]
      refine take_p 9 20 (.pointer (some ⟨g1, m1 + 1, none⟩)) rfl rfl (by kernel_rfl) (by kernel_rfl) (by kernel_rfl) (fun _ _ _ h => h) rfl (fun w => by go_simp) ?_
      try simp only [List.setIfInBounds_toArray, List.set_cons_zero, List.set_cons_succ]
      refine take_f 10 21 (.string s) [11, 12, 13, 14] rfl rfl (by kernel_rfl) (by kernel_rfl) (by kernel_rfl) (by kernel_rfl) (by kernel_rfl) (by kernel_rfl) (fun _ _ _ h => h) rfl (fun w hSw => by obtain ⟨c0, c1⟩ := hSw; go_simp) hS ?_
      try simp only [List.setIfInBounds_toArray, List.set_cons_zero, List.set_cons_succ]
      refine take_p 11 22 (.agg #[.int .u32 (k : Int), .string s]) rfl rfl (by kernel_rfl) (by kernel_rfl) (by kernel_rfl) (fun _ _ _ h => h) rfl (fun w => by go_simp) ?_
      try simp only [List.setIfInBounds_toArray, List.set_cons_zero, List.set_cons_succ]
      refine ready_f 12 (o := { dst := some 23, op := Op.buildSlice 41 1 #[(0, Operand.tmp 22)], type := 41, pos := "law.go:22", after := #[{ on := 11, ground := Ground.data }], guard := none }) (by kernel_rfl) rfl (fun K hK => ?_)
      go_simp
      refine hK.out _ _ (fun h => absurd (by decide) h) ?_
      clear hK K
      try simp only [Act.put, List.setIfInBounds_toArray, List.set_cons_zero, List.set_cons_succ]
      have RC := hide1 (Rnl.one U 71 k s)
      have bC : Hid (Below wr.heap.size wr (U.alloc (.cells #[.int .u32 (k : Int), .string s] 71))) := bU.out.alloc bU.out.size _
      have LC := hide1 (HL.out.below bC.out (Nat.le_refl _))
      have HQ : Hid (w.heap.size ≤ (U.alloc (.cells #[.int .u32 (k : Int), .string s] 71)).heap.size) := by have := bC.out.size; have := HB.out.size; unfold Hid; omega
      clear bU hS
      refine ready_f 13 (o := { dst := some 24, op := Op.call { callee := Callee.builtin Builtin.append, args := #[Operand.tmp 11, Operand.tmp 23], argTypes := #[41, 41] }, type := 41, pos := "law.go:22", after := #[{ on := 0, ground := Ground.data }, { on := 12, ground := Ground.data }], guard := none }) (by kernel_rfl) rfl (fun K hK => ?_)
      rw [if_pos (by rfl)]
      refine wp_append_nls ntyR _ _ rfl rfl rfl LC.out RC.out (by have := HLE.out; rw [List.length_take]; omega) HQ.out ?_
      intro v2 WE ho hg hf
      refine hK.out _ _ (fun h => absurd (by decide) h) ?_
      clear hK K
      try simp only [Act.put, List.setIfInBounds_toArray, List.set_cons_zero, List.set_cons_succ]
      refine take_p 14 3 (v2) rfl rfl (by kernel_rfl) (by kernel_rfl) (by kernel_rfl) (fun _ _ _ h => h) rfl (fun w => by go_simp) ?_
      try simp only [List.setIfInBounds_toArray, List.set_cons_zero, List.set_cons_succ]
      refine done_f (by kernel_rfl) ?_ _
      have HO := hide1 ho
      have HG := hide1 hg
      clear ho hg hf
      go_wp2
      go_roundw
      case rel =>
        refine ⟨j + 1, v2, by omega, by go_num, rfl, ?_, ?_⟩
        · rw [← HTK.out]
          exact HO.out
        · exact (HB.out.trans (bC.out.mono HB.out.size)).grown HG.out HQ.out (fun k hk => (HL.out.lt hk).1)
      case measure => simp [intOf]; omega
    · have gin : ¬ (j : Int) < (n : Int) := by omega
      clear hB
      go_wp2
      go_ret
      have e : l.take j = l := List.take_of_length_le (by have := HN.out; omega)
      have h9 := HL.out
      rw [e] at h9
      exact ⟨_, rfl, h9, HB.out⟩

set_option maxHeartbeats 1000000 in
theorem same_any {w : World} {u v : Value} {l : List (Nat × ByteArray)} (h : Rnl w u l) (h' : Rnl w v l) (hl : l.length ≤ 1000) :
    Calls Try.prog 13 #[u, v] w fun e w' => e = .returned (.bool true) ∧ Below w.heap.size w w' := by
  have hU := fun w' (hb : Below w.heap.size w w') => h.below hb (Nat.le_refl _)
  have hV := fun w' (hb : Below w.heap.size w w') => h'.below hb (Nat.le_refl _)
  have HU := hide1 hU
  have HV := hide1 hV
  obtain ⟨a, c, rfl, _⟩ := h
  obtain ⟨a', c', rfl, _⟩ := h'
  obtain ⟨n, hn⟩ : ∃ n, l.length = n := ⟨_, rfl⟩
  have HN := hide1 hn
  rw [hn] at HU HV hl ⊢
  clear hU hV hn
  go_enter Try.func13, Try.ntmps13
  go_wp2_with fail
  go_loopw [5] (fun v wr => ∃ j : Nat, j ≤ n ∧ v = .int .i64 (j : Int) ∧ Below w.heap.size w wr) (fun v _ => n - (intOf v).toNat)
  case atStart => exact ⟨0, Nat.zero_le _, rfl, Below.refl _ _⟩
  case round =>
    obtain ⟨j, hj, rfl, hB⟩ := hrel
    have HB := hide1 hB
    by_cases hjn : j < n
    · have gin : (j : Int) < (n : Int) := by omega
      have hjA : j < l.length := by have := HN.out; omega
      obtain ⟨b, d, e1, h1⟩ := HU.out wr hB
      obtain ⟨b', d', e2, h2⟩ := HV.out wr hB
      rw [HN.out] at e1 e2
      cases e1
      cases e2
      obtain ⟨g1, o1, rfl, k1, k1'⟩ := h1 j hjA
      obtain ⟨g2, o2, rfl, k2, k2'⟩ := h2 j hjA
      obtain ⟨m1, hm1⟩ : ∃ m, o1 + j * 2 = m := ⟨_, rfl⟩
      obtain ⟨m2, hm2⟩ : ∃ m, o2 + j * 2 = m := ⟨_, rfl⟩
      rw [hm1] at k1 k1'
      rw [hm2] at k2 k2'
      generalize kAt l j = k at *
      generalize sAt l j = s at *
      have HS : Hid (wr.cell? ⟨g1, m1, none⟩ = some (.int .u32 (k : Int)) ∧ wr.cell? ⟨g1, m1 + 1, none⟩ = some (.string s) ∧ wr.cell? ⟨g2, m2, none⟩ = some (.int .u32 (k : Int)) ∧ wr.cell? ⟨g2, m2 + 1, none⟩ = some (.string s)) := ⟨k1, k1', k2, k2'⟩
      clear h1 h2 hB k1 k2 k1' k2'
      go_upto_region 6 with (fail)
      refine region_f (F := []) (S := fun W => W.cell? ⟨g1, m1, none⟩ = some (.int .u32 (k : Int)) ∧ W.cell? ⟨g1, m1 + 1, none⟩ = some (.string s) ∧ W.cell? ⟨g2, m2, none⟩ = some (.int .u32 (k : Int)) ∧ W.cell? ⟨g2, m2 + 1, none⟩ = some (.string s)) (by kernel_rfl) HS.out (fun hS => ?_)
      refine take_p 0 17 (.slice (some ⟨g1, o1, none⟩) n c) rfl rfl (by kernel_rfl) (by kernel_rfl) (by kernel_rfl) (fun _ _ _ h => h) rfl (fun w => by go_simp) ?_
      try simp only [List.setIfInBounds_toArray, List.set_cons_zero, List.set_cons_succ]
      refine take_p 1 18 (.int .i64 (j : Int)) rfl rfl (by kernel_rfl) (by kernel_rfl) (by kernel_rfl) (fun _ _ _ h => h) rfl (fun w => by go_simp) ?_
      try simp only [List.setIfInBounds_toArray, List.set_cons_zero, List.set_cons_succ]
      refine take_p 2 19 (.pointer (some ⟨g1, m1, none⟩)) rfl rfl (by kernel_rfl) (by kernel_rfl) (by kernel_rfl) (fun _ _ _ h => h) rfl (fun w => by go_simp) ?_
      try simp only [List.setIfInBounds_toArray, List.set_cons_zero, List.set_cons_succ]
      refine take_f 3 20 (.agg #[.int .u32 (k : Int), .string s]) [8] rfl rfl (by kernel_rfl) (by kernel_rfl) (by kernel_rfl) (by kernel_rfl) (by kernel_rfl) (by kernel_rfl) (fun _ _ _ h => h) rfl (fun w hSw => by obtain ⟨c0, c1, c2, c3⟩ := hSw; go_simp) hS ?_
      try simp only [List.setIfInBounds_toArray, List.set_cons_zero, List.set_cons_succ]
      refine take_p 4 21 (.slice (some ⟨g2, o2, none⟩) n c') rfl rfl (by kernel_rfl) (by kernel_rfl) (by kernel_rfl) (fun _ _ _ h => h) rfl (fun w => by go_simp) ?_
      try simp only [List.setIfInBounds_toArray, List.set_cons_zero, List.set_cons_succ]
      refine take_p 5 22 (.int .i64 (j : Int)) rfl rfl (by kernel_rfl) (by kernel_rfl) (by kernel_rfl) (fun _ _ _ h => h) rfl (fun w => by go_simp) ?_
      try simp only [List.setIfInBounds_toArray, List.set_cons_zero, List.set_cons_succ]
      refine take_p 6 23 (.pointer (some ⟨g2, m2, none⟩)) rfl rfl (by kernel_rfl) (by kernel_rfl) (by kernel_rfl) (fun _ _ _ h => h) rfl (fun w => by go_simp) ?_
      try simp only [List.setIfInBounds_toArray, List.set_cons_zero, List.set_cons_succ]
      refine take_f 7 24 (.agg #[.int .u32 (k : Int), .string s]) [8] rfl rfl (by kernel_rfl) (by kernel_rfl) (by kernel_rfl) (by kernel_rfl) (by kernel_rfl) (by kernel_rfl) (fun _ _ _ h => h) rfl (fun w hSw => by obtain ⟨c0, c1, c2, c3⟩ := hSw; go_simp) hS ?_
      try simp only [List.setIfInBounds_toArray, List.set_cons_zero, List.set_cons_succ]
      refine take_p 8 25 (.bool false) rfl rfl (by kernel_rfl) (by kernel_rfl) (by kernel_rfl) (fun _ _ _ h => h) rfl (fun w => by have q := eq_same (k : Int) s w; go_simp) ?_
      try simp only [List.setIfInBounds_toArray, List.set_cons_zero, List.set_cons_succ]
      refine done_f (by kernel_rfl) ?_ _
      clear hS
      go_wp2
      go_roundw
      case rel => exact ⟨j + 1, by omega, by go_num, HB.out.drew⟩
      case measure => simp [intOf]; omega
    · have gin : ¬ (j : Int) < (n : Int) := by omega
      clear hB
      go_wp2
      go_ret
      exact ⟨rfl, HB.out⟩

end Go.Proofs.Ytjingknkjokldaa
