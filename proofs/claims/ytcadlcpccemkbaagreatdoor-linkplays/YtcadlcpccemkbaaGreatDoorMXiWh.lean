/- The document's Check. The document's bytes of fields. -/
import Derived.Test.YtcadlcpccemkbaaGreatDoorMXcXdXe
import Derived.Test.YtcadlcpccemkbaaGreatDoorMWdWeWf
namespace Go.Proofs.YtcadlcpccemkbaaGreatDoor.X
open Go.RowKit
set_option maxRecDepth 100000
attribute [local go_sem] not_any mf_any

set_option maxHeartbeats 4000000 in
theorem rcheck_any (k o p q a : Int) (b : ByteArray) (w : World) :
    Calls Tryz.prog 57 #[fra k o p q a b] w fun e w' => e = .returned (.int .i64 (chk k o p q a b.size)) ∧ Below w.heap.size w w' := by
  have hE := isEmpty_size b
  unfold fra at *
  by_cases hz : b.size = 0
  · have hE' : b.toList.isEmpty = true := by rw [hE]; exact decide_eq_true hz
    have hM : ∀ {n : Nat}, n = 0 → (Mis k q a n ↔ (k = 1 ∧ (q ≠ 0 ∨ a ≠ 0)) ∨ (k = 2 ∧ q = 0)) := fun h => by unfold Mis; omega
    have HM := hide1 (hM hz)
    have HZ : Shy (b.size = 0) := ⟨hz⟩
    clear hE hM hz
    go_enter Tryz.func57, Tryz.ntmps57
    go_wp2_with (first | go_in)
    all_goals go_ret
    all_goals refine ⟨ret_int ?_, ?_⟩
    all_goals first
      | exact below1 _
      | (have hm := HM.out
         have hz := HZ.out
         clear HM HZ
         simp only [beq_iff_eq, beq_eq_false_iff_ne, bne_iff_ne, bne_eq_false_iff_eq, ne_eq] at *
         first
          | exact chk_15 (by omega)
          | exact chk_mis (by omega) (hm.2 (by omega))
          | exact chk_20 (by omega) (fun h => by have := hm.1 h; omega) (by omega)
          | exact chk_13 (by omega) (fun h => by have := hm.1 h; omega) (by omega) (by omega)
          | exact chk_2 (by omega) (fun h => by have := hm.1 h; omega) (by omega) (by omega) (by omega)
          | exact chk_0 (by omega) (fun h => by have := hm.1 h; omega) (by omega) (by omega) (by omega))
  · have hE' : b.toList.isEmpty = false := by rw [hE]; exact decide_eq_false hz
    have hM : ∀ {n : Nat}, n ≠ 0 → (Mis k q a n ↔ k = 1 ∨ (k = 2 ∧ q = 0) ∨ (k ≠ 1 ∧ k ≠ 2)) := fun h => by unfold Mis; omega
    have HM := hide1 (hM hz)
    have HZ : Shy (b.size ≠ 0) := ⟨hz⟩
    clear hE hM hz
    go_enter Tryz.func57, Tryz.ntmps57
    go_wp2_with (first | go_in)
    all_goals go_ret
    all_goals refine ⟨ret_int ?_, ?_⟩
    all_goals first
      | exact below1 _
      | (have hm := HM.out
         have hz := HZ.out
         clear HM HZ
         simp only [beq_iff_eq, beq_eq_false_iff_ne, ne_eq] at *
         first
          | exact chk_15 (by omega)
          | exact chk_mis (by omega) (hm.2 (by omega))
          | exact chk_20 (by omega) (fun h => by have := hm.1 h; omega) (by omega)
          | exact chk_13 (by omega) (fun h => by have := hm.1 h; omega) (by omega) (by omega)
          | exact chk_2 (by omega) (fun h => by have := hm.1 h; omega) (by omega) (by omega) (by omega)
          | exact chk_0 (by omega) (fun h => by have := hm.1 h; omega) (by omega) (by omega) (by omega))
end Go.Proofs.YtcadlcpccemkbaaGreatDoor.X

namespace Go.Proofs.YtcadlcpccemkbaaGreatDoor.X
open Go.RowKit
set_option maxRecDepth 100000
attribute [local go_sem] not_any mf_any

theorem conv_lit (z : Nat) (W : World) (g : Nat) (h : W.heap[g]? = some (u8row [z])) : (convert 124 9 (.slice (some ⟨g, 0, none⟩) 1 1)).run Tryz.prog W = .ok (.string (txt [z])) W :=
  text_of (bs := [z]) rfl (fun _ _ hj => u8_cell h hj)
theorem conv_new (z : Nat) (W : World) : (convert 124 9 (.slice (some ⟨W.heap.size, 0, none⟩) 1 1)).run Tryz.prog (W.alloc (.cells #[.int .u8 (z : Int)] 5)) = .ok (.string (txt [z])) (W.alloc (.cells #[.int .u8 (z : Int)] 5)) :=
  conv_lit z _ _ (heap_alloc_new _ _)
theorem conv_newd (z : Nat) (W : World) : (convert 124 9 (.slice (some ⟨W.heap.size, 0, none⟩) 1 1)).run Tryz.prog (W.alloc (.cells #[.int .u8 (z : Int)] 5)).drew = .ok (.string (txt [z])) (W.alloc (.cells #[.int .u8 (z : Int)] 5)).drew :=
  conv_lit z _ _ (heap_alloc_new _ _)
theorem conv_after {z : Nat} {W w1 : World} (hb : Below (W.alloc (.cells #[.int .u8 (z : Int)] 5)).drew.heap.size (W.alloc (.cells #[.int .u8 (z : Int)] 5)).drew w1) : (convert 124 9 (.slice (some ⟨W.heap.size, 0, none⟩) 1 1)).run Tryz.prog w1 = .ok (.string (txt [z])) w1 :=
  conv_lit z _ _ ((hb.block _ (by simp [World.drew])).trans (heap_alloc_new _ _))

theorem fixed_zero (x : Nat) (w : World) : Calls Tryz.prog 58 #[.int .u64 (x : Int), .int .i64 0] w fun e w' => e = .returned (.string (txt (fix x 0))) ∧ Below w.heap.size w w' := by
  go_enter Tryz.func58, Tryz.ntmps58
  go_wp2
  go_ret
  exact ⟨rfl, Below.refl _ _⟩

set_option maxHeartbeats 1000000 in
theorem fixed_step (n x : Nat) (w : World) (hn : n + 1 ≤ 8) (hx : x < 18446744073709551616)
    (IH : ∀ (x : Nat) (w : World), x < 18446744073709551616 → Calls Tryz.prog 58 #[.int .u64 (x : Int), .int .i64 (n : Int)] w fun e w' => e = .returned (.string (txt (fix x n))) ∧ Below w.heap.size w w') :
    Calls Tryz.prog 58 #[.int .u64 (x : Int), .int .i64 ((n + 1 : Nat) : Int)] w fun e w' => e = .returned (.string (txt (fix x (n + 1)))) ∧ Below w.heap.size w w' := by
  obtain ⟨q, hq⟩ : ∃ q, q = x / 256 := ⟨_, rfl⟩
  obtain ⟨z, hz⟩ : ∃ z, z = x % 256 := ⟨_, rfl⟩
  obtain ⟨m, hm⟩ : ∃ m, m = n + 1 := ⟨_, rfl⟩
  have ih := fun w => hide1 (IH q w (by omega))
  have eq : (x : Int) / 256 = (q : Int) := by omega
  have ez : (x : Int) % 256 = (z : Int) := by omega
  have ez' : IntKind.u8.wrap (z : Int) = (z : Int) := by rw [IntKind.wrap_u8]; omega
  have em : (m : Int) - 1 = (n : Int) := by omega
  have eqw : IntKind.u64.wrap (q : Int) = (q : Int) := by rw [IntKind.wrap_u64]; omega
  have enw : IntKind.i64.wrap (n : Int) = (n : Int) := by rw [IntKind.wrap_i64]; omega
  have ezt : (x : Int).tmod 256 = (z : Int) := by rw [Int.tmod_eq_emod_of_nonneg (by omega)]; exact ez
  have hm0 : ¬ (m : Int) ≤ 0 := by omega
  have hzl : z < 256 := by omega
  have HT : Shy (txt (fix q n) ++ txt [z] = txt (fix x m)) := ⟨by
    rw [txt_append (fix_lt n q) (fun y hy => by simp at hy; omega), hq, hz, hm]; rfl⟩
  have hs1 : (txt (fix q n)).size = n := by rw [txt_size (fix_lt n q), fix_length]
  have hs2 : (txt [z]).size = 1 := by rw [txt_size (fun y hy => by simp at hy; omega)]; rfl
  have hss : ¬ (9223372036854775807 < (txt (fix q n)).size + (txt [z]).size) := by omega
  have cv1 := conv_new z
  have cv2 := conv_newd z
  rw [← hm]
  clear hq hz hx hs1 hs2 IH
  generalize txt (fix q n) = tq at *
  generalize txt (fix x m) = tx at *
  go_enter Tryz.func58, Tryz.ntmps58
  go_upto_region 3 with (fail)
  refine region_f (F := []) (S := fun _ => True) (by kernel_rfl) trivial (fun hS => ?_)
  refine take_p 0 7 (.int .u64 (x : Int)) rfl rfl (by kernel_rfl) (by kernel_rfl) (by kernel_rfl) (fun _ _ _ h => h) rfl (fun w => by go_simp) ?_
  try simp only [List.setIfInBounds_toArray, List.set_cons_zero, List.set_cons_succ]
  refine take_p 1 8 (.int .u64 (q : Int)) rfl rfl (by kernel_rfl) (by kernel_rfl) (by kernel_rfl) (fun _ _ _ h => h) rfl (fun w => by go_simp) ?_
  try simp only [List.setIfInBounds_toArray, List.set_cons_zero, List.set_cons_succ]
  refine take_p 2 9 (.int .i64 (m : Int)) rfl rfl (by kernel_rfl) (by kernel_rfl) (by kernel_rfl) (fun _ _ _ h => h) rfl (fun w => by go_simp) ?_
  try simp only [List.setIfInBounds_toArray, List.set_cons_zero, List.set_cons_succ]
  refine take_p 3 10 (.int .i64 (n : Int)) rfl rfl (by kernel_rfl) (by kernel_rfl) (by kernel_rfl) (fun _ _ _ h => h) rfl (fun w => by go_simp) ?_
  try simp only [List.setIfInBounds_toArray, List.set_cons_zero, List.set_cons_succ]
  refine take_p 5 12 (.int .u64 (x : Int)) rfl rfl (by kernel_rfl) (by kernel_rfl) (by kernel_rfl) (fun _ _ _ h => h) rfl (fun w => by go_simp) ?_
  try simp only [List.setIfInBounds_toArray, List.set_cons_zero, List.set_cons_succ]
  refine take_p 6 13 (.int .u64 (z : Int)) rfl rfl (by kernel_rfl) (by kernel_rfl) (by kernel_rfl) (fun _ _ _ h => h) rfl (fun w => by go_simp) ?_
  try simp only [List.setIfInBounds_toArray, List.set_cons_zero, List.set_cons_succ]
  refine take_p 7 14 (.int .u8 (z : Int)) rfl rfl (by kernel_rfl) (by kernel_rfl) (by kernel_rfl) (fun _ _ _ h => h) rfl (fun w => by go_simp) ?_
  try simp only [List.setIfInBounds_toArray, List.set_cons_zero, List.set_cons_succ]
  refine ready2_f 4 8 (o := { dst := some 11, op := Op.call { callee := Callee.value (Operand.func 58), args := #[Operand.tmp 8, Operand.tmp 10], argTypes := #[127, 3] }, type := 9, pos := "ref.go:23", after := #[{ on := 1, ground := Ground.data }, { on := 3, ground := Ground.data }], guard := none }) (o' := { dst := some 15, op := Op.buildSlice 124 1 #[(0, Operand.tmp 14)], type := 124, pos := "ref.go:23", after := #[{ on := 7, ground := Ground.data }], guard := none }) (by kernel_rfl) rfl rfl (fun K hK => ?_) (fun K hK => ?_)
  · go_simp
    refine (ih _).out.mono ?_
    rintro e w1 ⟨rfl, hb1⟩
    refine hK.out _ _ (fun _ h => h) ?_
    clear hK K
    try simp only [Act.put, List.setIfInBounds_toArray, List.set_cons_zero, List.set_cons_succ]
    have cv3 := conv_new z w1
    have HBX := hide1 ((Below.refl w.heap.size w).drew.trans (hb1.alloc (by simpa using hb1.size) (.cells #[.int .u8 (z : Int)] 5)))
    clear hb1
    refine ready_f 8 (o := { dst := some 15, op := Op.buildSlice 124 1 #[(0, Operand.tmp 14)], type := 124, pos := "ref.go:23", after := #[{ on := 7, ground := Ground.data }], guard := none }) (by kernel_rfl) rfl (fun K hK => ?_)
    go_simp
    refine hK.out _ _ (fun _ h => h) ?_
    clear hK K
    try simp only [Act.put, List.setIfInBounds_toArray, List.set_cons_zero, List.set_cons_succ]
    refine ready_f 9 (o := { dst := some 16, op := Op.convert 124 9 (Operand.tmp 15), type := 9, pos := "ref.go:23", after := #[{ on := 8, ground := Ground.data }], guard := none }) (by kernel_rfl) rfl (fun K hK => ?_)
    go_simp
    refine hK.out _ _ (fun _ h => h) ?_
    clear hK K
    try simp only [Act.put, List.setIfInBounds_toArray, List.set_cons_zero, List.set_cons_succ]
    refine take_p 10 17 (.string (tq ++ txt [z])) rfl rfl (by kernel_rfl) (by kernel_rfl) (by kernel_rfl) (fun _ _ _ h => h) rfl (fun w => by go_simp) ?_
    try simp only [List.setIfInBounds_toArray, List.set_cons_zero, List.set_cons_succ]
    refine take_p 11 4 (.string (tq ++ txt [z])) rfl rfl (by kernel_rfl) (by kernel_rfl) (by kernel_rfl) (fun _ _ _ h => h) rfl (fun w => by go_simp) ?_
    try simp only [List.setIfInBounds_toArray, List.set_cons_zero, List.set_cons_succ]
    refine done_f (by kernel_rfl) ?_ _
    go_wp2
    go_ret
    exact ⟨by rw [HT.out]; rfl, HBX.out⟩
  · go_simp
    refine hK.out _ _ (fun _ h => h) ?_
    clear hK K
    try simp only [Act.put, List.setIfInBounds_toArray, List.set_cons_zero, List.set_cons_succ]
    have cv3 := conv_newd z w
    refine ready2_f 4 9 (o := { dst := some 11, op := Op.call { callee := Callee.value (Operand.func 58), args := #[Operand.tmp 8, Operand.tmp 10], argTypes := #[127, 3] }, type := 9, pos := "ref.go:23", after := #[{ on := 1, ground := Ground.data }, { on := 3, ground := Ground.data }], guard := none }) (o' := { dst := some 16, op := Op.convert 124 9 (Operand.tmp 15), type := 9, pos := "ref.go:23", after := #[{ on := 8, ground := Ground.data }], guard := none }) (by kernel_rfl) rfl rfl (fun K hK => ?_) (fun K hK => ?_)
    · go_simp
      refine (ih _).out.mono ?_
      rintro e w1 ⟨rfl, hb1⟩
      refine hK.out _ _ (fun _ h => h) ?_
      clear hK K
      try simp only [Act.put, List.setIfInBounds_toArray, List.set_cons_zero, List.set_cons_succ]
      have cv4 := conv_after hb1
      have HBX := hide1 (((Below.refl w.heap.size w).alloc (Nat.le_refl _) (.cells #[.int .u8 (z : Int)] 5)).drew.trans (hb1.mono (by simp [World.drew])))
      clear hb1
      refine ready_f 9 (o := { dst := some 16, op := Op.convert 124 9 (Operand.tmp 15), type := 9, pos := "ref.go:23", after := #[{ on := 8, ground := Ground.data }], guard := none }) (by kernel_rfl) rfl (fun K hK => ?_)
      go_simp
      refine hK.out _ _ (fun _ h => h) ?_
      clear hK K
      try simp only [Act.put, List.setIfInBounds_toArray, List.set_cons_zero, List.set_cons_succ]
      refine take_p 10 17 (.string (tq ++ txt [z])) rfl rfl (by kernel_rfl) (by kernel_rfl) (by kernel_rfl) (fun _ _ _ h => h) rfl (fun w => by go_simp) ?_
      try simp only [List.setIfInBounds_toArray, List.set_cons_zero, List.set_cons_succ]
      refine take_p 11 4 (.string (tq ++ txt [z])) rfl rfl (by kernel_rfl) (by kernel_rfl) (by kernel_rfl) (fun _ _ _ h => h) rfl (fun w => by go_simp) ?_
      try simp only [List.setIfInBounds_toArray, List.set_cons_zero, List.set_cons_succ]
      refine done_f (by kernel_rfl) ?_ _
      go_wp2
      go_ret
      exact ⟨by rw [HT.out]; rfl, HBX.out⟩
    · go_simp
      refine hK.out _ _ (fun _ h => h) ?_
      clear hK K
      try simp only [Act.put, List.setIfInBounds_toArray, List.set_cons_zero, List.set_cons_succ]
      refine ready_f 4 (o := { dst := some 11, op := Op.call { callee := Callee.value (Operand.func 58), args := #[Operand.tmp 8, Operand.tmp 10], argTypes := #[127, 3] }, type := 9, pos := "ref.go:23", after := #[{ on := 1, ground := Ground.data }, { on := 3, ground := Ground.data }], guard := none }) (by kernel_rfl) rfl (fun K hK => ?_)
      go_simp
      refine (ih _).out.mono ?_
      rintro e w1 ⟨rfl, hb1⟩
      refine hK.out _ _ (fun _ h => h) ?_
      clear hK K
      try simp only [Act.put, List.setIfInBounds_toArray, List.set_cons_zero, List.set_cons_succ]
      have HBX := hide1 (((Below.refl w.heap.size w).alloc (Nat.le_refl _) (.cells #[.int .u8 (z : Int)] 5)).drew.trans (hb1.mono (by simp [World.drew])))
      clear hb1
      refine take_p 10 17 (.string (tq ++ txt [z])) rfl rfl (by kernel_rfl) (by kernel_rfl) (by kernel_rfl) (fun _ _ _ h => h) rfl (fun w => by go_simp) ?_
      try simp only [List.setIfInBounds_toArray, List.set_cons_zero, List.set_cons_succ]
      refine take_p 11 4 (.string (tq ++ txt [z])) rfl rfl (by kernel_rfl) (by kernel_rfl) (by kernel_rfl) (fun _ _ _ h => h) rfl (fun w => by go_simp) ?_
      try simp only [List.setIfInBounds_toArray, List.set_cons_zero, List.set_cons_succ]
      refine done_f (by kernel_rfl) ?_ _
      go_wp2
      go_ret
      exact ⟨by rw [HT.out]; rfl, HBX.out⟩
--FX
end Go.Proofs.YtcadlcpccemkbaaGreatDoor.X
