/- What happens between two ends: a frame is doubled; a body is sent. -/
import Derived.Test.YtcadlcpccemkbaaEe
namespace Go.Proofs.Ytcadlcpccemkbaa
open Go.RowKit
set_option maxRecDepth 100000
attribute [local go_sem] not_any

def Es.mv4 (S : Es) (W pick : Nat) : Es := if (S.ls (2 + W)).length = 0 ∨ 60 ≤ (S.ls (2 + W)).length then S else S.lst (2 + W) (S.ls (2 + W) ++ [(S.ls (2 + W)).getD (S.pk W pick) ByteArray.empty])
/- a body is sent -/
def Es.snd (S : Es) (W : Nat) (b : ByteArray) : Es := if (S.L W).sendC b = 0 then (S.lnk W ((S.L W).send b)).lst (4 + W) (S.ls (4 + W) ++ [b]) else S.lnk W ((S.L W).send b)
def Es.mv0 (S : Es) (W : Nat) (b : ByteArray) : Es := (S.snd W b).fl W

set_option maxHeartbeats 2000000 in
theorem move4_0 {N B e n : Nat} {p : Nat → Nat} {vl : Nat → Value} {Fp : Nat → Nat → Prop} {S : Es} {w : World} (h : Em B e p vl Fp n S w) (hS : S.Ok N) (hN : N + 1000 < 4294967296) (hn : n < 1000000) (who : Int) (pick : Nat) (hpk : pick < 256) (body : ByteArray) (hw : who % 2 = 0) (hbd : body.size ≤ 100) :
    Calls Try.prog 6 #[.pointer (some ⟨e, 0, none⟩), .agg #[.int .i64 4, .int .i64 who, .int .u8 (pick : Int), .string body]] w fun x w' => x = .returned (.bool true) ∧ Ebx B e (n + 1) (S.mv4 0 pick) w w' := by
  have H := hide1 h
  have HS := hide1 hS
  have HN := hide1 hN
  have Hn := hide1 hn
  have HBD := hide1 hbd
  have hwb : bits BinOp.and IntKind.i64 who 1 = 0 := by rw [i64_and1]; exact hw
  obtain ⟨L0, _⟩ := h.ls 2 (by omega) (by omega)
  obtain ⟨ta, tc, htv⟩ := L0.form
  obtain ⟨tn, htn⟩ : ∃ k, (S.ls 2).length = k := ⟨_, rfl⟩
  rw [htn] at htv
  have HTN := hide1 htn
  have htn60 : tn ≤ 60 := by have := (hS.way 2 (by omega) (by omega)).1; omega
  obtain ⟨P, hP⟩ : ∃ P : World → Prop, P = fun w' => Ebx B e (n + 1) (S.mv4 0 pick) w w' := ⟨_, rfl⟩
  have HP : Hid (∀ w', Ebx B e (n + 1) (S.mv4 0 pick) w w' → P w') := fun w' h => by rw [hP]; exact h
  suffices hs : Calls Try.prog 6 #[.pointer (some ⟨e, 0, none⟩), .agg #[.int .i64 4, .int .i64 who, .int .u8 (pick : Int), .string body]] w fun x w' => x = .returned (.bool true) ∧ P w' by rw [hP] at hs; exact hs
  clear hP h hS hN hn hw hbd htn L0
  have HTV := hide1 htv
  clear htv
  by_cases htp : tn = 0
  · subst htp
    go_enter Try.func6, Try.ntmps6
    go_upto_region 1 with (fail)
    generalize hX : World.alloc w _ = W0
    have B0 : Hid (Below w.heap.size w W0) := by rw [← hX]; exact below1 _
    have RM := hide1 (hX ▸ heap_alloc_new w _)
    obtain ⟨gm, hgm⟩ : ∃ g, w.heap.size = g := ⟨_, rfl⟩
    rw [hgm] at RM ⊢
    clear hX
    have E0 := hide1 (H.out.below B0.out (Nat.le_refl _))
    obtain ⟨m0, m1, m2, m3⟩ : W0.cell? ⟨gm, 0, none⟩ = some (.int .i64 4) ∧ W0.cell? ⟨gm, 1, none⟩ = some (.int .i64 who) ∧ W0.cell? ⟨gm, 2, none⟩ = some (.int .u8 (pick : Int)) ∧ W0.cell? ⟨gm, 3, none⟩ = some (.string body) := ⟨by rw [cell_of_row _ gm 0 _ _ _ RM.out]; rfl, by rw [cell_of_row _ gm 1 _ _ _ RM.out]; rfl, by rw [cell_of_row _ gm 2 _ _ _ RM.out]; rfl, by rw [cell_of_row _ gm 3 _ _ _ RM.out]; rfl⟩
    have cT := (box13 E0.out.row).1.2.2.1
    rw [HTV.out] at cT
    have HGM := hide1 hgm
    clear hgm
    have fin := hide1 (HP.out _ ⟨_, _, _, (by rw [Es.mv4, if_pos (.inl HTN.out)]; exact E0.out.mono (Nat.le_succ n)), B0.out.mono H.out.hB⟩)
    clear E0
    go_wp2
    go_ret
    exact ⟨rfl, fin.out⟩
  · have htp0 : (0 : Int) < (tn : Int) := by omega
    have htpb : ¬ ((tn : Int) = 0) := by omega
    obtain ⟨kk, hkk⟩ : ∃ k, pick % tn = k := ⟨_, rfl⟩
    have hkt : kk < tn := by rw [← hkk]; exact Nat.mod_lt _ (by omega)
    have hk1 : (pick : Int) % (tn : Int) = (kk : Int) := by rw [← hkk]; exact pick_mod.1
    have hk2 : Int.tmod (pick : Int) (tn : Int) = (kk : Int) := by rw [← hkk]; exact pick_mod.2
    have HKK := hide1 hkk
    have HKT := hide1 hkt
    clear hkk
    go_enter Try.func6, Try.ntmps6
    go_upto_region 1 with (fail)
    generalize hX : World.alloc w _ = W0
    have B0 : Hid (Below w.heap.size w W0) := by rw [← hX]; exact below1 _
    have RM := hide1 (hX ▸ heap_alloc_new w _)
    obtain ⟨gm, hgm⟩ : ∃ g, w.heap.size = g := ⟨_, rfl⟩
    rw [hgm] at RM ⊢
    clear hX
    have E0 := hide1 (H.out.below B0.out (Nat.le_refl _))
    obtain ⟨m0, m1, m2, m3⟩ : W0.cell? ⟨gm, 0, none⟩ = some (.int .i64 4) ∧ W0.cell? ⟨gm, 1, none⟩ = some (.int .i64 who) ∧ W0.cell? ⟨gm, 2, none⟩ = some (.int .u8 (pick : Int)) ∧ W0.cell? ⟨gm, 3, none⟩ = some (.string body) := ⟨by rw [cell_of_row _ gm 0 _ _ _ RM.out]; rfl, by rw [cell_of_row _ gm 1 _ _ _ RM.out]; rfl, by rw [cell_of_row _ gm 2 _ _ _ RM.out]; rfl, by rw [cell_of_row _ gm 3 _ _ _ RM.out]; rfl⟩
    have cT := (box13 E0.out.row).1.2.2.1
    rw [HTV.out] at cT
    have HGM := hide1 hgm
    clear hgm
    by_cases h60 : tn < 60
    · have h60i : (tn : Int) < 60 := by omega
      obtain ⟨LT, LTF⟩ := E0.out.ls 2 (by omega) (by omega)
      have LT' := LT
      obtain ⟨g, c9, hg9, hck, _, hgl, _, hcap⟩ := LT'.cell (j := kk) (by have := HTN.out; omega)
      have hg9' := HTV.out.symm.trans hg9
      rw [HTN.out] at hg9' hcap
      cases hg9'
      have HLT := hide1 LT
      rw [HTV.out] at HLT
      have CK := hide1 hck
      have HGL := hide1 hgl
      obtain ⟨t, ht⟩ : ∃ t, (S.ls 2).getD kk ByteArray.empty = t := ⟨_, rfl⟩
      rw [ht] at CK
      have HT := hide1 ht
      clear LT LT' hg9 LTF hck hgl hcap ht
      go_upto_region 29 with (fail)
      refine region_f (F := [8, 12]) (S := fun X => X.cell? ⟨g, kk, none⟩ = some (.string t) ∧ g < X.heap.size) (by kernel_rfl) ⟨CK.out, HGL.out⟩ (fun hS => ?_)
      have EU : Hid (Em B e p vl Fp n S (World.drew W0)) := E0.out.below (Below.refl _ _).drew (Nat.le_refl _)
      have LU : Hid (Lst B (World.drew W0) (.slice (some ⟨g, 0, none⟩) tn tc) (S.ls 2)) := HLT.out
      have BU : Hid (Below B w (World.drew W0)) := (B0.out.mono H.out.hB).drew
      generalize World.drew W0 = WU at hS EU LU BU ⊢
      refine take_p 0 198 (.pointer (some ⟨e, 0, none⟩)) rfl rfl (by kernel_rfl) (by kernel_rfl) (by kernel_rfl) (fun _ _ _ h => h) rfl (fun w => by go_simp) ?_
      try simp only [List.setIfInBounds_toArray, List.set_cons_zero, List.set_cons_succ]
      refine take_p 1 199 (.int .i64 0) rfl rfl (by kernel_rfl) (by kernel_rfl) (by kernel_rfl) (fun _ _ _ h => h) rfl (fun w => by go_simp) ?_
      try simp only [List.setIfInBounds_toArray, List.set_cons_zero, List.set_cons_succ]
      refine take_p 2 200 (.slice (some ⟨g, 0, none⟩) tn tc) rfl rfl (by kernel_rfl) (by kernel_rfl) (by kernel_rfl) (fun _ _ _ h => h) rfl (fun w => by go_simp) ?_
      try simp only [List.setIfInBounds_toArray, List.set_cons_zero, List.set_cons_succ]
      refine take_p 3 201 (.slice (some ⟨g, 0, none⟩) tn tc) rfl rfl (by kernel_rfl) (by kernel_rfl) (by kernel_rfl) (fun _ _ _ h => h) rfl (fun w => by go_simp) ?_
      try simp only [List.setIfInBounds_toArray, List.set_cons_zero, List.set_cons_succ]
      refine take_p 4 202 (.int .i64 (kk : Int)) rfl rfl (by kernel_rfl) (by kernel_rfl) (by kernel_rfl) (fun _ _ _ h => h) rfl (fun w => by go_simp) ?_
      try simp only [List.setIfInBounds_toArray, List.set_cons_zero, List.set_cons_succ]
      refine take_p 5 203 (.pointer (some ⟨g, kk, none⟩)) rfl rfl (by kernel_rfl) (by kernel_rfl) (by kernel_rfl) (fun _ _ _ h => h) rfl (fun w => by go_simp) ?_
      try simp only [List.setIfInBounds_toArray, List.set_cons_zero, List.set_cons_succ]
      refine take_f 6 204 (.string t) [7, 8, 11, 12] rfl rfl (by kernel_rfl) (by kernel_rfl) (by kernel_rfl) (by kernel_rfl) (by kernel_rfl) (by kernel_rfl) (fun _ _ _ h => h) rfl (fun w hSw => by obtain ⟨g0, g1⟩ := hSw; go_simp) hS ?_
      try simp only [List.setIfInBounds_toArray, List.set_cons_zero, List.set_cons_succ]
      refine take_p 9 207 (.pointer (some ⟨e, 0, none⟩)) rfl rfl (by kernel_rfl) (by kernel_rfl) (by kernel_rfl) (fun _ _ _ h => h) rfl (fun w => by go_simp) ?_
      try simp only [List.setIfInBounds_toArray, List.set_cons_zero, List.set_cons_succ]
      refine take_p 10 208 (.pointer (some ⟨e, 2, none⟩)) rfl rfl (by kernel_rfl) (by kernel_rfl) (by kernel_rfl) (fun _ _ _ h => h) rfl (fun w => by go_simp) ?_
      try simp only [List.setIfInBounds_toArray, List.set_cons_zero, List.set_cons_succ]
      refine ready_f 7 (o := { dst := some 205, op := Op.buildSlice 31 1 #[(0, Operand.tmp 204)], type := 31, pos := "law.go:146", after := #[{ on := 6, ground := Ground.data }], guard := none }) (by kernel_rfl) rfl (fun K hK => ?_)
      go_simp
      refine hK.out _ _ (fun _ h => ⟨((below1 _).cell (p := ⟨g, kk, none⟩) h.2).trans h.1, Nat.lt_of_lt_of_le h.2 (below1 _).size⟩) ?_
      clear hK K
      try simp only [Act.put, List.setIfInBounds_toArray, List.set_cons_zero, List.set_cons_succ]
      have RC := hide1 (Rdl.one WU t)
      have E1 := hide1 (EU.out.below (below1 (.cells #[.string t] 9)) (Nat.le_refl _))
      have L1 := hide1 (LU.out.below (below1 (.cells #[.string t] 9)) (Nat.le_refl _))
      have B1 : Hid (Below B w (WU.alloc (.cells #[.string t] 9))) := BU.out.alloc EU.out.hB _
      generalize WU.alloc (.cells #[.string t] 9) = W1 at RC E1 L1 B1 ⊢
      clear EU LU BU hS
      refine ready_f 8 (o := { dst := some 206, op := Op.call { callee := Callee.builtin Builtin.append, args := #[Operand.tmp 200, Operand.tmp 205], argTypes := #[31, 31] }, type := 31, pos := "law.go:146", after := #[{ on := 2, ground := Ground.data }, { on := 7, ground := Ground.data }], guard := none }) (by kernel_rfl) rfl (fun K hK => ?_)
      rw [if_pos (by rfl)]
      refine wp_append_lst _ _ rfl rfl rfl L1.out RC.out (by have := HTN.out; simp; omega) (by have := E1.out.hB; omega) ?_
      intro v3 W3 ho hg hf
      refine hK.out _ _ (fun h => absurd (by decide) h) ?_
      clear hK K
      try simp only [Act.put, List.setIfInBounds_toArray, List.set_cons_zero, List.set_cons_succ]
      have K3 : Hid (Kp (fun g => (vl 2).ownBlock = some g) W1 W3) := by have h9 := Kp.ofGrown hg; rw [← HTV.out] at h9; exact h9
      have F3 : Hid (∀ g, v3.ownBlock = some g → (vl 2).ownBlock = some g ∨ W1.heap.size ≤ g) := by unfold Hid; rw [HTV.out]; exact hf
      have r3 := (K3.out.block e (lt_heap E1.out.row) (fun e9 => E1.out.dis 2 8 (by omega) (by omega) (by omega) e (((E1.out.ls 2 (by omega) (by omega)).2 e).2 e9) ((E1.out.box e).2 rfl))).trans E1.out.row
      have HO := hide1 ho
      obtain ⟨a3, c3, hv3⟩ := ho.form
      obtain ⟨n3, hn3⟩ : ∃ n, (S.ls 2 ++ [t]).length = n := ⟨_, rfl⟩
      rw [hn3] at hv3
      subst hv3
      obtain ⟨E6, B6⟩ := E1.out.list (i := 2) (by omega) (by omega) HO.out K3.out F3.out (by rw [heap_setCell_same _ e 2 _ _ _ r3]; rfl)
      have HE6 := hide1 E6
      have HB6 := hide1 (B1.out.trans B6)
      have k0 := (box13 r3).1.2.2.1
      have f0 := (box13 r3).2.2 2
      clear ho hg hf hn3 RC E6 B6 r3 E1 L1 B1 K3 F3 HO
      refine take_p 11 209 (.pointer (some ⟨e, 2, none⟩)) rfl rfl (by kernel_rfl) (by kernel_rfl) (by kernel_rfl) (fun _ _ _ h => h) rfl (fun w => by go_simp) ?_
      try simp only [List.setIfInBounds_toArray, List.set_cons_zero, List.set_cons_succ]
      refine ready_f 12 (o := { dst := none, op := Op.store 31 (Operand.tmp 209) (Operand.tmp 206), type := 0, pos := "law.go:146", after := #[{ on := 11, ground := Ground.data }, { on := 8, ground := Ground.data }, { on := 8, ground := Ground.chain }, { on := 0, ground := Ground.phase }, { on := 1, ground := Ground.phase }, { on := 2, ground := Ground.phase }, { on := 3, ground := Ground.phase }, { on := 4, ground := Ground.phase }, { on := 5, ground := Ground.phase }, { on := 6, ground := Ground.phase }, { on := 7, ground := Ground.phase }, { on := 8, ground := Ground.phase }], guard := none }) (by kernel_rfl) rfl (fun K hK => ?_)
      go_simp
      refine hK.out _ _ (fun h => absurd (by decide) h) ?_
      clear hK K
      generalize W3.setCell ⟨e, 2, none⟩ (.slice a3 n3 c3) = W6 at HE6 HB6 ⊢
      clear k0 f0
      refine done_f (by kernel_rfl) ?_ _
      have fin := hide1 (HP.out W6 ⟨_, _, _, (by have hl : (S.ls (2 + 0)).length = tn := HTN.out; rw [Es.mv4, if_neg (by rw [hl]; omega), Es.pk, hl, HKK.out, show (S.ls (2 + 0)).getD kk ByteArray.empty = t from HT.out]; exact HE6.out.mono (Nat.le_succ n)), HB6.out⟩)
      clear HE6 HB6
      go_wp2
      go_ret
      exact ⟨rfl, fin.out⟩
    · have h60i : ¬ (tn : Int) < 60 := by omega
      have fin := hide1 (HP.out _ ⟨_, _, _, (by have hl : (S.ls (2 + 0)).length = tn := HTN.out; rw [Es.mv4, if_pos (.inr (by rw [hl]; omega))]; exact E0.out.mono (Nat.le_succ n)), B0.out.mono H.out.hB⟩)
      clear E0
      go_wp2
      go_ret
      exact ⟨rfl, fin.out⟩

set_option maxHeartbeats 2000000 in
theorem move4_1 {N B e n : Nat} {p : Nat → Nat} {vl : Nat → Value} {Fp : Nat → Nat → Prop} {S : Es} {w : World} (h : Em B e p vl Fp n S w) (hS : S.Ok N) (hN : N + 1000 < 4294967296) (hn : n < 1000000) (who : Int) (pick : Nat) (hpk : pick < 256) (body : ByteArray) (hw : who % 2 = 1) (hbd : body.size ≤ 100) :
    Calls Try.prog 6 #[.pointer (some ⟨e, 0, none⟩), .agg #[.int .i64 4, .int .i64 who, .int .u8 (pick : Int), .string body]] w fun x w' => x = .returned (.bool true) ∧ Ebx B e (n + 1) (S.mv4 1 pick) w w' := by
  have H := hide1 h
  have HS := hide1 hS
  have HN := hide1 hN
  have Hn := hide1 hn
  have HBD := hide1 hbd
  have hwb : bits BinOp.and IntKind.i64 who 1 = 1 := by rw [i64_and1]; exact hw
  obtain ⟨L0, _⟩ := h.ls 3 (by omega) (by omega)
  obtain ⟨ta, tc, htv⟩ := L0.form
  obtain ⟨tn, htn⟩ : ∃ k, (S.ls 3).length = k := ⟨_, rfl⟩
  rw [htn] at htv
  have HTN := hide1 htn
  have htn60 : tn ≤ 60 := by have := (hS.way 3 (by omega) (by omega)).1; omega
  obtain ⟨P, hP⟩ : ∃ P : World → Prop, P = fun w' => Ebx B e (n + 1) (S.mv4 1 pick) w w' := ⟨_, rfl⟩
  have HP : Hid (∀ w', Ebx B e (n + 1) (S.mv4 1 pick) w w' → P w') := fun w' h => by rw [hP]; exact h
  suffices hs : Calls Try.prog 6 #[.pointer (some ⟨e, 0, none⟩), .agg #[.int .i64 4, .int .i64 who, .int .u8 (pick : Int), .string body]] w fun x w' => x = .returned (.bool true) ∧ P w' by rw [hP] at hs; exact hs
  clear hP h hS hN hn hw hbd htn L0
  have HTV := hide1 htv
  clear htv
  by_cases htp : tn = 0
  · subst htp
    go_enter Try.func6, Try.ntmps6
    go_upto_region 1 with (fail)
    generalize hX : World.alloc w _ = W0
    have B0 : Hid (Below w.heap.size w W0) := by rw [← hX]; exact below1 _
    have RM := hide1 (hX ▸ heap_alloc_new w _)
    obtain ⟨gm, hgm⟩ : ∃ g, w.heap.size = g := ⟨_, rfl⟩
    rw [hgm] at RM ⊢
    clear hX
    have E0 := hide1 (H.out.below B0.out (Nat.le_refl _))
    obtain ⟨m0, m1, m2, m3⟩ : W0.cell? ⟨gm, 0, none⟩ = some (.int .i64 4) ∧ W0.cell? ⟨gm, 1, none⟩ = some (.int .i64 who) ∧ W0.cell? ⟨gm, 2, none⟩ = some (.int .u8 (pick : Int)) ∧ W0.cell? ⟨gm, 3, none⟩ = some (.string body) := ⟨by rw [cell_of_row _ gm 0 _ _ _ RM.out]; rfl, by rw [cell_of_row _ gm 1 _ _ _ RM.out]; rfl, by rw [cell_of_row _ gm 2 _ _ _ RM.out]; rfl, by rw [cell_of_row _ gm 3 _ _ _ RM.out]; rfl⟩
    have cT := (box13 E0.out.row).1.2.2.2
    rw [HTV.out] at cT
    have HGM := hide1 hgm
    clear hgm
    have fin := hide1 (HP.out _ ⟨_, _, _, (by rw [Es.mv4, if_pos (.inl HTN.out)]; exact E0.out.mono (Nat.le_succ n)), B0.out.mono H.out.hB⟩)
    clear E0
    go_wp2
    go_ret
    exact ⟨rfl, fin.out⟩
  · have htp0 : (0 : Int) < (tn : Int) := by omega
    have htpb : ¬ ((tn : Int) = 0) := by omega
    obtain ⟨kk, hkk⟩ : ∃ k, pick % tn = k := ⟨_, rfl⟩
    have hkt : kk < tn := by rw [← hkk]; exact Nat.mod_lt _ (by omega)
    have hk1 : (pick : Int) % (tn : Int) = (kk : Int) := by rw [← hkk]; exact pick_mod.1
    have hk2 : Int.tmod (pick : Int) (tn : Int) = (kk : Int) := by rw [← hkk]; exact pick_mod.2
    have HKK := hide1 hkk
    have HKT := hide1 hkt
    clear hkk
    go_enter Try.func6, Try.ntmps6
    go_upto_region 1 with (fail)
    generalize hX : World.alloc w _ = W0
    have B0 : Hid (Below w.heap.size w W0) := by rw [← hX]; exact below1 _
    have RM := hide1 (hX ▸ heap_alloc_new w _)
    obtain ⟨gm, hgm⟩ : ∃ g, w.heap.size = g := ⟨_, rfl⟩
    rw [hgm] at RM ⊢
    clear hX
    have E0 := hide1 (H.out.below B0.out (Nat.le_refl _))
    obtain ⟨m0, m1, m2, m3⟩ : W0.cell? ⟨gm, 0, none⟩ = some (.int .i64 4) ∧ W0.cell? ⟨gm, 1, none⟩ = some (.int .i64 who) ∧ W0.cell? ⟨gm, 2, none⟩ = some (.int .u8 (pick : Int)) ∧ W0.cell? ⟨gm, 3, none⟩ = some (.string body) := ⟨by rw [cell_of_row _ gm 0 _ _ _ RM.out]; rfl, by rw [cell_of_row _ gm 1 _ _ _ RM.out]; rfl, by rw [cell_of_row _ gm 2 _ _ _ RM.out]; rfl, by rw [cell_of_row _ gm 3 _ _ _ RM.out]; rfl⟩
    have cT := (box13 E0.out.row).1.2.2.2
    rw [HTV.out] at cT
    have HGM := hide1 hgm
    clear hgm
    by_cases h60 : tn < 60
    · have h60i : (tn : Int) < 60 := by omega
      obtain ⟨LT, LTF⟩ := E0.out.ls 3 (by omega) (by omega)
      have LT' := LT
      obtain ⟨g, c9, hg9, hck, _, hgl, _, hcap⟩ := LT'.cell (j := kk) (by have := HTN.out; omega)
      have hg9' := HTV.out.symm.trans hg9
      rw [HTN.out] at hg9' hcap
      cases hg9'
      have HLT := hide1 LT
      rw [HTV.out] at HLT
      have CK := hide1 hck
      have HGL := hide1 hgl
      obtain ⟨t, ht⟩ : ∃ t, (S.ls 3).getD kk ByteArray.empty = t := ⟨_, rfl⟩
      rw [ht] at CK
      have HT := hide1 ht
      clear LT LT' hg9 LTF hck hgl hcap ht
      go_upto_region 29 with (fail)
      refine region_f (F := [8, 12]) (S := fun X => X.cell? ⟨g, kk, none⟩ = some (.string t) ∧ g < X.heap.size) (by kernel_rfl) ⟨CK.out, HGL.out⟩ (fun hS => ?_)
      have EU : Hid (Em B e p vl Fp n S (World.drew W0)) := E0.out.below (Below.refl _ _).drew (Nat.le_refl _)
      have LU : Hid (Lst B (World.drew W0) (.slice (some ⟨g, 0, none⟩) tn tc) (S.ls 3)) := HLT.out
      have BU : Hid (Below B w (World.drew W0)) := (B0.out.mono H.out.hB).drew
      generalize World.drew W0 = WU at hS EU LU BU ⊢
      refine take_p 0 198 (.pointer (some ⟨e, 0, none⟩)) rfl rfl (by kernel_rfl) (by kernel_rfl) (by kernel_rfl) (fun _ _ _ h => h) rfl (fun w => by go_simp) ?_
      try simp only [List.setIfInBounds_toArray, List.set_cons_zero, List.set_cons_succ]
      refine take_p 1 199 (.int .i64 1) rfl rfl (by kernel_rfl) (by kernel_rfl) (by kernel_rfl) (fun _ _ _ h => h) rfl (fun w => by go_simp) ?_
      try simp only [List.setIfInBounds_toArray, List.set_cons_zero, List.set_cons_succ]
      refine take_p 2 200 (.slice (some ⟨g, 0, none⟩) tn tc) rfl rfl (by kernel_rfl) (by kernel_rfl) (by kernel_rfl) (fun _ _ _ h => h) rfl (fun w => by go_simp) ?_
      try simp only [List.setIfInBounds_toArray, List.set_cons_zero, List.set_cons_succ]
      refine take_p 3 201 (.slice (some ⟨g, 0, none⟩) tn tc) rfl rfl (by kernel_rfl) (by kernel_rfl) (by kernel_rfl) (fun _ _ _ h => h) rfl (fun w => by go_simp) ?_
      try simp only [List.setIfInBounds_toArray, List.set_cons_zero, List.set_cons_succ]
      refine take_p 4 202 (.int .i64 (kk : Int)) rfl rfl (by kernel_rfl) (by kernel_rfl) (by kernel_rfl) (fun _ _ _ h => h) rfl (fun w => by go_simp) ?_
      try simp only [List.setIfInBounds_toArray, List.set_cons_zero, List.set_cons_succ]
      refine take_p 5 203 (.pointer (some ⟨g, kk, none⟩)) rfl rfl (by kernel_rfl) (by kernel_rfl) (by kernel_rfl) (fun _ _ _ h => h) rfl (fun w => by go_simp) ?_
      try simp only [List.setIfInBounds_toArray, List.set_cons_zero, List.set_cons_succ]
      refine take_f 6 204 (.string t) [7, 8, 11, 12] rfl rfl (by kernel_rfl) (by kernel_rfl) (by kernel_rfl) (by kernel_rfl) (by kernel_rfl) (by kernel_rfl) (fun _ _ _ h => h) rfl (fun w hSw => by obtain ⟨g0, g1⟩ := hSw; go_simp) hS ?_
      try simp only [List.setIfInBounds_toArray, List.set_cons_zero, List.set_cons_succ]
      refine take_p 9 207 (.pointer (some ⟨e, 0, none⟩)) rfl rfl (by kernel_rfl) (by kernel_rfl) (by kernel_rfl) (fun _ _ _ h => h) rfl (fun w => by go_simp) ?_
      try simp only [List.setIfInBounds_toArray, List.set_cons_zero, List.set_cons_succ]
      refine take_p 10 208 (.pointer (some ⟨e, 2, none⟩)) rfl rfl (by kernel_rfl) (by kernel_rfl) (by kernel_rfl) (fun _ _ _ h => h) rfl (fun w => by go_simp) ?_
      try simp only [List.setIfInBounds_toArray, List.set_cons_zero, List.set_cons_succ]
      refine ready_f 7 (o := { dst := some 205, op := Op.buildSlice 31 1 #[(0, Operand.tmp 204)], type := 31, pos := "law.go:146", after := #[{ on := 6, ground := Ground.data }], guard := none }) (by kernel_rfl) rfl (fun K hK => ?_)
      go_simp
      refine hK.out _ _ (fun _ h => ⟨((below1 _).cell (p := ⟨g, kk, none⟩) h.2).trans h.1, Nat.lt_of_lt_of_le h.2 (below1 _).size⟩) ?_
      clear hK K
      try simp only [Act.put, List.setIfInBounds_toArray, List.set_cons_zero, List.set_cons_succ]
      have RC := hide1 (Rdl.one WU t)
      have E1 := hide1 (EU.out.below (below1 (.cells #[.string t] 9)) (Nat.le_refl _))
      have L1 := hide1 (LU.out.below (below1 (.cells #[.string t] 9)) (Nat.le_refl _))
      have B1 : Hid (Below B w (WU.alloc (.cells #[.string t] 9))) := BU.out.alloc EU.out.hB _
      generalize WU.alloc (.cells #[.string t] 9) = W1 at RC E1 L1 B1 ⊢
      clear EU LU BU hS
      refine ready_f 8 (o := { dst := some 206, op := Op.call { callee := Callee.builtin Builtin.append, args := #[Operand.tmp 200, Operand.tmp 205], argTypes := #[31, 31] }, type := 31, pos := "law.go:146", after := #[{ on := 2, ground := Ground.data }, { on := 7, ground := Ground.data }], guard := none }) (by kernel_rfl) rfl (fun K hK => ?_)
      rw [if_pos (by rfl)]
      refine wp_append_lst _ _ rfl rfl rfl L1.out RC.out (by have := HTN.out; simp; omega) (by have := E1.out.hB; omega) ?_
      intro v3 W3 ho hg hf
      refine hK.out _ _ (fun h => absurd (by decide) h) ?_
      clear hK K
      try simp only [Act.put, List.setIfInBounds_toArray, List.set_cons_zero, List.set_cons_succ]
      have K3 : Hid (Kp (fun g => (vl 3).ownBlock = some g) W1 W3) := by have h9 := Kp.ofGrown hg; rw [← HTV.out] at h9; exact h9
      have F3 : Hid (∀ g, v3.ownBlock = some g → (vl 3).ownBlock = some g ∨ W1.heap.size ≤ g) := by unfold Hid; rw [HTV.out]; exact hf
      have r3 := (K3.out.block e (lt_heap E1.out.row) (fun e9 => E1.out.dis 3 8 (by omega) (by omega) (by omega) e (((E1.out.ls 3 (by omega) (by omega)).2 e).2 e9) ((E1.out.box e).2 rfl))).trans E1.out.row
      have HO := hide1 ho
      obtain ⟨a3, c3, hv3⟩ := ho.form
      obtain ⟨n3, hn3⟩ : ∃ n, (S.ls 3 ++ [t]).length = n := ⟨_, rfl⟩
      rw [hn3] at hv3
      subst hv3
      obtain ⟨E6, B6⟩ := E1.out.list (i := 3) (by omega) (by omega) HO.out K3.out F3.out (by rw [heap_setCell_same _ e 3 _ _ _ r3]; rfl)
      have HE6 := hide1 E6
      have HB6 := hide1 (B1.out.trans B6)
      have k0 := (box13 r3).1.2.2.2
      have f0 := (box13 r3).2.2 3
      clear ho hg hf hn3 RC E6 B6 r3 E1 L1 B1 K3 F3 HO
      refine take_p 11 209 (.pointer (some ⟨e, 3, none⟩)) rfl rfl (by kernel_rfl) (by kernel_rfl) (by kernel_rfl) (fun _ _ _ h => h) rfl (fun w => by go_simp) ?_
      try simp only [List.setIfInBounds_toArray, List.set_cons_zero, List.set_cons_succ]
      refine ready_f 12 (o := { dst := none, op := Op.store 31 (Operand.tmp 209) (Operand.tmp 206), type := 0, pos := "law.go:146", after := #[{ on := 11, ground := Ground.data }, { on := 8, ground := Ground.data }, { on := 8, ground := Ground.chain }, { on := 0, ground := Ground.phase }, { on := 1, ground := Ground.phase }, { on := 2, ground := Ground.phase }, { on := 3, ground := Ground.phase }, { on := 4, ground := Ground.phase }, { on := 5, ground := Ground.phase }, { on := 6, ground := Ground.phase }, { on := 7, ground := Ground.phase }, { on := 8, ground := Ground.phase }], guard := none }) (by kernel_rfl) rfl (fun K hK => ?_)
      go_simp
      refine hK.out _ _ (fun h => absurd (by decide) h) ?_
      clear hK K
      generalize W3.setCell ⟨e, 3, none⟩ (.slice a3 n3 c3) = W6 at HE6 HB6 ⊢
      clear k0 f0
      refine done_f (by kernel_rfl) ?_ _
      have fin := hide1 (HP.out W6 ⟨_, _, _, (by have hl : (S.ls (2 + 1)).length = tn := HTN.out; rw [Es.mv4, if_neg (by rw [hl]; omega), Es.pk, hl, HKK.out, show (S.ls (2 + 1)).getD kk ByteArray.empty = t from HT.out]; exact HE6.out.mono (Nat.le_succ n)), HB6.out⟩)
      clear HE6 HB6
      go_wp2
      go_ret
      exact ⟨rfl, fin.out⟩
    · have h60i : ¬ (tn : Int) < 60 := by omega
      have fin := hide1 (HP.out _ ⟨_, _, _, (by have hl : (S.ls (2 + 1)).length = tn := HTN.out; rw [Es.mv4, if_pos (.inr (by rw [hl]; omega))]; exact E0.out.mono (Nat.le_succ n)), B0.out.mono H.out.hB⟩)
      clear E0
      go_wp2
      go_ret
      exact ⟨rfl, fin.out⟩

set_option maxHeartbeats 2000000 in
theorem move0_0 {N B e n : Nat} {p : Nat → Nat} {vl : Nat → Value} {Fp : Nat → Nat → Prop} {S : Es} {w : World} (h : Em B e p vl Fp n S w) (hS : S.Ok N) (hN : N + 2000 < 900000) (hn : n < 1000000) (who : Int) (pick : Nat) (hpk : pick < 256) (body : ByteArray) (hw : who % 2 = 0) (hbd : body.size ≤ 100) :
    Calls Try.prog 6 #[.pointer (some ⟨e, 0, none⟩), .agg #[.int .i64 0, .int .i64 who, .int .u8 (pick : Int), .string body]] w fun x w' => x = .returned (.bool true) ∧ Ebx B e (n + 1) (S.mv0 0 body) w w' := by
  have H := hide1 h
  have HS := hide1 hS
  have HNN : Hid (N + 1 + 1000 < 4294967296) := by unfold Hid; omega
  have HN := hide1 hN
  have HNM := hide1 hN
  have Hn := hide1 hn
  have HBD := hide1 hbd
  have hwb : bits BinOp.and IntKind.i64 who 1 = 0 := by rw [i64_and1]; exact hw
  obtain ⟨L0, _⟩ := h.ls 2 (by omega) (by omega)
  obtain ⟨ta, tc, htv⟩ := L0.form
  obtain ⟨tn, htn⟩ : ∃ k, (S.ls 2).length = k := ⟨_, rfl⟩
  rw [htn] at htv
  have HTN := hide1 htn
  have htn60 : tn ≤ 60 := by have := (hS.way 2 (by omega) (by omega)).1; omega
  obtain ⟨P, hP⟩ : ∃ P : World → Prop, P = fun w' => Ebx B e (n + 1) (S.mv0 0 body) w w' := ⟨_, rfl⟩
  have HP : Hid (∀ w', Ebx B e (n + 1) (S.mv0 0 body) w w' → P w') := fun w' h => by rw [hP]; exact h
  suffices hs : Calls Try.prog 6 #[.pointer (some ⟨e, 0, none⟩), .agg #[.int .i64 0, .int .i64 who, .int .u8 (pick : Int), .string body]] w fun x w' => x = .returned (.bool true) ∧ P w' by rw [hP] at hs; exact hs
  clear hP h hS hN hn hw hbd htn L0
  have HTV := hide1 htv
  clear htv
  by_cases htp : tn = 0
  · subst htp
    go_enter Try.func6, Try.ntmps6
    go_upto_region 1 with (fail)
    generalize hX : World.alloc w _ = W0
    have B0 : Hid (Below w.heap.size w W0) := by rw [← hX]; exact below1 _
    have RM := hide1 (hX ▸ heap_alloc_new w _)
    obtain ⟨gm, hgm⟩ : ∃ g, w.heap.size = g := ⟨_, rfl⟩
    rw [hgm] at RM ⊢
    clear hX
    have E0 := hide1 (H.out.below B0.out (Nat.le_refl _))
    obtain ⟨m0, m1, m2, m3⟩ : W0.cell? ⟨gm, 0, none⟩ = some (.int .i64 0) ∧ W0.cell? ⟨gm, 1, none⟩ = some (.int .i64 who) ∧ W0.cell? ⟨gm, 2, none⟩ = some (.int .u8 (pick : Int)) ∧ W0.cell? ⟨gm, 3, none⟩ = some (.string body) := ⟨by rw [cell_of_row _ gm 0 _ _ _ RM.out]; rfl, by rw [cell_of_row _ gm 1 _ _ _ RM.out]; rfl, by rw [cell_of_row _ gm 2 _ _ _ RM.out]; rfl, by rw [cell_of_row _ gm 3 _ _ _ RM.out]; rfl⟩
    have cT := (box13 E0.out.row).1.2.2.1
    rw [HTV.out] at cT
    have HGM := hide1 hgm
    clear hgm
    have CM := hide1 m3
    have HN1 : Hid (N + 1 + 1000 < 4294967296) := HNN.out
    go_upto_region 8 with (fail)
    clear m0 m1 m2 m3 cT
    refine region_f (F := [8]) (S := fun X => X.cell? ⟨e, 0, none⟩ = some (.pointer (some ⟨p 0, 0, none⟩)) ∧ X.cell? ⟨gm, 3, none⟩ = some (.string body)) (by kernel_rfl) ⟨(box13 E0.out.row).1.1, CM.out⟩ (fun hS => ?_)
    have EU : Hid (Em B e p vl Fp n S (World.drew W0)) := E0.out.below (Below.refl _ _).drew (Nat.le_refl _)
    have BU : Hid (Below B w (World.drew W0)) := (B0.out.mono H.out.hB).drew
    have RMU : Hid ((World.drew W0).heap[gm]? = _) := RM.out
    have HGMU : Hid (∀ j g, j < 9 → Fp j g → g ≠ gm) := fun j g hj hg => by have h1 := (H.out.fb hj hg).2; have h2 := HGM.out; omega
    generalize World.drew W0 = WU at hS EU BU RMU ⊢
    refine take_p 0 36 (.pointer (some ⟨e, 0, none⟩)) rfl rfl (by kernel_rfl) (by kernel_rfl) (by kernel_rfl) (fun _ _ _ h => h) rfl (fun w => by go_simp) ?_
    try simp only [List.setIfInBounds_toArray, List.set_cons_zero, List.set_cons_succ]
    refine take_p 1 37 (.int .i64 0) rfl rfl (by kernel_rfl) (by kernel_rfl) (by kernel_rfl) (fun _ _ _ h => h) rfl (fun w => by go_simp) ?_
    try simp only [List.setIfInBounds_toArray, List.set_cons_zero, List.set_cons_succ]
    refine take_p 2 38 (.pointer (some ⟨e, 0, none⟩)) rfl rfl (by kernel_rfl) (by kernel_rfl) (by kernel_rfl) (fun _ _ _ h => h) rfl (fun w => by go_simp) ?_
    try simp only [List.setIfInBounds_toArray, List.set_cons_zero, List.set_cons_succ]
    refine take_p 3 39 (.pointer (some ⟨e, 0, none⟩)) rfl rfl (by kernel_rfl) (by kernel_rfl) (by kernel_rfl) (fun _ _ _ h => h) rfl (fun w => by go_simp) ?_
    try simp only [List.setIfInBounds_toArray, List.set_cons_zero, List.set_cons_succ]
    refine take_p 4 40 (.pointer (some ⟨e, 0, none⟩)) rfl rfl (by kernel_rfl) (by kernel_rfl) (by kernel_rfl) (fun _ _ _ h => h) rfl (fun w => by go_simp) ?_
    try simp only [List.setIfInBounds_toArray, List.set_cons_zero, List.set_cons_succ]
    refine take_f 5 41 (.pointer (some ⟨p 0, 0, none⟩)) [8, 9] rfl rfl (by kernel_rfl) (by kernel_rfl) (by kernel_rfl) (by kernel_rfl) (by kernel_rfl) (by kernel_rfl) (fun _ _ _ h => h) rfl (fun w hSw => by obtain ⟨g0, g1⟩ := hSw; go_simp) hS ?_
    try simp only [List.setIfInBounds_toArray, List.set_cons_zero, List.set_cons_succ]
    refine take_p 6 42 (.pointer (some ⟨gm, 3, none⟩)) rfl rfl (by kernel_rfl) (by kernel_rfl) (by kernel_rfl) (fun _ _ _ h => h) rfl (fun w => by go_simp) ?_
    try simp only [List.setIfInBounds_toArray, List.set_cons_zero, List.set_cons_succ]
    refine take_f 7 43 (.string body) [8, 9] rfl rfl (by kernel_rfl) (by kernel_rfl) (by kernel_rfl) (by kernel_rfl) (by kernel_rfl) (by kernel_rfl) (fun _ _ _ h => h) rfl (fun w hSw => by obtain ⟨g0, g1⟩ := hSw; go_simp) hS ?_
    try simp only [List.setIfInBounds_toArray, List.set_cons_zero, List.set_cons_succ]
    obtain ⟨lv, lm, lu, hlk, hlf⟩ := EU.out.lk 0 (by omega)
    have kS := hide1 (lsend_any hlk EU.out.hB (HS.out.L 0 (by omega)).own0 (HS.out.L 0 (by omega)).Q64 body (by have := HBD.out; omega))
    refine ready_f 8 (o := { dst := some 44, op := Op.call { callee := Callee.value (Operand.func 13), args := #[Operand.tmp 41, Operand.tmp 43], argTypes := #[23, 9] }, type := 25, pos := "law.go:121", after := #[{ on := 5, ground := Ground.data }, { on := 7, ground := Ground.data }], guard := none }) (by kernel_rfl) rfl (fun K hK => ?_)
    go_simp
    refine kS.out.mono ?_
    rintro x9 W1 ⟨z, rfl, hE, v1, m1, u1, k1, k2, k3⟩
    refine hK.out _ _ (fun h => absurd (by decide) h) ?_
    clear hK K
    try simp only [Act.put, List.setIfInBounds_toArray, List.set_cons_zero, List.set_cons_succ]
    have E1 := hide1 (EU.out.link (by omega) hlf (Nat.le_refl _) k1 k2 k3)
    have B1 : Hid (Below B w W1) := BU.out.trans (k2.below EU.out.hB fun g hg => (hlk.flt hg).1)
    have RM1 := hide1 ((k2.block gm (lt_heap RMU.out) (fun e9 => HGMU.out 0 gm (by omega) ((hlf gm).2 e9) rfl)).trans RMU.out)
    obtain ⟨sc, hsc⟩ : ∃ c, (S.L 0).sendC body = c := ⟨_, rfl⟩
    rw [hsc] at hE
    have HSC := hide1 hsc
    obtain ⟨Fp1, hFp1⟩ : ∃ F, upd Fp 0 (Lf (p 0) v1 m1 u1) = F := ⟨_, rfl⟩
    rw [hFp1] at E1
    have HGM1 : Hid (∀ j g, j < 9 → Fp1 j g → g ≠ gm) := fun j g hj hg e9 => by
      rw [← hFp1] at hg
      by_cases hjw : j = 0
      · subst hjw
        rw [upd_same] at hg
        rcases k3 g hg with h9 | h9
        · exact HGMU.out 0 g (by omega) ((hlf g).2 h9) e9
        · have := lt_heap RMU.out
          omega
      · rw [upd_other _ _ hjw] at hg
        exact HGMU.out j g hj hg e9
    clear k1 k2 k3 hlk hlf kS hS EU BU RMU hsc HGMU hFp1
    rcases hE with ⟨h1, h2⟩ | ⟨h1, pp, h2, _⟩
    · subst h2
      have hs0 : sc = 0 := by omega
      subst hs0
      refine take_p 9 45 (.bool true) rfl rfl (by kernel_rfl) (by kernel_rfl) (by kernel_rfl) (fun _ _ _ h => h) rfl (fun w => by go_simp) ?_
      try simp only [List.setIfInBounds_toArray, List.set_cons_zero, List.set_cons_succ]
      refine done_f (by kernel_rfl) ?_ _
      obtain ⟨LS, _⟩ := E1.out.ls 4 (by omega) (by omega)
      change Lst B W1 (vl 4) (S.ls 4) at LS
      obtain ⟨sa, sc9, hsv⟩ := LS.form
      obtain ⟨sn, hsn⟩ : ∃ k, (S.ls 4).length = k := ⟨_, rfl⟩
      rw [hsn] at hsv
      have HSV := hide1 hsv
      have HLS := hide1 LS
      rw [hsv] at HLS
      have CS := hide1 ((box13 E1.out.row).2.1.1)
      rw [hsv] at CS
      have CM1 : Hid (W1.cell? ⟨gm, 3, none⟩ = some (.string body)) := by unfold Hid; rw [cell_of_row _ gm 3 _ _ _ RM1.out]; rfl
      clear LS hsv hsn h1
      go_upto_region 9 with (fail)
      refine region_f (F := [11, 15]) (S := fun X => X.cell? ⟨e, 4, none⟩ = some (.slice sa sn sc9) ∧ X.cell? ⟨gm, 3, none⟩ = some (.string body) ∧ e < X.heap.size ∧ gm < X.heap.size) (by kernel_rfl) ⟨CS.out, CM1.out, lt_heap E1.out.row, lt_heap RM1.out⟩ (fun hS => ?_)
      have EU : Hid (Em B e p vl Fp1 n ⟨upd S.L 0 ((S.L 0).send body), S.ls⟩ (World.drew W1)) := E1.out.below (Below.refl _ _).drew (Nat.le_refl _)
      have LU : Hid (Lst B (World.drew W1) (.slice sa sn sc9) (S.ls 4)) := HLS.out
      have BU : Hid (Below B w (World.drew W1)) := B1.out.drew
      generalize World.drew W1 = WU at hS EU LU BU ⊢
      refine take_p 0 46 (.pointer (some ⟨e, 0, none⟩)) rfl rfl (by kernel_rfl) (by kernel_rfl) (by kernel_rfl) (fun _ _ _ h => h) rfl (fun w => by go_simp) ?_
      try simp only [List.setIfInBounds_toArray, List.set_cons_zero, List.set_cons_succ]
      refine take_p 1 47 (.int .i64 0) rfl rfl (by kernel_rfl) (by kernel_rfl) (by kernel_rfl) (fun _ _ _ h => h) rfl (fun w => by go_simp) ?_
      try simp only [List.setIfInBounds_toArray, List.set_cons_zero, List.set_cons_succ]
      refine take_p 2 48 (.pointer (some ⟨e, 0, none⟩)) rfl rfl (by kernel_rfl) (by kernel_rfl) (by kernel_rfl) (fun _ _ _ h => h) rfl (fun w => by go_simp) ?_
      try simp only [List.setIfInBounds_toArray, List.set_cons_zero, List.set_cons_succ]
      refine take_p 3 49 (.int .i64 0) rfl rfl (by kernel_rfl) (by kernel_rfl) (by kernel_rfl) (fun _ _ _ h => h) rfl (fun w => by go_simp) ?_
      try simp only [List.setIfInBounds_toArray, List.set_cons_zero, List.set_cons_succ]
      refine take_p 4 50 (.pointer (some ⟨e, 0, none⟩)) rfl rfl (by kernel_rfl) (by kernel_rfl) (by kernel_rfl) (fun _ _ _ h => h) rfl (fun w => by go_simp) ?_
      try simp only [List.setIfInBounds_toArray, List.set_cons_zero, List.set_cons_succ]
      refine take_p 5 51 (.pointer (some ⟨e, 4, none⟩)) rfl rfl (by kernel_rfl) (by kernel_rfl) (by kernel_rfl) (fun _ _ _ h => h) rfl (fun w => by go_simp) ?_
      try simp only [List.setIfInBounds_toArray, List.set_cons_zero, List.set_cons_succ]
      refine take_p 6 52 (.pointer (some ⟨e, 4, none⟩)) rfl rfl (by kernel_rfl) (by kernel_rfl) (by kernel_rfl) (fun _ _ _ h => h) rfl (fun w => by go_simp) ?_
      try simp only [List.setIfInBounds_toArray, List.set_cons_zero, List.set_cons_succ]
      refine take_f 7 53 (.slice sa sn sc9) [11, 14, 15] rfl rfl (by kernel_rfl) (by kernel_rfl) (by kernel_rfl) (by kernel_rfl) (by kernel_rfl) (by kernel_rfl) (fun _ _ _ h => h) rfl (fun w hSw => by obtain ⟨g0, g1, _, _⟩ := hSw; go_simp) hS ?_
      try simp only [List.setIfInBounds_toArray, List.set_cons_zero, List.set_cons_succ]
      refine take_p 8 54 (.pointer (some ⟨gm, 3, none⟩)) rfl rfl (by kernel_rfl) (by kernel_rfl) (by kernel_rfl) (fun _ _ _ h => h) rfl (fun w => by go_simp) ?_
      try simp only [List.setIfInBounds_toArray, List.set_cons_zero, List.set_cons_succ]
      refine take_f 9 55 (.string body) [10, 11, 14, 15] rfl rfl (by kernel_rfl) (by kernel_rfl) (by kernel_rfl) (by kernel_rfl) (by kernel_rfl) (by kernel_rfl) (fun _ _ _ h => h) rfl (fun w hSw => by obtain ⟨g0, g1, _, _⟩ := hSw; go_simp) hS ?_
      try simp only [List.setIfInBounds_toArray, List.set_cons_zero, List.set_cons_succ]
      refine take_p 12 58 (.pointer (some ⟨e, 0, none⟩)) rfl rfl (by kernel_rfl) (by kernel_rfl) (by kernel_rfl) (fun _ _ _ h => h) rfl (fun w => by go_simp) ?_
      try simp only [List.setIfInBounds_toArray, List.set_cons_zero, List.set_cons_succ]
      refine take_p 13 59 (.pointer (some ⟨e, 4, none⟩)) rfl rfl (by kernel_rfl) (by kernel_rfl) (by kernel_rfl) (fun _ _ _ h => h) rfl (fun w => by go_simp) ?_
      try simp only [List.setIfInBounds_toArray, List.set_cons_zero, List.set_cons_succ]
      refine ready_f 10 (o := { dst := some 56, op := Op.buildSlice 31 1 #[(0, Operand.tmp 55)], type := 31, pos := "law.go:122", after := #[{ on := 9, ground := Ground.data }], guard := none }) (by kernel_rfl) rfl (fun K hK => ?_)
      go_simp
      refine hK.out _ _ (fun _ h => ⟨((below1 _).cell (p := ⟨e, _, none⟩) h.2.2.1).trans h.1, ((below1 _).cell (p := ⟨gm, _, none⟩) h.2.2.2).trans h.2.1, Nat.lt_of_lt_of_le h.2.2.1 (below1 _).size, Nat.lt_of_lt_of_le h.2.2.2 (below1 _).size⟩) ?_
      clear hK K
      try simp only [Act.put, List.setIfInBounds_toArray, List.set_cons_zero, List.set_cons_succ]
      have RC := hide1 (Rdl.one WU body)
      have E2 := hide1 (EU.out.below (below1 (.cells #[.string body] 9)) (Nat.le_refl _))
      have L2 := hide1 (LU.out.below (below1 (.cells #[.string body] 9)) (Nat.le_refl _))
      have B2 : Hid (Below B w (WU.alloc (.cells #[.string body] 9))) := BU.out.alloc EU.out.hB _
      generalize WU.alloc (.cells #[.string body] 9) = W2 at RC E2 L2 B2 ⊢
      clear EU LU BU hS
      refine ready_f 11 (o := { dst := some 57, op := Op.call { callee := Callee.builtin Builtin.append, args := #[Operand.tmp 53, Operand.tmp 56], argTypes := #[31, 31] }, type := 31, pos := "law.go:122", after := #[{ on := 7, ground := Ground.data }, { on := 10, ground := Ground.data }], guard := none }) (by kernel_rfl) rfl (fun K hK => ?_)
      rw [if_pos (by rfl)]
      refine wp_append_lst _ _ rfl rfl rfl L2.out RC.out (by have h1 := HS.out.oth 4 (by omega) (by omega); have h2 := HNM.out; simp; omega) (by have := E2.out.hB; omega) ?_
      intro v3 W3 ho hg hf
      refine hK.out _ _ (fun h => absurd (by decide) h) ?_
      clear hK K
      try simp only [Act.put, List.setIfInBounds_toArray, List.set_cons_zero, List.set_cons_succ]
      have K3 : Hid (Kp (fun g => (vl 4).ownBlock = some g) W2 W3) := by have h9 := Kp.ofGrown hg; rw [← HSV.out] at h9; exact h9
      have F3 : Hid (∀ g, v3.ownBlock = some g → (vl 4).ownBlock = some g ∨ W2.heap.size ≤ g) := by unfold Hid; rw [HSV.out]; exact hf
      have r3 := (K3.out.block e (lt_heap E2.out.row) (fun e9 => E2.out.dis 4 8 (by omega) (by omega) (by omega) e (((E2.out.ls 4 (by omega) (by omega)).2 e).2 e9) ((E2.out.box e).2 rfl))).trans E2.out.row
      have HO := hide1 ho
      obtain ⟨a3, c3, hv3⟩ := ho.form
      obtain ⟨n3, hn3⟩ : ∃ n, (S.ls 4 ++ [body]).length = n := ⟨_, rfl⟩
      rw [hn3] at hv3
      subst hv3
      obtain ⟨E6, B6⟩ := E2.out.list (i := 4) (by omega) (by omega) HO.out K3.out F3.out (by rw [heap_setCell_same _ e 4 _ _ _ r3]; rfl)
      have HE6 := hide1 E6
      have HB6 := hide1 (B2.out.trans B6)
      have k0 := (box13 r3).2.1.1
      have f0 := (box13 r3).2.2 4
      clear ho hg hf hn3 RC E6 B6 r3 E2 L2 B2 K3 F3 HO
      refine take_p 14 60 (.pointer (some ⟨e, 4, none⟩)) rfl rfl (by kernel_rfl) (by kernel_rfl) (by kernel_rfl) (fun _ _ _ h => h) rfl (fun w => by go_simp) ?_
      try simp only [List.setIfInBounds_toArray, List.set_cons_zero, List.set_cons_succ]
      refine ready_f 15 (o := { dst := none, op := Op.store 31 (Operand.tmp 60) (Operand.tmp 57), type := 0, pos := "law.go:122", after := #[{ on := 14, ground := Ground.data }, { on := 11, ground := Ground.data }, { on := 11, ground := Ground.chain }, { on := 0, ground := Ground.phase }, { on := 1, ground := Ground.phase }, { on := 2, ground := Ground.phase }, { on := 3, ground := Ground.phase }, { on := 4, ground := Ground.phase }, { on := 5, ground := Ground.phase }, { on := 6, ground := Ground.phase }, { on := 7, ground := Ground.phase }, { on := 8, ground := Ground.phase }, { on := 9, ground := Ground.phase }, { on := 10, ground := Ground.phase }, { on := 11, ground := Ground.phase }], guard := none }) (by kernel_rfl) rfl (fun K hK => ?_)
      go_simp
      refine hK.out _ _ (fun h => absurd (by decide) h) ?_
      clear hK K
      generalize W3.setCell ⟨e, 4, none⟩ (.slice a3 n3 c3) = W6 at HE6 HB6 ⊢
      clear k0 f0
      refine done_f (by kernel_rfl) ?_ _
      have cL := (box13 HE6.out.row).1.1
      obtain ⟨lv, lm, lu, hlk, hlf⟩ := HE6.out.lk 0 (by omega)
      have kT := hide1 (lflush_any hlk HE6.out.hB (by have h9 := (HS.out.L 0 (by omega)).send body; exact h9) HN1.out)
      go_wp2_with fail
      refine kT.out.mono ?_
      rintro x9 V1 ⟨r, rfl, hf⟩
      obtain ⟨Fp3, E3, B3, R3, _, D3⟩ := HE6.out.told (by omega) (Nat.le_refl _) hlk hlf hf
      have kP := hide1 (put0_any E3 R3 D3 (by exact (HS.out.way 3 (by omega) (by omega)).1) (Ls.flushF_len (by have h9 := (HS.out.L 0 (by omega)).send body; exact h9)))
      have BB := hide1 (HB6.out.trans B3)
      clear kT hf E3 B3 R3 D3 hlk hlf cL
      go_wp2_with fail
      refine kP.out.mono ?_
      rintro x9 V2 ⟨rfl, p2, vl2, Fp2, E2, B2⟩
      have fin := hide1 (HP.out V2 ⟨p2, vl2, Fp2, (by rw [Es.mv0, Es.snd, if_pos HSC.out]; exact E2.mono (Nat.le_succ _)), BB.out.trans B2⟩)
      clear E2 B2 kP
      go_wp2
      go_ret
      exact ⟨rfl, fin.out⟩
    · subst h2
      have hs0 : sc ≠ 0 := by omega
      have HS0 := hide1 hs0
      clear h1 hs0
      refine take_p 9 45 (.bool false) rfl rfl (by kernel_rfl) (by kernel_rfl) (by kernel_rfl) (fun _ _ _ h => h) rfl (fun w => by go_simp) ?_
      try simp only [List.setIfInBounds_toArray, List.set_cons_zero, List.set_cons_succ]
      refine done_f (by kernel_rfl) ?_ _
      have cL := (box13 E1.out.row).1.1
      obtain ⟨lv, lm, lu, hlk, hlf⟩ := E1.out.lk 0 (by omega)
      have kT := hide1 (lflush_any hlk E1.out.hB (by have h9 := (HS.out.L 0 (by omega)).send body; exact h9) HN1.out)
      go_wp2_with fail
      refine kT.out.mono ?_
      rintro x9 V1 ⟨r, rfl, hf⟩
      obtain ⟨Fp3, E3, B3, R3, _, D3⟩ := E1.out.told (by omega) (Nat.le_refl _) hlk hlf hf
      have kP := hide1 (put0_any E3 R3 D3 (by exact (HS.out.way 3 (by omega) (by omega)).1) (Ls.flushF_len (by have h9 := (HS.out.L 0 (by omega)).send body; exact h9)))
      have BB := hide1 (B1.out.trans B3)
      clear kT hf E3 B3 R3 D3 hlk hlf cL
      go_wp2_with fail
      refine kP.out.mono ?_
      rintro x9 V2 ⟨rfl, p2, vl2, Fp2, E2, B2⟩
      have fin := hide1 (HP.out V2 ⟨p2, vl2, Fp2, (by rw [Es.mv0, Es.snd, if_neg (by rw [HSC.out]; exact HS0.out)]; exact E2.mono (Nat.le_succ _)), BB.out.trans B2⟩)
      clear E2 B2 kP
      go_wp2
      go_ret
      exact ⟨rfl, fin.out⟩
  · have htp0 : (0 : Int) < (tn : Int) := by omega
    have htpb : ¬ ((tn : Int) = 0) := by omega
    go_enter Try.func6, Try.ntmps6
    go_upto_region 1 with (fail)
    generalize hX : World.alloc w _ = W0
    have B0 : Hid (Below w.heap.size w W0) := by rw [← hX]; exact below1 _
    have RM := hide1 (hX ▸ heap_alloc_new w _)
    obtain ⟨gm, hgm⟩ : ∃ g, w.heap.size = g := ⟨_, rfl⟩
    rw [hgm] at RM ⊢
    clear hX
    have E0 := hide1 (H.out.below B0.out (Nat.le_refl _))
    obtain ⟨m0, m1, m2, m3⟩ : W0.cell? ⟨gm, 0, none⟩ = some (.int .i64 0) ∧ W0.cell? ⟨gm, 1, none⟩ = some (.int .i64 who) ∧ W0.cell? ⟨gm, 2, none⟩ = some (.int .u8 (pick : Int)) ∧ W0.cell? ⟨gm, 3, none⟩ = some (.string body) := ⟨by rw [cell_of_row _ gm 0 _ _ _ RM.out]; rfl, by rw [cell_of_row _ gm 1 _ _ _ RM.out]; rfl, by rw [cell_of_row _ gm 2 _ _ _ RM.out]; rfl, by rw [cell_of_row _ gm 3 _ _ _ RM.out]; rfl⟩
    have cT := (box13 E0.out.row).1.2.2.1
    rw [HTV.out] at cT
    have HGM := hide1 hgm
    clear hgm
    have CM := hide1 m3
    have HN1 : Hid (N + 1 + 1000 < 4294967296) := HNN.out
    go_upto_region 8 with (fail)
    clear m0 m1 m2 m3 cT
    refine region_f (F := [8]) (S := fun X => X.cell? ⟨e, 0, none⟩ = some (.pointer (some ⟨p 0, 0, none⟩)) ∧ X.cell? ⟨gm, 3, none⟩ = some (.string body)) (by kernel_rfl) ⟨(box13 E0.out.row).1.1, CM.out⟩ (fun hS => ?_)
    have EU : Hid (Em B e p vl Fp n S (World.drew W0)) := E0.out.below (Below.refl _ _).drew (Nat.le_refl _)
    have BU : Hid (Below B w (World.drew W0)) := (B0.out.mono H.out.hB).drew
    have RMU : Hid ((World.drew W0).heap[gm]? = _) := RM.out
    have HGMU : Hid (∀ j g, j < 9 → Fp j g → g ≠ gm) := fun j g hj hg => by have h1 := (H.out.fb hj hg).2; have h2 := HGM.out; omega
    generalize World.drew W0 = WU at hS EU BU RMU ⊢
    refine take_p 0 36 (.pointer (some ⟨e, 0, none⟩)) rfl rfl (by kernel_rfl) (by kernel_rfl) (by kernel_rfl) (fun _ _ _ h => h) rfl (fun w => by go_simp) ?_
    try simp only [List.setIfInBounds_toArray, List.set_cons_zero, List.set_cons_succ]
    refine take_p 1 37 (.int .i64 0) rfl rfl (by kernel_rfl) (by kernel_rfl) (by kernel_rfl) (fun _ _ _ h => h) rfl (fun w => by go_simp) ?_
    try simp only [List.setIfInBounds_toArray, List.set_cons_zero, List.set_cons_succ]
    refine take_p 2 38 (.pointer (some ⟨e, 0, none⟩)) rfl rfl (by kernel_rfl) (by kernel_rfl) (by kernel_rfl) (fun _ _ _ h => h) rfl (fun w => by go_simp) ?_
    try simp only [List.setIfInBounds_toArray, List.set_cons_zero, List.set_cons_succ]
    refine take_p 3 39 (.pointer (some ⟨e, 0, none⟩)) rfl rfl (by kernel_rfl) (by kernel_rfl) (by kernel_rfl) (fun _ _ _ h => h) rfl (fun w => by go_simp) ?_
    try simp only [List.setIfInBounds_toArray, List.set_cons_zero, List.set_cons_succ]
    refine take_p 4 40 (.pointer (some ⟨e, 0, none⟩)) rfl rfl (by kernel_rfl) (by kernel_rfl) (by kernel_rfl) (fun _ _ _ h => h) rfl (fun w => by go_simp) ?_
    try simp only [List.setIfInBounds_toArray, List.set_cons_zero, List.set_cons_succ]
    refine take_f 5 41 (.pointer (some ⟨p 0, 0, none⟩)) [8, 9] rfl rfl (by kernel_rfl) (by kernel_rfl) (by kernel_rfl) (by kernel_rfl) (by kernel_rfl) (by kernel_rfl) (fun _ _ _ h => h) rfl (fun w hSw => by obtain ⟨g0, g1⟩ := hSw; go_simp) hS ?_
    try simp only [List.setIfInBounds_toArray, List.set_cons_zero, List.set_cons_succ]
    refine take_p 6 42 (.pointer (some ⟨gm, 3, none⟩)) rfl rfl (by kernel_rfl) (by kernel_rfl) (by kernel_rfl) (fun _ _ _ h => h) rfl (fun w => by go_simp) ?_
    try simp only [List.setIfInBounds_toArray, List.set_cons_zero, List.set_cons_succ]
    refine take_f 7 43 (.string body) [8, 9] rfl rfl (by kernel_rfl) (by kernel_rfl) (by kernel_rfl) (by kernel_rfl) (by kernel_rfl) (by kernel_rfl) (fun _ _ _ h => h) rfl (fun w hSw => by obtain ⟨g0, g1⟩ := hSw; go_simp) hS ?_
    try simp only [List.setIfInBounds_toArray, List.set_cons_zero, List.set_cons_succ]
    obtain ⟨lv, lm, lu, hlk, hlf⟩ := EU.out.lk 0 (by omega)
    have kS := hide1 (lsend_any hlk EU.out.hB (HS.out.L 0 (by omega)).own0 (HS.out.L 0 (by omega)).Q64 body (by have := HBD.out; omega))
    refine ready_f 8 (o := { dst := some 44, op := Op.call { callee := Callee.value (Operand.func 13), args := #[Operand.tmp 41, Operand.tmp 43], argTypes := #[23, 9] }, type := 25, pos := "law.go:121", after := #[{ on := 5, ground := Ground.data }, { on := 7, ground := Ground.data }], guard := none }) (by kernel_rfl) rfl (fun K hK => ?_)
    go_simp
    refine kS.out.mono ?_
    rintro x9 W1 ⟨z, rfl, hE, v1, m1, u1, k1, k2, k3⟩
    refine hK.out _ _ (fun h => absurd (by decide) h) ?_
    clear hK K
    try simp only [Act.put, List.setIfInBounds_toArray, List.set_cons_zero, List.set_cons_succ]
    have E1 := hide1 (EU.out.link (by omega) hlf (Nat.le_refl _) k1 k2 k3)
    have B1 : Hid (Below B w W1) := BU.out.trans (k2.below EU.out.hB fun g hg => (hlk.flt hg).1)
    have RM1 := hide1 ((k2.block gm (lt_heap RMU.out) (fun e9 => HGMU.out 0 gm (by omega) ((hlf gm).2 e9) rfl)).trans RMU.out)
    obtain ⟨sc, hsc⟩ : ∃ c, (S.L 0).sendC body = c := ⟨_, rfl⟩
    rw [hsc] at hE
    have HSC := hide1 hsc
    obtain ⟨Fp1, hFp1⟩ : ∃ F, upd Fp 0 (Lf (p 0) v1 m1 u1) = F := ⟨_, rfl⟩
    rw [hFp1] at E1
    have HGM1 : Hid (∀ j g, j < 9 → Fp1 j g → g ≠ gm) := fun j g hj hg e9 => by
      rw [← hFp1] at hg
      by_cases hjw : j = 0
      · subst hjw
        rw [upd_same] at hg
        rcases k3 g hg with h9 | h9
        · exact HGMU.out 0 g (by omega) ((hlf g).2 h9) e9
        · have := lt_heap RMU.out
          omega
      · rw [upd_other _ _ hjw] at hg
        exact HGMU.out j g hj hg e9
    clear k1 k2 k3 hlk hlf kS hS EU BU RMU hsc HGMU hFp1
    rcases hE with ⟨h1, h2⟩ | ⟨h1, pp, h2, _⟩
    · subst h2
      have hs0 : sc = 0 := by omega
      subst hs0
      refine take_p 9 45 (.bool true) rfl rfl (by kernel_rfl) (by kernel_rfl) (by kernel_rfl) (fun _ _ _ h => h) rfl (fun w => by go_simp) ?_
      try simp only [List.setIfInBounds_toArray, List.set_cons_zero, List.set_cons_succ]
      refine done_f (by kernel_rfl) ?_ _
      obtain ⟨LS, _⟩ := E1.out.ls 4 (by omega) (by omega)
      change Lst B W1 (vl 4) (S.ls 4) at LS
      obtain ⟨sa, sc9, hsv⟩ := LS.form
      obtain ⟨sn, hsn⟩ : ∃ k, (S.ls 4).length = k := ⟨_, rfl⟩
      rw [hsn] at hsv
      have HSV := hide1 hsv
      have HLS := hide1 LS
      rw [hsv] at HLS
      have CS := hide1 ((box13 E1.out.row).2.1.1)
      rw [hsv] at CS
      have CM1 : Hid (W1.cell? ⟨gm, 3, none⟩ = some (.string body)) := by unfold Hid; rw [cell_of_row _ gm 3 _ _ _ RM1.out]; rfl
      clear LS hsv hsn h1
      go_upto_region 9 with (fail)
      refine region_f (F := [11, 15]) (S := fun X => X.cell? ⟨e, 4, none⟩ = some (.slice sa sn sc9) ∧ X.cell? ⟨gm, 3, none⟩ = some (.string body) ∧ e < X.heap.size ∧ gm < X.heap.size) (by kernel_rfl) ⟨CS.out, CM1.out, lt_heap E1.out.row, lt_heap RM1.out⟩ (fun hS => ?_)
      have EU : Hid (Em B e p vl Fp1 n ⟨upd S.L 0 ((S.L 0).send body), S.ls⟩ (World.drew W1)) := E1.out.below (Below.refl _ _).drew (Nat.le_refl _)
      have LU : Hid (Lst B (World.drew W1) (.slice sa sn sc9) (S.ls 4)) := HLS.out
      have BU : Hid (Below B w (World.drew W1)) := B1.out.drew
      generalize World.drew W1 = WU at hS EU LU BU ⊢
      refine take_p 0 46 (.pointer (some ⟨e, 0, none⟩)) rfl rfl (by kernel_rfl) (by kernel_rfl) (by kernel_rfl) (fun _ _ _ h => h) rfl (fun w => by go_simp) ?_
      try simp only [List.setIfInBounds_toArray, List.set_cons_zero, List.set_cons_succ]
      refine take_p 1 47 (.int .i64 0) rfl rfl (by kernel_rfl) (by kernel_rfl) (by kernel_rfl) (fun _ _ _ h => h) rfl (fun w => by go_simp) ?_
      try simp only [List.setIfInBounds_toArray, List.set_cons_zero, List.set_cons_succ]
      refine take_p 2 48 (.pointer (some ⟨e, 0, none⟩)) rfl rfl (by kernel_rfl) (by kernel_rfl) (by kernel_rfl) (fun _ _ _ h => h) rfl (fun w => by go_simp) ?_
      try simp only [List.setIfInBounds_toArray, List.set_cons_zero, List.set_cons_succ]
      refine take_p 3 49 (.int .i64 0) rfl rfl (by kernel_rfl) (by kernel_rfl) (by kernel_rfl) (fun _ _ _ h => h) rfl (fun w => by go_simp) ?_
      try simp only [List.setIfInBounds_toArray, List.set_cons_zero, List.set_cons_succ]
      refine take_p 4 50 (.pointer (some ⟨e, 0, none⟩)) rfl rfl (by kernel_rfl) (by kernel_rfl) (by kernel_rfl) (fun _ _ _ h => h) rfl (fun w => by go_simp) ?_
      try simp only [List.setIfInBounds_toArray, List.set_cons_zero, List.set_cons_succ]
      refine take_p 5 51 (.pointer (some ⟨e, 4, none⟩)) rfl rfl (by kernel_rfl) (by kernel_rfl) (by kernel_rfl) (fun _ _ _ h => h) rfl (fun w => by go_simp) ?_
      try simp only [List.setIfInBounds_toArray, List.set_cons_zero, List.set_cons_succ]
      refine take_p 6 52 (.pointer (some ⟨e, 4, none⟩)) rfl rfl (by kernel_rfl) (by kernel_rfl) (by kernel_rfl) (fun _ _ _ h => h) rfl (fun w => by go_simp) ?_
      try simp only [List.setIfInBounds_toArray, List.set_cons_zero, List.set_cons_succ]
      refine take_f 7 53 (.slice sa sn sc9) [11, 14, 15] rfl rfl (by kernel_rfl) (by kernel_rfl) (by kernel_rfl) (by kernel_rfl) (by kernel_rfl) (by kernel_rfl) (fun _ _ _ h => h) rfl (fun w hSw => by obtain ⟨g0, g1, _, _⟩ := hSw; go_simp) hS ?_
      try simp only [List.setIfInBounds_toArray, List.set_cons_zero, List.set_cons_succ]
      refine take_p 8 54 (.pointer (some ⟨gm, 3, none⟩)) rfl rfl (by kernel_rfl) (by kernel_rfl) (by kernel_rfl) (fun _ _ _ h => h) rfl (fun w => by go_simp) ?_
      try simp only [List.setIfInBounds_toArray, List.set_cons_zero, List.set_cons_succ]
      refine take_f 9 55 (.string body) [10, 11, 14, 15] rfl rfl (by kernel_rfl) (by kernel_rfl) (by kernel_rfl) (by kernel_rfl) (by kernel_rfl) (by kernel_rfl) (fun _ _ _ h => h) rfl (fun w hSw => by obtain ⟨g0, g1, _, _⟩ := hSw; go_simp) hS ?_
      try simp only [List.setIfInBounds_toArray, List.set_cons_zero, List.set_cons_succ]
      refine take_p 12 58 (.pointer (some ⟨e, 0, none⟩)) rfl rfl (by kernel_rfl) (by kernel_rfl) (by kernel_rfl) (fun _ _ _ h => h) rfl (fun w => by go_simp) ?_
      try simp only [List.setIfInBounds_toArray, List.set_cons_zero, List.set_cons_succ]
      refine take_p 13 59 (.pointer (some ⟨e, 4, none⟩)) rfl rfl (by kernel_rfl) (by kernel_rfl) (by kernel_rfl) (fun _ _ _ h => h) rfl (fun w => by go_simp) ?_
      try simp only [List.setIfInBounds_toArray, List.set_cons_zero, List.set_cons_succ]
      refine ready_f 10 (o := { dst := some 56, op := Op.buildSlice 31 1 #[(0, Operand.tmp 55)], type := 31, pos := "law.go:122", after := #[{ on := 9, ground := Ground.data }], guard := none }) (by kernel_rfl) rfl (fun K hK => ?_)
      go_simp
      refine hK.out _ _ (fun _ h => ⟨((below1 _).cell (p := ⟨e, _, none⟩) h.2.2.1).trans h.1, ((below1 _).cell (p := ⟨gm, _, none⟩) h.2.2.2).trans h.2.1, Nat.lt_of_lt_of_le h.2.2.1 (below1 _).size, Nat.lt_of_lt_of_le h.2.2.2 (below1 _).size⟩) ?_
      clear hK K
      try simp only [Act.put, List.setIfInBounds_toArray, List.set_cons_zero, List.set_cons_succ]
      have RC := hide1 (Rdl.one WU body)
      have E2 := hide1 (EU.out.below (below1 (.cells #[.string body] 9)) (Nat.le_refl _))
      have L2 := hide1 (LU.out.below (below1 (.cells #[.string body] 9)) (Nat.le_refl _))
      have B2 : Hid (Below B w (WU.alloc (.cells #[.string body] 9))) := BU.out.alloc EU.out.hB _
      generalize WU.alloc (.cells #[.string body] 9) = W2 at RC E2 L2 B2 ⊢
      clear EU LU BU hS
      refine ready_f 11 (o := { dst := some 57, op := Op.call { callee := Callee.builtin Builtin.append, args := #[Operand.tmp 53, Operand.tmp 56], argTypes := #[31, 31] }, type := 31, pos := "law.go:122", after := #[{ on := 7, ground := Ground.data }, { on := 10, ground := Ground.data }], guard := none }) (by kernel_rfl) rfl (fun K hK => ?_)
      rw [if_pos (by rfl)]
      refine wp_append_lst _ _ rfl rfl rfl L2.out RC.out (by have h1 := HS.out.oth 4 (by omega) (by omega); have h2 := HNM.out; simp; omega) (by have := E2.out.hB; omega) ?_
      intro v3 W3 ho hg hf
      refine hK.out _ _ (fun h => absurd (by decide) h) ?_
      clear hK K
      try simp only [Act.put, List.setIfInBounds_toArray, List.set_cons_zero, List.set_cons_succ]
      have K3 : Hid (Kp (fun g => (vl 4).ownBlock = some g) W2 W3) := by have h9 := Kp.ofGrown hg; rw [← HSV.out] at h9; exact h9
      have F3 : Hid (∀ g, v3.ownBlock = some g → (vl 4).ownBlock = some g ∨ W2.heap.size ≤ g) := by unfold Hid; rw [HSV.out]; exact hf
      have r3 := (K3.out.block e (lt_heap E2.out.row) (fun e9 => E2.out.dis 4 8 (by omega) (by omega) (by omega) e (((E2.out.ls 4 (by omega) (by omega)).2 e).2 e9) ((E2.out.box e).2 rfl))).trans E2.out.row
      have HO := hide1 ho
      obtain ⟨a3, c3, hv3⟩ := ho.form
      obtain ⟨n3, hn3⟩ : ∃ n, (S.ls 4 ++ [body]).length = n := ⟨_, rfl⟩
      rw [hn3] at hv3
      subst hv3
      obtain ⟨E6, B6⟩ := E2.out.list (i := 4) (by omega) (by omega) HO.out K3.out F3.out (by rw [heap_setCell_same _ e 4 _ _ _ r3]; rfl)
      have HE6 := hide1 E6
      have HB6 := hide1 (B2.out.trans B6)
      have k0 := (box13 r3).2.1.1
      have f0 := (box13 r3).2.2 4
      clear ho hg hf hn3 RC E6 B6 r3 E2 L2 B2 K3 F3 HO
      refine take_p 14 60 (.pointer (some ⟨e, 4, none⟩)) rfl rfl (by kernel_rfl) (by kernel_rfl) (by kernel_rfl) (fun _ _ _ h => h) rfl (fun w => by go_simp) ?_
      try simp only [List.setIfInBounds_toArray, List.set_cons_zero, List.set_cons_succ]
      refine ready_f 15 (o := { dst := none, op := Op.store 31 (Operand.tmp 60) (Operand.tmp 57), type := 0, pos := "law.go:122", after := #[{ on := 14, ground := Ground.data }, { on := 11, ground := Ground.data }, { on := 11, ground := Ground.chain }, { on := 0, ground := Ground.phase }, { on := 1, ground := Ground.phase }, { on := 2, ground := Ground.phase }, { on := 3, ground := Ground.phase }, { on := 4, ground := Ground.phase }, { on := 5, ground := Ground.phase }, { on := 6, ground := Ground.phase }, { on := 7, ground := Ground.phase }, { on := 8, ground := Ground.phase }, { on := 9, ground := Ground.phase }, { on := 10, ground := Ground.phase }, { on := 11, ground := Ground.phase }], guard := none }) (by kernel_rfl) rfl (fun K hK => ?_)
      go_simp
      refine hK.out _ _ (fun h => absurd (by decide) h) ?_
      clear hK K
      generalize W3.setCell ⟨e, 4, none⟩ (.slice a3 n3 c3) = W6 at HE6 HB6 ⊢
      clear k0 f0
      refine done_f (by kernel_rfl) ?_ _
      have cL := (box13 HE6.out.row).1.1
      obtain ⟨lv, lm, lu, hlk, hlf⟩ := HE6.out.lk 0 (by omega)
      have kT := hide1 (lflush_any hlk HE6.out.hB (by have h9 := (HS.out.L 0 (by omega)).send body; exact h9) HN1.out)
      go_wp2_with fail
      refine kT.out.mono ?_
      rintro x9 V1 ⟨r, rfl, hf⟩
      obtain ⟨Fp3, E3, B3, R3, _, D3⟩ := HE6.out.told (by omega) (Nat.le_refl _) hlk hlf hf
      have kP := hide1 (put0_any E3 R3 D3 (by exact (HS.out.way 3 (by omega) (by omega)).1) (Ls.flushF_len (by have h9 := (HS.out.L 0 (by omega)).send body; exact h9)))
      have BB := hide1 (HB6.out.trans B3)
      clear kT hf E3 B3 R3 D3 hlk hlf cL
      go_wp2_with fail
      refine kP.out.mono ?_
      rintro x9 V2 ⟨rfl, p2, vl2, Fp2, E2, B2⟩
      have fin := hide1 (HP.out V2 ⟨p2, vl2, Fp2, (by rw [Es.mv0, Es.snd, if_pos HSC.out]; exact E2.mono (Nat.le_succ _)), BB.out.trans B2⟩)
      clear E2 B2 kP
      go_wp2
      go_ret
      exact ⟨rfl, fin.out⟩
    · subst h2
      have hs0 : sc ≠ 0 := by omega
      have HS0 := hide1 hs0
      clear h1 hs0
      refine take_p 9 45 (.bool false) rfl rfl (by kernel_rfl) (by kernel_rfl) (by kernel_rfl) (fun _ _ _ h => h) rfl (fun w => by go_simp) ?_
      try simp only [List.setIfInBounds_toArray, List.set_cons_zero, List.set_cons_succ]
      refine done_f (by kernel_rfl) ?_ _
      have cL := (box13 E1.out.row).1.1
      obtain ⟨lv, lm, lu, hlk, hlf⟩ := E1.out.lk 0 (by omega)
      have kT := hide1 (lflush_any hlk E1.out.hB (by have h9 := (HS.out.L 0 (by omega)).send body; exact h9) HN1.out)
      go_wp2_with fail
      refine kT.out.mono ?_
      rintro x9 V1 ⟨r, rfl, hf⟩
      obtain ⟨Fp3, E3, B3, R3, _, D3⟩ := E1.out.told (by omega) (Nat.le_refl _) hlk hlf hf
      have kP := hide1 (put0_any E3 R3 D3 (by exact (HS.out.way 3 (by omega) (by omega)).1) (Ls.flushF_len (by have h9 := (HS.out.L 0 (by omega)).send body; exact h9)))
      have BB := hide1 (B1.out.trans B3)
      clear kT hf E3 B3 R3 D3 hlk hlf cL
      go_wp2_with fail
      refine kP.out.mono ?_
      rintro x9 V2 ⟨rfl, p2, vl2, Fp2, E2, B2⟩
      have fin := hide1 (HP.out V2 ⟨p2, vl2, Fp2, (by rw [Es.mv0, Es.snd, if_neg (by rw [HSC.out]; exact HS0.out)]; exact E2.mono (Nat.le_succ _)), BB.out.trans B2⟩)
      clear E2 B2 kP
      go_wp2
      go_ret
      exact ⟨rfl, fin.out⟩

set_option maxHeartbeats 2000000 in
theorem move0_1 {N B e n : Nat} {p : Nat → Nat} {vl : Nat → Value} {Fp : Nat → Nat → Prop} {S : Es} {w : World} (h : Em B e p vl Fp n S w) (hS : S.Ok N) (hN : N + 2000 < 900000) (hn : n < 1000000) (who : Int) (pick : Nat) (hpk : pick < 256) (body : ByteArray) (hw : who % 2 = 1) (hbd : body.size ≤ 100) :
    Calls Try.prog 6 #[.pointer (some ⟨e, 0, none⟩), .agg #[.int .i64 0, .int .i64 who, .int .u8 (pick : Int), .string body]] w fun x w' => x = .returned (.bool true) ∧ Ebx B e (n + 1) (S.mv0 1 body) w w' := by
  have H := hide1 h
  have HS := hide1 hS
  have HNN : Hid (N + 1 + 1000 < 4294967296) := by unfold Hid; omega
  have HN := hide1 hN
  have HNM := hide1 hN
  have Hn := hide1 hn
  have HBD := hide1 hbd
  have hwb : bits BinOp.and IntKind.i64 who 1 = 1 := by rw [i64_and1]; exact hw
  obtain ⟨L0, _⟩ := h.ls 3 (by omega) (by omega)
  obtain ⟨ta, tc, htv⟩ := L0.form
  obtain ⟨tn, htn⟩ : ∃ k, (S.ls 3).length = k := ⟨_, rfl⟩
  rw [htn] at htv
  have HTN := hide1 htn
  have htn60 : tn ≤ 60 := by have := (hS.way 3 (by omega) (by omega)).1; omega
  obtain ⟨P, hP⟩ : ∃ P : World → Prop, P = fun w' => Ebx B e (n + 1) (S.mv0 1 body) w w' := ⟨_, rfl⟩
  have HP : Hid (∀ w', Ebx B e (n + 1) (S.mv0 1 body) w w' → P w') := fun w' h => by rw [hP]; exact h
  suffices hs : Calls Try.prog 6 #[.pointer (some ⟨e, 0, none⟩), .agg #[.int .i64 0, .int .i64 who, .int .u8 (pick : Int), .string body]] w fun x w' => x = .returned (.bool true) ∧ P w' by rw [hP] at hs; exact hs
  clear hP h hS hN hn hw hbd htn L0
  have HTV := hide1 htv
  clear htv
  by_cases htp : tn = 0
  · subst htp
    go_enter Try.func6, Try.ntmps6
    go_upto_region 1 with (fail)
    generalize hX : World.alloc w _ = W0
    have B0 : Hid (Below w.heap.size w W0) := by rw [← hX]; exact below1 _
    have RM := hide1 (hX ▸ heap_alloc_new w _)
    obtain ⟨gm, hgm⟩ : ∃ g, w.heap.size = g := ⟨_, rfl⟩
    rw [hgm] at RM ⊢
    clear hX
    have E0 := hide1 (H.out.below B0.out (Nat.le_refl _))
    obtain ⟨m0, m1, m2, m3⟩ : W0.cell? ⟨gm, 0, none⟩ = some (.int .i64 0) ∧ W0.cell? ⟨gm, 1, none⟩ = some (.int .i64 who) ∧ W0.cell? ⟨gm, 2, none⟩ = some (.int .u8 (pick : Int)) ∧ W0.cell? ⟨gm, 3, none⟩ = some (.string body) := ⟨by rw [cell_of_row _ gm 0 _ _ _ RM.out]; rfl, by rw [cell_of_row _ gm 1 _ _ _ RM.out]; rfl, by rw [cell_of_row _ gm 2 _ _ _ RM.out]; rfl, by rw [cell_of_row _ gm 3 _ _ _ RM.out]; rfl⟩
    have cT := (box13 E0.out.row).1.2.2.2
    rw [HTV.out] at cT
    have HGM := hide1 hgm
    clear hgm
    have CM := hide1 m3
    have HN1 : Hid (N + 1 + 1000 < 4294967296) := HNN.out
    go_upto_region 8 with (fail)
    clear m0 m1 m2 m3 cT
    refine region_f (F := [8]) (S := fun X => X.cell? ⟨e, 1, none⟩ = some (.pointer (some ⟨p 1, 0, none⟩)) ∧ X.cell? ⟨gm, 3, none⟩ = some (.string body)) (by kernel_rfl) ⟨(box13 E0.out.row).1.2.1, CM.out⟩ (fun hS => ?_)
    have EU : Hid (Em B e p vl Fp n S (World.drew W0)) := E0.out.below (Below.refl _ _).drew (Nat.le_refl _)
    have BU : Hid (Below B w (World.drew W0)) := (B0.out.mono H.out.hB).drew
    have RMU : Hid ((World.drew W0).heap[gm]? = _) := RM.out
    have HGMU : Hid (∀ j g, j < 9 → Fp j g → g ≠ gm) := fun j g hj hg => by have h1 := (H.out.fb hj hg).2; have h2 := HGM.out; omega
    generalize World.drew W0 = WU at hS EU BU RMU ⊢
    refine take_p 0 36 (.pointer (some ⟨e, 0, none⟩)) rfl rfl (by kernel_rfl) (by kernel_rfl) (by kernel_rfl) (fun _ _ _ h => h) rfl (fun w => by go_simp) ?_
    try simp only [List.setIfInBounds_toArray, List.set_cons_zero, List.set_cons_succ]
    refine take_p 1 37 (.int .i64 1) rfl rfl (by kernel_rfl) (by kernel_rfl) (by kernel_rfl) (fun _ _ _ h => h) rfl (fun w => by go_simp) ?_
    try simp only [List.setIfInBounds_toArray, List.set_cons_zero, List.set_cons_succ]
    refine take_p 2 38 (.pointer (some ⟨e, 0, none⟩)) rfl rfl (by kernel_rfl) (by kernel_rfl) (by kernel_rfl) (fun _ _ _ h => h) rfl (fun w => by go_simp) ?_
    try simp only [List.setIfInBounds_toArray, List.set_cons_zero, List.set_cons_succ]
    refine take_p 3 39 (.pointer (some ⟨e, 0, none⟩)) rfl rfl (by kernel_rfl) (by kernel_rfl) (by kernel_rfl) (fun _ _ _ h => h) rfl (fun w => by go_simp) ?_
    try simp only [List.setIfInBounds_toArray, List.set_cons_zero, List.set_cons_succ]
    refine take_p 4 40 (.pointer (some ⟨e, 1, none⟩)) rfl rfl (by kernel_rfl) (by kernel_rfl) (by kernel_rfl) (fun _ _ _ h => h) rfl (fun w => by go_simp) ?_
    try simp only [List.setIfInBounds_toArray, List.set_cons_zero, List.set_cons_succ]
    refine take_f 5 41 (.pointer (some ⟨p 1, 0, none⟩)) [8, 9] rfl rfl (by kernel_rfl) (by kernel_rfl) (by kernel_rfl) (by kernel_rfl) (by kernel_rfl) (by kernel_rfl) (fun _ _ _ h => h) rfl (fun w hSw => by obtain ⟨g0, g1⟩ := hSw; go_simp) hS ?_
    try simp only [List.setIfInBounds_toArray, List.set_cons_zero, List.set_cons_succ]
    refine take_p 6 42 (.pointer (some ⟨gm, 3, none⟩)) rfl rfl (by kernel_rfl) (by kernel_rfl) (by kernel_rfl) (fun _ _ _ h => h) rfl (fun w => by go_simp) ?_
    try simp only [List.setIfInBounds_toArray, List.set_cons_zero, List.set_cons_succ]
    refine take_f 7 43 (.string body) [8, 9] rfl rfl (by kernel_rfl) (by kernel_rfl) (by kernel_rfl) (by kernel_rfl) (by kernel_rfl) (by kernel_rfl) (fun _ _ _ h => h) rfl (fun w hSw => by obtain ⟨g0, g1⟩ := hSw; go_simp) hS ?_
    try simp only [List.setIfInBounds_toArray, List.set_cons_zero, List.set_cons_succ]
    obtain ⟨lv, lm, lu, hlk, hlf⟩ := EU.out.lk 1 (by omega)
    have kS := hide1 (lsend_any hlk EU.out.hB (HS.out.L 1 (by omega)).own0 (HS.out.L 1 (by omega)).Q64 body (by have := HBD.out; omega))
    refine ready_f 8 (o := { dst := some 44, op := Op.call { callee := Callee.value (Operand.func 13), args := #[Operand.tmp 41, Operand.tmp 43], argTypes := #[23, 9] }, type := 25, pos := "law.go:121", after := #[{ on := 5, ground := Ground.data }, { on := 7, ground := Ground.data }], guard := none }) (by kernel_rfl) rfl (fun K hK => ?_)
    go_simp
    refine kS.out.mono ?_
    rintro x9 W1 ⟨z, rfl, hE, v1, m1, u1, k1, k2, k3⟩
    refine hK.out _ _ (fun h => absurd (by decide) h) ?_
    clear hK K
    try simp only [Act.put, List.setIfInBounds_toArray, List.set_cons_zero, List.set_cons_succ]
    have E1 := hide1 (EU.out.link (by omega) hlf (Nat.le_refl _) k1 k2 k3)
    have B1 : Hid (Below B w W1) := BU.out.trans (k2.below EU.out.hB fun g hg => (hlk.flt hg).1)
    have RM1 := hide1 ((k2.block gm (lt_heap RMU.out) (fun e9 => HGMU.out 1 gm (by omega) ((hlf gm).2 e9) rfl)).trans RMU.out)
    obtain ⟨sc, hsc⟩ : ∃ c, (S.L 1).sendC body = c := ⟨_, rfl⟩
    rw [hsc] at hE
    have HSC := hide1 hsc
    obtain ⟨Fp1, hFp1⟩ : ∃ F, upd Fp 1 (Lf (p 1) v1 m1 u1) = F := ⟨_, rfl⟩
    rw [hFp1] at E1
    have HGM1 : Hid (∀ j g, j < 9 → Fp1 j g → g ≠ gm) := fun j g hj hg e9 => by
      rw [← hFp1] at hg
      by_cases hjw : j = 1
      · subst hjw
        rw [upd_same] at hg
        rcases k3 g hg with h9 | h9
        · exact HGMU.out 1 g (by omega) ((hlf g).2 h9) e9
        · have := lt_heap RMU.out
          omega
      · rw [upd_other _ _ hjw] at hg
        exact HGMU.out j g hj hg e9
    clear k1 k2 k3 hlk hlf kS hS EU BU RMU hsc HGMU hFp1
    rcases hE with ⟨h1, h2⟩ | ⟨h1, pp, h2, _⟩
    · subst h2
      have hs0 : sc = 0 := by omega
      subst hs0
      refine take_p 9 45 (.bool true) rfl rfl (by kernel_rfl) (by kernel_rfl) (by kernel_rfl) (fun _ _ _ h => h) rfl (fun w => by go_simp) ?_
      try simp only [List.setIfInBounds_toArray, List.set_cons_zero, List.set_cons_succ]
      refine done_f (by kernel_rfl) ?_ _
      obtain ⟨LS, _⟩ := E1.out.ls 5 (by omega) (by omega)
      change Lst B W1 (vl 5) (S.ls 5) at LS
      obtain ⟨sa, sc9, hsv⟩ := LS.form
      obtain ⟨sn, hsn⟩ : ∃ k, (S.ls 5).length = k := ⟨_, rfl⟩
      rw [hsn] at hsv
      have HSV := hide1 hsv
      have HLS := hide1 LS
      rw [hsv] at HLS
      have CS := hide1 ((box13 E1.out.row).2.1.2.1)
      rw [hsv] at CS
      have CM1 : Hid (W1.cell? ⟨gm, 3, none⟩ = some (.string body)) := by unfold Hid; rw [cell_of_row _ gm 3 _ _ _ RM1.out]; rfl
      clear LS hsv hsn h1
      go_upto_region 9 with (fail)
      refine region_f (F := [11, 15]) (S := fun X => X.cell? ⟨e, 5, none⟩ = some (.slice sa sn sc9) ∧ X.cell? ⟨gm, 3, none⟩ = some (.string body) ∧ e < X.heap.size ∧ gm < X.heap.size) (by kernel_rfl) ⟨CS.out, CM1.out, lt_heap E1.out.row, lt_heap RM1.out⟩ (fun hS => ?_)
      have EU : Hid (Em B e p vl Fp1 n ⟨upd S.L 1 ((S.L 1).send body), S.ls⟩ (World.drew W1)) := E1.out.below (Below.refl _ _).drew (Nat.le_refl _)
      have LU : Hid (Lst B (World.drew W1) (.slice sa sn sc9) (S.ls 5)) := HLS.out
      have BU : Hid (Below B w (World.drew W1)) := B1.out.drew
      generalize World.drew W1 = WU at hS EU LU BU ⊢
      refine take_p 0 46 (.pointer (some ⟨e, 0, none⟩)) rfl rfl (by kernel_rfl) (by kernel_rfl) (by kernel_rfl) (fun _ _ _ h => h) rfl (fun w => by go_simp) ?_
      try simp only [List.setIfInBounds_toArray, List.set_cons_zero, List.set_cons_succ]
      refine take_p 1 47 (.int .i64 1) rfl rfl (by kernel_rfl) (by kernel_rfl) (by kernel_rfl) (fun _ _ _ h => h) rfl (fun w => by go_simp) ?_
      try simp only [List.setIfInBounds_toArray, List.set_cons_zero, List.set_cons_succ]
      refine take_p 2 48 (.pointer (some ⟨e, 0, none⟩)) rfl rfl (by kernel_rfl) (by kernel_rfl) (by kernel_rfl) (fun _ _ _ h => h) rfl (fun w => by go_simp) ?_
      try simp only [List.setIfInBounds_toArray, List.set_cons_zero, List.set_cons_succ]
      refine take_p 3 49 (.int .i64 1) rfl rfl (by kernel_rfl) (by kernel_rfl) (by kernel_rfl) (fun _ _ _ h => h) rfl (fun w => by go_simp) ?_
      try simp only [List.setIfInBounds_toArray, List.set_cons_zero, List.set_cons_succ]
      refine take_p 4 50 (.pointer (some ⟨e, 0, none⟩)) rfl rfl (by kernel_rfl) (by kernel_rfl) (by kernel_rfl) (fun _ _ _ h => h) rfl (fun w => by go_simp) ?_
      try simp only [List.setIfInBounds_toArray, List.set_cons_zero, List.set_cons_succ]
      refine take_p 5 51 (.pointer (some ⟨e, 4, none⟩)) rfl rfl (by kernel_rfl) (by kernel_rfl) (by kernel_rfl) (fun _ _ _ h => h) rfl (fun w => by go_simp) ?_
      try simp only [List.setIfInBounds_toArray, List.set_cons_zero, List.set_cons_succ]
      refine take_p 6 52 (.pointer (some ⟨e, 5, none⟩)) rfl rfl (by kernel_rfl) (by kernel_rfl) (by kernel_rfl) (fun _ _ _ h => h) rfl (fun w => by go_simp) ?_
      try simp only [List.setIfInBounds_toArray, List.set_cons_zero, List.set_cons_succ]
      refine take_f 7 53 (.slice sa sn sc9) [11, 14, 15] rfl rfl (by kernel_rfl) (by kernel_rfl) (by kernel_rfl) (by kernel_rfl) (by kernel_rfl) (by kernel_rfl) (fun _ _ _ h => h) rfl (fun w hSw => by obtain ⟨g0, g1, _, _⟩ := hSw; go_simp) hS ?_
      try simp only [List.setIfInBounds_toArray, List.set_cons_zero, List.set_cons_succ]
      refine take_p 8 54 (.pointer (some ⟨gm, 3, none⟩)) rfl rfl (by kernel_rfl) (by kernel_rfl) (by kernel_rfl) (fun _ _ _ h => h) rfl (fun w => by go_simp) ?_
      try simp only [List.setIfInBounds_toArray, List.set_cons_zero, List.set_cons_succ]
      refine take_f 9 55 (.string body) [10, 11, 14, 15] rfl rfl (by kernel_rfl) (by kernel_rfl) (by kernel_rfl) (by kernel_rfl) (by kernel_rfl) (by kernel_rfl) (fun _ _ _ h => h) rfl (fun w hSw => by obtain ⟨g0, g1, _, _⟩ := hSw; go_simp) hS ?_
      try simp only [List.setIfInBounds_toArray, List.set_cons_zero, List.set_cons_succ]
      refine take_p 12 58 (.pointer (some ⟨e, 0, none⟩)) rfl rfl (by kernel_rfl) (by kernel_rfl) (by kernel_rfl) (fun _ _ _ h => h) rfl (fun w => by go_simp) ?_
      try simp only [List.setIfInBounds_toArray, List.set_cons_zero, List.set_cons_succ]
      refine take_p 13 59 (.pointer (some ⟨e, 4, none⟩)) rfl rfl (by kernel_rfl) (by kernel_rfl) (by kernel_rfl) (fun _ _ _ h => h) rfl (fun w => by go_simp) ?_
      try simp only [List.setIfInBounds_toArray, List.set_cons_zero, List.set_cons_succ]
      refine ready_f 10 (o := { dst := some 56, op := Op.buildSlice 31 1 #[(0, Operand.tmp 55)], type := 31, pos := "law.go:122", after := #[{ on := 9, ground := Ground.data }], guard := none }) (by kernel_rfl) rfl (fun K hK => ?_)
      go_simp
      refine hK.out _ _ (fun _ h => ⟨((below1 _).cell (p := ⟨e, _, none⟩) h.2.2.1).trans h.1, ((below1 _).cell (p := ⟨gm, _, none⟩) h.2.2.2).trans h.2.1, Nat.lt_of_lt_of_le h.2.2.1 (below1 _).size, Nat.lt_of_lt_of_le h.2.2.2 (below1 _).size⟩) ?_
      clear hK K
      try simp only [Act.put, List.setIfInBounds_toArray, List.set_cons_zero, List.set_cons_succ]
      have RC := hide1 (Rdl.one WU body)
      have E2 := hide1 (EU.out.below (below1 (.cells #[.string body] 9)) (Nat.le_refl _))
      have L2 := hide1 (LU.out.below (below1 (.cells #[.string body] 9)) (Nat.le_refl _))
      have B2 : Hid (Below B w (WU.alloc (.cells #[.string body] 9))) := BU.out.alloc EU.out.hB _
      generalize WU.alloc (.cells #[.string body] 9) = W2 at RC E2 L2 B2 ⊢
      clear EU LU BU hS
      refine ready_f 11 (o := { dst := some 57, op := Op.call { callee := Callee.builtin Builtin.append, args := #[Operand.tmp 53, Operand.tmp 56], argTypes := #[31, 31] }, type := 31, pos := "law.go:122", after := #[{ on := 7, ground := Ground.data }, { on := 10, ground := Ground.data }], guard := none }) (by kernel_rfl) rfl (fun K hK => ?_)
      rw [if_pos (by rfl)]
      refine wp_append_lst _ _ rfl rfl rfl L2.out RC.out (by have h1 := HS.out.oth 5 (by omega) (by omega); have h2 := HNM.out; simp; omega) (by have := E2.out.hB; omega) ?_
      intro v3 W3 ho hg hf
      refine hK.out _ _ (fun h => absurd (by decide) h) ?_
      clear hK K
      try simp only [Act.put, List.setIfInBounds_toArray, List.set_cons_zero, List.set_cons_succ]
      have K3 : Hid (Kp (fun g => (vl 5).ownBlock = some g) W2 W3) := by have h9 := Kp.ofGrown hg; rw [← HSV.out] at h9; exact h9
      have F3 : Hid (∀ g, v3.ownBlock = some g → (vl 5).ownBlock = some g ∨ W2.heap.size ≤ g) := by unfold Hid; rw [HSV.out]; exact hf
      have r3 := (K3.out.block e (lt_heap E2.out.row) (fun e9 => E2.out.dis 5 8 (by omega) (by omega) (by omega) e (((E2.out.ls 5 (by omega) (by omega)).2 e).2 e9) ((E2.out.box e).2 rfl))).trans E2.out.row
      have HO := hide1 ho
      obtain ⟨a3, c3, hv3⟩ := ho.form
      obtain ⟨n3, hn3⟩ : ∃ n, (S.ls 5 ++ [body]).length = n := ⟨_, rfl⟩
      rw [hn3] at hv3
      subst hv3
      obtain ⟨E6, B6⟩ := E2.out.list (i := 5) (by omega) (by omega) HO.out K3.out F3.out (by rw [heap_setCell_same _ e 5 _ _ _ r3]; rfl)
      have HE6 := hide1 E6
      have HB6 := hide1 (B2.out.trans B6)
      have k0 := (box13 r3).2.1.2.1
      have f0 := (box13 r3).2.2 5
      clear ho hg hf hn3 RC E6 B6 r3 E2 L2 B2 K3 F3 HO
      refine take_p 14 60 (.pointer (some ⟨e, 5, none⟩)) rfl rfl (by kernel_rfl) (by kernel_rfl) (by kernel_rfl) (fun _ _ _ h => h) rfl (fun w => by go_simp) ?_
      try simp only [List.setIfInBounds_toArray, List.set_cons_zero, List.set_cons_succ]
      refine ready_f 15 (o := { dst := none, op := Op.store 31 (Operand.tmp 60) (Operand.tmp 57), type := 0, pos := "law.go:122", after := #[{ on := 14, ground := Ground.data }, { on := 11, ground := Ground.data }, { on := 11, ground := Ground.chain }, { on := 0, ground := Ground.phase }, { on := 1, ground := Ground.phase }, { on := 2, ground := Ground.phase }, { on := 3, ground := Ground.phase }, { on := 4, ground := Ground.phase }, { on := 5, ground := Ground.phase }, { on := 6, ground := Ground.phase }, { on := 7, ground := Ground.phase }, { on := 8, ground := Ground.phase }, { on := 9, ground := Ground.phase }, { on := 10, ground := Ground.phase }, { on := 11, ground := Ground.phase }], guard := none }) (by kernel_rfl) rfl (fun K hK => ?_)
      go_simp
      refine hK.out _ _ (fun h => absurd (by decide) h) ?_
      clear hK K
      generalize W3.setCell ⟨e, 5, none⟩ (.slice a3 n3 c3) = W6 at HE6 HB6 ⊢
      clear k0 f0
      refine done_f (by kernel_rfl) ?_ _
      have cL := (box13 HE6.out.row).1.2.1
      obtain ⟨lv, lm, lu, hlk, hlf⟩ := HE6.out.lk 1 (by omega)
      have kT := hide1 (lflush_any hlk HE6.out.hB (by have h9 := (HS.out.L 1 (by omega)).send body; exact h9) HN1.out)
      go_wp2_with fail
      refine kT.out.mono ?_
      rintro x9 V1 ⟨r, rfl, hf⟩
      obtain ⟨Fp3, E3, B3, R3, _, D3⟩ := HE6.out.told (by omega) (Nat.le_refl _) hlk hlf hf
      have kP := hide1 (put1_any E3 R3 D3 (by exact (HS.out.way 2 (by omega) (by omega)).1) (Ls.flushF_len (by have h9 := (HS.out.L 1 (by omega)).send body; exact h9)))
      have BB := hide1 (HB6.out.trans B3)
      clear kT hf E3 B3 R3 D3 hlk hlf cL
      go_wp2_with fail
      refine kP.out.mono ?_
      rintro x9 V2 ⟨rfl, p2, vl2, Fp2, E2, B2⟩
      have fin := hide1 (HP.out V2 ⟨p2, vl2, Fp2, (by rw [Es.mv0, Es.snd, if_pos HSC.out]; exact E2.mono (Nat.le_succ _)), BB.out.trans B2⟩)
      clear E2 B2 kP
      go_wp2
      go_ret
      exact ⟨rfl, fin.out⟩
    · subst h2
      have hs0 : sc ≠ 0 := by omega
      have HS0 := hide1 hs0
      clear h1 hs0
      refine take_p 9 45 (.bool false) rfl rfl (by kernel_rfl) (by kernel_rfl) (by kernel_rfl) (fun _ _ _ h => h) rfl (fun w => by go_simp) ?_
      try simp only [List.setIfInBounds_toArray, List.set_cons_zero, List.set_cons_succ]
      refine done_f (by kernel_rfl) ?_ _
      have cL := (box13 E1.out.row).1.2.1
      obtain ⟨lv, lm, lu, hlk, hlf⟩ := E1.out.lk 1 (by omega)
      have kT := hide1 (lflush_any hlk E1.out.hB (by have h9 := (HS.out.L 1 (by omega)).send body; exact h9) HN1.out)
      go_wp2_with fail
      refine kT.out.mono ?_
      rintro x9 V1 ⟨r, rfl, hf⟩
      obtain ⟨Fp3, E3, B3, R3, _, D3⟩ := E1.out.told (by omega) (Nat.le_refl _) hlk hlf hf
      have kP := hide1 (put1_any E3 R3 D3 (by exact (HS.out.way 2 (by omega) (by omega)).1) (Ls.flushF_len (by have h9 := (HS.out.L 1 (by omega)).send body; exact h9)))
      have BB := hide1 (B1.out.trans B3)
      clear kT hf E3 B3 R3 D3 hlk hlf cL
      go_wp2_with fail
      refine kP.out.mono ?_
      rintro x9 V2 ⟨rfl, p2, vl2, Fp2, E2, B2⟩
      have fin := hide1 (HP.out V2 ⟨p2, vl2, Fp2, (by rw [Es.mv0, Es.snd, if_neg (by rw [HSC.out]; exact HS0.out)]; exact E2.mono (Nat.le_succ _)), BB.out.trans B2⟩)
      clear E2 B2 kP
      go_wp2
      go_ret
      exact ⟨rfl, fin.out⟩
  · have htp0 : (0 : Int) < (tn : Int) := by omega
    have htpb : ¬ ((tn : Int) = 0) := by omega
    go_enter Try.func6, Try.ntmps6
    go_upto_region 1 with (fail)
    generalize hX : World.alloc w _ = W0
    have B0 : Hid (Below w.heap.size w W0) := by rw [← hX]; exact below1 _
    have RM := hide1 (hX ▸ heap_alloc_new w _)
    obtain ⟨gm, hgm⟩ : ∃ g, w.heap.size = g := ⟨_, rfl⟩
    rw [hgm] at RM ⊢
    clear hX
    have E0 := hide1 (H.out.below B0.out (Nat.le_refl _))
    obtain ⟨m0, m1, m2, m3⟩ : W0.cell? ⟨gm, 0, none⟩ = some (.int .i64 0) ∧ W0.cell? ⟨gm, 1, none⟩ = some (.int .i64 who) ∧ W0.cell? ⟨gm, 2, none⟩ = some (.int .u8 (pick : Int)) ∧ W0.cell? ⟨gm, 3, none⟩ = some (.string body) := ⟨by rw [cell_of_row _ gm 0 _ _ _ RM.out]; rfl, by rw [cell_of_row _ gm 1 _ _ _ RM.out]; rfl, by rw [cell_of_row _ gm 2 _ _ _ RM.out]; rfl, by rw [cell_of_row _ gm 3 _ _ _ RM.out]; rfl⟩
    have cT := (box13 E0.out.row).1.2.2.2
    rw [HTV.out] at cT
    have HGM := hide1 hgm
    clear hgm
    have CM := hide1 m3
    have HN1 : Hid (N + 1 + 1000 < 4294967296) := HNN.out
    go_upto_region 8 with (fail)
    clear m0 m1 m2 m3 cT
    refine region_f (F := [8]) (S := fun X => X.cell? ⟨e, 1, none⟩ = some (.pointer (some ⟨p 1, 0, none⟩)) ∧ X.cell? ⟨gm, 3, none⟩ = some (.string body)) (by kernel_rfl) ⟨(box13 E0.out.row).1.2.1, CM.out⟩ (fun hS => ?_)
    have EU : Hid (Em B e p vl Fp n S (World.drew W0)) := E0.out.below (Below.refl _ _).drew (Nat.le_refl _)
    have BU : Hid (Below B w (World.drew W0)) := (B0.out.mono H.out.hB).drew
    have RMU : Hid ((World.drew W0).heap[gm]? = _) := RM.out
    have HGMU : Hid (∀ j g, j < 9 → Fp j g → g ≠ gm) := fun j g hj hg => by have h1 := (H.out.fb hj hg).2; have h2 := HGM.out; omega
    generalize World.drew W0 = WU at hS EU BU RMU ⊢
    refine take_p 0 36 (.pointer (some ⟨e, 0, none⟩)) rfl rfl (by kernel_rfl) (by kernel_rfl) (by kernel_rfl) (fun _ _ _ h => h) rfl (fun w => by go_simp) ?_
    try simp only [List.setIfInBounds_toArray, List.set_cons_zero, List.set_cons_succ]
    refine take_p 1 37 (.int .i64 1) rfl rfl (by kernel_rfl) (by kernel_rfl) (by kernel_rfl) (fun _ _ _ h => h) rfl (fun w => by go_simp) ?_
    try simp only [List.setIfInBounds_toArray, List.set_cons_zero, List.set_cons_succ]
    refine take_p 2 38 (.pointer (some ⟨e, 0, none⟩)) rfl rfl (by kernel_rfl) (by kernel_rfl) (by kernel_rfl) (fun _ _ _ h => h) rfl (fun w => by go_simp) ?_
    try simp only [List.setIfInBounds_toArray, List.set_cons_zero, List.set_cons_succ]
    refine take_p 3 39 (.pointer (some ⟨e, 0, none⟩)) rfl rfl (by kernel_rfl) (by kernel_rfl) (by kernel_rfl) (fun _ _ _ h => h) rfl (fun w => by go_simp) ?_
    try simp only [List.setIfInBounds_toArray, List.set_cons_zero, List.set_cons_succ]
    refine take_p 4 40 (.pointer (some ⟨e, 1, none⟩)) rfl rfl (by kernel_rfl) (by kernel_rfl) (by kernel_rfl) (fun _ _ _ h => h) rfl (fun w => by go_simp) ?_
    try simp only [List.setIfInBounds_toArray, List.set_cons_zero, List.set_cons_succ]
    refine take_f 5 41 (.pointer (some ⟨p 1, 0, none⟩)) [8, 9] rfl rfl (by kernel_rfl) (by kernel_rfl) (by kernel_rfl) (by kernel_rfl) (by kernel_rfl) (by kernel_rfl) (fun _ _ _ h => h) rfl (fun w hSw => by obtain ⟨g0, g1⟩ := hSw; go_simp) hS ?_
    try simp only [List.setIfInBounds_toArray, List.set_cons_zero, List.set_cons_succ]
    refine take_p 6 42 (.pointer (some ⟨gm, 3, none⟩)) rfl rfl (by kernel_rfl) (by kernel_rfl) (by kernel_rfl) (fun _ _ _ h => h) rfl (fun w => by go_simp) ?_
    try simp only [List.setIfInBounds_toArray, List.set_cons_zero, List.set_cons_succ]
    refine take_f 7 43 (.string body) [8, 9] rfl rfl (by kernel_rfl) (by kernel_rfl) (by kernel_rfl) (by kernel_rfl) (by kernel_rfl) (by kernel_rfl) (fun _ _ _ h => h) rfl (fun w hSw => by obtain ⟨g0, g1⟩ := hSw; go_simp) hS ?_
    try simp only [List.setIfInBounds_toArray, List.set_cons_zero, List.set_cons_succ]
    obtain ⟨lv, lm, lu, hlk, hlf⟩ := EU.out.lk 1 (by omega)
    have kS := hide1 (lsend_any hlk EU.out.hB (HS.out.L 1 (by omega)).own0 (HS.out.L 1 (by omega)).Q64 body (by have := HBD.out; omega))
    refine ready_f 8 (o := { dst := some 44, op := Op.call { callee := Callee.value (Operand.func 13), args := #[Operand.tmp 41, Operand.tmp 43], argTypes := #[23, 9] }, type := 25, pos := "law.go:121", after := #[{ on := 5, ground := Ground.data }, { on := 7, ground := Ground.data }], guard := none }) (by kernel_rfl) rfl (fun K hK => ?_)
    go_simp
    refine kS.out.mono ?_
    rintro x9 W1 ⟨z, rfl, hE, v1, m1, u1, k1, k2, k3⟩
    refine hK.out _ _ (fun h => absurd (by decide) h) ?_
    clear hK K
    try simp only [Act.put, List.setIfInBounds_toArray, List.set_cons_zero, List.set_cons_succ]
    have E1 := hide1 (EU.out.link (by omega) hlf (Nat.le_refl _) k1 k2 k3)
    have B1 : Hid (Below B w W1) := BU.out.trans (k2.below EU.out.hB fun g hg => (hlk.flt hg).1)
    have RM1 := hide1 ((k2.block gm (lt_heap RMU.out) (fun e9 => HGMU.out 1 gm (by omega) ((hlf gm).2 e9) rfl)).trans RMU.out)
    obtain ⟨sc, hsc⟩ : ∃ c, (S.L 1).sendC body = c := ⟨_, rfl⟩
    rw [hsc] at hE
    have HSC := hide1 hsc
    obtain ⟨Fp1, hFp1⟩ : ∃ F, upd Fp 1 (Lf (p 1) v1 m1 u1) = F := ⟨_, rfl⟩
    rw [hFp1] at E1
    have HGM1 : Hid (∀ j g, j < 9 → Fp1 j g → g ≠ gm) := fun j g hj hg e9 => by
      rw [← hFp1] at hg
      by_cases hjw : j = 1
      · subst hjw
        rw [upd_same] at hg
        rcases k3 g hg with h9 | h9
        · exact HGMU.out 1 g (by omega) ((hlf g).2 h9) e9
        · have := lt_heap RMU.out
          omega
      · rw [upd_other _ _ hjw] at hg
        exact HGMU.out j g hj hg e9
    clear k1 k2 k3 hlk hlf kS hS EU BU RMU hsc HGMU hFp1
    rcases hE with ⟨h1, h2⟩ | ⟨h1, pp, h2, _⟩
    · subst h2
      have hs0 : sc = 0 := by omega
      subst hs0
      refine take_p 9 45 (.bool true) rfl rfl (by kernel_rfl) (by kernel_rfl) (by kernel_rfl) (fun _ _ _ h => h) rfl (fun w => by go_simp) ?_
      try simp only [List.setIfInBounds_toArray, List.set_cons_zero, List.set_cons_succ]
      refine done_f (by kernel_rfl) ?_ _
      obtain ⟨LS, _⟩ := E1.out.ls 5 (by omega) (by omega)
      change Lst B W1 (vl 5) (S.ls 5) at LS
      obtain ⟨sa, sc9, hsv⟩ := LS.form
      obtain ⟨sn, hsn⟩ : ∃ k, (S.ls 5).length = k := ⟨_, rfl⟩
      rw [hsn] at hsv
      have HSV := hide1 hsv
      have HLS := hide1 LS
      rw [hsv] at HLS
      have CS := hide1 ((box13 E1.out.row).2.1.2.1)
      rw [hsv] at CS
      have CM1 : Hid (W1.cell? ⟨gm, 3, none⟩ = some (.string body)) := by unfold Hid; rw [cell_of_row _ gm 3 _ _ _ RM1.out]; rfl
      clear LS hsv hsn h1
      go_upto_region 9 with (fail)
      refine region_f (F := [11, 15]) (S := fun X => X.cell? ⟨e, 5, none⟩ = some (.slice sa sn sc9) ∧ X.cell? ⟨gm, 3, none⟩ = some (.string body) ∧ e < X.heap.size ∧ gm < X.heap.size) (by kernel_rfl) ⟨CS.out, CM1.out, lt_heap E1.out.row, lt_heap RM1.out⟩ (fun hS => ?_)
      have EU : Hid (Em B e p vl Fp1 n ⟨upd S.L 1 ((S.L 1).send body), S.ls⟩ (World.drew W1)) := E1.out.below (Below.refl _ _).drew (Nat.le_refl _)
      have LU : Hid (Lst B (World.drew W1) (.slice sa sn sc9) (S.ls 5)) := HLS.out
      have BU : Hid (Below B w (World.drew W1)) := B1.out.drew
      generalize World.drew W1 = WU at hS EU LU BU ⊢
      refine take_p 0 46 (.pointer (some ⟨e, 0, none⟩)) rfl rfl (by kernel_rfl) (by kernel_rfl) (by kernel_rfl) (fun _ _ _ h => h) rfl (fun w => by go_simp) ?_
      try simp only [List.setIfInBounds_toArray, List.set_cons_zero, List.set_cons_succ]
      refine take_p 1 47 (.int .i64 1) rfl rfl (by kernel_rfl) (by kernel_rfl) (by kernel_rfl) (fun _ _ _ h => h) rfl (fun w => by go_simp) ?_
      try simp only [List.setIfInBounds_toArray, List.set_cons_zero, List.set_cons_succ]
      refine take_p 2 48 (.pointer (some ⟨e, 0, none⟩)) rfl rfl (by kernel_rfl) (by kernel_rfl) (by kernel_rfl) (fun _ _ _ h => h) rfl (fun w => by go_simp) ?_
      try simp only [List.setIfInBounds_toArray, List.set_cons_zero, List.set_cons_succ]
      refine take_p 3 49 (.int .i64 1) rfl rfl (by kernel_rfl) (by kernel_rfl) (by kernel_rfl) (fun _ _ _ h => h) rfl (fun w => by go_simp) ?_
      try simp only [List.setIfInBounds_toArray, List.set_cons_zero, List.set_cons_succ]
      refine take_p 4 50 (.pointer (some ⟨e, 0, none⟩)) rfl rfl (by kernel_rfl) (by kernel_rfl) (by kernel_rfl) (fun _ _ _ h => h) rfl (fun w => by go_simp) ?_
      try simp only [List.setIfInBounds_toArray, List.set_cons_zero, List.set_cons_succ]
      refine take_p 5 51 (.pointer (some ⟨e, 4, none⟩)) rfl rfl (by kernel_rfl) (by kernel_rfl) (by kernel_rfl) (fun _ _ _ h => h) rfl (fun w => by go_simp) ?_
      try simp only [List.setIfInBounds_toArray, List.set_cons_zero, List.set_cons_succ]
      refine take_p 6 52 (.pointer (some ⟨e, 5, none⟩)) rfl rfl (by kernel_rfl) (by kernel_rfl) (by kernel_rfl) (fun _ _ _ h => h) rfl (fun w => by go_simp) ?_
      try simp only [List.setIfInBounds_toArray, List.set_cons_zero, List.set_cons_succ]
      refine take_f 7 53 (.slice sa sn sc9) [11, 14, 15] rfl rfl (by kernel_rfl) (by kernel_rfl) (by kernel_rfl) (by kernel_rfl) (by kernel_rfl) (by kernel_rfl) (fun _ _ _ h => h) rfl (fun w hSw => by obtain ⟨g0, g1, _, _⟩ := hSw; go_simp) hS ?_
      try simp only [List.setIfInBounds_toArray, List.set_cons_zero, List.set_cons_succ]
      refine take_p 8 54 (.pointer (some ⟨gm, 3, none⟩)) rfl rfl (by kernel_rfl) (by kernel_rfl) (by kernel_rfl) (fun _ _ _ h => h) rfl (fun w => by go_simp) ?_
      try simp only [List.setIfInBounds_toArray, List.set_cons_zero, List.set_cons_succ]
      refine take_f 9 55 (.string body) [10, 11, 14, 15] rfl rfl (by kernel_rfl) (by kernel_rfl) (by kernel_rfl) (by kernel_rfl) (by kernel_rfl) (by kernel_rfl) (fun _ _ _ h => h) rfl (fun w hSw => by obtain ⟨g0, g1, _, _⟩ := hSw; go_simp) hS ?_
      try simp only [List.setIfInBounds_toArray, List.set_cons_zero, List.set_cons_succ]
      refine take_p 12 58 (.pointer (some ⟨e, 0, none⟩)) rfl rfl (by kernel_rfl) (by kernel_rfl) (by kernel_rfl) (fun _ _ _ h => h) rfl (fun w => by go_simp) ?_
      try simp only [List.setIfInBounds_toArray, List.set_cons_zero, List.set_cons_succ]
      refine take_p 13 59 (.pointer (some ⟨e, 4, none⟩)) rfl rfl (by kernel_rfl) (by kernel_rfl) (by kernel_rfl) (fun _ _ _ h => h) rfl (fun w => by go_simp) ?_
      try simp only [List.setIfInBounds_toArray, List.set_cons_zero, List.set_cons_succ]
      refine ready_f 10 (o := { dst := some 56, op := Op.buildSlice 31 1 #[(0, Operand.tmp 55)], type := 31, pos := "law.go:122", after := #[{ on := 9, ground := Ground.data }], guard := none }) (by kernel_rfl) rfl (fun K hK => ?_)
      go_simp
      refine hK.out _ _ (fun _ h => ⟨((below1 _).cell (p := ⟨e, _, none⟩) h.2.2.1).trans h.1, ((below1 _).cell (p := ⟨gm, _, none⟩) h.2.2.2).trans h.2.1, Nat.lt_of_lt_of_le h.2.2.1 (below1 _).size, Nat.lt_of_lt_of_le h.2.2.2 (below1 _).size⟩) ?_
      clear hK K
      try simp only [Act.put, List.setIfInBounds_toArray, List.set_cons_zero, List.set_cons_succ]
      have RC := hide1 (Rdl.one WU body)
      have E2 := hide1 (EU.out.below (below1 (.cells #[.string body] 9)) (Nat.le_refl _))
      have L2 := hide1 (LU.out.below (below1 (.cells #[.string body] 9)) (Nat.le_refl _))
      have B2 : Hid (Below B w (WU.alloc (.cells #[.string body] 9))) := BU.out.alloc EU.out.hB _
      generalize WU.alloc (.cells #[.string body] 9) = W2 at RC E2 L2 B2 ⊢
      clear EU LU BU hS
      refine ready_f 11 (o := { dst := some 57, op := Op.call { callee := Callee.builtin Builtin.append, args := #[Operand.tmp 53, Operand.tmp 56], argTypes := #[31, 31] }, type := 31, pos := "law.go:122", after := #[{ on := 7, ground := Ground.data }, { on := 10, ground := Ground.data }], guard := none }) (by kernel_rfl) rfl (fun K hK => ?_)
      rw [if_pos (by rfl)]
      refine wp_append_lst _ _ rfl rfl rfl L2.out RC.out (by have h1 := HS.out.oth 5 (by omega) (by omega); have h2 := HNM.out; simp; omega) (by have := E2.out.hB; omega) ?_
      intro v3 W3 ho hg hf
      refine hK.out _ _ (fun h => absurd (by decide) h) ?_
      clear hK K
      try simp only [Act.put, List.setIfInBounds_toArray, List.set_cons_zero, List.set_cons_succ]
      have K3 : Hid (Kp (fun g => (vl 5).ownBlock = some g) W2 W3) := by have h9 := Kp.ofGrown hg; rw [← HSV.out] at h9; exact h9
      have F3 : Hid (∀ g, v3.ownBlock = some g → (vl 5).ownBlock = some g ∨ W2.heap.size ≤ g) := by unfold Hid; rw [HSV.out]; exact hf
      have r3 := (K3.out.block e (lt_heap E2.out.row) (fun e9 => E2.out.dis 5 8 (by omega) (by omega) (by omega) e (((E2.out.ls 5 (by omega) (by omega)).2 e).2 e9) ((E2.out.box e).2 rfl))).trans E2.out.row
      have HO := hide1 ho
      obtain ⟨a3, c3, hv3⟩ := ho.form
      obtain ⟨n3, hn3⟩ : ∃ n, (S.ls 5 ++ [body]).length = n := ⟨_, rfl⟩
      rw [hn3] at hv3
      subst hv3
      obtain ⟨E6, B6⟩ := E2.out.list (i := 5) (by omega) (by omega) HO.out K3.out F3.out (by rw [heap_setCell_same _ e 5 _ _ _ r3]; rfl)
      have HE6 := hide1 E6
      have HB6 := hide1 (B2.out.trans B6)
      have k0 := (box13 r3).2.1.2.1
      have f0 := (box13 r3).2.2 5
      clear ho hg hf hn3 RC E6 B6 r3 E2 L2 B2 K3 F3 HO
      refine take_p 14 60 (.pointer (some ⟨e, 5, none⟩)) rfl rfl (by kernel_rfl) (by kernel_rfl) (by kernel_rfl) (fun _ _ _ h => h) rfl (fun w => by go_simp) ?_
      try simp only [List.setIfInBounds_toArray, List.set_cons_zero, List.set_cons_succ]
      refine ready_f 15 (o := { dst := none, op := Op.store 31 (Operand.tmp 60) (Operand.tmp 57), type := 0, pos := "law.go:122", after := #[{ on := 14, ground := Ground.data }, { on := 11, ground := Ground.data }, { on := 11, ground := Ground.chain }, { on := 0, ground := Ground.phase }, { on := 1, ground := Ground.phase }, { on := 2, ground := Ground.phase }, { on := 3, ground := Ground.phase }, { on := 4, ground := Ground.phase }, { on := 5, ground := Ground.phase }, { on := 6, ground := Ground.phase }, { on := 7, ground := Ground.phase }, { on := 8, ground := Ground.phase }, { on := 9, ground := Ground.phase }, { on := 10, ground := Ground.phase }, { on := 11, ground := Ground.phase }], guard := none }) (by kernel_rfl) rfl (fun K hK => ?_)
      go_simp
      refine hK.out _ _ (fun h => absurd (by decide) h) ?_
      clear hK K
      generalize W3.setCell ⟨e, 5, none⟩ (.slice a3 n3 c3) = W6 at HE6 HB6 ⊢
      clear k0 f0
      refine done_f (by kernel_rfl) ?_ _
      have cL := (box13 HE6.out.row).1.2.1
      obtain ⟨lv, lm, lu, hlk, hlf⟩ := HE6.out.lk 1 (by omega)
      have kT := hide1 (lflush_any hlk HE6.out.hB (by have h9 := (HS.out.L 1 (by omega)).send body; exact h9) HN1.out)
      go_wp2_with fail
      refine kT.out.mono ?_
      rintro x9 V1 ⟨r, rfl, hf⟩
      obtain ⟨Fp3, E3, B3, R3, _, D3⟩ := HE6.out.told (by omega) (Nat.le_refl _) hlk hlf hf
      have kP := hide1 (put1_any E3 R3 D3 (by exact (HS.out.way 2 (by omega) (by omega)).1) (Ls.flushF_len (by have h9 := (HS.out.L 1 (by omega)).send body; exact h9)))
      have BB := hide1 (HB6.out.trans B3)
      clear kT hf E3 B3 R3 D3 hlk hlf cL
      go_wp2_with fail
      refine kP.out.mono ?_
      rintro x9 V2 ⟨rfl, p2, vl2, Fp2, E2, B2⟩
      have fin := hide1 (HP.out V2 ⟨p2, vl2, Fp2, (by rw [Es.mv0, Es.snd, if_pos HSC.out]; exact E2.mono (Nat.le_succ _)), BB.out.trans B2⟩)
      clear E2 B2 kP
      go_wp2
      go_ret
      exact ⟨rfl, fin.out⟩
    · subst h2
      have hs0 : sc ≠ 0 := by omega
      have HS0 := hide1 hs0
      clear h1 hs0
      refine take_p 9 45 (.bool false) rfl rfl (by kernel_rfl) (by kernel_rfl) (by kernel_rfl) (fun _ _ _ h => h) rfl (fun w => by go_simp) ?_
      try simp only [List.setIfInBounds_toArray, List.set_cons_zero, List.set_cons_succ]
      refine done_f (by kernel_rfl) ?_ _
      have cL := (box13 E1.out.row).1.2.1
      obtain ⟨lv, lm, lu, hlk, hlf⟩ := E1.out.lk 1 (by omega)
      have kT := hide1 (lflush_any hlk E1.out.hB (by have h9 := (HS.out.L 1 (by omega)).send body; exact h9) HN1.out)
      go_wp2_with fail
      refine kT.out.mono ?_
      rintro x9 V1 ⟨r, rfl, hf⟩
      obtain ⟨Fp3, E3, B3, R3, _, D3⟩ := E1.out.told (by omega) (Nat.le_refl _) hlk hlf hf
      have kP := hide1 (put1_any E3 R3 D3 (by exact (HS.out.way 2 (by omega) (by omega)).1) (Ls.flushF_len (by have h9 := (HS.out.L 1 (by omega)).send body; exact h9)))
      have BB := hide1 (B1.out.trans B3)
      clear kT hf E3 B3 R3 D3 hlk hlf cL
      go_wp2_with fail
      refine kP.out.mono ?_
      rintro x9 V2 ⟨rfl, p2, vl2, Fp2, E2, B2⟩
      have fin := hide1 (HP.out V2 ⟨p2, vl2, Fp2, (by rw [Es.mv0, Es.snd, if_neg (by rw [HSC.out]; exact HS0.out)]; exact E2.mono (Nat.le_succ _)), BB.out.trans B2⟩)
      clear E2 B2 kP
      go_wp2
      go_ret
      exact ⟨rfl, fin.out⟩

end Go.Proofs.Ytcadlcpccemkbaa
