/- What happens between two ends: a frame on its way arrives. -/
import Derived.Test.YtcadlcpccemkbaaEf
namespace Go.Proofs.Ytcadlcpccemkbaa
open Go.RowKit
set_option maxRecDepth 100000
attribute [local go_sem] not_any

theorem Ls.recvB_len {N : Nat} {x : Ls} (h : x.Ok N) (t : ByteArray) : (x.recvB t).length ≤ 16 := by
  unfold Ls.recvB
  split
  · unfold Ls.takeB
    split
    · simp
    · split
      · simp
      · unfold Ls.openB
        split
        · simp
        · split
          · simp
          · exact tkO_len (h.meet (X.hdN_lt t 1)).hd
  · simp
/- what a frame that arrives does to the lists -/
def Es.rcv (S : Es) (W : Nat) (t : ByteArray) : Es := if ((S.L W).recvX t).peer = (S.L W).peer then S.lnk W ((S.L W).recvX t) else ((S.lnk W ((S.L W).recvX t)).lst (4 + W) []).lst (6 + W) []
def Es.gotS (S : Es) (W : Nat) (B : List ByteArray) : Es := S.lst (6 + W) (S.ls (6 + W) ++ B)
def Es.arr (S : Es) (W : Nat) (t : ByteArray) : Es := ((S.rcv W t).gotS W ((S.L W).recvB t)).fl W
def Es.mv2 (S : Es) (W pick : Nat) : Es := if (S.ls (2 + W)).length = 0 then S else (S.lst (2 + W) ((S.ls (2 + W)).eraseIdx (S.pk W pick))).arr W ((S.ls (2 + W)).getD (S.pk W pick) ByteArray.empty)

set_option maxHeartbeats 8000000 in
theorem move2_0 {N B e n : Nat} {p : Nat → Nat} {vl : Nat → Value} {Fp : Nat → Nat → Prop} {S : Es} {w : World} (h : Em B e p vl Fp n S w) (hS : S.Ok N) (hN0 : N + 2000 < 900000) (hn : n < 1000000) (who : Int) (pick : Nat) (hpk : pick < 256) (body : ByteArray) (hw : who % 2 = 0) (hbd : body.size ≤ 100) :
    Calls Try.prog 6 #[.pointer (some ⟨e, 0, none⟩), .agg #[.int .i64 2, .int .i64 who, .int .u8 (pick : Int), .string body]] w fun x w' => x = .returned (.bool true) ∧ Ebx B e (n + 1) (S.mv2 0 pick) w w' := by
  have H := hide1 h
  have HS := hide1 hS
  have HN16 : Hid (N + 16 + 1000 < 4294967296) := by unfold Hid; omega
  have HN : Hid (N + 1000 < 4294967296) := by unfold Hid; omega
  have HNM := hide1 hN0
  have Hn := hide1 hn
  have HBD := hide1 hbd
  have hwb : bits BinOp.and IntKind.i64 who 1 = 0 := by rw [i64_and1]; exact hw
  obtain ⟨L0, _⟩ := h.ls 2 (by omega) (by omega)
  obtain ⟨ta, tc, htv⟩ := L0.form
  obtain ⟨tn, htn⟩ : ∃ k, (S.ls 2).length = k := ⟨_, rfl⟩
  rw [htn] at htv
  have HTN := hide1 htn
  have htn60 : tn ≤ 60 := by have := (hS.way 2 (by omega) (by omega)).1; omega
  obtain ⟨P, hP⟩ : ∃ P : World → Prop, P = fun w' => Ebx B e (n + 1) (S.mv2 0 pick) w w' := ⟨_, rfl⟩
  have HP : Hid (∀ w', Ebx B e (n + 1) (S.mv2 0 pick) w w' → P w') := fun w' h => by rw [hP]; exact h
  suffices hs : Calls Try.prog 6 #[.pointer (some ⟨e, 0, none⟩), .agg #[.int .i64 2, .int .i64 who, .int .u8 (pick : Int), .string body]] w fun x w' => x = .returned (.bool true) ∧ P w' by rw [hP] at hs; exact hs
  clear hP h hS hN0 hn hw hbd htn L0
  have HTV := hide1 htv
  clear htv
  by_cases htp : tn = 0
  · subst htp
    go_enter Try.func6, Try.ntmps6
    go_upto_region 1 with (fail)
    generalize hX : World.alloc w _ = W0
    have B0 : Hid (Below w.heap.size w W0) := by rw [← hX]; exact below1 _
    have RM := hide1 (hX ▸ heap_alloc_new w _)
    obtain ⟨gm, hgm⟩ : ∃ g, w.heap.size = g := ⟨_, rfl⟩
    rw [hgm] at RM ⊢
    clear hX
    have E0 := hide1 (H.out.below B0.out (Nat.le_refl _))
    obtain ⟨m0, m1, m2, m3⟩ : W0.cell? ⟨gm, 0, none⟩ = some (.int .i64 2) ∧ W0.cell? ⟨gm, 1, none⟩ = some (.int .i64 who) ∧ W0.cell? ⟨gm, 2, none⟩ = some (.int .u8 (pick : Int)) ∧ W0.cell? ⟨gm, 3, none⟩ = some (.string body) := ⟨by rw [cell_of_row _ gm 0 _ _ _ RM.out]; rfl, by rw [cell_of_row _ gm 1 _ _ _ RM.out]; rfl, by rw [cell_of_row _ gm 2 _ _ _ RM.out]; rfl, by rw [cell_of_row _ gm 3 _ _ _ RM.out]; rfl⟩
    have cT := (box13 E0.out.row).1.2.2.1
    rw [HTV.out] at cT
    have HGM := hide1 hgm
    clear hgm
    have fin := hide1 (HP.out _ ⟨_, _, _, (by rw [Es.mv2, if_pos HTN.out]; exact E0.out.mono (Nat.le_succ n)), B0.out.mono H.out.hB⟩)
    clear E0
    go_wp2
    go_ret
    exact ⟨rfl, fin.out⟩
  · have htp0 : (0 : Int) < (tn : Int) := by omega
    have htpb : ¬ ((tn : Int) = 0) := by omega
    obtain ⟨kk, hkk⟩ : ∃ k, pick % tn = k := ⟨_, rfl⟩
    have hkt : kk < tn := by rw [← hkk]; exact Nat.mod_lt _ (by omega)
    have hk1 : (pick : Int) % (tn : Int) = (kk : Int) := by rw [← hkk]; exact pick_mod.1
    have hk2 : Int.tmod (pick : Int) (tn : Int) = (kk : Int) := by rw [← hkk]; exact pick_mod.2
    have HKK := hide1 hkk
    have HKT := hide1 hkt
    clear hkk
    go_enter Try.func6, Try.ntmps6
    go_upto_region 1 with (fail)
    generalize hX : World.alloc w _ = W0
    have B0 : Hid (Below w.heap.size w W0) := by rw [← hX]; exact below1 _
    have RM := hide1 (hX ▸ heap_alloc_new w _)
    obtain ⟨gm, hgm⟩ : ∃ g, w.heap.size = g := ⟨_, rfl⟩
    rw [hgm] at RM ⊢
    clear hX
    have E0 := hide1 (H.out.below B0.out (Nat.le_refl _))
    obtain ⟨m0, m1, m2, m3⟩ : W0.cell? ⟨gm, 0, none⟩ = some (.int .i64 2) ∧ W0.cell? ⟨gm, 1, none⟩ = some (.int .i64 who) ∧ W0.cell? ⟨gm, 2, none⟩ = some (.int .u8 (pick : Int)) ∧ W0.cell? ⟨gm, 3, none⟩ = some (.string body) := ⟨by rw [cell_of_row _ gm 0 _ _ _ RM.out]; rfl, by rw [cell_of_row _ gm 1 _ _ _ RM.out]; rfl, by rw [cell_of_row _ gm 2 _ _ _ RM.out]; rfl, by rw [cell_of_row _ gm 3 _ _ _ RM.out]; rfl⟩
    have cT := (box13 E0.out.row).1.2.2.1
    rw [HTV.out] at cT
    have HGM := hide1 hgm
    clear hgm
    obtain ⟨LT0, _⟩ := E0.out.ls 2 (by omega) (by omega)
    obtain ⟨g, c9, hg9, hck, _, hgl, _, _⟩ := LT0.cell (j := kk) (by have := HTN.out; omega)
    have hg9' := HTV.out.symm.trans hg9
    rw [HTN.out] at hg9'
    cases hg9'
    obtain ⟨t, ht⟩ : ∃ t, (S.ls 2).getD kk ByteArray.empty = t := ⟨_, rfl⟩
    rw [ht] at hck
    have HT := hide1 ht
    have HTZ : Hid (t.size ≤ 281474976710656) := by
      refine (HS.out.way 2 (by omega) (by omega)).2 t ?_
      rw [← ht]
      have hlt : kk < (S.ls 2).length := by have := HTN.out; omega
      simp [List.getD, List.getElem?_eq_getElem hlt]
    clear LT0 hg9 ht
    obtain ⟨LT, LTF⟩ := E0.out.ls 2 (by omega) (by omega)
    have LT' := LT
    obtain ⟨g9, c9, hg9, _, _, hgl9, _, hcap⟩ := LT'.cell (j := 0) (by have := HTN.out; omega)
    have hg9' := HTV.out.symm.trans hg9
    rw [HTN.out] at hg9' hcap
    cases hg9'
    have HLT := hide1 LT
    rw [HTV.out] at HLT
    have hsl := fun W => run_head W g tn tc kk (by omega) hcap
    have wi : IntKind.i64.wrap ((kk : Int) + 1) = (kk : Int) + 1 := by rw [IntKind.wrap_i64]; omega
    have HCAP := hide1 hcap
    obtain ⟨ad, had⟩ : ∃ ad : Option Addr, (if tc = kk + 1 then some ⟨g, 0, none⟩ else some ⟨g, kk + 1, none⟩) = ad := ⟨_, rfl⟩
    have HAD := hide1 had
    clear had
    have HLTF := hide1 LTF
    clear LT LT' hg9 LTF
    go_upto_region 17 with (fail)
    refine region_f (F := []) (S := fun _ => True) (by kernel_rfl) trivial (fun hS => ?_)
    have EU : Hid (Em B e p vl Fp n S (World.drew W0)) := E0.out.below (Below.refl _ _).drew (Nat.le_refl _)
    have LU : Hid (Lst B (World.drew W0) (.slice (some ⟨g, 0, none⟩) tn tc) (S.ls 2)) := HLT.out
    have BU : Hid (Below B w (World.drew W0)) := (B0.out.mono H.out.hB).drew
    generalize World.drew W0 = WU at EU LU BU ⊢
    clear hS
    refine take_p 0 92 (.pointer (some ⟨e, 0, none⟩)) rfl rfl (by kernel_rfl) (by kernel_rfl) (by kernel_rfl) (fun _ _ _ h => h) rfl (fun w => by go_simp) ?_
    try simp only [List.setIfInBounds_toArray, List.set_cons_zero, List.set_cons_succ]
    refine take_p 1 93 (.int .i64 0) rfl rfl (by kernel_rfl) (by kernel_rfl) (by kernel_rfl) (fun _ _ _ h => h) rfl (fun w => by go_simp) ?_
    try simp only [List.setIfInBounds_toArray, List.set_cons_zero, List.set_cons_succ]
    refine take_p 3 95 (.slice (some ⟨g, 0, none⟩) tn tc) rfl rfl (by kernel_rfl) (by kernel_rfl) (by kernel_rfl) (fun _ _ _ h => h) rfl (fun w => by go_simp) ?_
    try simp only [List.setIfInBounds_toArray, List.set_cons_zero, List.set_cons_succ]
    refine take_p 4 96 (.int .i64 (kk : Int)) rfl rfl (by kernel_rfl) (by kernel_rfl) (by kernel_rfl) (fun _ _ _ h => h) rfl (fun w => by go_simp) ?_
    try simp only [List.setIfInBounds_toArray, List.set_cons_zero, List.set_cons_succ]
    refine take_p 5 97 (.slice (some ⟨g, 0, none⟩) kk tc) rfl rfl (by kernel_rfl) (by kernel_rfl) (by kernel_rfl) (fun _ _ _ h => h) rfl (fun w => by go_simp) ?_
    try simp only [List.setIfInBounds_toArray, List.set_cons_zero, List.set_cons_succ]
    refine take_p 7 99 (.slice (some ⟨g, 0, none⟩) tn tc) rfl rfl (by kernel_rfl) (by kernel_rfl) (by kernel_rfl) (fun _ _ _ h => h) rfl (fun w => by go_simp) ?_
    try simp only [List.setIfInBounds_toArray, List.set_cons_zero, List.set_cons_succ]
    refine take_p 8 100 (.int .i64 (kk : Int)) rfl rfl (by kernel_rfl) (by kernel_rfl) (by kernel_rfl) (fun _ _ _ h => h) rfl (fun w => by go_simp) ?_
    try simp only [List.setIfInBounds_toArray, List.set_cons_zero, List.set_cons_succ]
    refine take_p 9 101 (.int .i64 ((kk : Int) + 1)) rfl rfl (by kernel_rfl) (by kernel_rfl) (by kernel_rfl) (fun _ _ _ h => h) rfl (fun w => by go_simp) ?_
    try simp only [List.setIfInBounds_toArray, List.set_cons_zero, List.set_cons_succ]
    refine take_p 10 102 (.slice ad (tn - (kk + 1)) (tc - (kk + 1))) rfl rfl (by kernel_rfl) (by kernel_rfl) (by kernel_rfl) (fun _ _ _ h => h) rfl (fun w => by rw [← HAD.out]; have h9 : (0 : Int) ≤ (kk : Int) + 1 := (by omega); have h8 : (kk : Int) + 1 ≤ (tn : Int) := (by omega); go_simp) ?_
    try simp only [List.setIfInBounds_toArray, List.set_cons_zero, List.set_cons_succ]
    refine take_p 12 104 (.pointer (some ⟨e, 0, none⟩)) rfl rfl (by kernel_rfl) (by kernel_rfl) (by kernel_rfl) (fun _ _ _ h => h) rfl (fun w => by go_simp) ?_
    try simp only [List.setIfInBounds_toArray, List.set_cons_zero, List.set_cons_succ]
    refine take_p 13 105 (.pointer (some ⟨e, 2, none⟩)) rfl rfl (by kernel_rfl) (by kernel_rfl) (by kernel_rfl) (fun _ _ _ h => h) rfl (fun w => by go_simp) ?_
    try simp only [List.setIfInBounds_toArray, List.set_cons_zero, List.set_cons_succ]
    refine ready_f 2 (o := { dst := some 94, op := Op.buildSlice 31 0 #[], type := 31, pos := "law.go:132", after := #[], guard := none }) (by kernel_rfl) rfl (fun K hK => ?_)
    go_simp
    refine hK.out _ _ (fun _ _ => trivial) ?_
    clear hK K
    try simp only [Act.put, List.setIfInBounds_toArray, List.set_cons_zero, List.set_cons_succ]
    have O1 := hide1 (Lst.empty (w := WU) EU.out.hB)
    have E1 := hide1 (EU.out.below (below1 (.cells #[] 9)) (Nat.le_refl _))
    have L1 := hide1 (LU.out.below (below1 (.cells #[] 9)) (Nat.le_refl _))
    have B1 : Hid (Below B w (WU.alloc (.cells #[] 9))) := BU.out.alloc EU.out.hB _
    obtain ⟨bs, hbs⟩ : ∃ b, WU.heap.size = b := ⟨_, rfl⟩
    have HBS : Hid (∀ j g, j < 9 → Fp j g → g < bs) := fun j g hj hg => by have := (EU.out.fb hj hg).2; omega
    have hbB : Hid (B ≤ bs) := by have := EU.out.hB; unfold Hid; omega
    rw [hbs] at O1 ⊢
    generalize WU.alloc (.cells #[] 9) = W1 at O1 E1 L1 B1 ⊢
    clear hbs EU LU BU
    refine ready_f 6 (o := { dst := some 98, op := Op.call { callee := Callee.builtin Builtin.append, args := #[Operand.tmp 94, Operand.tmp 97], argTypes := #[31, 31] }, type := 31, pos := "law.go:132", after := #[{ on := 2, ground := Ground.data }, { on := 5, ground := Ground.data }], guard := none }) (by kernel_rfl) rfl (fun K hK => ?_)
    rw [if_pos (by rfl)]
    refine wp_append_lst (B := B) (A := []) (C := (S.ls 2).take kk) _ _ rfl rfl rfl O1.out (L1.out.head (by have := HTN.out; have := HKT.out; omega)) (by have := HTN.out; simp; omega) (by have := E1.out.hB; omega) ?_
    intro v2 W2 ho hg hf
    refine hK.out _ _ (fun _ _ => trivial) ?_
    clear hK K
    try simp only [Act.put, List.setIfInBounds_toArray, List.set_cons_zero, List.set_cons_succ]
    rw [List.nil_append] at ho
    have K2 : Hid (Kp (fun g => g = bs) W1 W2) := (Kp.ofGrown hg).mono fun g e9 => (by cases e9; rfl)
    have hbs2 : Hid (bs ≤ W2.heap.size) := by have h8 := (O1.out.lt (g := bs) rfl).2; have h9 := hg.size; unfold Hid; omega
    have FR2 : Hid (∀ g, v2.ownBlock = some g → bs ≤ g) := fun g e9 => by rcases hf g e9 with h9 | h9; (cases h9; exact Nat.le_refl _); (have h8 := (O1.out.lt (g := bs) rfl).2; omega)
    have E2 := hide1 (E1.out.kp K2.out fun j g hj hg e9 => by have := HBS.out j g hj hg; omega)
    have L2 := hide1 (L1.out.kp K2.out fun g9 hg e9 => by have h9 := HBS.out 2 g9 (by omega) ((HLTF.out g9).2 (by rw [HTV.out]; exact hg)); omega)
    have B2 : Hid (Below B w W2) := B1.out.trans (K2.out.below E1.out.hB fun g e9 => by have := hbB.out; omega)
    have O2 := hide1 ho
    clear ho hg hf O1 E1 L1 B1 K2
    refine ready_f 11 (o := { dst := some 103, op := Op.call { callee := Callee.builtin Builtin.append, args := #[Operand.tmp 98, Operand.tmp 102], argTypes := #[31, 31] }, type := 31, pos := "law.go:132", after := #[{ on := 6, ground := Ground.data }, { on := 10, ground := Ground.data }, { on := 6, ground := Ground.chain }], guard := none }) (by kernel_rfl) rfl (fun K hK => ?_)
    rw [if_pos (by rfl)]
    refine wp_append_lst (B := B) (A := (S.ls 2).take kk) (C := (S.ls 2).drop (kk + 1)) _ _ rfl rfl rfl O2.out (by rw [← HAD.out]; exact L2.out.tail (by have := HTN.out; have := HKT.out; omega) HCAP.out) (by have := HTN.out; simp; omega) (by have := E2.out.hB; omega) ?_
    intro v3 W3 ho hg hf
    refine hK.out _ _ (fun _ _ => trivial) ?_
    clear hK K
    try simp only [Act.put, List.setIfInBounds_toArray, List.set_cons_zero, List.set_cons_succ]
    have K3 : Hid (Kp (fun g => v2.ownBlock = some g) W2 W3) := Kp.ofGrown hg
    have E3 := hide1 (E2.out.kp K3.out fun j g hj hg e9 => by have h8 := FR2.out g e9; have := HBS.out j g hj hg; omega)
    have B3 : Hid (Below B w W3) := B2.out.trans (K3.out.below E2.out.hB fun g e9 => (O2.out.lt e9).1)
    have FR3 : Hid (∀ g, v3.ownBlock = some g → bs ≤ g) := fun g e9 => by rcases hf g e9 with h9 | h9; (exact FR2.out g h9); (have h8 := E2.out.hB; have h7 := HBS.out 8 e (by omega) ((E2.out.box e).2 rfl); have h6 := lt_heap E2.out.row; have h5 : bs ≤ W2.heap.size := hbs2.out; omega)
    have HER : (S.ls 2).take kk ++ (S.ls 2).drop (kk + 1) = (S.ls 2).eraseIdx kk := (List.eraseIdx_eq_take_drop_succ ..).symm
    rw [HER] at ho
    have HO := hide1 ho
    obtain ⟨a3, c3, hv3⟩ := ho.form
    obtain ⟨n3, hn3⟩ : ∃ n, ((S.ls 2).eraseIdx kk).length = n := ⟨_, rfl⟩
    rw [hn3] at hv3
    subst hv3
    clear ho hg hf hn3 HER O2 E2 L2 B2 K3 FR2
    have k0 := (box13 E3.out.row).1.2.2.1
    have f0 := (box13 E3.out.row).2.2 2
    obtain ⟨E6, B6⟩ := E3.out.listN (i := 2) (by omega) (by omega) HO.out (fun g hg j hj e9 => by have h8 := FR3.out g hg; have h7 := HBS.out j g hj e9; omega) (by rw [heap_setCell_same _ e 2 _ _ _ E3.out.row]; rfl)
    have HE6 := hide1 E6
    have HB6 := hide1 (B3.out.trans B6)
    clear E6 B6 B3 FR3
    refine take_p 14 106 (.pointer (some ⟨e, 2, none⟩)) rfl rfl (by kernel_rfl) (by kernel_rfl) (by kernel_rfl) (fun _ _ _ h => h) rfl (fun w => by go_simp) ?_
    try simp only [List.setIfInBounds_toArray, List.set_cons_zero, List.set_cons_succ]
    refine ready_f 15 (o := { dst := none, op := Op.store 31 (Operand.tmp 106) (Operand.tmp 103), type := 0, pos := "law.go:132", after := #[{ on := 14, ground := Ground.data }, { on := 11, ground := Ground.data }, { on := 11, ground := Ground.chain }, { on := 0, ground := Ground.phase }, { on := 1, ground := Ground.phase }, { on := 2, ground := Ground.phase }, { on := 3, ground := Ground.phase }, { on := 4, ground := Ground.phase }, { on := 5, ground := Ground.phase }, { on := 6, ground := Ground.phase }, { on := 7, ground := Ground.phase }, { on := 8, ground := Ground.phase }, { on := 9, ground := Ground.phase }, { on := 10, ground := Ground.phase }, { on := 11, ground := Ground.phase }], guard := none }) (by kernel_rfl) rfl (fun K hK => ?_)
    go_simp
    refine hK.out _ _ (fun _ _ => trivial) ?_
    clear hK K
    generalize W3.setCell ⟨e, 2, none⟩ (.slice a3 n3 c3) = W6 at HE6 HB6 ⊢
    clear k0 f0 E3 HO
    refine done_f (by kernel_rfl) ?_ _
    clear m0 m1 m2 m3 cT hck hgl hsl wi
    generalize upd vl 2 _ = vl6 at HE6
    generalize upd Fp 2 _ = Fp6 at HE6
    change Hid (Em B e p vl6 Fp6 n (S.lst 2 ((S.ls 2).eraseIdx kk)) W6) at HE6
    have cL := (box13 HE6.out.row).1.1
    obtain ⟨lv, lm, lu, hlk, hlf⟩ := HE6.out.lk 0 (by omega)
    change Lkm B (p 0) lv lm lu n (S.L 0) W6 at hlk
    have HX := hide1 (HS.out.L 0 (by omega))
    have kP0 := hide1 (lpeer_any hlk HX.out.own0)
    have kR := hide1 (lrecv_any hlk HE6.out.hB HX.out HN.out Hn.out t HTZ.out)
    obtain ⟨op, hop⟩ : ∃ k, (S.L 0).peer = k := ⟨_, rfl⟩
    rw [hop] at kP0
    have HOP := hide1 hop
    clear hop
    go_wp2_with fail
    refine kP0.out.mono ?_
    rintro x9 w1 ⟨rfl, hw1⟩
    obtain rfl := hw1.symm
    go_wp2_with fail
    refine kR.out.mono ?_
    rintro x9 W7 ⟨r, d, z, rfl, hd9, hz9, hf⟩
    obtain ⟨bods, hbods⟩ : ∃ b, (S.L 0).recvB t = b := ⟨_, rfl⟩
    rw [hbods] at hf
    have HBO := hide1 hbods
    have HBL : Hid (bods.length ≤ 16) := by rw [← hbods]; exact Ls.recvB_len HX.out t
    obtain ⟨Fp7, E7, B7, R7, L7, D7⟩ := HE6.out.told (by omega) (Nat.le_succ n) hlk hlf hf
    obtain ⟨ra, rc, hra⟩ := L7.form
    obtain ⟨rn, hrn⟩ : ∃ k, bods.length = k := ⟨_, rfl⟩
    rw [hrn] at hra
    subst hra
    have HE7 := hide1 E7
    have HB7 := hide1 (HB6.out.trans B7)
    have HR7 := hide1 R7
    have HD7 := hide1 D7
    have HRE : Hid (∀ g, (Value.slice ra rn rc).ownBlock = some g → ¬ g = e) := fun g hg e9 => D7 g hg 8 (by omega) ((E7.box g).2 e9)
    clear kP0 kR hd9 hz9 hf hbods E7 B7 R7 L7 D7 hrn hlk hlf cL HE6 HB6
    change Hid (Em B e p vl6 Fp7 (n + 1) ((S.lst 2 ((S.ls 2).eraseIdx kk)).lnk 0 ((S.L 0).recvX t)) W7) at HE7
    go_upto_region 20 with (fail)
    generalize hW8 : World.alloc W7 _ = W8
    have b78 : Hid (Below W7.heap.size W7 W8) := by rw [← hW8]; exact below1 _
    have G8 : Hid (W8.heap[W7.heap.size]? = some (.cells #[.slice ra rn rc, .bool d] 60 (0, 0))) := by rw [← hW8]; exact heap_alloc_new _ _
    have E8 := hide1 (HE7.out.below b78.out (Nat.le_refl _))
    have B8 : Hid (Below B w W8) := HB7.out.trans (b78.out.mono HE7.out.hB)
    have R8 := hide1 (HR7.out.below b78.out (Nat.le_refl _))
    obtain ⟨g10, hg10⟩ : ∃ g, W7.heap.size = g := ⟨_, rfl⟩
    have HGE : Hid (g10 ≠ e) := by have := lt_heap HE7.out.row; unfold Hid; omega
    rw [hg10] at G8 ⊢
    clear hW8 hg10 b78 HE7 HB7 HR7
    have cL := (box13 E8.out.row).1.1
    obtain ⟨lv8, lm8, lu8, hlk8, hlf8⟩ := E8.out.lk 0 (by omega)
    change Lkm B (p 0) lv8 lm8 lu8 (n + 1) ((S.L 0).recvX t) W8 at hlk8
    have HOKX : Hid (((S.L 0).recvX t).Ok (N + 16)) := HX.out.recvX t
    have kP1 := hide1 (lpeer_any hlk8 HOKX.out.own0)
    obtain ⟨np, hnp⟩ : ∃ k, ((S.L 0).recvX t).peer = k := ⟨_, rfl⟩
    rw [hnp] at kP1
    have HNP := hide1 hnp
    clear hnp hlk8 hlf8
    go_wp2_with fail
    refine kP1.out.mono ?_
    rintro x9 w1 ⟨rfl, hw1⟩
    obtain rfl := hw1.symm
    clear kP1 cL
    by_cases hpe : np = op
    · have hpb : ((np : Int) != (op : Int)) = false := by simp; omega
      have HPE : Hid (((S.L 0).recvX t).peer = (S.L 0).peer) := by unfold Hid; rw [HNP.out, HOP.out]; exact hpe
      have HMV : Hid (S.mv2 0 pick = (((S.lst 2 ((S.ls 2).eraseIdx kk)).lnk 0 ((S.L 0).recvX t)).gotS 0 bods).fl 0) := by
        have hl : (S.ls (2 + 0)).length = tn := HTN.out
        unfold Hid
        rw [Es.mv2, if_neg (by rw [hl]; have := HKT.out; omega), Es.pk, hl, HKK.out, show (S.ls (2 + 0)).getD kk ByteArray.empty = t from HT.out, Es.arr, Es.rcv]
        split
        · change (((S.lst 2 ((S.ls 2).eraseIdx kk)).lnk 0 ((S.L 0).recvX t)).gotS 0 ((S.L 0).recvB t)).fl 0 = _
          rw [HBO.out]
        · rename_i h9
          exact absurd HPE.out h9
      have HGL9 : Hid ((((S.lst 2 ((S.ls 2).eraseIdx kk)).lnk 0 ((S.L 0).recvX t)).ls 6).length ≤ N) := HS.out.oth 6 (by omega) (by omega)
      have CG : Hid (W8.cell? ⟨g10, 0, none⟩ = some (.slice ra rn rc)) := (box2 G8.out).1
      obtain ⟨vl9, hvl9⟩ : ∃ v, vl6 = v := ⟨_, rfl⟩
      obtain ⟨Fp9, hFp9⟩ : ∃ v, Fp7 = v := ⟨_, rfl⟩
      rw [hvl9, hFp9] at E8
      clear hpe
      obtain ⟨LG, _⟩ := E8.out.ls 6 (by omega) (by omega)
      obtain ⟨ga, gc, hgv⟩ := LG.form
      obtain ⟨gn, hgn⟩ : ∃ k, (((S.lst 2 ((S.ls 2).eraseIdx kk)).lnk 0 ((S.L 0).recvX t)).ls 6).length = k := ⟨_, rfl⟩
      rw [hgn] at hgv
      have HGV := hide1 hgv
      have HLG := hide1 LG
      rw [hgv] at HLG
      have CGT := hide1 ((box13 E8.out.row).2.1.2.2.1)
      rw [hgv] at CGT
      clear LG hgv hgn
      go_upto_region 22 with (fail)
      refine region_f (F := [10, 14]) (S := fun X => X.cell? ⟨e, 6, none⟩ = some (.slice ga gn gc) ∧ X.cell? ⟨g10, 0, none⟩ = some (.slice ra rn rc)) (by kernel_rfl) ⟨CGT.out, CG.out⟩ (fun hS => ?_)
      have EU : Hid (Em B e p vl9 Fp9 (n + 1) ((S.lst 2 ((S.ls 2).eraseIdx kk)).lnk 0 ((S.L 0).recvX t)) (World.drew W8)) := E8.out.below (Below.refl _ _).drew (Nat.le_refl _)
      have LU : Hid (Lst B (World.drew W8) (.slice ga gn gc) (((S.lst 2 ((S.ls 2).eraseIdx kk)).lnk 0 ((S.L 0).recvX t)).ls 6)) := HLG.out
      have BU : Hid (Below B w (World.drew W8)) := B8.out.drew
      have RU : Hid (Rdl (World.drew W8) (.slice ra rn rc) bods) := R8.out
      generalize World.drew W8 = WU at hS EU LU BU RU ⊢
      refine take_p 0 144 (.pointer (some ⟨e, 0, none⟩)) rfl rfl (by kernel_rfl) (by kernel_rfl) (by kernel_rfl) (fun _ _ _ h => h) rfl (fun w => by go_simp) ?_
      try simp only [List.setIfInBounds_toArray, List.set_cons_zero, List.set_cons_succ]
      refine take_p 1 145 (.int .i64 0) rfl rfl (by kernel_rfl) (by kernel_rfl) (by kernel_rfl) (fun _ _ _ h => h) rfl (fun w => by go_simp) ?_
      try simp only [List.setIfInBounds_toArray, List.set_cons_zero, List.set_cons_succ]
      refine take_p 2 146 (.pointer (some ⟨e, 0, none⟩)) rfl rfl (by kernel_rfl) (by kernel_rfl) (by kernel_rfl) (fun _ _ _ h => h) rfl (fun w => by go_simp) ?_
      try simp only [List.setIfInBounds_toArray, List.set_cons_zero, List.set_cons_succ]
      refine take_p 3 147 (.int .i64 0) rfl rfl (by kernel_rfl) (by kernel_rfl) (by kernel_rfl) (fun _ _ _ h => h) rfl (fun w => by go_simp) ?_
      try simp only [List.setIfInBounds_toArray, List.set_cons_zero, List.set_cons_succ]
      refine take_p 4 148 (.pointer (some ⟨e, 0, none⟩)) rfl rfl (by kernel_rfl) (by kernel_rfl) (by kernel_rfl) (fun _ _ _ h => h) rfl (fun w => by go_simp) ?_
      try simp only [List.setIfInBounds_toArray, List.set_cons_zero, List.set_cons_succ]
      refine take_p 5 149 (.pointer (some ⟨e, 6, none⟩)) rfl rfl (by kernel_rfl) (by kernel_rfl) (by kernel_rfl) (fun _ _ _ h => h) rfl (fun w => by go_simp) ?_
      try simp only [List.setIfInBounds_toArray, List.set_cons_zero, List.set_cons_succ]
      refine take_p 6 150 (.pointer (some ⟨e, 6, none⟩)) rfl rfl (by kernel_rfl) (by kernel_rfl) (by kernel_rfl) (fun _ _ _ h => h) rfl (fun w => by go_simp) ?_
      try simp only [List.setIfInBounds_toArray, List.set_cons_zero, List.set_cons_succ]
      refine take_f 7 151 (.slice ga gn gc) [10, 13, 14] rfl rfl (by kernel_rfl) (by kernel_rfl) (by kernel_rfl) (by kernel_rfl) (by kernel_rfl) (by kernel_rfl) (fun _ _ _ h => h) rfl (fun w hSw => by obtain ⟨g0, g1⟩ := hSw; go_simp) hS ?_
      try simp only [List.setIfInBounds_toArray, List.set_cons_zero, List.set_cons_succ]
      refine take_p 8 152 (.pointer (some ⟨g10, 0, none⟩)) rfl rfl (by kernel_rfl) (by kernel_rfl) (by kernel_rfl) (fun _ _ _ h => h) rfl (fun w => by go_simp) ?_
      try simp only [List.setIfInBounds_toArray, List.set_cons_zero, List.set_cons_succ]
      refine take_f 9 153 (.slice ra rn rc) [10, 13, 14] rfl rfl (by kernel_rfl) (by kernel_rfl) (by kernel_rfl) (by kernel_rfl) (by kernel_rfl) (by kernel_rfl) (fun _ _ _ h => h) rfl (fun w hSw => by obtain ⟨g0, g1⟩ := hSw; go_simp) hS ?_
      try simp only [List.setIfInBounds_toArray, List.set_cons_zero, List.set_cons_succ]
      refine take_p 11 155 (.pointer (some ⟨e, 0, none⟩)) rfl rfl (by kernel_rfl) (by kernel_rfl) (by kernel_rfl) (fun _ _ _ h => h) rfl (fun w => by go_simp) ?_
      try simp only [List.setIfInBounds_toArray, List.set_cons_zero, List.set_cons_succ]
      refine take_p 12 156 (.pointer (some ⟨e, 6, none⟩)) rfl rfl (by kernel_rfl) (by kernel_rfl) (by kernel_rfl) (fun _ _ _ h => h) rfl (fun w => by go_simp) ?_
      try simp only [List.setIfInBounds_toArray, List.set_cons_zero, List.set_cons_succ]
      refine ready_f 10 (o := { dst := some 154, op := Op.call { callee := Callee.builtin Builtin.append, args := #[Operand.tmp 151, Operand.tmp 153], argTypes := #[31, 31] }, type := 31, pos := "law.go:138", after := #[{ on := 7, ground := Ground.data }, { on := 9, ground := Ground.data }], guard := none }) (by kernel_rfl) rfl (fun K hK => ?_)
      rw [if_pos (by rfl)]
      refine wp_append_lst _ _ rfl rfl rfl LU.out RU.out (by have h1 := HGL9.out; have h2 := HNM.out; have h3 := HBL.out; omega) (by have := EU.out.hB; omega) ?_
      intro v3 W3 ho hg hf
      refine hK.out _ _ (fun h => absurd (by decide) h) ?_
      clear hK K
      try simp only [Act.put, List.setIfInBounds_toArray, List.set_cons_zero, List.set_cons_succ]
      have K3 : Hid (Kp (fun g => (vl9 6).ownBlock = some g) WU W3) := by have h9 := Kp.ofGrown hg; rw [← HGV.out] at h9; exact h9
      have F3 : Hid (∀ g, v3.ownBlock = some g → (vl9 6).ownBlock = some g ∨ WU.heap.size ≤ g) := by unfold Hid; rw [HGV.out]; exact hf
      have r3 := (K3.out.block e (lt_heap EU.out.row) (fun e9 => EU.out.dis 6 8 (by omega) (by omega) (by omega) e (((EU.out.ls 6 (by omega) (by omega)).2 e).2 e9) ((EU.out.box e).2 rfl))).trans EU.out.row
      have HO := hide1 ho
      obtain ⟨a3, c3, hv3⟩ := ho.form
      obtain ⟨n3, hn3⟩ : ∃ n, (((S.lst 2 ((S.ls 2).eraseIdx kk)).lnk 0 ((S.L 0).recvX t)).ls 6 ++ bods).length = n := ⟨_, rfl⟩
      rw [hn3] at hv3
      subst hv3
      obtain ⟨E6, B6⟩ := EU.out.list (i := 6) (by omega) (by omega) HO.out K3.out F3.out (by rw [heap_setCell_same _ e 6 _ _ _ r3]; rfl)
      have HEa := hide1 E6
      have HBa := hide1 (BU.out.trans B6)
      have k0 := (box13 r3).2.1.2.2.1
      have f0 := (box13 r3).2.2 6
      clear ho hg hf hn3 E6 B6 r3 EU LU BU RU K3 F3 HO hS
      refine take_p 13 157 (.pointer (some ⟨e, 6, none⟩)) rfl rfl (by kernel_rfl) (by kernel_rfl) (by kernel_rfl) (fun _ _ _ h => h) rfl (fun w => by go_simp) ?_
      try simp only [List.setIfInBounds_toArray, List.set_cons_zero, List.set_cons_succ]
      refine ready_f 14 (o := { dst := none, op := Op.store 31 (Operand.tmp 157) (Operand.tmp 154), type := 0, pos := "law.go:138", after := #[{ on := 13, ground := Ground.data }, { on := 10, ground := Ground.data }, { on := 10, ground := Ground.chain }, { on := 0, ground := Ground.phase }, { on := 1, ground := Ground.phase }, { on := 2, ground := Ground.phase }, { on := 3, ground := Ground.phase }, { on := 4, ground := Ground.phase }, { on := 5, ground := Ground.phase }, { on := 6, ground := Ground.phase }, { on := 7, ground := Ground.phase }, { on := 8, ground := Ground.phase }, { on := 9, ground := Ground.phase }, { on := 10, ground := Ground.phase }], guard := none }) (by kernel_rfl) rfl (fun K hK => ?_)
      go_simp
      refine hK.out _ _ (fun h => absurd (by decide) h) ?_
      clear hK K
      generalize W3.setCell ⟨e, 6, none⟩ (.slice a3 n3 c3) = Wa at HEa HBa ⊢
      clear k0 f0
      refine done_f (by kernel_rfl) ?_ _
      have cL := (box13 HEa.out.row).1.1
      obtain ⟨lv, lm, lu, hlk, hlf⟩ := HEa.out.lk 0 (by omega)
      have kT := hide1 (lflush_any hlk HEa.out.hB HOKX.out HN16.out)
      go_wp2_with fail
      refine kT.out.mono ?_
      rintro x9 V1 ⟨rr, rfl, hf⟩
      obtain ⟨Fp3, E3, B3, R3, _, D3⟩ := HEa.out.told (by omega) (Nat.le_refl _) hlk hlf hf
      have kP := hide1 (put0_any E3 R3 D3 (by exact (HS.out.way 3 (by omega) (by omega)).1) (Ls.flushF_len HOKX.out))
      have BB := hide1 (HBa.out.trans B3)
      clear kT hf E3 B3 R3 D3 hlk hlf cL
      go_wp2_with fail
      refine kP.out.mono ?_
      rintro x9 V2 ⟨rfl, p2, vl2, Fp2, E2, B2⟩
      have fin := hide1 (HP.out V2 ⟨p2, vl2, Fp2, (by rw [HMV.out]; exact E2), BB.out.trans B2⟩)
      clear E2 B2 kP
      go_wp2
      go_ret
      exact ⟨rfl, fin.out⟩
    · have hpb : ((np : Int) != (op : Int)) = true := by simp; omega
      have HPE : Hid (¬ ((S.L 0).recvX t).peer = (S.L 0).peer) := by unfold Hid; rw [HNP.out, HOP.out]; exact hpe
      have HMV : Hid (S.mv2 0 pick = (((((S.lst 2 ((S.ls 2).eraseIdx kk)).lnk 0 ((S.L 0).recvX t)).lst 4 []).lst 6 []).gotS 0 bods).fl 0) := by
        have hl : (S.ls (2 + 0)).length = tn := HTN.out
        unfold Hid
        rw [Es.mv2, if_neg (by rw [hl]; have := HKT.out; omega), Es.pk, hl, HKK.out, show (S.ls (2 + 0)).getD kk ByteArray.empty = t from HT.out, Es.arr, Es.rcv]
        split
        · rename_i h9
          exact absurd h9 HPE.out
        · change (((((S.lst 2 ((S.ls 2).eraseIdx kk)).lnk 0 ((S.L 0).recvX t)).lst 4 []).lst 6 []).gotS 0 ((S.L 0).recvB t)).fl 0 = _
          rw [HBO.out]
      have HGL9 : Hid ((((((S.lst 2 ((S.ls 2).eraseIdx kk)).lnk 0 ((S.L 0).recvX t)).lst 4 []).lst 6 []).ls 6).length ≤ N) := Nat.zero_le _
      clear hpe
      go_upto_region 21 with (fail)
      refine region_f (F := []) (S := fun _ => True) (by kernel_rfl) trivial (fun hS => ?_)
      have EU : Hid (Em B e p vl6 Fp7 (n + 1) ((S.lst 2 ((S.ls 2).eraseIdx kk)).lnk 0 ((S.L 0).recvX t)) (World.drew W8)) := E8.out.below (Below.refl _ _).drew (Nat.le_refl _)
      have BU : Hid (Below B w (World.drew W8)) := B8.out.drew
      have RU : Hid (Rdl (World.drew W8) (.slice ra rn rc) bods) := R8.out
      have GU : Hid ((World.drew W8).heap[g10]? = some (.cells #[.slice ra rn rc, .bool d] 60 (0, 0))) := G8.out
      generalize World.drew W8 = WU at EU BU RU GU ⊢
      clear hS
      refine take_p 0 134 (.pointer (some ⟨e, 0, none⟩)) rfl rfl (by kernel_rfl) (by kernel_rfl) (by kernel_rfl) (fun _ _ _ h => h) rfl (fun w => by go_simp) ?_
      try simp only [List.setIfInBounds_toArray, List.set_cons_zero, List.set_cons_succ]
      refine take_p 1 135 (.int .i64 0) rfl rfl (by kernel_rfl) (by kernel_rfl) (by kernel_rfl) (fun _ _ _ h => h) rfl (fun w => by go_simp) ?_
      try simp only [List.setIfInBounds_toArray, List.set_cons_zero, List.set_cons_succ]
      refine take_p 2 136 (.pointer (some ⟨e, 0, none⟩)) rfl rfl (by kernel_rfl) (by kernel_rfl) (by kernel_rfl) (fun _ _ _ h => h) rfl (fun w => by go_simp) ?_
      try simp only [List.setIfInBounds_toArray, List.set_cons_zero, List.set_cons_succ]
      refine take_p 3 137 (.int .i64 0) rfl rfl (by kernel_rfl) (by kernel_rfl) (by kernel_rfl) (fun _ _ _ h => h) rfl (fun w => by go_simp) ?_
      try simp only [List.setIfInBounds_toArray, List.set_cons_zero, List.set_cons_succ]
      refine take_p 4 138 (.pointer (some ⟨e, 0, none⟩)) rfl rfl (by kernel_rfl) (by kernel_rfl) (by kernel_rfl) (fun _ _ _ h => h) rfl (fun w => by go_simp) ?_
      try simp only [List.setIfInBounds_toArray, List.set_cons_zero, List.set_cons_succ]
      refine take_p 5 139 (.pointer (some ⟨e, 4, none⟩)) rfl rfl (by kernel_rfl) (by kernel_rfl) (by kernel_rfl) (fun _ _ _ h => h) rfl (fun w => by go_simp) ?_
      try simp only [List.setIfInBounds_toArray, List.set_cons_zero, List.set_cons_succ]
      refine take_p 6 140 (.pointer (some ⟨e, 4, none⟩)) rfl rfl (by kernel_rfl) (by kernel_rfl) (by kernel_rfl) (fun _ _ _ h => h) rfl (fun w => by go_simp) ?_
      try simp only [List.setIfInBounds_toArray, List.set_cons_zero, List.set_cons_succ]
      refine take_p 8 141 (.pointer (some ⟨e, 0, none⟩)) rfl rfl (by kernel_rfl) (by kernel_rfl) (by kernel_rfl) (fun _ _ _ h => h) rfl (fun w => by go_simp) ?_
      try simp only [List.setIfInBounds_toArray, List.set_cons_zero, List.set_cons_succ]
      refine take_p 9 142 (.pointer (some ⟨e, 6, none⟩)) rfl rfl (by kernel_rfl) (by kernel_rfl) (by kernel_rfl) (fun _ _ _ h => h) rfl (fun w => by go_simp) ?_
      try simp only [List.setIfInBounds_toArray, List.set_cons_zero, List.set_cons_succ]
      have k0 := (box13 EU.out.row).2.1.1
      have f0 := (box13 EU.out.row).2.2 4
      obtain ⟨E5, B5⟩ := EU.out.listN (i := 4) (by omega) (by omega) (Lst.nil _ _) (fun g hg => by cases hg) (by rw [heap_setCell_same _ e 4 _ _ _ EU.out.row]; rfl)
      have Eb1 := hide1 E5
      have Bb1 := hide1 (BU.out.trans B5)
      have Rb1 := hide1 (RU.out.kp (Kp.setCell (F := fun g => g = e) WU e 4 (.slice none 0 0) rfl) HRE.out)
      have Gb1 : Hid ((WU.setCell ⟨e, 4, none⟩ (.slice none 0 0)).heap[g10]? = some (.cells #[.slice ra rn rc, .bool d] 60 (0, 0))) := (heap_setCell_other _ _ _ _ HGE.out).trans GU.out
      clear E5 B5
      refine ready_f 7 (o := { dst := none, op := Op.store 31 (Operand.tmp 140) (Operand.const (Value.slice none 0 0)), type := 0, pos := "law.go:136", after := #[{ on := 6, ground := Ground.data }, { on := 0, ground := Ground.phase }, { on := 1, ground := Ground.phase }, { on := 2, ground := Ground.textOnly Departure.lateStores }, { on := 3, ground := Ground.textOnly Departure.lateStores }], guard := none }) (by kernel_rfl) rfl (fun K hK => ?_)
      go_simp
      refine hK.out _ _ (fun _ _ => trivial) ?_
      clear hK K
      generalize WU.setCell ⟨e, 4, none⟩ (.slice none 0 0) = Wb1 at Eb1 Bb1 Rb1 Gb1 ⊢
      clear k0 f0 EU BU RU GU
      refine take_p 10 143 (.pointer (some ⟨e, 6, none⟩)) rfl rfl (by kernel_rfl) (by kernel_rfl) (by kernel_rfl) (fun _ _ _ h => h) rfl (fun w => by go_simp) ?_
      try simp only [List.setIfInBounds_toArray, List.set_cons_zero, List.set_cons_succ]
      have k0 := (box13 Eb1.out.row).2.1.2.2.1
      have f0 := (box13 Eb1.out.row).2.2 6
      obtain ⟨E5, B5⟩ := Eb1.out.listN (i := 6) (by omega) (by omega) (Lst.nil _ _) (fun g hg => by cases hg) (by rw [heap_setCell_same _ e 6 _ _ _ Eb1.out.row]; rfl)
      have Ec1 := hide1 E5
      have Bc1 := hide1 (Bb1.out.trans B5)
      have Rc1 := hide1 (Rb1.out.kp (Kp.setCell (F := fun g => g = e) Wb1 e 6 (.slice none 0 0) rfl) HRE.out)
      have Gc1 : Hid ((Wb1.setCell ⟨e, 6, none⟩ (.slice none 0 0)).heap[g10]? = some (.cells #[.slice ra rn rc, .bool d] 60 (0, 0))) := (heap_setCell_other _ _ _ _ HGE.out).trans Gb1.out
      clear E5 B5
      refine ready_f 11 (o := { dst := none, op := Op.store 31 (Operand.tmp 143) (Operand.const (Value.slice none 0 0)), type := 0, pos := "law.go:136", after := #[{ on := 10, ground := Ground.data }, { on := 7, ground := Ground.chain }, { on := 0, ground := Ground.phase }, { on := 1, ground := Ground.phase }, { on := 2, ground := Ground.phase }, { on := 3, ground := Ground.phase }, { on := 4, ground := Ground.phase }, { on := 5, ground := Ground.phase }, { on := 6, ground := Ground.phase }, { on := 7, ground := Ground.phase }], guard := none }) (by kernel_rfl) rfl (fun K hK => ?_)
      go_simp
      refine hK.out _ _ (fun _ _ => trivial) ?_
      clear hK K
      generalize Wb1.setCell ⟨e, 6, none⟩ (.slice none 0 0) = Wc1 at Ec1 Bc1 Rc1 Gc1 ⊢
      clear k0 f0 Eb1 Bb1 Rb1 Gb1
      refine done_f (by kernel_rfl) ?_ _
      have CG : Hid (Wc1.cell? ⟨g10, 0, none⟩ = some (.slice ra rn rc)) := (box2 Gc1.out).1
      generalize upd (upd vl6 4 _) 6 _ = vl9 at Ec1
      generalize upd (upd Fp7 4 _) 6 _ = Fp9 at Ec1
      change Hid (Em B e p vl9 Fp9 (n + 1) ((((S.lst 2 ((S.ls 2).eraseIdx kk)).lnk 0 ((S.L 0).recvX t)).lst 4 []).lst 6 []) Wc1) at Ec1
      obtain ⟨LG, _⟩ := Ec1.out.ls 6 (by omega) (by omega)
      obtain ⟨ga, gc, hgv⟩ := LG.form
      obtain ⟨gn, hgn⟩ : ∃ k, (((((S.lst 2 ((S.ls 2).eraseIdx kk)).lnk 0 ((S.L 0).recvX t)).lst 4 []).lst 6 []).ls 6).length = k := ⟨_, rfl⟩
      rw [hgn] at hgv
      have HGV := hide1 hgv
      have HLG := hide1 LG
      rw [hgv] at HLG
      have CGT := hide1 ((box13 Ec1.out.row).2.1.2.2.1)
      rw [hgv] at CGT
      clear LG hgv hgn
      go_upto_region 22 with (fail)
      refine region_f (F := [10, 14]) (S := fun X => X.cell? ⟨e, 6, none⟩ = some (.slice ga gn gc) ∧ X.cell? ⟨g10, 0, none⟩ = some (.slice ra rn rc)) (by kernel_rfl) ⟨CGT.out, CG.out⟩ (fun hS => ?_)
      have EU : Hid (Em B e p vl9 Fp9 (n + 1) ((((S.lst 2 ((S.ls 2).eraseIdx kk)).lnk 0 ((S.L 0).recvX t)).lst 4 []).lst 6 []) (World.drew Wc1)) := Ec1.out.below (Below.refl _ _).drew (Nat.le_refl _)
      have LU : Hid (Lst B (World.drew Wc1) (.slice ga gn gc) (((((S.lst 2 ((S.ls 2).eraseIdx kk)).lnk 0 ((S.L 0).recvX t)).lst 4 []).lst 6 []).ls 6)) := HLG.out
      have BU : Hid (Below B w (World.drew Wc1)) := Bc1.out.drew
      have RU : Hid (Rdl (World.drew Wc1) (.slice ra rn rc) bods) := Rc1.out
      generalize World.drew Wc1 = WU at hS EU LU BU RU ⊢
      refine take_p 0 144 (.pointer (some ⟨e, 0, none⟩)) rfl rfl (by kernel_rfl) (by kernel_rfl) (by kernel_rfl) (fun _ _ _ h => h) rfl (fun w => by go_simp) ?_
      try simp only [List.setIfInBounds_toArray, List.set_cons_zero, List.set_cons_succ]
      refine take_p 1 145 (.int .i64 0) rfl rfl (by kernel_rfl) (by kernel_rfl) (by kernel_rfl) (fun _ _ _ h => h) rfl (fun w => by go_simp) ?_
      try simp only [List.setIfInBounds_toArray, List.set_cons_zero, List.set_cons_succ]
      refine take_p 2 146 (.pointer (some ⟨e, 0, none⟩)) rfl rfl (by kernel_rfl) (by kernel_rfl) (by kernel_rfl) (fun _ _ _ h => h) rfl (fun w => by go_simp) ?_
      try simp only [List.setIfInBounds_toArray, List.set_cons_zero, List.set_cons_succ]
      refine take_p 3 147 (.int .i64 0) rfl rfl (by kernel_rfl) (by kernel_rfl) (by kernel_rfl) (fun _ _ _ h => h) rfl (fun w => by go_simp) ?_
      try simp only [List.setIfInBounds_toArray, List.set_cons_zero, List.set_cons_succ]
      refine take_p 4 148 (.pointer (some ⟨e, 0, none⟩)) rfl rfl (by kernel_rfl) (by kernel_rfl) (by kernel_rfl) (fun _ _ _ h => h) rfl (fun w => by go_simp) ?_
      try simp only [List.setIfInBounds_toArray, List.set_cons_zero, List.set_cons_succ]
      refine take_p 5 149 (.pointer (some ⟨e, 6, none⟩)) rfl rfl (by kernel_rfl) (by kernel_rfl) (by kernel_rfl) (fun _ _ _ h => h) rfl (fun w => by go_simp) ?_
      try simp only [List.setIfInBounds_toArray, List.set_cons_zero, List.set_cons_succ]
      refine take_p 6 150 (.pointer (some ⟨e, 6, none⟩)) rfl rfl (by kernel_rfl) (by kernel_rfl) (by kernel_rfl) (fun _ _ _ h => h) rfl (fun w => by go_simp) ?_
      try simp only [List.setIfInBounds_toArray, List.set_cons_zero, List.set_cons_succ]
      refine take_f 7 151 (.slice ga gn gc) [10, 13, 14] rfl rfl (by kernel_rfl) (by kernel_rfl) (by kernel_rfl) (by kernel_rfl) (by kernel_rfl) (by kernel_rfl) (fun _ _ _ h => h) rfl (fun w hSw => by obtain ⟨g0, g1⟩ := hSw; go_simp) hS ?_
      try simp only [List.setIfInBounds_toArray, List.set_cons_zero, List.set_cons_succ]
      refine take_p 8 152 (.pointer (some ⟨g10, 0, none⟩)) rfl rfl (by kernel_rfl) (by kernel_rfl) (by kernel_rfl) (fun _ _ _ h => h) rfl (fun w => by go_simp) ?_
      try simp only [List.setIfInBounds_toArray, List.set_cons_zero, List.set_cons_succ]
      refine take_f 9 153 (.slice ra rn rc) [10, 13, 14] rfl rfl (by kernel_rfl) (by kernel_rfl) (by kernel_rfl) (by kernel_rfl) (by kernel_rfl) (by kernel_rfl) (fun _ _ _ h => h) rfl (fun w hSw => by obtain ⟨g0, g1⟩ := hSw; go_simp) hS ?_
      try simp only [List.setIfInBounds_toArray, List.set_cons_zero, List.set_cons_succ]
      refine take_p 11 155 (.pointer (some ⟨e, 0, none⟩)) rfl rfl (by kernel_rfl) (by kernel_rfl) (by kernel_rfl) (fun _ _ _ h => h) rfl (fun w => by go_simp) ?_
      try simp only [List.setIfInBounds_toArray, List.set_cons_zero, List.set_cons_succ]
      refine take_p 12 156 (.pointer (some ⟨e, 6, none⟩)) rfl rfl (by kernel_rfl) (by kernel_rfl) (by kernel_rfl) (fun _ _ _ h => h) rfl (fun w => by go_simp) ?_
      try simp only [List.setIfInBounds_toArray, List.set_cons_zero, List.set_cons_succ]
      refine ready_f 10 (o := { dst := some 154, op := Op.call { callee := Callee.builtin Builtin.append, args := #[Operand.tmp 151, Operand.tmp 153], argTypes := #[31, 31] }, type := 31, pos := "law.go:138", after := #[{ on := 7, ground := Ground.data }, { on := 9, ground := Ground.data }], guard := none }) (by kernel_rfl) rfl (fun K hK => ?_)
      rw [if_pos (by rfl)]
      refine wp_append_lst _ _ rfl rfl rfl LU.out RU.out (by have h1 := HGL9.out; have h2 := HNM.out; have h3 := HBL.out; omega) (by have := EU.out.hB; omega) ?_
      intro v3 W3 ho hg hf
      refine hK.out _ _ (fun h => absurd (by decide) h) ?_
      clear hK K
      try simp only [Act.put, List.setIfInBounds_toArray, List.set_cons_zero, List.set_cons_succ]
      have K3 : Hid (Kp (fun g => (vl9 6).ownBlock = some g) WU W3) := by have h9 := Kp.ofGrown hg; rw [← HGV.out] at h9; exact h9
      have F3 : Hid (∀ g, v3.ownBlock = some g → (vl9 6).ownBlock = some g ∨ WU.heap.size ≤ g) := by unfold Hid; rw [HGV.out]; exact hf
      have r3 := (K3.out.block e (lt_heap EU.out.row) (fun e9 => EU.out.dis 6 8 (by omega) (by omega) (by omega) e (((EU.out.ls 6 (by omega) (by omega)).2 e).2 e9) ((EU.out.box e).2 rfl))).trans EU.out.row
      have HO := hide1 ho
      obtain ⟨a3, c3, hv3⟩ := ho.form
      obtain ⟨n3, hn3⟩ : ∃ n, (((((S.lst 2 ((S.ls 2).eraseIdx kk)).lnk 0 ((S.L 0).recvX t)).lst 4 []).lst 6 []).ls 6 ++ bods).length = n := ⟨_, rfl⟩
      rw [hn3] at hv3
      subst hv3
      obtain ⟨E6, B6⟩ := EU.out.list (i := 6) (by omega) (by omega) HO.out K3.out F3.out (by rw [heap_setCell_same _ e 6 _ _ _ r3]; rfl)
      have HEa := hide1 E6
      have HBa := hide1 (BU.out.trans B6)
      have k0 := (box13 r3).2.1.2.2.1
      have f0 := (box13 r3).2.2 6
      clear ho hg hf hn3 E6 B6 r3 EU LU BU RU K3 F3 HO hS
      refine take_p 13 157 (.pointer (some ⟨e, 6, none⟩)) rfl rfl (by kernel_rfl) (by kernel_rfl) (by kernel_rfl) (fun _ _ _ h => h) rfl (fun w => by go_simp) ?_
      try simp only [List.setIfInBounds_toArray, List.set_cons_zero, List.set_cons_succ]
      refine ready_f 14 (o := { dst := none, op := Op.store 31 (Operand.tmp 157) (Operand.tmp 154), type := 0, pos := "law.go:138", after := #[{ on := 13, ground := Ground.data }, { on := 10, ground := Ground.data }, { on := 10, ground := Ground.chain }, { on := 0, ground := Ground.phase }, { on := 1, ground := Ground.phase }, { on := 2, ground := Ground.phase }, { on := 3, ground := Ground.phase }, { on := 4, ground := Ground.phase }, { on := 5, ground := Ground.phase }, { on := 6, ground := Ground.phase }, { on := 7, ground := Ground.phase }, { on := 8, ground := Ground.phase }, { on := 9, ground := Ground.phase }, { on := 10, ground := Ground.phase }], guard := none }) (by kernel_rfl) rfl (fun K hK => ?_)
      go_simp
      refine hK.out _ _ (fun h => absurd (by decide) h) ?_
      clear hK K
      generalize W3.setCell ⟨e, 6, none⟩ (.slice a3 n3 c3) = Wa at HEa HBa ⊢
      clear k0 f0
      refine done_f (by kernel_rfl) ?_ _
      have cL := (box13 HEa.out.row).1.1
      obtain ⟨lv, lm, lu, hlk, hlf⟩ := HEa.out.lk 0 (by omega)
      have kT := hide1 (lflush_any hlk HEa.out.hB HOKX.out HN16.out)
      go_wp2_with fail
      refine kT.out.mono ?_
      rintro x9 V1 ⟨rr, rfl, hf⟩
      obtain ⟨Fp3, E3, B3, R3, _, D3⟩ := HEa.out.told (by omega) (Nat.le_refl _) hlk hlf hf
      have kP := hide1 (put0_any E3 R3 D3 (by exact (HS.out.way 3 (by omega) (by omega)).1) (Ls.flushF_len HOKX.out))
      have BB := hide1 (HBa.out.trans B3)
      clear kT hf E3 B3 R3 D3 hlk hlf cL
      go_wp2_with fail
      refine kP.out.mono ?_
      rintro x9 V2 ⟨rfl, p2, vl2, Fp2, E2, B2⟩
      have fin := hide1 (HP.out V2 ⟨p2, vl2, Fp2, (by rw [HMV.out]; exact E2), BB.out.trans B2⟩)
      clear E2 B2 kP
      go_wp2
      go_ret
      exact ⟨rfl, fin.out⟩

set_option maxHeartbeats 8000000 in
theorem move2_1 {N B e n : Nat} {p : Nat → Nat} {vl : Nat → Value} {Fp : Nat → Nat → Prop} {S : Es} {w : World} (h : Em B e p vl Fp n S w) (hS : S.Ok N) (hN0 : N + 2000 < 900000) (hn : n < 1000000) (who : Int) (pick : Nat) (hpk : pick < 256) (body : ByteArray) (hw : who % 2 = 1) (hbd : body.size ≤ 100) :
    Calls Try.prog 6 #[.pointer (some ⟨e, 0, none⟩), .agg #[.int .i64 2, .int .i64 who, .int .u8 (pick : Int), .string body]] w fun x w' => x = .returned (.bool true) ∧ Ebx B e (n + 1) (S.mv2 1 pick) w w' := by
  have H := hide1 h
  have HS := hide1 hS
  have HN16 : Hid (N + 16 + 1000 < 4294967296) := by unfold Hid; omega
  have HN : Hid (N + 1000 < 4294967296) := by unfold Hid; omega
  have HNM := hide1 hN0
  have Hn := hide1 hn
  have HBD := hide1 hbd
  have hwb : bits BinOp.and IntKind.i64 who 1 = 1 := by rw [i64_and1]; exact hw
  obtain ⟨L0, _⟩ := h.ls 3 (by omega) (by omega)
  obtain ⟨ta, tc, htv⟩ := L0.form
  obtain ⟨tn, htn⟩ : ∃ k, (S.ls 3).length = k := ⟨_, rfl⟩
  rw [htn] at htv
  have HTN := hide1 htn
  have htn60 : tn ≤ 60 := by have := (hS.way 3 (by omega) (by omega)).1; omega
  obtain ⟨P, hP⟩ : ∃ P : World → Prop, P = fun w' => Ebx B e (n + 1) (S.mv2 1 pick) w w' := ⟨_, rfl⟩
  have HP : Hid (∀ w', Ebx B e (n + 1) (S.mv2 1 pick) w w' → P w') := fun w' h => by rw [hP]; exact h
  suffices hs : Calls Try.prog 6 #[.pointer (some ⟨e, 0, none⟩), .agg #[.int .i64 2, .int .i64 who, .int .u8 (pick : Int), .string body]] w fun x w' => x = .returned (.bool true) ∧ P w' by rw [hP] at hs; exact hs
  clear hP h hS hN0 hn hw hbd htn L0
  have HTV := hide1 htv
  clear htv
  by_cases htp : tn = 0
  · subst htp
    go_enter Try.func6, Try.ntmps6
    go_upto_region 1 with (fail)
    generalize hX : World.alloc w _ = W0
    have B0 : Hid (Below w.heap.size w W0) := by rw [← hX]; exact below1 _
    have RM := hide1 (hX ▸ heap_alloc_new w _)
    obtain ⟨gm, hgm⟩ : ∃ g, w.heap.size = g := ⟨_, rfl⟩
    rw [hgm] at RM ⊢
    clear hX
    have E0 := hide1 (H.out.below B0.out (Nat.le_refl _))
    obtain ⟨m0, m1, m2, m3⟩ : W0.cell? ⟨gm, 0, none⟩ = some (.int .i64 2) ∧ W0.cell? ⟨gm, 1, none⟩ = some (.int .i64 who) ∧ W0.cell? ⟨gm, 2, none⟩ = some (.int .u8 (pick : Int)) ∧ W0.cell? ⟨gm, 3, none⟩ = some (.string body) := ⟨by rw [cell_of_row _ gm 0 _ _ _ RM.out]; rfl, by rw [cell_of_row _ gm 1 _ _ _ RM.out]; rfl, by rw [cell_of_row _ gm 2 _ _ _ RM.out]; rfl, by rw [cell_of_row _ gm 3 _ _ _ RM.out]; rfl⟩
    have cT := (box13 E0.out.row).1.2.2.2
    rw [HTV.out] at cT
    have HGM := hide1 hgm
    clear hgm
    have fin := hide1 (HP.out _ ⟨_, _, _, (by rw [Es.mv2, if_pos HTN.out]; exact E0.out.mono (Nat.le_succ n)), B0.out.mono H.out.hB⟩)
    clear E0
    go_wp2
    go_ret
    exact ⟨rfl, fin.out⟩
  · have htp0 : (0 : Int) < (tn : Int) := by omega
    have htpb : ¬ ((tn : Int) = 0) := by omega
    obtain ⟨kk, hkk⟩ : ∃ k, pick % tn = k := ⟨_, rfl⟩
    have hkt : kk < tn := by rw [← hkk]; exact Nat.mod_lt _ (by omega)
    have hk1 : (pick : Int) % (tn : Int) = (kk : Int) := by rw [← hkk]; exact pick_mod.1
    have hk2 : Int.tmod (pick : Int) (tn : Int) = (kk : Int) := by rw [← hkk]; exact pick_mod.2
    have HKK := hide1 hkk
    have HKT := hide1 hkt
    clear hkk
    go_enter Try.func6, Try.ntmps6
    go_upto_region 1 with (fail)
    generalize hX : World.alloc w _ = W0
    have B0 : Hid (Below w.heap.size w W0) := by rw [← hX]; exact below1 _
    have RM := hide1 (hX ▸ heap_alloc_new w _)
    obtain ⟨gm, hgm⟩ : ∃ g, w.heap.size = g := ⟨_, rfl⟩
    rw [hgm] at RM ⊢
    clear hX
    have E0 := hide1 (H.out.below B0.out (Nat.le_refl _))
    obtain ⟨m0, m1, m2, m3⟩ : W0.cell? ⟨gm, 0, none⟩ = some (.int .i64 2) ∧ W0.cell? ⟨gm, 1, none⟩ = some (.int .i64 who) ∧ W0.cell? ⟨gm, 2, none⟩ = some (.int .u8 (pick : Int)) ∧ W0.cell? ⟨gm, 3, none⟩ = some (.string body) := ⟨by rw [cell_of_row _ gm 0 _ _ _ RM.out]; rfl, by rw [cell_of_row _ gm 1 _ _ _ RM.out]; rfl, by rw [cell_of_row _ gm 2 _ _ _ RM.out]; rfl, by rw [cell_of_row _ gm 3 _ _ _ RM.out]; rfl⟩
    have cT := (box13 E0.out.row).1.2.2.2
    rw [HTV.out] at cT
    have HGM := hide1 hgm
    clear hgm
    obtain ⟨LT0, _⟩ := E0.out.ls 3 (by omega) (by omega)
    obtain ⟨g, c9, hg9, hck, _, hgl, _, _⟩ := LT0.cell (j := kk) (by have := HTN.out; omega)
    have hg9' := HTV.out.symm.trans hg9
    rw [HTN.out] at hg9'
    cases hg9'
    obtain ⟨t, ht⟩ : ∃ t, (S.ls 3).getD kk ByteArray.empty = t := ⟨_, rfl⟩
    rw [ht] at hck
    have HT := hide1 ht
    have HTZ : Hid (t.size ≤ 281474976710656) := by
      refine (HS.out.way 3 (by omega) (by omega)).2 t ?_
      rw [← ht]
      have hlt : kk < (S.ls 3).length := by have := HTN.out; omega
      simp [List.getD, List.getElem?_eq_getElem hlt]
    clear LT0 hg9 ht
    obtain ⟨LT, LTF⟩ := E0.out.ls 3 (by omega) (by omega)
    have LT' := LT
    obtain ⟨g9, c9, hg9, _, _, hgl9, _, hcap⟩ := LT'.cell (j := 0) (by have := HTN.out; omega)
    have hg9' := HTV.out.symm.trans hg9
    rw [HTN.out] at hg9' hcap
    cases hg9'
    have HLT := hide1 LT
    rw [HTV.out] at HLT
    have hsl := fun W => run_head W g tn tc kk (by omega) hcap
    have wi : IntKind.i64.wrap ((kk : Int) + 1) = (kk : Int) + 1 := by rw [IntKind.wrap_i64]; omega
    have HCAP := hide1 hcap
    obtain ⟨ad, had⟩ : ∃ ad : Option Addr, (if tc = kk + 1 then some ⟨g, 0, none⟩ else some ⟨g, kk + 1, none⟩) = ad := ⟨_, rfl⟩
    have HAD := hide1 had
    clear had
    have HLTF := hide1 LTF
    clear LT LT' hg9 LTF
    go_upto_region 17 with (fail)
    refine region_f (F := []) (S := fun _ => True) (by kernel_rfl) trivial (fun hS => ?_)
    have EU : Hid (Em B e p vl Fp n S (World.drew W0)) := E0.out.below (Below.refl _ _).drew (Nat.le_refl _)
    have LU : Hid (Lst B (World.drew W0) (.slice (some ⟨g, 0, none⟩) tn tc) (S.ls 3)) := HLT.out
    have BU : Hid (Below B w (World.drew W0)) := (B0.out.mono H.out.hB).drew
    generalize World.drew W0 = WU at EU LU BU ⊢
    clear hS
    refine take_p 0 92 (.pointer (some ⟨e, 0, none⟩)) rfl rfl (by kernel_rfl) (by kernel_rfl) (by kernel_rfl) (fun _ _ _ h => h) rfl (fun w => by go_simp) ?_
    try simp only [List.setIfInBounds_toArray, List.set_cons_zero, List.set_cons_succ]
    refine take_p 1 93 (.int .i64 1) rfl rfl (by kernel_rfl) (by kernel_rfl) (by kernel_rfl) (fun _ _ _ h => h) rfl (fun w => by go_simp) ?_
    try simp only [List.setIfInBounds_toArray, List.set_cons_zero, List.set_cons_succ]
    refine take_p 3 95 (.slice (some ⟨g, 0, none⟩) tn tc) rfl rfl (by kernel_rfl) (by kernel_rfl) (by kernel_rfl) (fun _ _ _ h => h) rfl (fun w => by go_simp) ?_
    try simp only [List.setIfInBounds_toArray, List.set_cons_zero, List.set_cons_succ]
    refine take_p 4 96 (.int .i64 (kk : Int)) rfl rfl (by kernel_rfl) (by kernel_rfl) (by kernel_rfl) (fun _ _ _ h => h) rfl (fun w => by go_simp) ?_
    try simp only [List.setIfInBounds_toArray, List.set_cons_zero, List.set_cons_succ]
    refine take_p 5 97 (.slice (some ⟨g, 0, none⟩) kk tc) rfl rfl (by kernel_rfl) (by kernel_rfl) (by kernel_rfl) (fun _ _ _ h => h) rfl (fun w => by go_simp) ?_
    try simp only [List.setIfInBounds_toArray, List.set_cons_zero, List.set_cons_succ]
    refine take_p 7 99 (.slice (some ⟨g, 0, none⟩) tn tc) rfl rfl (by kernel_rfl) (by kernel_rfl) (by kernel_rfl) (fun _ _ _ h => h) rfl (fun w => by go_simp) ?_
    try simp only [List.setIfInBounds_toArray, List.set_cons_zero, List.set_cons_succ]
    refine take_p 8 100 (.int .i64 (kk : Int)) rfl rfl (by kernel_rfl) (by kernel_rfl) (by kernel_rfl) (fun _ _ _ h => h) rfl (fun w => by go_simp) ?_
    try simp only [List.setIfInBounds_toArray, List.set_cons_zero, List.set_cons_succ]
    refine take_p 9 101 (.int .i64 ((kk : Int) + 1)) rfl rfl (by kernel_rfl) (by kernel_rfl) (by kernel_rfl) (fun _ _ _ h => h) rfl (fun w => by go_simp) ?_
    try simp only [List.setIfInBounds_toArray, List.set_cons_zero, List.set_cons_succ]
    refine take_p 10 102 (.slice ad (tn - (kk + 1)) (tc - (kk + 1))) rfl rfl (by kernel_rfl) (by kernel_rfl) (by kernel_rfl) (fun _ _ _ h => h) rfl (fun w => by rw [← HAD.out]; have h9 : (0 : Int) ≤ (kk : Int) + 1 := (by omega); have h8 : (kk : Int) + 1 ≤ (tn : Int) := (by omega); go_simp) ?_
    try simp only [List.setIfInBounds_toArray, List.set_cons_zero, List.set_cons_succ]
    refine take_p 12 104 (.pointer (some ⟨e, 0, none⟩)) rfl rfl (by kernel_rfl) (by kernel_rfl) (by kernel_rfl) (fun _ _ _ h => h) rfl (fun w => by go_simp) ?_
    try simp only [List.setIfInBounds_toArray, List.set_cons_zero, List.set_cons_succ]
    refine take_p 13 105 (.pointer (some ⟨e, 2, none⟩)) rfl rfl (by kernel_rfl) (by kernel_rfl) (by kernel_rfl) (fun _ _ _ h => h) rfl (fun w => by go_simp) ?_
    try simp only [List.setIfInBounds_toArray, List.set_cons_zero, List.set_cons_succ]
    refine ready_f 2 (o := { dst := some 94, op := Op.buildSlice 31 0 #[], type := 31, pos := "law.go:132", after := #[], guard := none }) (by kernel_rfl) rfl (fun K hK => ?_)
    go_simp
    refine hK.out _ _ (fun _ _ => trivial) ?_
    clear hK K
    try simp only [Act.put, List.setIfInBounds_toArray, List.set_cons_zero, List.set_cons_succ]
    have O1 := hide1 (Lst.empty (w := WU) EU.out.hB)
    have E1 := hide1 (EU.out.below (below1 (.cells #[] 9)) (Nat.le_refl _))
    have L1 := hide1 (LU.out.below (below1 (.cells #[] 9)) (Nat.le_refl _))
    have B1 : Hid (Below B w (WU.alloc (.cells #[] 9))) := BU.out.alloc EU.out.hB _
    obtain ⟨bs, hbs⟩ : ∃ b, WU.heap.size = b := ⟨_, rfl⟩
    have HBS : Hid (∀ j g, j < 9 → Fp j g → g < bs) := fun j g hj hg => by have := (EU.out.fb hj hg).2; omega
    have hbB : Hid (B ≤ bs) := by have := EU.out.hB; unfold Hid; omega
    rw [hbs] at O1 ⊢
    generalize WU.alloc (.cells #[] 9) = W1 at O1 E1 L1 B1 ⊢
    clear hbs EU LU BU
    refine ready_f 6 (o := { dst := some 98, op := Op.call { callee := Callee.builtin Builtin.append, args := #[Operand.tmp 94, Operand.tmp 97], argTypes := #[31, 31] }, type := 31, pos := "law.go:132", after := #[{ on := 2, ground := Ground.data }, { on := 5, ground := Ground.data }], guard := none }) (by kernel_rfl) rfl (fun K hK => ?_)
    rw [if_pos (by rfl)]
    refine wp_append_lst (B := B) (A := []) (C := (S.ls 3).take kk) _ _ rfl rfl rfl O1.out (L1.out.head (by have := HTN.out; have := HKT.out; omega)) (by have := HTN.out; simp; omega) (by have := E1.out.hB; omega) ?_
    intro v2 W2 ho hg hf
    refine hK.out _ _ (fun _ _ => trivial) ?_
    clear hK K
    try simp only [Act.put, List.setIfInBounds_toArray, List.set_cons_zero, List.set_cons_succ]
    rw [List.nil_append] at ho
    have K2 : Hid (Kp (fun g => g = bs) W1 W2) := (Kp.ofGrown hg).mono fun g e9 => (by cases e9; rfl)
    have hbs2 : Hid (bs ≤ W2.heap.size) := by have h8 := (O1.out.lt (g := bs) rfl).2; have h9 := hg.size; unfold Hid; omega
    have FR2 : Hid (∀ g, v2.ownBlock = some g → bs ≤ g) := fun g e9 => by rcases hf g e9 with h9 | h9; (cases h9; exact Nat.le_refl _); (have h8 := (O1.out.lt (g := bs) rfl).2; omega)
    have E2 := hide1 (E1.out.kp K2.out fun j g hj hg e9 => by have := HBS.out j g hj hg; omega)
    have L2 := hide1 (L1.out.kp K2.out fun g9 hg e9 => by have h9 := HBS.out 3 g9 (by omega) ((HLTF.out g9).2 (by rw [HTV.out]; exact hg)); omega)
    have B2 : Hid (Below B w W2) := B1.out.trans (K2.out.below E1.out.hB fun g e9 => by have := hbB.out; omega)
    have O2 := hide1 ho
    clear ho hg hf O1 E1 L1 B1 K2
    refine ready_f 11 (o := { dst := some 103, op := Op.call { callee := Callee.builtin Builtin.append, args := #[Operand.tmp 98, Operand.tmp 102], argTypes := #[31, 31] }, type := 31, pos := "law.go:132", after := #[{ on := 6, ground := Ground.data }, { on := 10, ground := Ground.data }, { on := 6, ground := Ground.chain }], guard := none }) (by kernel_rfl) rfl (fun K hK => ?_)
    rw [if_pos (by rfl)]
    refine wp_append_lst (B := B) (A := (S.ls 3).take kk) (C := (S.ls 3).drop (kk + 1)) _ _ rfl rfl rfl O2.out (by rw [← HAD.out]; exact L2.out.tail (by have := HTN.out; have := HKT.out; omega) HCAP.out) (by have := HTN.out; simp; omega) (by have := E2.out.hB; omega) ?_
    intro v3 W3 ho hg hf
    refine hK.out _ _ (fun _ _ => trivial) ?_
    clear hK K
    try simp only [Act.put, List.setIfInBounds_toArray, List.set_cons_zero, List.set_cons_succ]
    have K3 : Hid (Kp (fun g => v2.ownBlock = some g) W2 W3) := Kp.ofGrown hg
    have E3 := hide1 (E2.out.kp K3.out fun j g hj hg e9 => by have h8 := FR2.out g e9; have := HBS.out j g hj hg; omega)
    have B3 : Hid (Below B w W3) := B2.out.trans (K3.out.below E2.out.hB fun g e9 => (O2.out.lt e9).1)
    have FR3 : Hid (∀ g, v3.ownBlock = some g → bs ≤ g) := fun g e9 => by rcases hf g e9 with h9 | h9; (exact FR2.out g h9); (have h8 := E2.out.hB; have h7 := HBS.out 8 e (by omega) ((E2.out.box e).2 rfl); have h6 := lt_heap E2.out.row; have h5 : bs ≤ W2.heap.size := hbs2.out; omega)
    have HER : (S.ls 3).take kk ++ (S.ls 3).drop (kk + 1) = (S.ls 3).eraseIdx kk := (List.eraseIdx_eq_take_drop_succ ..).symm
    rw [HER] at ho
    have HO := hide1 ho
    obtain ⟨a3, c3, hv3⟩ := ho.form
    obtain ⟨n3, hn3⟩ : ∃ n, ((S.ls 3).eraseIdx kk).length = n := ⟨_, rfl⟩
    rw [hn3] at hv3
    subst hv3
    clear ho hg hf hn3 HER O2 E2 L2 B2 K3 FR2
    have k0 := (box13 E3.out.row).1.2.2.2
    have f0 := (box13 E3.out.row).2.2 3
    obtain ⟨E6, B6⟩ := E3.out.listN (i := 3) (by omega) (by omega) HO.out (fun g hg j hj e9 => by have h8 := FR3.out g hg; have h7 := HBS.out j g hj e9; omega) (by rw [heap_setCell_same _ e 3 _ _ _ E3.out.row]; rfl)
    have HE6 := hide1 E6
    have HB6 := hide1 (B3.out.trans B6)
    clear E6 B6 B3 FR3
    refine take_p 14 106 (.pointer (some ⟨e, 3, none⟩)) rfl rfl (by kernel_rfl) (by kernel_rfl) (by kernel_rfl) (fun _ _ _ h => h) rfl (fun w => by go_simp) ?_
    try simp only [List.setIfInBounds_toArray, List.set_cons_zero, List.set_cons_succ]
    refine ready_f 15 (o := { dst := none, op := Op.store 31 (Operand.tmp 106) (Operand.tmp 103), type := 0, pos := "law.go:132", after := #[{ on := 14, ground := Ground.data }, { on := 11, ground := Ground.data }, { on := 11, ground := Ground.chain }, { on := 0, ground := Ground.phase }, { on := 1, ground := Ground.phase }, { on := 2, ground := Ground.phase }, { on := 3, ground := Ground.phase }, { on := 4, ground := Ground.phase }, { on := 5, ground := Ground.phase }, { on := 6, ground := Ground.phase }, { on := 7, ground := Ground.phase }, { on := 8, ground := Ground.phase }, { on := 9, ground := Ground.phase }, { on := 10, ground := Ground.phase }, { on := 11, ground := Ground.phase }], guard := none }) (by kernel_rfl) rfl (fun K hK => ?_)
    go_simp
    refine hK.out _ _ (fun _ _ => trivial) ?_
    clear hK K
    generalize W3.setCell ⟨e, 3, none⟩ (.slice a3 n3 c3) = W6 at HE6 HB6 ⊢
    clear k0 f0 E3 HO
    refine done_f (by kernel_rfl) ?_ _
    clear m0 m1 m2 m3 cT hck hgl hsl wi
    generalize upd vl 3 _ = vl6 at HE6
    generalize upd Fp 3 _ = Fp6 at HE6
    change Hid (Em B e p vl6 Fp6 n (S.lst 3 ((S.ls 3).eraseIdx kk)) W6) at HE6
    have cL := (box13 HE6.out.row).1.2.1
    obtain ⟨lv, lm, lu, hlk, hlf⟩ := HE6.out.lk 1 (by omega)
    change Lkm B (p 1) lv lm lu n (S.L 1) W6 at hlk
    have HX := hide1 (HS.out.L 1 (by omega))
    have kP0 := hide1 (lpeer_any hlk HX.out.own0)
    have kR := hide1 (lrecv_any hlk HE6.out.hB HX.out HN.out Hn.out t HTZ.out)
    obtain ⟨op, hop⟩ : ∃ k, (S.L 1).peer = k := ⟨_, rfl⟩
    rw [hop] at kP0
    have HOP := hide1 hop
    clear hop
    go_wp2_with fail
    refine kP0.out.mono ?_
    rintro x9 w1 ⟨rfl, hw1⟩
    obtain rfl := hw1.symm
    go_wp2_with fail
    refine kR.out.mono ?_
    rintro x9 W7 ⟨r, d, z, rfl, hd9, hz9, hf⟩
    obtain ⟨bods, hbods⟩ : ∃ b, (S.L 1).recvB t = b := ⟨_, rfl⟩
    rw [hbods] at hf
    have HBO := hide1 hbods
    have HBL : Hid (bods.length ≤ 16) := by rw [← hbods]; exact Ls.recvB_len HX.out t
    obtain ⟨Fp7, E7, B7, R7, L7, D7⟩ := HE6.out.told (by omega) (Nat.le_succ n) hlk hlf hf
    obtain ⟨ra, rc, hra⟩ := L7.form
    obtain ⟨rn, hrn⟩ : ∃ k, bods.length = k := ⟨_, rfl⟩
    rw [hrn] at hra
    subst hra
    have HE7 := hide1 E7
    have HB7 := hide1 (HB6.out.trans B7)
    have HR7 := hide1 R7
    have HD7 := hide1 D7
    have HRE : Hid (∀ g, (Value.slice ra rn rc).ownBlock = some g → ¬ g = e) := fun g hg e9 => D7 g hg 8 (by omega) ((E7.box g).2 e9)
    clear kP0 kR hd9 hz9 hf hbods E7 B7 R7 L7 D7 hrn hlk hlf cL HE6 HB6
    change Hid (Em B e p vl6 Fp7 (n + 1) ((S.lst 3 ((S.ls 3).eraseIdx kk)).lnk 1 ((S.L 1).recvX t)) W7) at HE7
    go_upto_region 20 with (fail)
    generalize hW8 : World.alloc W7 _ = W8
    have b78 : Hid (Below W7.heap.size W7 W8) := by rw [← hW8]; exact below1 _
    have G8 : Hid (W8.heap[W7.heap.size]? = some (.cells #[.slice ra rn rc, .bool d] 60 (0, 0))) := by rw [← hW8]; exact heap_alloc_new _ _
    have E8 := hide1 (HE7.out.below b78.out (Nat.le_refl _))
    have B8 : Hid (Below B w W8) := HB7.out.trans (b78.out.mono HE7.out.hB)
    have R8 := hide1 (HR7.out.below b78.out (Nat.le_refl _))
    obtain ⟨g10, hg10⟩ : ∃ g, W7.heap.size = g := ⟨_, rfl⟩
    have HGE : Hid (g10 ≠ e) := by have := lt_heap HE7.out.row; unfold Hid; omega
    rw [hg10] at G8 ⊢
    clear hW8 hg10 b78 HE7 HB7 HR7
    have cL := (box13 E8.out.row).1.2.1
    obtain ⟨lv8, lm8, lu8, hlk8, hlf8⟩ := E8.out.lk 1 (by omega)
    change Lkm B (p 1) lv8 lm8 lu8 (n + 1) ((S.L 1).recvX t) W8 at hlk8
    have HOKX : Hid (((S.L 1).recvX t).Ok (N + 16)) := HX.out.recvX t
    have kP1 := hide1 (lpeer_any hlk8 HOKX.out.own0)
    obtain ⟨np, hnp⟩ : ∃ k, ((S.L 1).recvX t).peer = k := ⟨_, rfl⟩
    rw [hnp] at kP1
    have HNP := hide1 hnp
    clear hnp hlk8 hlf8
    go_wp2_with fail
    refine kP1.out.mono ?_
    rintro x9 w1 ⟨rfl, hw1⟩
    obtain rfl := hw1.symm
    clear kP1 cL
    by_cases hpe : np = op
    · have hpb : ((np : Int) != (op : Int)) = false := by simp; omega
      have HPE : Hid (((S.L 1).recvX t).peer = (S.L 1).peer) := by unfold Hid; rw [HNP.out, HOP.out]; exact hpe
      have HMV : Hid (S.mv2 1 pick = (((S.lst 3 ((S.ls 3).eraseIdx kk)).lnk 1 ((S.L 1).recvX t)).gotS 1 bods).fl 1) := by
        have hl : (S.ls (2 + 1)).length = tn := HTN.out
        unfold Hid
        rw [Es.mv2, if_neg (by rw [hl]; have := HKT.out; omega), Es.pk, hl, HKK.out, show (S.ls (2 + 1)).getD kk ByteArray.empty = t from HT.out, Es.arr, Es.rcv]
        split
        · change (((S.lst 3 ((S.ls 3).eraseIdx kk)).lnk 1 ((S.L 1).recvX t)).gotS 1 ((S.L 1).recvB t)).fl 1 = _
          rw [HBO.out]
        · rename_i h9
          exact absurd HPE.out h9
      have HGL9 : Hid ((((S.lst 3 ((S.ls 3).eraseIdx kk)).lnk 1 ((S.L 1).recvX t)).ls 7).length ≤ N) := HS.out.oth 7 (by omega) (by omega)
      have CG : Hid (W8.cell? ⟨g10, 0, none⟩ = some (.slice ra rn rc)) := (box2 G8.out).1
      obtain ⟨vl9, hvl9⟩ : ∃ v, vl6 = v := ⟨_, rfl⟩
      obtain ⟨Fp9, hFp9⟩ : ∃ v, Fp7 = v := ⟨_, rfl⟩
      rw [hvl9, hFp9] at E8
      clear hpe
      obtain ⟨LG, _⟩ := E8.out.ls 7 (by omega) (by omega)
      obtain ⟨ga, gc, hgv⟩ := LG.form
      obtain ⟨gn, hgn⟩ : ∃ k, (((S.lst 3 ((S.ls 3).eraseIdx kk)).lnk 1 ((S.L 1).recvX t)).ls 7).length = k := ⟨_, rfl⟩
      rw [hgn] at hgv
      have HGV := hide1 hgv
      have HLG := hide1 LG
      rw [hgv] at HLG
      have CGT := hide1 ((box13 E8.out.row).2.1.2.2.2)
      rw [hgv] at CGT
      clear LG hgv hgn
      go_upto_region 22 with (fail)
      refine region_f (F := [10, 14]) (S := fun X => X.cell? ⟨e, 7, none⟩ = some (.slice ga gn gc) ∧ X.cell? ⟨g10, 0, none⟩ = some (.slice ra rn rc)) (by kernel_rfl) ⟨CGT.out, CG.out⟩ (fun hS => ?_)
      have EU : Hid (Em B e p vl9 Fp9 (n + 1) ((S.lst 3 ((S.ls 3).eraseIdx kk)).lnk 1 ((S.L 1).recvX t)) (World.drew W8)) := E8.out.below (Below.refl _ _).drew (Nat.le_refl _)
      have LU : Hid (Lst B (World.drew W8) (.slice ga gn gc) (((S.lst 3 ((S.ls 3).eraseIdx kk)).lnk 1 ((S.L 1).recvX t)).ls 7)) := HLG.out
      have BU : Hid (Below B w (World.drew W8)) := B8.out.drew
      have RU : Hid (Rdl (World.drew W8) (.slice ra rn rc) bods) := R8.out
      generalize World.drew W8 = WU at hS EU LU BU RU ⊢
      refine take_p 0 144 (.pointer (some ⟨e, 0, none⟩)) rfl rfl (by kernel_rfl) (by kernel_rfl) (by kernel_rfl) (fun _ _ _ h => h) rfl (fun w => by go_simp) ?_
      try simp only [List.setIfInBounds_toArray, List.set_cons_zero, List.set_cons_succ]
      refine take_p 1 145 (.int .i64 1) rfl rfl (by kernel_rfl) (by kernel_rfl) (by kernel_rfl) (fun _ _ _ h => h) rfl (fun w => by go_simp) ?_
      try simp only [List.setIfInBounds_toArray, List.set_cons_zero, List.set_cons_succ]
      refine take_p 2 146 (.pointer (some ⟨e, 0, none⟩)) rfl rfl (by kernel_rfl) (by kernel_rfl) (by kernel_rfl) (fun _ _ _ h => h) rfl (fun w => by go_simp) ?_
      try simp only [List.setIfInBounds_toArray, List.set_cons_zero, List.set_cons_succ]
      refine take_p 3 147 (.int .i64 1) rfl rfl (by kernel_rfl) (by kernel_rfl) (by kernel_rfl) (fun _ _ _ h => h) rfl (fun w => by go_simp) ?_
      try simp only [List.setIfInBounds_toArray, List.set_cons_zero, List.set_cons_succ]
      refine take_p 4 148 (.pointer (some ⟨e, 0, none⟩)) rfl rfl (by kernel_rfl) (by kernel_rfl) (by kernel_rfl) (fun _ _ _ h => h) rfl (fun w => by go_simp) ?_
      try simp only [List.setIfInBounds_toArray, List.set_cons_zero, List.set_cons_succ]
      refine take_p 5 149 (.pointer (some ⟨e, 6, none⟩)) rfl rfl (by kernel_rfl) (by kernel_rfl) (by kernel_rfl) (fun _ _ _ h => h) rfl (fun w => by go_simp) ?_
      try simp only [List.setIfInBounds_toArray, List.set_cons_zero, List.set_cons_succ]
      refine take_p 6 150 (.pointer (some ⟨e, 7, none⟩)) rfl rfl (by kernel_rfl) (by kernel_rfl) (by kernel_rfl) (fun _ _ _ h => h) rfl (fun w => by go_simp) ?_
      try simp only [List.setIfInBounds_toArray, List.set_cons_zero, List.set_cons_succ]
      refine take_f 7 151 (.slice ga gn gc) [10, 13, 14] rfl rfl (by kernel_rfl) (by kernel_rfl) (by kernel_rfl) (by kernel_rfl) (by kernel_rfl) (by kernel_rfl) (fun _ _ _ h => h) rfl (fun w hSw => by obtain ⟨g0, g1⟩ := hSw; go_simp) hS ?_
      try simp only [List.setIfInBounds_toArray, List.set_cons_zero, List.set_cons_succ]
      refine take_p 8 152 (.pointer (some ⟨g10, 0, none⟩)) rfl rfl (by kernel_rfl) (by kernel_rfl) (by kernel_rfl) (fun _ _ _ h => h) rfl (fun w => by go_simp) ?_
      try simp only [List.setIfInBounds_toArray, List.set_cons_zero, List.set_cons_succ]
      refine take_f 9 153 (.slice ra rn rc) [10, 13, 14] rfl rfl (by kernel_rfl) (by kernel_rfl) (by kernel_rfl) (by kernel_rfl) (by kernel_rfl) (by kernel_rfl) (fun _ _ _ h => h) rfl (fun w hSw => by obtain ⟨g0, g1⟩ := hSw; go_simp) hS ?_
      try simp only [List.setIfInBounds_toArray, List.set_cons_zero, List.set_cons_succ]
      refine take_p 11 155 (.pointer (some ⟨e, 0, none⟩)) rfl rfl (by kernel_rfl) (by kernel_rfl) (by kernel_rfl) (fun _ _ _ h => h) rfl (fun w => by go_simp) ?_
      try simp only [List.setIfInBounds_toArray, List.set_cons_zero, List.set_cons_succ]
      refine take_p 12 156 (.pointer (some ⟨e, 6, none⟩)) rfl rfl (by kernel_rfl) (by kernel_rfl) (by kernel_rfl) (fun _ _ _ h => h) rfl (fun w => by go_simp) ?_
      try simp only [List.setIfInBounds_toArray, List.set_cons_zero, List.set_cons_succ]
      refine ready_f 10 (o := { dst := some 154, op := Op.call { callee := Callee.builtin Builtin.append, args := #[Operand.tmp 151, Operand.tmp 153], argTypes := #[31, 31] }, type := 31, pos := "law.go:138", after := #[{ on := 7, ground := Ground.data }, { on := 9, ground := Ground.data }], guard := none }) (by kernel_rfl) rfl (fun K hK => ?_)
      rw [if_pos (by rfl)]
      refine wp_append_lst _ _ rfl rfl rfl LU.out RU.out (by have h1 := HGL9.out; have h2 := HNM.out; have h3 := HBL.out; omega) (by have := EU.out.hB; omega) ?_
      intro v3 W3 ho hg hf
      refine hK.out _ _ (fun h => absurd (by decide) h) ?_
      clear hK K
      try simp only [Act.put, List.setIfInBounds_toArray, List.set_cons_zero, List.set_cons_succ]
      have K3 : Hid (Kp (fun g => (vl9 7).ownBlock = some g) WU W3) := by have h9 := Kp.ofGrown hg; rw [← HGV.out] at h9; exact h9
      have F3 : Hid (∀ g, v3.ownBlock = some g → (vl9 7).ownBlock = some g ∨ WU.heap.size ≤ g) := by unfold Hid; rw [HGV.out]; exact hf
      have r3 := (K3.out.block e (lt_heap EU.out.row) (fun e9 => EU.out.dis 7 8 (by omega) (by omega) (by omega) e (((EU.out.ls 7 (by omega) (by omega)).2 e).2 e9) ((EU.out.box e).2 rfl))).trans EU.out.row
      have HO := hide1 ho
      obtain ⟨a3, c3, hv3⟩ := ho.form
      obtain ⟨n3, hn3⟩ : ∃ n, (((S.lst 3 ((S.ls 3).eraseIdx kk)).lnk 1 ((S.L 1).recvX t)).ls 7 ++ bods).length = n := ⟨_, rfl⟩
      rw [hn3] at hv3
      subst hv3
      obtain ⟨E6, B6⟩ := EU.out.list (i := 7) (by omega) (by omega) HO.out K3.out F3.out (by rw [heap_setCell_same _ e 7 _ _ _ r3]; rfl)
      have HEa := hide1 E6
      have HBa := hide1 (BU.out.trans B6)
      have k0 := (box13 r3).2.1.2.2.2
      have f0 := (box13 r3).2.2 7
      clear ho hg hf hn3 E6 B6 r3 EU LU BU RU K3 F3 HO hS
      refine take_p 13 157 (.pointer (some ⟨e, 7, none⟩)) rfl rfl (by kernel_rfl) (by kernel_rfl) (by kernel_rfl) (fun _ _ _ h => h) rfl (fun w => by go_simp) ?_
      try simp only [List.setIfInBounds_toArray, List.set_cons_zero, List.set_cons_succ]
      refine ready_f 14 (o := { dst := none, op := Op.store 31 (Operand.tmp 157) (Operand.tmp 154), type := 0, pos := "law.go:138", after := #[{ on := 13, ground := Ground.data }, { on := 10, ground := Ground.data }, { on := 10, ground := Ground.chain }, { on := 0, ground := Ground.phase }, { on := 1, ground := Ground.phase }, { on := 2, ground := Ground.phase }, { on := 3, ground := Ground.phase }, { on := 4, ground := Ground.phase }, { on := 5, ground := Ground.phase }, { on := 6, ground := Ground.phase }, { on := 7, ground := Ground.phase }, { on := 8, ground := Ground.phase }, { on := 9, ground := Ground.phase }, { on := 10, ground := Ground.phase }], guard := none }) (by kernel_rfl) rfl (fun K hK => ?_)
      go_simp
      refine hK.out _ _ (fun h => absurd (by decide) h) ?_
      clear hK K
      generalize W3.setCell ⟨e, 7, none⟩ (.slice a3 n3 c3) = Wa at HEa HBa ⊢
      clear k0 f0
      refine done_f (by kernel_rfl) ?_ _
      have cL := (box13 HEa.out.row).1.2.1
      obtain ⟨lv, lm, lu, hlk, hlf⟩ := HEa.out.lk 1 (by omega)
      have kT := hide1 (lflush_any hlk HEa.out.hB HOKX.out HN16.out)
      go_wp2_with fail
      refine kT.out.mono ?_
      rintro x9 V1 ⟨rr, rfl, hf⟩
      obtain ⟨Fp3, E3, B3, R3, _, D3⟩ := HEa.out.told (by omega) (Nat.le_refl _) hlk hlf hf
      have kP := hide1 (put1_any E3 R3 D3 (by exact (HS.out.way 2 (by omega) (by omega)).1) (Ls.flushF_len HOKX.out))
      have BB := hide1 (HBa.out.trans B3)
      clear kT hf E3 B3 R3 D3 hlk hlf cL
      go_wp2_with fail
      refine kP.out.mono ?_
      rintro x9 V2 ⟨rfl, p2, vl2, Fp2, E2, B2⟩
      have fin := hide1 (HP.out V2 ⟨p2, vl2, Fp2, (by rw [HMV.out]; exact E2), BB.out.trans B2⟩)
      clear E2 B2 kP
      go_wp2
      go_ret
      exact ⟨rfl, fin.out⟩
    · have hpb : ((np : Int) != (op : Int)) = true := by simp; omega
      have HPE : Hid (¬ ((S.L 1).recvX t).peer = (S.L 1).peer) := by unfold Hid; rw [HNP.out, HOP.out]; exact hpe
      have HMV : Hid (S.mv2 1 pick = (((((S.lst 3 ((S.ls 3).eraseIdx kk)).lnk 1 ((S.L 1).recvX t)).lst 5 []).lst 7 []).gotS 1 bods).fl 1) := by
        have hl : (S.ls (2 + 1)).length = tn := HTN.out
        unfold Hid
        rw [Es.mv2, if_neg (by rw [hl]; have := HKT.out; omega), Es.pk, hl, HKK.out, show (S.ls (2 + 1)).getD kk ByteArray.empty = t from HT.out, Es.arr, Es.rcv]
        split
        · rename_i h9
          exact absurd h9 HPE.out
        · change (((((S.lst 3 ((S.ls 3).eraseIdx kk)).lnk 1 ((S.L 1).recvX t)).lst 5 []).lst 7 []).gotS 1 ((S.L 1).recvB t)).fl 1 = _
          rw [HBO.out]
      have HGL9 : Hid ((((((S.lst 3 ((S.ls 3).eraseIdx kk)).lnk 1 ((S.L 1).recvX t)).lst 5 []).lst 7 []).ls 7).length ≤ N) := Nat.zero_le _
      clear hpe
      go_upto_region 21 with (fail)
      refine region_f (F := []) (S := fun _ => True) (by kernel_rfl) trivial (fun hS => ?_)
      have EU : Hid (Em B e p vl6 Fp7 (n + 1) ((S.lst 3 ((S.ls 3).eraseIdx kk)).lnk 1 ((S.L 1).recvX t)) (World.drew W8)) := E8.out.below (Below.refl _ _).drew (Nat.le_refl _)
      have BU : Hid (Below B w (World.drew W8)) := B8.out.drew
      have RU : Hid (Rdl (World.drew W8) (.slice ra rn rc) bods) := R8.out
      have GU : Hid ((World.drew W8).heap[g10]? = some (.cells #[.slice ra rn rc, .bool d] 60 (0, 0))) := G8.out
      generalize World.drew W8 = WU at EU BU RU GU ⊢
      clear hS
      refine take_p 0 134 (.pointer (some ⟨e, 0, none⟩)) rfl rfl (by kernel_rfl) (by kernel_rfl) (by kernel_rfl) (fun _ _ _ h => h) rfl (fun w => by go_simp) ?_
      try simp only [List.setIfInBounds_toArray, List.set_cons_zero, List.set_cons_succ]
      refine take_p 1 135 (.int .i64 1) rfl rfl (by kernel_rfl) (by kernel_rfl) (by kernel_rfl) (fun _ _ _ h => h) rfl (fun w => by go_simp) ?_
      try simp only [List.setIfInBounds_toArray, List.set_cons_zero, List.set_cons_succ]
      refine take_p 2 136 (.pointer (some ⟨e, 0, none⟩)) rfl rfl (by kernel_rfl) (by kernel_rfl) (by kernel_rfl) (fun _ _ _ h => h) rfl (fun w => by go_simp) ?_
      try simp only [List.setIfInBounds_toArray, List.set_cons_zero, List.set_cons_succ]
      refine take_p 3 137 (.int .i64 1) rfl rfl (by kernel_rfl) (by kernel_rfl) (by kernel_rfl) (fun _ _ _ h => h) rfl (fun w => by go_simp) ?_
      try simp only [List.setIfInBounds_toArray, List.set_cons_zero, List.set_cons_succ]
      refine take_p 4 138 (.pointer (some ⟨e, 0, none⟩)) rfl rfl (by kernel_rfl) (by kernel_rfl) (by kernel_rfl) (fun _ _ _ h => h) rfl (fun w => by go_simp) ?_
      try simp only [List.setIfInBounds_toArray, List.set_cons_zero, List.set_cons_succ]
      refine take_p 5 139 (.pointer (some ⟨e, 4, none⟩)) rfl rfl (by kernel_rfl) (by kernel_rfl) (by kernel_rfl) (fun _ _ _ h => h) rfl (fun w => by go_simp) ?_
      try simp only [List.setIfInBounds_toArray, List.set_cons_zero, List.set_cons_succ]
      refine take_p 6 140 (.pointer (some ⟨e, 5, none⟩)) rfl rfl (by kernel_rfl) (by kernel_rfl) (by kernel_rfl) (fun _ _ _ h => h) rfl (fun w => by go_simp) ?_
      try simp only [List.setIfInBounds_toArray, List.set_cons_zero, List.set_cons_succ]
      refine take_p 8 141 (.pointer (some ⟨e, 0, none⟩)) rfl rfl (by kernel_rfl) (by kernel_rfl) (by kernel_rfl) (fun _ _ _ h => h) rfl (fun w => by go_simp) ?_
      try simp only [List.setIfInBounds_toArray, List.set_cons_zero, List.set_cons_succ]
      refine take_p 9 142 (.pointer (some ⟨e, 6, none⟩)) rfl rfl (by kernel_rfl) (by kernel_rfl) (by kernel_rfl) (fun _ _ _ h => h) rfl (fun w => by go_simp) ?_
      try simp only [List.setIfInBounds_toArray, List.set_cons_zero, List.set_cons_succ]
      have k0 := (box13 EU.out.row).2.1.2.1
      have f0 := (box13 EU.out.row).2.2 5
      obtain ⟨E5, B5⟩ := EU.out.listN (i := 5) (by omega) (by omega) (Lst.nil _ _) (fun g hg => by cases hg) (by rw [heap_setCell_same _ e 5 _ _ _ EU.out.row]; rfl)
      have Eb1 := hide1 E5
      have Bb1 := hide1 (BU.out.trans B5)
      have Rb1 := hide1 (RU.out.kp (Kp.setCell (F := fun g => g = e) WU e 5 (.slice none 0 0) rfl) HRE.out)
      have Gb1 : Hid ((WU.setCell ⟨e, 5, none⟩ (.slice none 0 0)).heap[g10]? = some (.cells #[.slice ra rn rc, .bool d] 60 (0, 0))) := (heap_setCell_other _ _ _ _ HGE.out).trans GU.out
      clear E5 B5
      refine ready_f 7 (o := { dst := none, op := Op.store 31 (Operand.tmp 140) (Operand.const (Value.slice none 0 0)), type := 0, pos := "law.go:136", after := #[{ on := 6, ground := Ground.data }, { on := 0, ground := Ground.phase }, { on := 1, ground := Ground.phase }, { on := 2, ground := Ground.textOnly Departure.lateStores }, { on := 3, ground := Ground.textOnly Departure.lateStores }], guard := none }) (by kernel_rfl) rfl (fun K hK => ?_)
      go_simp
      refine hK.out _ _ (fun _ _ => trivial) ?_
      clear hK K
      generalize WU.setCell ⟨e, 5, none⟩ (.slice none 0 0) = Wb1 at Eb1 Bb1 Rb1 Gb1 ⊢
      clear k0 f0 EU BU RU GU
      refine take_p 10 143 (.pointer (some ⟨e, 7, none⟩)) rfl rfl (by kernel_rfl) (by kernel_rfl) (by kernel_rfl) (fun _ _ _ h => h) rfl (fun w => by go_simp) ?_
      try simp only [List.setIfInBounds_toArray, List.set_cons_zero, List.set_cons_succ]
      have k0 := (box13 Eb1.out.row).2.1.2.2.2
      have f0 := (box13 Eb1.out.row).2.2 7
      obtain ⟨E5, B5⟩ := Eb1.out.listN (i := 7) (by omega) (by omega) (Lst.nil _ _) (fun g hg => by cases hg) (by rw [heap_setCell_same _ e 7 _ _ _ Eb1.out.row]; rfl)
      have Ec1 := hide1 E5
      have Bc1 := hide1 (Bb1.out.trans B5)
      have Rc1 := hide1 (Rb1.out.kp (Kp.setCell (F := fun g => g = e) Wb1 e 7 (.slice none 0 0) rfl) HRE.out)
      have Gc1 : Hid ((Wb1.setCell ⟨e, 7, none⟩ (.slice none 0 0)).heap[g10]? = some (.cells #[.slice ra rn rc, .bool d] 60 (0, 0))) := (heap_setCell_other _ _ _ _ HGE.out).trans Gb1.out
      clear E5 B5
      refine ready_f 11 (o := { dst := none, op := Op.store 31 (Operand.tmp 143) (Operand.const (Value.slice none 0 0)), type := 0, pos := "law.go:136", after := #[{ on := 10, ground := Ground.data }, { on := 7, ground := Ground.chain }, { on := 0, ground := Ground.phase }, { on := 1, ground := Ground.phase }, { on := 2, ground := Ground.phase }, { on := 3, ground := Ground.phase }, { on := 4, ground := Ground.phase }, { on := 5, ground := Ground.phase }, { on := 6, ground := Ground.phase }, { on := 7, ground := Ground.phase }], guard := none }) (by kernel_rfl) rfl (fun K hK => ?_)
      go_simp
      refine hK.out _ _ (fun _ _ => trivial) ?_
      clear hK K
      generalize Wb1.setCell ⟨e, 7, none⟩ (.slice none 0 0) = Wc1 at Ec1 Bc1 Rc1 Gc1 ⊢
      clear k0 f0 Eb1 Bb1 Rb1 Gb1
      refine done_f (by kernel_rfl) ?_ _
      have CG : Hid (Wc1.cell? ⟨g10, 0, none⟩ = some (.slice ra rn rc)) := (box2 Gc1.out).1
      generalize upd (upd vl6 5 _) 7 _ = vl9 at Ec1
      generalize upd (upd Fp7 5 _) 7 _ = Fp9 at Ec1
      change Hid (Em B e p vl9 Fp9 (n + 1) ((((S.lst 3 ((S.ls 3).eraseIdx kk)).lnk 1 ((S.L 1).recvX t)).lst 5 []).lst 7 []) Wc1) at Ec1
      obtain ⟨LG, _⟩ := Ec1.out.ls 7 (by omega) (by omega)
      obtain ⟨ga, gc, hgv⟩ := LG.form
      obtain ⟨gn, hgn⟩ : ∃ k, (((((S.lst 3 ((S.ls 3).eraseIdx kk)).lnk 1 ((S.L 1).recvX t)).lst 5 []).lst 7 []).ls 7).length = k := ⟨_, rfl⟩
      rw [hgn] at hgv
      have HGV := hide1 hgv
      have HLG := hide1 LG
      rw [hgv] at HLG
      have CGT := hide1 ((box13 Ec1.out.row).2.1.2.2.2)
      rw [hgv] at CGT
      clear LG hgv hgn
      go_upto_region 22 with (fail)
      refine region_f (F := [10, 14]) (S := fun X => X.cell? ⟨e, 7, none⟩ = some (.slice ga gn gc) ∧ X.cell? ⟨g10, 0, none⟩ = some (.slice ra rn rc)) (by kernel_rfl) ⟨CGT.out, CG.out⟩ (fun hS => ?_)
      have EU : Hid (Em B e p vl9 Fp9 (n + 1) ((((S.lst 3 ((S.ls 3).eraseIdx kk)).lnk 1 ((S.L 1).recvX t)).lst 5 []).lst 7 []) (World.drew Wc1)) := Ec1.out.below (Below.refl _ _).drew (Nat.le_refl _)
      have LU : Hid (Lst B (World.drew Wc1) (.slice ga gn gc) (((((S.lst 3 ((S.ls 3).eraseIdx kk)).lnk 1 ((S.L 1).recvX t)).lst 5 []).lst 7 []).ls 7)) := HLG.out
      have BU : Hid (Below B w (World.drew Wc1)) := Bc1.out.drew
      have RU : Hid (Rdl (World.drew Wc1) (.slice ra rn rc) bods) := Rc1.out
      generalize World.drew Wc1 = WU at hS EU LU BU RU ⊢
      refine take_p 0 144 (.pointer (some ⟨e, 0, none⟩)) rfl rfl (by kernel_rfl) (by kernel_rfl) (by kernel_rfl) (fun _ _ _ h => h) rfl (fun w => by go_simp) ?_
      try simp only [List.setIfInBounds_toArray, List.set_cons_zero, List.set_cons_succ]
      refine take_p 1 145 (.int .i64 1) rfl rfl (by kernel_rfl) (by kernel_rfl) (by kernel_rfl) (fun _ _ _ h => h) rfl (fun w => by go_simp) ?_
      try simp only [List.setIfInBounds_toArray, List.set_cons_zero, List.set_cons_succ]
      refine take_p 2 146 (.pointer (some ⟨e, 0, none⟩)) rfl rfl (by kernel_rfl) (by kernel_rfl) (by kernel_rfl) (fun _ _ _ h => h) rfl (fun w => by go_simp) ?_
      try simp only [List.setIfInBounds_toArray, List.set_cons_zero, List.set_cons_succ]
      refine take_p 3 147 (.int .i64 1) rfl rfl (by kernel_rfl) (by kernel_rfl) (by kernel_rfl) (fun _ _ _ h => h) rfl (fun w => by go_simp) ?_
      try simp only [List.setIfInBounds_toArray, List.set_cons_zero, List.set_cons_succ]
      refine take_p 4 148 (.pointer (some ⟨e, 0, none⟩)) rfl rfl (by kernel_rfl) (by kernel_rfl) (by kernel_rfl) (fun _ _ _ h => h) rfl (fun w => by go_simp) ?_
      try simp only [List.setIfInBounds_toArray, List.set_cons_zero, List.set_cons_succ]
      refine take_p 5 149 (.pointer (some ⟨e, 6, none⟩)) rfl rfl (by kernel_rfl) (by kernel_rfl) (by kernel_rfl) (fun _ _ _ h => h) rfl (fun w => by go_simp) ?_
      try simp only [List.setIfInBounds_toArray, List.set_cons_zero, List.set_cons_succ]
      refine take_p 6 150 (.pointer (some ⟨e, 7, none⟩)) rfl rfl (by kernel_rfl) (by kernel_rfl) (by kernel_rfl) (fun _ _ _ h => h) rfl (fun w => by go_simp) ?_
      try simp only [List.setIfInBounds_toArray, List.set_cons_zero, List.set_cons_succ]
      refine take_f 7 151 (.slice ga gn gc) [10, 13, 14] rfl rfl (by kernel_rfl) (by kernel_rfl) (by kernel_rfl) (by kernel_rfl) (by kernel_rfl) (by kernel_rfl) (fun _ _ _ h => h) rfl (fun w hSw => by obtain ⟨g0, g1⟩ := hSw; go_simp) hS ?_
      try simp only [List.setIfInBounds_toArray, List.set_cons_zero, List.set_cons_succ]
      refine take_p 8 152 (.pointer (some ⟨g10, 0, none⟩)) rfl rfl (by kernel_rfl) (by kernel_rfl) (by kernel_rfl) (fun _ _ _ h => h) rfl (fun w => by go_simp) ?_
      try simp only [List.setIfInBounds_toArray, List.set_cons_zero, List.set_cons_succ]
      refine take_f 9 153 (.slice ra rn rc) [10, 13, 14] rfl rfl (by kernel_rfl) (by kernel_rfl) (by kernel_rfl) (by kernel_rfl) (by kernel_rfl) (by kernel_rfl) (fun _ _ _ h => h) rfl (fun w hSw => by obtain ⟨g0, g1⟩ := hSw; go_simp) hS ?_
      try simp only [List.setIfInBounds_toArray, List.set_cons_zero, List.set_cons_succ]
      refine take_p 11 155 (.pointer (some ⟨e, 0, none⟩)) rfl rfl (by kernel_rfl) (by kernel_rfl) (by kernel_rfl) (fun _ _ _ h => h) rfl (fun w => by go_simp) ?_
      try simp only [List.setIfInBounds_toArray, List.set_cons_zero, List.set_cons_succ]
      refine take_p 12 156 (.pointer (some ⟨e, 6, none⟩)) rfl rfl (by kernel_rfl) (by kernel_rfl) (by kernel_rfl) (fun _ _ _ h => h) rfl (fun w => by go_simp) ?_
      try simp only [List.setIfInBounds_toArray, List.set_cons_zero, List.set_cons_succ]
      refine ready_f 10 (o := { dst := some 154, op := Op.call { callee := Callee.builtin Builtin.append, args := #[Operand.tmp 151, Operand.tmp 153], argTypes := #[31, 31] }, type := 31, pos := "law.go:138", after := #[{ on := 7, ground := Ground.data }, { on := 9, ground := Ground.data }], guard := none }) (by kernel_rfl) rfl (fun K hK => ?_)
      rw [if_pos (by rfl)]
      refine wp_append_lst _ _ rfl rfl rfl LU.out RU.out (by have h1 := HGL9.out; have h2 := HNM.out; have h3 := HBL.out; omega) (by have := EU.out.hB; omega) ?_
      intro v3 W3 ho hg hf
      refine hK.out _ _ (fun h => absurd (by decide) h) ?_
      clear hK K
      try simp only [Act.put, List.setIfInBounds_toArray, List.set_cons_zero, List.set_cons_succ]
      have K3 : Hid (Kp (fun g => (vl9 7).ownBlock = some g) WU W3) := by have h9 := Kp.ofGrown hg; rw [← HGV.out] at h9; exact h9
      have F3 : Hid (∀ g, v3.ownBlock = some g → (vl9 7).ownBlock = some g ∨ WU.heap.size ≤ g) := by unfold Hid; rw [HGV.out]; exact hf
      have r3 := (K3.out.block e (lt_heap EU.out.row) (fun e9 => EU.out.dis 7 8 (by omega) (by omega) (by omega) e (((EU.out.ls 7 (by omega) (by omega)).2 e).2 e9) ((EU.out.box e).2 rfl))).trans EU.out.row
      have HO := hide1 ho
      obtain ⟨a3, c3, hv3⟩ := ho.form
      obtain ⟨n3, hn3⟩ : ∃ n, (((((S.lst 3 ((S.ls 3).eraseIdx kk)).lnk 1 ((S.L 1).recvX t)).lst 5 []).lst 7 []).ls 7 ++ bods).length = n := ⟨_, rfl⟩
      rw [hn3] at hv3
      subst hv3
      obtain ⟨E6, B6⟩ := EU.out.list (i := 7) (by omega) (by omega) HO.out K3.out F3.out (by rw [heap_setCell_same _ e 7 _ _ _ r3]; rfl)
      have HEa := hide1 E6
      have HBa := hide1 (BU.out.trans B6)
      have k0 := (box13 r3).2.1.2.2.2
      have f0 := (box13 r3).2.2 7
      clear ho hg hf hn3 E6 B6 r3 EU LU BU RU K3 F3 HO hS
      refine take_p 13 157 (.pointer (some ⟨e, 7, none⟩)) rfl rfl (by kernel_rfl) (by kernel_rfl) (by kernel_rfl) (fun _ _ _ h => h) rfl (fun w => by go_simp) ?_
      try simp only [List.setIfInBounds_toArray, List.set_cons_zero, List.set_cons_succ]
      refine ready_f 14 (o := { dst := none, op := Op.store 31 (Operand.tmp 157) (Operand.tmp 154), type := 0, pos := "law.go:138", after := #[{ on := 13, ground := Ground.data }, { on := 10, ground := Ground.data }, { on := 10, ground := Ground.chain }, { on := 0, ground := Ground.phase }, { on := 1, ground := Ground.phase }, { on := 2, ground := Ground.phase }, { on := 3, ground := Ground.phase }, { on := 4, ground := Ground.phase }, { on := 5, ground := Ground.phase }, { on := 6, ground := Ground.phase }, { on := 7, ground := Ground.phase }, { on := 8, ground := Ground.phase }, { on := 9, ground := Ground.phase }, { on := 10, ground := Ground.phase }], guard := none }) (by kernel_rfl) rfl (fun K hK => ?_)
      go_simp
      refine hK.out _ _ (fun h => absurd (by decide) h) ?_
      clear hK K
      generalize W3.setCell ⟨e, 7, none⟩ (.slice a3 n3 c3) = Wa at HEa HBa ⊢
      clear k0 f0
      refine done_f (by kernel_rfl) ?_ _
      have cL := (box13 HEa.out.row).1.2.1
      obtain ⟨lv, lm, lu, hlk, hlf⟩ := HEa.out.lk 1 (by omega)
      have kT := hide1 (lflush_any hlk HEa.out.hB HOKX.out HN16.out)
      go_wp2_with fail
      refine kT.out.mono ?_
      rintro x9 V1 ⟨rr, rfl, hf⟩
      obtain ⟨Fp3, E3, B3, R3, _, D3⟩ := HEa.out.told (by omega) (Nat.le_refl _) hlk hlf hf
      have kP := hide1 (put1_any E3 R3 D3 (by exact (HS.out.way 2 (by omega) (by omega)).1) (Ls.flushF_len HOKX.out))
      have BB := hide1 (HBa.out.trans B3)
      clear kT hf E3 B3 R3 D3 hlk hlf cL
      go_wp2_with fail
      refine kP.out.mono ?_
      rintro x9 V2 ⟨rfl, p2, vl2, Fp2, E2, B2⟩
      have fin := hide1 (HP.out V2 ⟨p2, vl2, Fp2, (by rw [HMV.out]; exact E2), BB.out.trans B2⟩)
      clear E2 B2 kP
      go_wp2
      go_ret
      exact ⟨rfl, fin.out⟩

end Go.Proofs.Ytcadlcpccemkbaa
