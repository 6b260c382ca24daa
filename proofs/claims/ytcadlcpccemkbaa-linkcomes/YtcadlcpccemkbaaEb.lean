/- put: frames on their way from an end. -/
import Derived.Test.YtcadlcpccemkbaaEa
namespace Go.Proofs.Ytcadlcpccemkbaa
open Go.RowKit
set_option maxRecDepth 100000
attribute [local go_sem] not_any

def put60 (A F : List ByteArray) : List ByteArray := A ++ F.take (60 - A.length)
theorem put60_le {A F : List ByteArray} (h : A.length ≤ 60) : (put60 A F).length ≤ 60 := by
  unfold put60
  rw [List.length_append, List.length_take]
  omega
theorem Rdl.kp {F : Nat → Prop} {w w' : World} {v : Value} {A : List ByteArray} (h : Rdl w v A) (hk : Kp F w w') (hF : ∀ g, v.ownBlock = some g → ¬ F g) : Rdl w' v A := by
  obtain ⟨a, c, rfl, hc⟩ := h
  refine ⟨a, c, rfl, fun j hj => ?_⟩
  obtain ⟨g, o, rfl, h1⟩ := hc j hj
  exact ⟨g, o, rfl, (World.cell?_of_block (a := ⟨g, _, none⟩) (hk.block g (World.block_lt_of_cell? w _ h1) (hF g rfl))).trans h1⟩
theorem upd_self {α : Type} (f : Nat → α) (k : Nat) : upd f k (f k) = f := by
  funext j
  by_cases h : j = k
  · rw [h, upd_same]
  · rw [upd_other _ _ h]
theorem upd_upd {α : Type} (f : Nat → α) (k : Nat) (a b : α) : upd (upd f k a) k b = upd f k b := by
  funext j
  by_cases h : j = k
  · rw [h, upd_same, upd_same]
  · rw [upd_other _ _ h, upd_other _ _ h, upd_other _ _ h]
/- what a call on both ends leaves -/
def Ebx (B e n : Nat) (S : Es) (w0 w : World) : Prop := ∃ p vl Fp, Em B e p vl Fp n S w ∧ Below B w0 w

set_option maxHeartbeats 2000000 in
theorem put0_any {B e n : Nat} {p : Nat → Nat} {vl : Nat → Value} {Fp : Nat → Nat → Prop} {S : Es} {w : World} {r : Value} {F : List ByteArray} (h : Em B e p vl Fp n S w) (hr : Rdl w r F) (hd : ∀ g, r.ownBlock = some g → ∀ i, i < 9 → ¬ Fp i g) (h60 : (S.ls 3).length ≤ 60) (hF : F.length ≤ 1000) :
    Calls Try.prog 14 #[.pointer (some ⟨e, 0, none⟩), .int .i64 0, r] w fun x w' => x = .returned (.tuple #[]) ∧ Ebx B e n ⟨S.L, upd S.ls 3 (put60 (S.ls 3) F)⟩ w w' := by
  have H := hide1 h
  have H60 := hide1 h60
  have HF := hide1 hF
  have HR := hide1 hr
  have HD := hide1 hd
  obtain ⟨A0, hA0⟩ : ∃ A, S.ls 3 = A := ⟨_, rfl⟩
  rw [hA0] at H60 ⊢
  have HA0 := hide1 hA0
  obtain ⟨ra, rc, hrv, _⟩ := hr
  obtain ⟨q, hq⟩ : ∃ q, F.length = q := ⟨_, rfl⟩
  rw [hq] at hrv
  have HQ := hide1 hq
  have hq1000 : q ≤ 1000 := by omega
  have HRV := hide1 hrv
  rw [hrv]
  clear h h60 hF hd hA0 hq hrv
  go_enter Try.func14, Try.ntmps14
  go_wp2_with fail
  go_loopw [6] (fun i wr => ∃ (j : Nat) (vl' : Nat → Value) (Fp' : Nat → Nat → Prop), j ≤ q ∧ A0.length + j ≤ 60 ∧ i = .int .i64 (j : Int) ∧ Em B e p vl' Fp' n ⟨S.L, upd S.ls 3 (A0 ++ F.take j)⟩ wr ∧ Below B w wr ∧ Rdl wr r F ∧ ∀ g, r.ownBlock = some g → ∀ i, i < 9 → ¬ Fp' i g) (fun i _ => 2000 - (intOf i).toNat)
  case atStart =>
    refine ⟨0, vl, Fp, Nat.zero_le _, by have := H60.out; omega, rfl, ?_, Below.refl _ _, HR.out, HD.out⟩
    have h1 := H.out
    rw [List.take_zero, List.append_nil, ← HA0.out, upd_self]
    exact h1
  case round =>
    obtain ⟨j, vl1, Fp1, hj, hj60, rfl, hE, hB, hR1, hD1⟩ := hrel
    have HE := hide1 hE
    have HB := hide1 hB
    have HR1 := hide1 hR1
    have HD1 := hide1 hD1
    have HJ60 := hide1 hj60
    obtain ⟨L1, LF1⟩ := hE.ls 3 (by omega) (by omega)
    have HL1 := hide1 L1
    change Hid (Lst B wr (vl1 3) (upd S.ls 3 (A0 ++ F.take j) 3)) at HL1
    rw [upd_same] at HL1
    have hlen : (A0 ++ F.take j).length = A0.length + j := by
      rw [List.length_append, List.length_take, HQ.out]
      omega
    obtain ⟨va, vc, hva⟩ := HL1.out.form
    obtain ⟨m, hm⟩ : ∃ m, A0.length + j = m := ⟨_, rfl⟩
    rw [hlen, hm] at hva
    rw [hm] at hj60
    have HMM := hide1 hm
    have HLEN := hide1 hlen
    have cw := (box13 hE.row).1.2.2.2
    rw [hva] at cw
    have HVA := hide1 hva
    clear hE hB hR1 hD1 L1 LF1 hva hm hlen
    by_cases hjq : j < q
    · have gin : (j : Int) < (q : Int) := by omega
      by_cases hm60 : m < 60
      · have gin2 : (m : Int) < 60 := by omega
        obtain ⟨ra', rc', e1, hc⟩ := HR1.out
        have e1' := HRV.out.symm.trans e1
        rw [HQ.out] at e1'
        cases e1'
        obtain ⟨g1, o1, rfl, k1⟩ := hc j (by have := HQ.out; omega)
        have K1 := hide1 k1
        have TS := hide1 (take_snoc F j (by have := HQ.out; omega))
        generalize F.getD j ByteArray.empty = b at K1 TS
        clear hc k1 e1
        have CW := hide1 cw
        go_upto_region 3 with (fail)
        clear cw
        refine region_f (F := [15, 19]) (S := fun X => X.cell? ⟨e, 3, none⟩ = some (.slice va m vc) ∧ X.cell? ⟨g1, o1 + j, none⟩ = some (.string b) ∧ e < X.heap.size ∧ g1 < X.heap.size) (by kernel_rfl) ⟨CW.out, K1.out, lt_heap HE.out.row, World.block_lt_of_cell? wr _ K1.out⟩ (fun hS => ?_)
        have BU : Hid (Below wr.heap.size wr (World.drew wr)) := (Below.refl _ _).drew
        generalize World.drew wr = WU at hS BU ⊢
        refine take_p 0 24 (.pointer (some ⟨e, 0, none⟩)) rfl rfl (by kernel_rfl) (by kernel_rfl) (by kernel_rfl) (fun _ _ _ h => h) rfl (fun w => by go_simp) ?_
        try simp only [List.setIfInBounds_toArray, List.set_cons_zero, List.set_cons_succ]
        refine take_p 1 25 (.int .i64 0) rfl rfl (by kernel_rfl) (by kernel_rfl) (by kernel_rfl) (fun _ _ _ h => h) rfl (fun w => by go_simp) ?_
        try simp only [List.setIfInBounds_toArray, List.set_cons_zero, List.set_cons_succ]
        refine take_p 2 26 (.int .i64 1) rfl rfl (by kernel_rfl) (by kernel_rfl) (by kernel_rfl) (fun _ _ _ h => h) rfl (fun w => by go_simp; rfl) ?_
        try simp only [List.setIfInBounds_toArray, List.set_cons_zero, List.set_cons_succ]
        refine take_p 3 27 (.pointer (some ⟨e, 0, none⟩)) rfl rfl (by kernel_rfl) (by kernel_rfl) (by kernel_rfl) (fun _ _ _ h => h) rfl (fun w => by go_simp) ?_
        try simp only [List.setIfInBounds_toArray, List.set_cons_zero, List.set_cons_succ]
        refine take_p 4 28 (.int .i64 0) rfl rfl (by kernel_rfl) (by kernel_rfl) (by kernel_rfl) (fun _ _ _ h => h) rfl (fun w => by go_simp) ?_
        try simp only [List.setIfInBounds_toArray, List.set_cons_zero, List.set_cons_succ]
        refine take_p 5 29 (.int .i64 1) rfl rfl (by kernel_rfl) (by kernel_rfl) (by kernel_rfl) (fun _ _ _ h => h) rfl (fun w => by go_simp; rfl) ?_
        try simp only [List.setIfInBounds_toArray, List.set_cons_zero, List.set_cons_succ]
        refine take_p 6 30 (.pointer (some ⟨e, 0, none⟩)) rfl rfl (by kernel_rfl) (by kernel_rfl) (by kernel_rfl) (fun _ _ _ h => h) rfl (fun w => by go_simp) ?_
        try simp only [List.setIfInBounds_toArray, List.set_cons_zero, List.set_cons_succ]
        refine take_p 7 31 (.pointer (some ⟨e, 2, none⟩)) rfl rfl (by kernel_rfl) (by kernel_rfl) (by kernel_rfl) (fun _ _ _ h => h) rfl (fun w => by go_simp) ?_
        try simp only [List.setIfInBounds_toArray, List.set_cons_zero, List.set_cons_succ]
        refine take_p 8 32 (.pointer (some ⟨e, 3, none⟩)) rfl rfl (by kernel_rfl) (by kernel_rfl) (by kernel_rfl) (fun _ _ _ h => h) rfl (fun w => by go_simp) ?_
        try simp only [List.setIfInBounds_toArray, List.set_cons_zero, List.set_cons_succ]
        refine take_f 9 33 (.slice va m vc) [15, 18, 19] rfl rfl (by kernel_rfl) (by kernel_rfl) (by kernel_rfl) (by kernel_rfl) (by kernel_rfl) (by kernel_rfl) (fun _ _ _ h => h) rfl (fun w hSw => by obtain ⟨g0, g1, _, _⟩ := hSw; go_simp) hS ?_
        try simp only [List.setIfInBounds_toArray, List.set_cons_zero, List.set_cons_succ]
        refine take_p 10 34 (.slice (some ⟨g1, o1, none⟩) q rc) rfl rfl (by kernel_rfl) (by kernel_rfl) (by kernel_rfl) (fun _ _ _ h => h) rfl (fun w => by go_simp) ?_
        try simp only [List.setIfInBounds_toArray, List.set_cons_zero, List.set_cons_succ]
        refine take_p 11 35 (.int .i64 (j : Int)) rfl rfl (by kernel_rfl) (by kernel_rfl) (by kernel_rfl) (fun _ _ _ h => h) rfl (fun w => by go_simp) ?_
        try simp only [List.setIfInBounds_toArray, List.set_cons_zero, List.set_cons_succ]
        refine take_p 12 36 (.pointer (some ⟨g1, o1 + j, none⟩)) rfl rfl (by kernel_rfl) (by kernel_rfl) (by kernel_rfl) (fun _ _ _ h => h) rfl (fun w => by go_simp) ?_
        try simp only [List.setIfInBounds_toArray, List.set_cons_zero, List.set_cons_succ]
        refine take_f 13 37 (.string b) [14, 15, 18, 19] rfl rfl (by kernel_rfl) (by kernel_rfl) (by kernel_rfl) (by kernel_rfl) (by kernel_rfl) (by kernel_rfl) (fun _ _ _ h => h) rfl (fun w hSw => by obtain ⟨g0, g1, _, _⟩ := hSw; go_simp) hS ?_
        try simp only [List.setIfInBounds_toArray, List.set_cons_zero, List.set_cons_succ]
        refine take_p 16 40 (.pointer (some ⟨e, 0, none⟩)) rfl rfl (by kernel_rfl) (by kernel_rfl) (by kernel_rfl) (fun _ _ _ h => h) rfl (fun w => by go_simp) ?_
        try simp only [List.setIfInBounds_toArray, List.set_cons_zero, List.set_cons_succ]
        refine take_p 17 41 (.pointer (some ⟨e, 2, none⟩)) rfl rfl (by kernel_rfl) (by kernel_rfl) (by kernel_rfl) (fun _ _ _ h => h) rfl (fun w => by go_simp) ?_
        try simp only [List.setIfInBounds_toArray, List.set_cons_zero, List.set_cons_succ]
        refine ready_f 14 (o := { dst := some 38, op := Op.buildSlice 31 1 #[(0, Operand.tmp 37)], type := 31, pos := "law.go:107", after := #[{ on := 13, ground := Ground.data }], guard := none }) (by kernel_rfl) rfl (fun K hK => ?_)
        go_simp
        refine hK.out _ _ (fun _ h => ⟨((below1 _).cell (p := ⟨e, _, none⟩) h.2.2.1).trans h.1, ((below1 _).cell (p := ⟨g1, _, none⟩) h.2.2.2).trans h.2.1, Nat.lt_of_lt_of_le h.2.2.1 (below1 _).size, Nat.lt_of_lt_of_le h.2.2.2 (below1 _).size⟩) ?_
        clear hK K
        try simp only [Act.put, List.setIfInBounds_toArray, List.set_cons_zero, List.set_cons_succ]
        have RC := hide1 (Rdl.one WU b)
        have B2 : Hid (Below wr.heap.size wr (WU.alloc (.cells #[.string b] 9))) := BU.out.alloc BU.out.size _
        generalize WU.alloc (.cells #[.string b] 9) = W2 at RC B2 ⊢
        have E2 := hide1 (HE.out.below B2.out (Nat.le_refl _))
        have L2 := hide1 (HL1.out.below B2.out (Nat.le_refl _))
        rw [HVA.out] at L2
        clear BU hS
        refine ready_f 15 (o := { dst := some 39, op := Op.call { callee := Callee.builtin Builtin.append, args := #[Operand.tmp 33, Operand.tmp 38], argTypes := #[31, 31] }, type := 31, pos := "law.go:107", after := #[{ on := 9, ground := Ground.data }, { on := 14, ground := Ground.data }], guard := none }) (by kernel_rfl) rfl (fun K hK => ?_)
        rw [if_pos (by rfl)]
        refine wp_append_lst _ _ rfl rfl rfl L2.out RC.out (by rw [HLEN.out]; have := HJ60.out; simp; omega) (by have := E2.out.hB; omega) ?_
        intro v3 W3 ho hg hf
        refine hK.out _ _ (fun h => absurd (by decide) h) ?_
        clear hK K
        try simp only [Act.put, List.setIfInBounds_toArray, List.set_cons_zero, List.set_cons_succ]
        have K3 : Hid (Kp (fun g => (vl1 3).ownBlock = some g) W2 W3) := by have h9 := Kp.ofGrown hg; rw [← HVA.out] at h9; exact h9
        have F3 : Hid (∀ g, v3.ownBlock = some g → (vl1 3).ownBlock = some g ∨ W2.heap.size ≤ g) := by unfold Hid; rw [HVA.out]; exact hf
        have r3 := (K3.out.block e (lt_heap E2.out.row) (fun e9 => E2.out.dis 3 8 (by omega) (by omega) (by omega) e (((E2.out.ls 3 (by omega) (by omega)).2 e).2 e9) ((E2.out.box e).2 rfl))).trans E2.out.row
        have HO := hide1 ho
        obtain ⟨a3, c3, hv3⟩ := ho.form
        obtain ⟨n3, hn3⟩ : ∃ n, (A0 ++ F.take j ++ [b]).length = n := ⟨_, rfl⟩
        rw [hn3] at hv3
        subst hv3
        obtain ⟨E4, B4⟩ := E2.out.list (by omega) (by omega) HO.out K3.out F3.out (by rw [heap_setCell_same _ e 3 _ _ _ r3]; rfl)
        have HE4 := hide1 E4
        have HB4 := hide1 B4
        have k0 := (box13 r3).1.2.2.2
        have f0 := (box13 r3).2.2 3
        have HRK := hide1 ((HR1.out.below B2.out (Nat.le_refl _)))
        clear ho hg hf hn3 RC E4 B4 r3
        refine take_p 18 42 (.pointer (some ⟨e, 3, none⟩)) rfl rfl (by kernel_rfl) (by kernel_rfl) (by kernel_rfl) (fun _ _ _ h => h) rfl (fun w => by go_simp) ?_
        try simp only [List.setIfInBounds_toArray, List.set_cons_zero, List.set_cons_succ]
        refine ready_f 19 (o := { dst := none, op := Op.store 31 (Operand.tmp 42) (Operand.tmp 39), type := 0, pos := "law.go:107", after := #[{ on := 18, ground := Ground.data }, { on := 15, ground := Ground.data }, { on := 15, ground := Ground.chain }, { on := 0, ground := Ground.phase }, { on := 1, ground := Ground.phase }, { on := 2, ground := Ground.phase }, { on := 3, ground := Ground.phase }, { on := 4, ground := Ground.phase }, { on := 5, ground := Ground.phase }, { on := 6, ground := Ground.phase }, { on := 7, ground := Ground.phase }, { on := 8, ground := Ground.phase }, { on := 9, ground := Ground.phase }, { on := 10, ground := Ground.phase }, { on := 11, ground := Ground.phase }, { on := 12, ground := Ground.phase }, { on := 13, ground := Ground.phase }, { on := 14, ground := Ground.phase }, { on := 15, ground := Ground.phase }], guard := none }) (by kernel_rfl) rfl (fun K hK => ?_)
        go_simp
        refine hK.out _ _ (fun h => absurd (by decide) h) ?_
        clear hK K
        refine done_f (by kernel_rfl) ?_ _
        clear k0 f0
        go_wp2
        go_roundw
        case rel =>
          refine ⟨j + 1, upd vl1 3 (.slice a3 n3 c3), upd Fp1 3 (fun g => (Value.slice a3 n3 c3).ownBlock = some g), by omega, by have := HMM.out; omega, by go_num, ?_, HB.out.trans ((B2.out.mono HE.out.hB).trans HB4.out), ?_, ?_⟩
          · have h9 := HE4.out
            change Em B e p _ _ n ⟨S.L, upd (upd S.ls 3 (A0 ++ F.take j)) 3 (A0 ++ F.take j ++ [b])⟩ _ at h9
            rw [upd_upd, List.append_assoc, ← TS.out] at h9
            exact h9
          · have kk : Kp (fun g => (vl1 3).ownBlock = some g ∨ g = e) W2 (W3.setCell ⟨e, 3, none⟩ (.slice a3 n3 c3)) := (K3.out.mono fun g e9 => .inl e9).trans (Kp.setCell _ _ _ _ (.inr rfl))
            refine HRK.out.kp kk fun g hg e9 => ?_
            rcases e9 with e9 | e9
            · exact HD1.out g hg 3 (by omega) (((HE.out.ls 3 (by omega) (by omega)).2 g).2 e9)
            · exact HD1.out g hg 8 (by omega) ((HE.out.box g).2 e9)
          · intro g hg i hi e9
            by_cases hi3 : i = 3
            · subst hi3
              rw [upd_same] at e9
              rcases F3.out g e9 with h9 | h9
              · exact HD1.out g hg 3 (by omega) (((HE.out.ls 3 (by omega) (by omega)).2 g).2 h9)
              · have hlt : g < W2.heap.size := by
                  obtain ⟨a', c', e', hc'⟩ := HRK.out
                  rw [e'] at hg
                  cases a' with
                  | none => cases hg
                  | some ad =>
                    obtain ⟨g', o', e'', hcell⟩ := hc' j (by have := HQ.out; omega)
                    cases e''
                    cases hg
                    have hh := World.block_lt_of_cell? W2 _ hcell
                    exact hh
                omega
            · rw [upd_other _ _ hi3] at e9
              exact HD1.out g hg i hi e9
        case measure => simp [intOf]; omega
      · have gin2 : ¬ (m : Int) < 60 := by omega
        go_wp2
        go_end0
        refine ⟨rfl, p, vl1, Fp1, ?_, HB.out⟩
        have e9 : put60 A0 F = A0 ++ F.take j := by
          rw [put60, show 60 - A0.length = j by have := HMM.out; omega]
        rw [e9]
        exact HE.out
    · have gin : ¬ (j : Int) < (q : Int) := by omega
      go_wp2
      go_end0
      refine ⟨rfl, p, vl1, Fp1, ?_, HB.out⟩
      have e9 : put60 A0 F = A0 ++ F.take j := by
        rw [put60, List.take_of_length_le (by have := HQ.out; have := HMM.out; omega), List.take_of_length_le (by have := HQ.out; omega)]
      rw [e9]
      exact HE.out

set_option maxHeartbeats 2000000 in
theorem put1_any {B e n : Nat} {p : Nat → Nat} {vl : Nat → Value} {Fp : Nat → Nat → Prop} {S : Es} {w : World} {r : Value} {F : List ByteArray} (h : Em B e p vl Fp n S w) (hr : Rdl w r F) (hd : ∀ g, r.ownBlock = some g → ∀ i, i < 9 → ¬ Fp i g) (h60 : (S.ls 2).length ≤ 60) (hF : F.length ≤ 1000) :
    Calls Try.prog 14 #[.pointer (some ⟨e, 0, none⟩), .int .i64 1, r] w fun x w' => x = .returned (.tuple #[]) ∧ Ebx B e n ⟨S.L, upd S.ls 2 (put60 (S.ls 2) F)⟩ w w' := by
  have H := hide1 h
  have H60 := hide1 h60
  have HF := hide1 hF
  have HR := hide1 hr
  have HD := hide1 hd
  obtain ⟨A0, hA0⟩ : ∃ A, S.ls 2 = A := ⟨_, rfl⟩
  rw [hA0] at H60 ⊢
  have HA0 := hide1 hA0
  obtain ⟨ra, rc, hrv, _⟩ := hr
  obtain ⟨q, hq⟩ : ∃ q, F.length = q := ⟨_, rfl⟩
  rw [hq] at hrv
  have HQ := hide1 hq
  have hq1000 : q ≤ 1000 := by omega
  have HRV := hide1 hrv
  rw [hrv]
  clear h h60 hF hd hA0 hq hrv
  go_enter Try.func14, Try.ntmps14
  go_wp2_with fail
  go_loopw [6] (fun i wr => ∃ (j : Nat) (vl' : Nat → Value) (Fp' : Nat → Nat → Prop), j ≤ q ∧ A0.length + j ≤ 60 ∧ i = .int .i64 (j : Int) ∧ Em B e p vl' Fp' n ⟨S.L, upd S.ls 2 (A0 ++ F.take j)⟩ wr ∧ Below B w wr ∧ Rdl wr r F ∧ ∀ g, r.ownBlock = some g → ∀ i, i < 9 → ¬ Fp' i g) (fun i _ => 2000 - (intOf i).toNat)
  case atStart =>
    refine ⟨0, vl, Fp, Nat.zero_le _, by have := H60.out; omega, rfl, ?_, Below.refl _ _, HR.out, HD.out⟩
    have h1 := H.out
    rw [List.take_zero, List.append_nil, ← HA0.out, upd_self]
    exact h1
  case round =>
    obtain ⟨j, vl1, Fp1, hj, hj60, rfl, hE, hB, hR1, hD1⟩ := hrel
    have HE := hide1 hE
    have HB := hide1 hB
    have HR1 := hide1 hR1
    have HD1 := hide1 hD1
    have HJ60 := hide1 hj60
    obtain ⟨L1, LF1⟩ := hE.ls 2 (by omega) (by omega)
    have HL1 := hide1 L1
    change Hid (Lst B wr (vl1 2) (upd S.ls 2 (A0 ++ F.take j) 2)) at HL1
    rw [upd_same] at HL1
    have hlen : (A0 ++ F.take j).length = A0.length + j := by
      rw [List.length_append, List.length_take, HQ.out]
      omega
    obtain ⟨va, vc, hva⟩ := HL1.out.form
    obtain ⟨m, hm⟩ : ∃ m, A0.length + j = m := ⟨_, rfl⟩
    rw [hlen, hm] at hva
    rw [hm] at hj60
    have HMM := hide1 hm
    have HLEN := hide1 hlen
    have cw := (box13 hE.row).1.2.2.1
    rw [hva] at cw
    have HVA := hide1 hva
    clear hE hB hR1 hD1 L1 LF1 hva hm hlen
    by_cases hjq : j < q
    · have gin : (j : Int) < (q : Int) := by omega
      by_cases hm60 : m < 60
      · have gin2 : (m : Int) < 60 := by omega
        obtain ⟨ra', rc', e1, hc⟩ := HR1.out
        have e1' := HRV.out.symm.trans e1
        rw [HQ.out] at e1'
        cases e1'
        obtain ⟨g1, o1, rfl, k1⟩ := hc j (by have := HQ.out; omega)
        have K1 := hide1 k1
        have TS := hide1 (take_snoc F j (by have := HQ.out; omega))
        generalize F.getD j ByteArray.empty = b at K1 TS
        clear hc k1 e1
        have CW := hide1 cw
        go_upto_region 3 with (fail)
        clear cw
        refine region_f (F := [15, 19]) (S := fun X => X.cell? ⟨e, 2, none⟩ = some (.slice va m vc) ∧ X.cell? ⟨g1, o1 + j, none⟩ = some (.string b) ∧ e < X.heap.size ∧ g1 < X.heap.size) (by kernel_rfl) ⟨CW.out, K1.out, lt_heap HE.out.row, World.block_lt_of_cell? wr _ K1.out⟩ (fun hS => ?_)
        have BU : Hid (Below wr.heap.size wr (World.drew wr)) := (Below.refl _ _).drew
        generalize World.drew wr = WU at hS BU ⊢
        refine take_p 0 24 (.pointer (some ⟨e, 0, none⟩)) rfl rfl (by kernel_rfl) (by kernel_rfl) (by kernel_rfl) (fun _ _ _ h => h) rfl (fun w => by go_simp) ?_
        try simp only [List.setIfInBounds_toArray, List.set_cons_zero, List.set_cons_succ]
        refine take_p 1 25 (.int .i64 1) rfl rfl (by kernel_rfl) (by kernel_rfl) (by kernel_rfl) (fun _ _ _ h => h) rfl (fun w => by go_simp) ?_
        try simp only [List.setIfInBounds_toArray, List.set_cons_zero, List.set_cons_succ]
        refine take_p 2 26 (.int .i64 0) rfl rfl (by kernel_rfl) (by kernel_rfl) (by kernel_rfl) (fun _ _ _ h => h) rfl (fun w => by go_simp; rfl) ?_
        try simp only [List.setIfInBounds_toArray, List.set_cons_zero, List.set_cons_succ]
        refine take_p 3 27 (.pointer (some ⟨e, 0, none⟩)) rfl rfl (by kernel_rfl) (by kernel_rfl) (by kernel_rfl) (fun _ _ _ h => h) rfl (fun w => by go_simp) ?_
        try simp only [List.setIfInBounds_toArray, List.set_cons_zero, List.set_cons_succ]
        refine take_p 4 28 (.int .i64 1) rfl rfl (by kernel_rfl) (by kernel_rfl) (by kernel_rfl) (fun _ _ _ h => h) rfl (fun w => by go_simp) ?_
        try simp only [List.setIfInBounds_toArray, List.set_cons_zero, List.set_cons_succ]
        refine take_p 5 29 (.int .i64 0) rfl rfl (by kernel_rfl) (by kernel_rfl) (by kernel_rfl) (fun _ _ _ h => h) rfl (fun w => by go_simp; rfl) ?_
        try simp only [List.setIfInBounds_toArray, List.set_cons_zero, List.set_cons_succ]
        refine take_p 6 30 (.pointer (some ⟨e, 0, none⟩)) rfl rfl (by kernel_rfl) (by kernel_rfl) (by kernel_rfl) (fun _ _ _ h => h) rfl (fun w => by go_simp) ?_
        try simp only [List.setIfInBounds_toArray, List.set_cons_zero, List.set_cons_succ]
        refine take_p 7 31 (.pointer (some ⟨e, 2, none⟩)) rfl rfl (by kernel_rfl) (by kernel_rfl) (by kernel_rfl) (fun _ _ _ h => h) rfl (fun w => by go_simp) ?_
        try simp only [List.setIfInBounds_toArray, List.set_cons_zero, List.set_cons_succ]
        refine take_p 8 32 (.pointer (some ⟨e, 2, none⟩)) rfl rfl (by kernel_rfl) (by kernel_rfl) (by kernel_rfl) (fun _ _ _ h => h) rfl (fun w => by go_simp) ?_
        try simp only [List.setIfInBounds_toArray, List.set_cons_zero, List.set_cons_succ]
        refine take_f 9 33 (.slice va m vc) [15, 18, 19] rfl rfl (by kernel_rfl) (by kernel_rfl) (by kernel_rfl) (by kernel_rfl) (by kernel_rfl) (by kernel_rfl) (fun _ _ _ h => h) rfl (fun w hSw => by obtain ⟨g0, g1, _, _⟩ := hSw; go_simp) hS ?_
        try simp only [List.setIfInBounds_toArray, List.set_cons_zero, List.set_cons_succ]
        refine take_p 10 34 (.slice (some ⟨g1, o1, none⟩) q rc) rfl rfl (by kernel_rfl) (by kernel_rfl) (by kernel_rfl) (fun _ _ _ h => h) rfl (fun w => by go_simp) ?_
        try simp only [List.setIfInBounds_toArray, List.set_cons_zero, List.set_cons_succ]
        refine take_p 11 35 (.int .i64 (j : Int)) rfl rfl (by kernel_rfl) (by kernel_rfl) (by kernel_rfl) (fun _ _ _ h => h) rfl (fun w => by go_simp) ?_
        try simp only [List.setIfInBounds_toArray, List.set_cons_zero, List.set_cons_succ]
        refine take_p 12 36 (.pointer (some ⟨g1, o1 + j, none⟩)) rfl rfl (by kernel_rfl) (by kernel_rfl) (by kernel_rfl) (fun _ _ _ h => h) rfl (fun w => by go_simp) ?_
        try simp only [List.setIfInBounds_toArray, List.set_cons_zero, List.set_cons_succ]
        refine take_f 13 37 (.string b) [14, 15, 18, 19] rfl rfl (by kernel_rfl) (by kernel_rfl) (by kernel_rfl) (by kernel_rfl) (by kernel_rfl) (by kernel_rfl) (fun _ _ _ h => h) rfl (fun w hSw => by obtain ⟨g0, g1, _, _⟩ := hSw; go_simp) hS ?_
        try simp only [List.setIfInBounds_toArray, List.set_cons_zero, List.set_cons_succ]
        refine take_p 16 40 (.pointer (some ⟨e, 0, none⟩)) rfl rfl (by kernel_rfl) (by kernel_rfl) (by kernel_rfl) (fun _ _ _ h => h) rfl (fun w => by go_simp) ?_
        try simp only [List.setIfInBounds_toArray, List.set_cons_zero, List.set_cons_succ]
        refine take_p 17 41 (.pointer (some ⟨e, 2, none⟩)) rfl rfl (by kernel_rfl) (by kernel_rfl) (by kernel_rfl) (fun _ _ _ h => h) rfl (fun w => by go_simp) ?_
        try simp only [List.setIfInBounds_toArray, List.set_cons_zero, List.set_cons_succ]
        refine ready_f 14 (o := { dst := some 38, op := Op.buildSlice 31 1 #[(0, Operand.tmp 37)], type := 31, pos := "law.go:107", after := #[{ on := 13, ground := Ground.data }], guard := none }) (by kernel_rfl) rfl (fun K hK => ?_)
        go_simp
        refine hK.out _ _ (fun _ h => ⟨((below1 _).cell (p := ⟨e, _, none⟩) h.2.2.1).trans h.1, ((below1 _).cell (p := ⟨g1, _, none⟩) h.2.2.2).trans h.2.1, Nat.lt_of_lt_of_le h.2.2.1 (below1 _).size, Nat.lt_of_lt_of_le h.2.2.2 (below1 _).size⟩) ?_
        clear hK K
        try simp only [Act.put, List.setIfInBounds_toArray, List.set_cons_zero, List.set_cons_succ]
        have RC := hide1 (Rdl.one WU b)
        have B2 : Hid (Below wr.heap.size wr (WU.alloc (.cells #[.string b] 9))) := BU.out.alloc BU.out.size _
        generalize WU.alloc (.cells #[.string b] 9) = W2 at RC B2 ⊢
        have E2 := hide1 (HE.out.below B2.out (Nat.le_refl _))
        have L2 := hide1 (HL1.out.below B2.out (Nat.le_refl _))
        rw [HVA.out] at L2
        clear BU hS
        refine ready_f 15 (o := { dst := some 39, op := Op.call { callee := Callee.builtin Builtin.append, args := #[Operand.tmp 33, Operand.tmp 38], argTypes := #[31, 31] }, type := 31, pos := "law.go:107", after := #[{ on := 9, ground := Ground.data }, { on := 14, ground := Ground.data }], guard := none }) (by kernel_rfl) rfl (fun K hK => ?_)
        rw [if_pos (by rfl)]
        refine wp_append_lst _ _ rfl rfl rfl L2.out RC.out (by rw [HLEN.out]; have := HJ60.out; simp; omega) (by have := E2.out.hB; omega) ?_
        intro v3 W3 ho hg hf
        refine hK.out _ _ (fun h => absurd (by decide) h) ?_
        clear hK K
        try simp only [Act.put, List.setIfInBounds_toArray, List.set_cons_zero, List.set_cons_succ]
        have K3 : Hid (Kp (fun g => (vl1 2).ownBlock = some g) W2 W3) := by have h9 := Kp.ofGrown hg; rw [← HVA.out] at h9; exact h9
        have F3 : Hid (∀ g, v3.ownBlock = some g → (vl1 2).ownBlock = some g ∨ W2.heap.size ≤ g) := by unfold Hid; rw [HVA.out]; exact hf
        have r3 := (K3.out.block e (lt_heap E2.out.row) (fun e9 => E2.out.dis 2 8 (by omega) (by omega) (by omega) e (((E2.out.ls 2 (by omega) (by omega)).2 e).2 e9) ((E2.out.box e).2 rfl))).trans E2.out.row
        have HO := hide1 ho
        obtain ⟨a3, c3, hv3⟩ := ho.form
        obtain ⟨n3, hn3⟩ : ∃ n, (A0 ++ F.take j ++ [b]).length = n := ⟨_, rfl⟩
        rw [hn3] at hv3
        subst hv3
        obtain ⟨E4, B4⟩ := E2.out.list (by omega) (by omega) HO.out K3.out F3.out (by rw [heap_setCell_same _ e 2 _ _ _ r3]; rfl)
        have HE4 := hide1 E4
        have HB4 := hide1 B4
        have k0 := (box13 r3).1.2.2.1
        have f0 := (box13 r3).2.2 2
        have HRK := hide1 ((HR1.out.below B2.out (Nat.le_refl _)))
        clear ho hg hf hn3 RC E4 B4 r3
        refine take_p 18 42 (.pointer (some ⟨e, 2, none⟩)) rfl rfl (by kernel_rfl) (by kernel_rfl) (by kernel_rfl) (fun _ _ _ h => h) rfl (fun w => by go_simp) ?_
        try simp only [List.setIfInBounds_toArray, List.set_cons_zero, List.set_cons_succ]
        refine ready_f 19 (o := { dst := none, op := Op.store 31 (Operand.tmp 42) (Operand.tmp 39), type := 0, pos := "law.go:107", after := #[{ on := 18, ground := Ground.data }, { on := 15, ground := Ground.data }, { on := 15, ground := Ground.chain }, { on := 0, ground := Ground.phase }, { on := 1, ground := Ground.phase }, { on := 2, ground := Ground.phase }, { on := 3, ground := Ground.phase }, { on := 4, ground := Ground.phase }, { on := 5, ground := Ground.phase }, { on := 6, ground := Ground.phase }, { on := 7, ground := Ground.phase }, { on := 8, ground := Ground.phase }, { on := 9, ground := Ground.phase }, { on := 10, ground := Ground.phase }, { on := 11, ground := Ground.phase }, { on := 12, ground := Ground.phase }, { on := 13, ground := Ground.phase }, { on := 14, ground := Ground.phase }, { on := 15, ground := Ground.phase }], guard := none }) (by kernel_rfl) rfl (fun K hK => ?_)
        go_simp
        refine hK.out _ _ (fun h => absurd (by decide) h) ?_
        clear hK K
        refine done_f (by kernel_rfl) ?_ _
        clear k0 f0
        go_wp2
        go_roundw
        case rel =>
          refine ⟨j + 1, upd vl1 2 (.slice a3 n3 c3), upd Fp1 2 (fun g => (Value.slice a3 n3 c3).ownBlock = some g), by omega, by have := HMM.out; omega, by go_num, ?_, HB.out.trans ((B2.out.mono HE.out.hB).trans HB4.out), ?_, ?_⟩
          · have h9 := HE4.out
            change Em B e p _ _ n ⟨S.L, upd (upd S.ls 2 (A0 ++ F.take j)) 2 (A0 ++ F.take j ++ [b])⟩ _ at h9
            rw [upd_upd, List.append_assoc, ← TS.out] at h9
            exact h9
          · have kk : Kp (fun g => (vl1 2).ownBlock = some g ∨ g = e) W2 (W3.setCell ⟨e, 2, none⟩ (.slice a3 n3 c3)) := (K3.out.mono fun g e9 => .inl e9).trans (Kp.setCell _ _ _ _ (.inr rfl))
            refine HRK.out.kp kk fun g hg e9 => ?_
            rcases e9 with e9 | e9
            · exact HD1.out g hg 2 (by omega) (((HE.out.ls 2 (by omega) (by omega)).2 g).2 e9)
            · exact HD1.out g hg 8 (by omega) ((HE.out.box g).2 e9)
          · intro g hg i hi e9
            by_cases hi2 : i = 2
            · subst hi2
              rw [upd_same] at e9
              rcases F3.out g e9 with h9 | h9
              · exact HD1.out g hg 2 (by omega) (((HE.out.ls 2 (by omega) (by omega)).2 g).2 h9)
              · have hlt : g < W2.heap.size := by
                  obtain ⟨a', c', e', hc'⟩ := HRK.out
                  rw [e'] at hg
                  cases a' with
                  | none => cases hg
                  | some ad =>
                    obtain ⟨g', o', e'', hcell⟩ := hc' j (by have := HQ.out; omega)
                    cases e''
                    cases hg
                    have hh := World.block_lt_of_cell? W2 _ hcell
                    exact hh
                omega
            · rw [upd_other _ _ hi2] at e9
              exact HD1.out g hg i hi e9
        case measure => simp [intOf]; omega
      · have gin2 : ¬ (m : Int) < 60 := by omega
        go_wp2
        go_end0
        refine ⟨rfl, p, vl1, Fp1, ?_, HB.out⟩
        have e9 : put60 A0 F = A0 ++ F.take j := by
          rw [put60, show 60 - A0.length = j by have := HMM.out; omega]
        rw [e9]
        exact HE.out
    · have gin : ¬ (j : Int) < (q : Int) := by omega
      go_wp2
      go_end0
      refine ⟨rfl, p, vl1, Fp1, ?_, HB.out⟩
      have e9 : put60 A0 F = A0 ++ F.take j := by
        rw [put60, List.take_of_length_le (by have := HQ.out; have := HMM.out; omega), List.take_of_length_le (by have := HQ.out; omega)]
      rw [e9]
      exact HE.out

end Go.Proofs.Ytcadlcpccemkbaa
