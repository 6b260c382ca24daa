/- What happens between two ends: a frame on its way is lost, or doubled. -/
import Derived.Test.YtcadlcpccemkbaaEd
namespace Go.Proofs.Ytcadlcpccemkbaa
open Go.RowKit
set_option maxRecDepth 100000
attribute [local go_sem] not_any

/- a list cut -/
theorem run_head (w : World) (g n c q : Nat) (h1 : q ≤ n) (h2 : n ≤ c) :
    (Instr.slice 31 (.slice (some ⟨g, 0, none⟩) n c) none (some (.int .i64 (q : Int))) none).run Try.prog w = .ok (.slice (some ⟨g, 0, none⟩) q c) w := by
  have a1 : (q : Int) ≤ (c : Int) := by omega
  simp [Instr.slice, run_underlying Try.underlying31, Instr.sliceBounds, run_sliceBound, a1, Addr.add]
theorem Lst.head {B : Nat} {w : World} {g n c : Nat} {A : List ByteArray} (h : Lst B w (.slice (some ⟨g, 0, none⟩) n c) A) {q : Nat} (hq : q ≤ A.length) : Rdl w (.slice (some ⟨g, 0, none⟩) q c) (A.take q) := by
  obtain ⟨a, c', e⟩ := h.form
  cases e
  have hl : (A.take q).length = q := by rw [List.length_take]; omega
  refine ⟨some ⟨g, 0, none⟩, c, by rw [hl], fun j hj => ⟨g, 0, rfl, ?_⟩⟩
  obtain ⟨g', c', e, hcc, _⟩ := h.cell (j := j) (by omega)
  cases e
  rw [Nat.zero_add, hcc]
  congr 2
  rw [List.getD_eq_getElem?_getD, List.getD_eq_getElem?_getD, List.getElem?_take_of_lt (by omega)]
theorem Lst.tail {B : Nat} {w : World} {g n c : Nat} {A : List ByteArray} (h : Lst B w (.slice (some ⟨g, 0, none⟩) n c) A) {q : Nat} (hq : q ≤ A.length) (hc : n ≤ c) : Rdl w (.slice (if c = q then some ⟨g, 0, none⟩ else some ⟨g, q, none⟩) (n - q) (c - q)) (A.drop q) := by
  obtain ⟨a, c', e⟩ := h.form
  cases e
  refine ⟨if c = q then some ⟨g, 0, none⟩ else some ⟨g, q, none⟩, c - q, by rw [List.length_drop], fun j hj => ?_⟩
  rw [List.length_drop] at hj
  obtain ⟨g', c', e, hcc, _⟩ := h.cell (j := q + j) (by omega)
  cases e
  refine ⟨g, q, ?_, ?_⟩
  · rw [if_neg (by omega)]
  · rw [hcc]
    congr 2
    rw [List.getD_eq_getElem?_getD, List.getD_eq_getElem?_getD, List.getElem?_drop]
theorem Lst.empty {B : Nat} {w : World} (hB : B ≤ w.heap.size) : Lst B (w.alloc (.cells #[] 9)) (.slice (some ⟨w.heap.size, 0, none⟩) 0 0) [] :=
  ⟨rfl, .inr ⟨w.heap.size, 0, #[], rfl, hB, heap_alloc_new _ _, Nat.le_refl _, Nat.zero_le _, rfl, rfl⟩⟩
/- what is picked -/
theorem pick_mod {pick tn : Nat} : (pick : Int) % (tn : Int) = ((pick % tn : Nat) : Int) ∧ Int.tmod (pick : Int) (tn : Int) = ((pick % tn : Nat) : Int) :=
  ⟨by simp, by rw [Int.tmod_eq_emod_of_nonneg (by omega)]; simp⟩

/- a list is a new one now -/
theorem Em.listN {B e n i : Nat} {p : Nat → Nat} {vl : Nat → Value} {Fp : Nat → Nat → Prop} {S : Es} {A' : List ByteArray} {v' : Value} {w : World} (h : Em B e p vl Fp n S w) (hi : 2 ≤ i) (hi8 : i < 8) (hl : Lst B w v' A') (hf : ∀ g, v'.ownBlock = some g → ∀ j, j < 9 → ¬ Fp j g)
    (hr : (w.setCell ⟨e, i, none⟩ v').heap[e]? = some (.cells #[.pointer (some ⟨p 0, 0, none⟩), .pointer (some ⟨p 1, 0, none⟩), upd vl i v' 2, upd vl i v' 3, upd vl i v' 4, upd vl i v' 5, upd vl i v' 6, upd vl i v' 7, .int .u32 0, .int .u32 0, .int .u32 0, .int .u32 0, .bool false] 36 (0, 0))) :
    Em B e p (upd vl i v') (upd Fp i (fun g => v'.ownBlock = some g)) n ⟨S.L, upd S.ls i A'⟩ (w.setCell ⟨e, i, none⟩ v') ∧ Below B w (w.setCell ⟨e, i, none⟩ v') := by
  have hke : Kp (fun g => g = e) w (w.setCell ⟨e, i, none⟩ v') := Kp.setCell _ _ _ _ rfl
  have hot : ∀ j, j < 8 → ∀ g, Fp j g → ¬ g = e := fun j hj g hg e' => h.dis j 8 (by omega) (by omega) (by omega) g hg ((h.box g).2 e')
  refine ⟨⟨hr, fun j hj => ?_, fun j j2 j8 => ?_, fun g => ?_, fun a b ha hb hab g hg e' => ?_, h.lo⟩, hke.below h.hB fun g hg => hg ▸ h.lo⟩
  · obtain ⟨vj, mj, uj, k1, k2⟩ := h.lk j hj
    exact ⟨vj, mj, uj, k1.kp hke fun g hg => hot j (by omega) g ((k2 g).2 hg), fun g => by rw [upd_other _ _ (by omega)]; exact k2 g⟩
  · by_cases hji : j = i
    · subst hji
      rw [upd_same, upd_same, show (⟨S.L, upd S.ls j A'⟩ : Es).ls j = A' from upd_same _ _ _]
      exact ⟨hl.kp hke fun g hg e' => hf g hg 8 (by omega) ((h.box g).2 e'), fun g => Iff.rfl⟩
    · obtain ⟨k1, k2⟩ := h.ls j j2 j8
      rw [upd_other _ _ hji, upd_other _ _ hji, show (⟨S.L, upd S.ls i A'⟩ : Es).ls j = S.ls j from upd_other _ _ hji]
      exact ⟨k1.kp hke fun g hg => hot j j8 g ((k2 g).2 hg), k2⟩
  · rw [upd_other _ _ (by omega)]
    exact h.box g
  · by_cases hai : a = i
    · subst hai
      rw [upd_same] at hg
      rw [upd_other _ _ (fun e => hab e.symm)] at e'
      exact hf g hg b hb e'
    · rw [upd_other _ _ hai] at hg
      by_cases hbi : b = i
      · subst hbi
        rw [upd_same] at e'
        exact hf g e' a ha hg
      · rw [upd_other _ _ hbi] at e'
        exact h.dis a b ha hb hab g hg e'

/- what is picked of those on their way -/
def Es.pk (S : Es) (W pick : Nat) : Nat := pick % (S.ls (2 + W)).length
def Es.mv3 (S : Es) (W pick : Nat) : Es := if (S.ls (2 + W)).length = 0 then S else S.lst (2 + W) ((S.ls (2 + W)).eraseIdx (S.pk W pick))

set_option maxHeartbeats 2000000 in
theorem move3_0 {N B e n : Nat} {p : Nat → Nat} {vl : Nat → Value} {Fp : Nat → Nat → Prop} {S : Es} {w : World} (h : Em B e p vl Fp n S w) (hS : S.Ok N) (hN : N + 1000 < 4294967296) (hn : n < 1000000) (who : Int) (pick : Nat) (hpk : pick < 256) (body : ByteArray) (hw : who % 2 = 0) (hbd : body.size ≤ 100) :
    Calls Try.prog 6 #[.pointer (some ⟨e, 0, none⟩), .agg #[.int .i64 3, .int .i64 who, .int .u8 (pick : Int), .string body]] w fun x w' => x = .returned (.bool true) ∧ Ebx B e (n + 1) (S.mv3 0 pick) w w' := by
  have H := hide1 h
  have HS := hide1 hS
  have HN := hide1 hN
  have Hn := hide1 hn
  have HBD := hide1 hbd
  have hwb : bits BinOp.and IntKind.i64 who 1 = 0 := by rw [i64_and1]; exact hw
  obtain ⟨L0, _⟩ := h.ls 2 (by omega) (by omega)
  obtain ⟨ta, tc, htv⟩ := L0.form
  obtain ⟨tn, htn⟩ : ∃ k, (S.ls 2).length = k := ⟨_, rfl⟩
  rw [htn] at htv
  have HTN := hide1 htn
  have htn60 : tn ≤ 60 := by have := (hS.way 2 (by omega) (by omega)).1; omega
  obtain ⟨P, hP⟩ : ∃ P : World → Prop, P = fun w' => Ebx B e (n + 1) (S.mv3 0 pick) w w' := ⟨_, rfl⟩
  have HP : Hid (∀ w', Ebx B e (n + 1) (S.mv3 0 pick) w w' → P w') := fun w' h => by rw [hP]; exact h
  suffices hs : Calls Try.prog 6 #[.pointer (some ⟨e, 0, none⟩), .agg #[.int .i64 3, .int .i64 who, .int .u8 (pick : Int), .string body]] w fun x w' => x = .returned (.bool true) ∧ P w' by rw [hP] at hs; exact hs
  clear hP h hS hN hn hw hbd htn L0
  have HTV := hide1 htv
  clear htv
  by_cases htp : tn = 0
  · subst htp
    go_enter Try.func6, Try.ntmps6
    go_upto_region 1 with (fail)
    generalize hX : World.alloc w _ = W0
    have B0 : Hid (Below w.heap.size w W0) := by rw [← hX]; exact below1 _
    have RM := hide1 (hX ▸ heap_alloc_new w _)
    obtain ⟨gm, hgm⟩ : ∃ g, w.heap.size = g := ⟨_, rfl⟩
    rw [hgm] at RM ⊢
    clear hX
    have E0 := hide1 (H.out.below B0.out (Nat.le_refl _))
    obtain ⟨m0, m1, m2, m3⟩ : W0.cell? ⟨gm, 0, none⟩ = some (.int .i64 3) ∧ W0.cell? ⟨gm, 1, none⟩ = some (.int .i64 who) ∧ W0.cell? ⟨gm, 2, none⟩ = some (.int .u8 (pick : Int)) ∧ W0.cell? ⟨gm, 3, none⟩ = some (.string body) := ⟨by rw [cell_of_row _ gm 0 _ _ _ RM.out]; rfl, by rw [cell_of_row _ gm 1 _ _ _ RM.out]; rfl, by rw [cell_of_row _ gm 2 _ _ _ RM.out]; rfl, by rw [cell_of_row _ gm 3 _ _ _ RM.out]; rfl⟩
    have cT := (box13 E0.out.row).1.2.2.1
    rw [HTV.out] at cT
    have HGM := hide1 hgm
    clear hgm
    have fin := hide1 (HP.out _ ⟨_, _, _, (by rw [Es.mv3, if_pos HTN.out]; exact E0.out.mono (Nat.le_succ n)), B0.out.mono H.out.hB⟩)
    clear E0
    go_wp2
    go_ret
    exact ⟨rfl, fin.out⟩
  · have htp0 : (0 : Int) < (tn : Int) := by omega
    have htpb : ¬ ((tn : Int) = 0) := by omega
    obtain ⟨kk, hkk⟩ : ∃ k, pick % tn = k := ⟨_, rfl⟩
    have hkt : kk < tn := by rw [← hkk]; exact Nat.mod_lt _ (by omega)
    have hk1 : (pick : Int) % (tn : Int) = (kk : Int) := by rw [← hkk]; exact pick_mod.1
    have hk2 : Int.tmod (pick : Int) (tn : Int) = (kk : Int) := by rw [← hkk]; exact pick_mod.2
    have HKK := hide1 hkk
    have HKT := hide1 hkt
    clear hkk
    go_enter Try.func6, Try.ntmps6
    go_upto_region 1 with (fail)
    generalize hX : World.alloc w _ = W0
    have B0 : Hid (Below w.heap.size w W0) := by rw [← hX]; exact below1 _
    have RM := hide1 (hX ▸ heap_alloc_new w _)
    obtain ⟨gm, hgm⟩ : ∃ g, w.heap.size = g := ⟨_, rfl⟩
    rw [hgm] at RM ⊢
    clear hX
    have E0 := hide1 (H.out.below B0.out (Nat.le_refl _))
    obtain ⟨m0, m1, m2, m3⟩ : W0.cell? ⟨gm, 0, none⟩ = some (.int .i64 3) ∧ W0.cell? ⟨gm, 1, none⟩ = some (.int .i64 who) ∧ W0.cell? ⟨gm, 2, none⟩ = some (.int .u8 (pick : Int)) ∧ W0.cell? ⟨gm, 3, none⟩ = some (.string body) := ⟨by rw [cell_of_row _ gm 0 _ _ _ RM.out]; rfl, by rw [cell_of_row _ gm 1 _ _ _ RM.out]; rfl, by rw [cell_of_row _ gm 2 _ _ _ RM.out]; rfl, by rw [cell_of_row _ gm 3 _ _ _ RM.out]; rfl⟩
    have cT := (box13 E0.out.row).1.2.2.1
    rw [HTV.out] at cT
    have HGM := hide1 hgm
    clear hgm
    obtain ⟨LT, LTF⟩ := E0.out.ls 2 (by omega) (by omega)
    have LT' := LT
    obtain ⟨g, c9, hg9, _, _, hgl, _, hcap⟩ := LT'.cell (j := 0) (by have := HTN.out; omega)
    have hg9' := HTV.out.symm.trans hg9
    rw [HTN.out] at hg9' hcap
    cases hg9'
    have HLT := hide1 LT
    rw [HTV.out] at HLT
    have hsl := fun W => run_head W g tn tc kk (by omega) hcap
    have wi : IntKind.i64.wrap ((kk : Int) + 1) = (kk : Int) + 1 := by rw [IntKind.wrap_i64]; omega
    have HCAP := hide1 hcap
    obtain ⟨ad, had⟩ : ∃ ad : Option Addr, (if tc = kk + 1 then some ⟨g, 0, none⟩ else some ⟨g, kk + 1, none⟩) = ad := ⟨_, rfl⟩
    have HAD := hide1 had
    clear had
    have HLTF := hide1 LTF
    clear LT LT' hg9 LTF
    go_upto_region 26 with (fail)
    refine region_f (F := []) (S := fun _ => True) (by kernel_rfl) trivial (fun hS => ?_)
    have EU : Hid (Em B e p vl Fp n S (World.drew W0)) := E0.out.below (Below.refl _ _).drew (Nat.le_refl _)
    have LU : Hid (Lst B (World.drew W0) (.slice (some ⟨g, 0, none⟩) tn tc) (S.ls 2)) := HLT.out
    have BU : Hid (Below B w (World.drew W0)) := (B0.out.mono H.out.hB).drew
    generalize World.drew W0 = WU at EU LU BU ⊢
    clear hS
    refine take_p 0 173 (.pointer (some ⟨e, 0, none⟩)) rfl rfl (by kernel_rfl) (by kernel_rfl) (by kernel_rfl) (fun _ _ _ h => h) rfl (fun w => by go_simp) ?_
    try simp only [List.setIfInBounds_toArray, List.set_cons_zero, List.set_cons_succ]
    refine take_p 1 174 (.int .i64 0) rfl rfl (by kernel_rfl) (by kernel_rfl) (by kernel_rfl) (fun _ _ _ h => h) rfl (fun w => by go_simp) ?_
    try simp only [List.setIfInBounds_toArray, List.set_cons_zero, List.set_cons_succ]
    refine take_p 3 176 (.slice (some ⟨g, 0, none⟩) tn tc) rfl rfl (by kernel_rfl) (by kernel_rfl) (by kernel_rfl) (fun _ _ _ h => h) rfl (fun w => by go_simp) ?_
    try simp only [List.setIfInBounds_toArray, List.set_cons_zero, List.set_cons_succ]
    refine take_p 4 177 (.int .i64 (kk : Int)) rfl rfl (by kernel_rfl) (by kernel_rfl) (by kernel_rfl) (fun _ _ _ h => h) rfl (fun w => by go_simp) ?_
    try simp only [List.setIfInBounds_toArray, List.set_cons_zero, List.set_cons_succ]
    refine take_p 5 178 (.slice (some ⟨g, 0, none⟩) kk tc) rfl rfl (by kernel_rfl) (by kernel_rfl) (by kernel_rfl) (fun _ _ _ h => h) rfl (fun w => by go_simp) ?_
    try simp only [List.setIfInBounds_toArray, List.set_cons_zero, List.set_cons_succ]
    refine take_p 7 180 (.slice (some ⟨g, 0, none⟩) tn tc) rfl rfl (by kernel_rfl) (by kernel_rfl) (by kernel_rfl) (fun _ _ _ h => h) rfl (fun w => by go_simp) ?_
    try simp only [List.setIfInBounds_toArray, List.set_cons_zero, List.set_cons_succ]
    refine take_p 8 181 (.int .i64 (kk : Int)) rfl rfl (by kernel_rfl) (by kernel_rfl) (by kernel_rfl) (fun _ _ _ h => h) rfl (fun w => by go_simp) ?_
    try simp only [List.setIfInBounds_toArray, List.set_cons_zero, List.set_cons_succ]
    refine take_p 9 182 (.int .i64 ((kk : Int) + 1)) rfl rfl (by kernel_rfl) (by kernel_rfl) (by kernel_rfl) (fun _ _ _ h => h) rfl (fun w => by go_simp) ?_
    try simp only [List.setIfInBounds_toArray, List.set_cons_zero, List.set_cons_succ]
    refine take_p 10 183 (.slice ad (tn - (kk + 1)) (tc - (kk + 1))) rfl rfl (by kernel_rfl) (by kernel_rfl) (by kernel_rfl) (fun _ _ _ h => h) rfl (fun w => by rw [← HAD.out]; have h9 : (0 : Int) ≤ (kk : Int) + 1 := (by omega); have h8 : (kk : Int) + 1 ≤ (tn : Int) := (by omega); go_simp) ?_
    try simp only [List.setIfInBounds_toArray, List.set_cons_zero, List.set_cons_succ]
    refine take_p 12 185 (.pointer (some ⟨e, 0, none⟩)) rfl rfl (by kernel_rfl) (by kernel_rfl) (by kernel_rfl) (fun _ _ _ h => h) rfl (fun w => by go_simp) ?_
    try simp only [List.setIfInBounds_toArray, List.set_cons_zero, List.set_cons_succ]
    refine take_p 13 186 (.pointer (some ⟨e, 2, none⟩)) rfl rfl (by kernel_rfl) (by kernel_rfl) (by kernel_rfl) (fun _ _ _ h => h) rfl (fun w => by go_simp) ?_
    try simp only [List.setIfInBounds_toArray, List.set_cons_zero, List.set_cons_succ]
    refine ready_f 2 (o := { dst := some 175, op := Op.buildSlice 31 0 #[], type := 31, pos := "law.go:142", after := #[], guard := none }) (by kernel_rfl) rfl (fun K hK => ?_)
    go_simp
    refine hK.out _ _ (fun _ _ => trivial) ?_
    clear hK K
    try simp only [Act.put, List.setIfInBounds_toArray, List.set_cons_zero, List.set_cons_succ]
    have O1 := hide1 (Lst.empty (w := WU) EU.out.hB)
    have E1 := hide1 (EU.out.below (below1 (.cells #[] 9)) (Nat.le_refl _))
    have L1 := hide1 (LU.out.below (below1 (.cells #[] 9)) (Nat.le_refl _))
    have B1 : Hid (Below B w (WU.alloc (.cells #[] 9))) := BU.out.alloc EU.out.hB _
    obtain ⟨bs, hbs⟩ : ∃ b, WU.heap.size = b := ⟨_, rfl⟩
    have HBS : Hid (∀ j g, j < 9 → Fp j g → g < bs) := fun j g hj hg => by have := (EU.out.fb hj hg).2; omega
    have hbB : Hid (B ≤ bs) := by have := EU.out.hB; unfold Hid; omega
    rw [hbs] at O1 ⊢
    generalize WU.alloc (.cells #[] 9) = W1 at O1 E1 L1 B1 ⊢
    clear hbs EU LU BU
    refine ready_f 6 (o := { dst := some 179, op := Op.call { callee := Callee.builtin Builtin.append, args := #[Operand.tmp 175, Operand.tmp 178], argTypes := #[31, 31] }, type := 31, pos := "law.go:142", after := #[{ on := 2, ground := Ground.data }, { on := 5, ground := Ground.data }], guard := none }) (by kernel_rfl) rfl (fun K hK => ?_)
    rw [if_pos (by rfl)]
    refine wp_append_lst (B := B) (A := []) (C := (S.ls 2).take kk) _ _ rfl rfl rfl O1.out (L1.out.head (by have := HTN.out; have := HKT.out; omega)) (by have := HTN.out; simp; omega) (by have := E1.out.hB; omega) ?_
    intro v2 W2 ho hg hf
    refine hK.out _ _ (fun _ _ => trivial) ?_
    clear hK K
    try simp only [Act.put, List.setIfInBounds_toArray, List.set_cons_zero, List.set_cons_succ]
    rw [List.nil_append] at ho
    have K2 : Hid (Kp (fun g => g = bs) W1 W2) := (Kp.ofGrown hg).mono fun g e9 => (by cases e9; rfl)
    have hbs2 : Hid (bs ≤ W2.heap.size) := by have h8 := (O1.out.lt (g := bs) rfl).2; have h9 := hg.size; unfold Hid; omega
    have FR2 : Hid (∀ g, v2.ownBlock = some g → bs ≤ g) := fun g e9 => by rcases hf g e9 with h9 | h9; (cases h9; exact Nat.le_refl _); (have h8 := (O1.out.lt (g := bs) rfl).2; omega)
    have E2 := hide1 (E1.out.kp K2.out fun j g hj hg e9 => by have := HBS.out j g hj hg; omega)
    have L2 := hide1 (L1.out.kp K2.out fun g9 hg e9 => by have h9 := HBS.out 2 g9 (by omega) ((HLTF.out g9).2 (by rw [HTV.out]; exact hg)); omega)
    have B2 : Hid (Below B w W2) := B1.out.trans (K2.out.below E1.out.hB fun g e9 => by have := hbB.out; omega)
    have O2 := hide1 ho
    clear ho hg hf O1 E1 L1 B1 K2
    refine ready_f 11 (o := { dst := some 184, op := Op.call { callee := Callee.builtin Builtin.append, args := #[Operand.tmp 179, Operand.tmp 183], argTypes := #[31, 31] }, type := 31, pos := "law.go:142", after := #[{ on := 6, ground := Ground.data }, { on := 10, ground := Ground.data }, { on := 6, ground := Ground.chain }], guard := none }) (by kernel_rfl) rfl (fun K hK => ?_)
    rw [if_pos (by rfl)]
    refine wp_append_lst (B := B) (A := (S.ls 2).take kk) (C := (S.ls 2).drop (kk + 1)) _ _ rfl rfl rfl O2.out (by rw [← HAD.out]; exact L2.out.tail (by have := HTN.out; have := HKT.out; omega) HCAP.out) (by have := HTN.out; simp; omega) (by have := E2.out.hB; omega) ?_
    intro v3 W3 ho hg hf
    refine hK.out _ _ (fun _ _ => trivial) ?_
    clear hK K
    try simp only [Act.put, List.setIfInBounds_toArray, List.set_cons_zero, List.set_cons_succ]
    have K3 : Hid (Kp (fun g => v2.ownBlock = some g) W2 W3) := Kp.ofGrown hg
    have E3 := hide1 (E2.out.kp K3.out fun j g hj hg e9 => by have h8 := FR2.out g e9; have := HBS.out j g hj hg; omega)
    have B3 : Hid (Below B w W3) := B2.out.trans (K3.out.below E2.out.hB fun g e9 => (O2.out.lt e9).1)
    have FR3 : Hid (∀ g, v3.ownBlock = some g → bs ≤ g) := fun g e9 => by rcases hf g e9 with h9 | h9; (exact FR2.out g h9); (have h8 := E2.out.hB; have h7 := HBS.out 8 e (by omega) ((E2.out.box e).2 rfl); have h6 := lt_heap E2.out.row; have h5 : bs ≤ W2.heap.size := hbs2.out; omega)
    have HER : (S.ls 2).take kk ++ (S.ls 2).drop (kk + 1) = (S.ls 2).eraseIdx kk := (List.eraseIdx_eq_take_drop_succ ..).symm
    rw [HER] at ho
    have HO := hide1 ho
    obtain ⟨a3, c3, hv3⟩ := ho.form
    obtain ⟨n3, hn3⟩ : ∃ n, ((S.ls 2).eraseIdx kk).length = n := ⟨_, rfl⟩
    rw [hn3] at hv3
    subst hv3
    clear ho hg hf hn3 HER O2 E2 L2 B2 K3 FR2
    have k0 := (box13 E3.out.row).1.2.2.1
    have f0 := (box13 E3.out.row).2.2 2
    obtain ⟨E6, B6⟩ := E3.out.listN (i := 2) (by omega) (by omega) HO.out (fun g hg j hj e9 => by have h8 := FR3.out g hg; have h7 := HBS.out j g hj e9; omega) (by rw [heap_setCell_same _ e 2 _ _ _ E3.out.row]; rfl)
    have HE6 := hide1 E6
    have HB6 := hide1 (B3.out.trans B6)
    clear E6 B6 B3 FR3
    refine take_p 14 187 (.pointer (some ⟨e, 2, none⟩)) rfl rfl (by kernel_rfl) (by kernel_rfl) (by kernel_rfl) (fun _ _ _ h => h) rfl (fun w => by go_simp) ?_
    try simp only [List.setIfInBounds_toArray, List.set_cons_zero, List.set_cons_succ]
    refine ready_f 15 (o := { dst := none, op := Op.store 31 (Operand.tmp 187) (Operand.tmp 184), type := 0, pos := "law.go:142", after := #[{ on := 14, ground := Ground.data }, { on := 11, ground := Ground.data }, { on := 11, ground := Ground.chain }, { on := 0, ground := Ground.phase }, { on := 1, ground := Ground.phase }, { on := 2, ground := Ground.phase }, { on := 3, ground := Ground.phase }, { on := 4, ground := Ground.phase }, { on := 5, ground := Ground.phase }, { on := 6, ground := Ground.phase }, { on := 7, ground := Ground.phase }, { on := 8, ground := Ground.phase }, { on := 9, ground := Ground.phase }, { on := 10, ground := Ground.phase }, { on := 11, ground := Ground.phase }], guard := none }) (by kernel_rfl) rfl (fun K hK => ?_)
    go_simp
    refine hK.out _ _ (fun _ _ => trivial) ?_
    clear hK K
    generalize W3.setCell ⟨e, 2, none⟩ (.slice a3 n3 c3) = W6 at HE6 HB6 ⊢
    clear k0 f0 E3 HO
    refine done_f (by kernel_rfl) ?_ _
    have fin := hide1 (HP.out W6 ⟨_, _, _, (by have hl : (S.ls (2 + 0)).length = tn := HTN.out; rw [Es.mv3, if_neg (by rw [hl]; have := HKT.out; omega), Es.pk, hl, HKK.out]; exact HE6.out.mono (Nat.le_succ n)), HB6.out⟩)
    clear HE6 HB6
    go_wp2
    go_ret
    exact ⟨rfl, fin.out⟩

set_option maxHeartbeats 2000000 in
theorem move3_1 {N B e n : Nat} {p : Nat → Nat} {vl : Nat → Value} {Fp : Nat → Nat → Prop} {S : Es} {w : World} (h : Em B e p vl Fp n S w) (hS : S.Ok N) (hN : N + 1000 < 4294967296) (hn : n < 1000000) (who : Int) (pick : Nat) (hpk : pick < 256) (body : ByteArray) (hw : who % 2 = 1) (hbd : body.size ≤ 100) :
    Calls Try.prog 6 #[.pointer (some ⟨e, 0, none⟩), .agg #[.int .i64 3, .int .i64 who, .int .u8 (pick : Int), .string body]] w fun x w' => x = .returned (.bool true) ∧ Ebx B e (n + 1) (S.mv3 1 pick) w w' := by
  have H := hide1 h
  have HS := hide1 hS
  have HN := hide1 hN
  have Hn := hide1 hn
  have HBD := hide1 hbd
  have hwb : bits BinOp.and IntKind.i64 who 1 = 1 := by rw [i64_and1]; exact hw
  obtain ⟨L0, _⟩ := h.ls 3 (by omega) (by omega)
  obtain ⟨ta, tc, htv⟩ := L0.form
  obtain ⟨tn, htn⟩ : ∃ k, (S.ls 3).length = k := ⟨_, rfl⟩
  rw [htn] at htv
  have HTN := hide1 htn
  have htn60 : tn ≤ 60 := by have := (hS.way 3 (by omega) (by omega)).1; omega
  obtain ⟨P, hP⟩ : ∃ P : World → Prop, P = fun w' => Ebx B e (n + 1) (S.mv3 1 pick) w w' := ⟨_, rfl⟩
  have HP : Hid (∀ w', Ebx B e (n + 1) (S.mv3 1 pick) w w' → P w') := fun w' h => by rw [hP]; exact h
  suffices hs : Calls Try.prog 6 #[.pointer (some ⟨e, 0, none⟩), .agg #[.int .i64 3, .int .i64 who, .int .u8 (pick : Int), .string body]] w fun x w' => x = .returned (.bool true) ∧ P w' by rw [hP] at hs; exact hs
  clear hP h hS hN hn hw hbd htn L0
  have HTV := hide1 htv
  clear htv
  by_cases htp : tn = 0
  · subst htp
    go_enter Try.func6, Try.ntmps6
    go_upto_region 1 with (fail)
    generalize hX : World.alloc w _ = W0
    have B0 : Hid (Below w.heap.size w W0) := by rw [← hX]; exact below1 _
    have RM := hide1 (hX ▸ heap_alloc_new w _)
    obtain ⟨gm, hgm⟩ : ∃ g, w.heap.size = g := ⟨_, rfl⟩
    rw [hgm] at RM ⊢
    clear hX
    have E0 := hide1 (H.out.below B0.out (Nat.le_refl _))
    obtain ⟨m0, m1, m2, m3⟩ : W0.cell? ⟨gm, 0, none⟩ = some (.int .i64 3) ∧ W0.cell? ⟨gm, 1, none⟩ = some (.int .i64 who) ∧ W0.cell? ⟨gm, 2, none⟩ = some (.int .u8 (pick : Int)) ∧ W0.cell? ⟨gm, 3, none⟩ = some (.string body) := ⟨by rw [cell_of_row _ gm 0 _ _ _ RM.out]; rfl, by rw [cell_of_row _ gm 1 _ _ _ RM.out]; rfl, by rw [cell_of_row _ gm 2 _ _ _ RM.out]; rfl, by rw [cell_of_row _ gm 3 _ _ _ RM.out]; rfl⟩
    have cT := (box13 E0.out.row).1.2.2.2
    rw [HTV.out] at cT
    have HGM := hide1 hgm
    clear hgm
    have fin := hide1 (HP.out _ ⟨_, _, _, (by rw [Es.mv3, if_pos HTN.out]; exact E0.out.mono (Nat.le_succ n)), B0.out.mono H.out.hB⟩)
    clear E0
    go_wp2
    go_ret
    exact ⟨rfl, fin.out⟩
  · have htp0 : (0 : Int) < (tn : Int) := by omega
    have htpb : ¬ ((tn : Int) = 0) := by omega
    obtain ⟨kk, hkk⟩ : ∃ k, pick % tn = k := ⟨_, rfl⟩
    have hkt : kk < tn := by rw [← hkk]; exact Nat.mod_lt _ (by omega)
    have hk1 : (pick : Int) % (tn : Int) = (kk : Int) := by rw [← hkk]; exact pick_mod.1
    have hk2 : Int.tmod (pick : Int) (tn : Int) = (kk : Int) := by rw [← hkk]; exact pick_mod.2
    have HKK := hide1 hkk
    have HKT := hide1 hkt
    clear hkk
    go_enter Try.func6, Try.ntmps6
    go_upto_region 1 with (fail)
    generalize hX : World.alloc w _ = W0
    have B0 : Hid (Below w.heap.size w W0) := by rw [← hX]; exact below1 _
    have RM := hide1 (hX ▸ heap_alloc_new w _)
    obtain ⟨gm, hgm⟩ : ∃ g, w.heap.size = g := ⟨_, rfl⟩
    rw [hgm] at RM ⊢
    clear hX
    have E0 := hide1 (H.out.below B0.out (Nat.le_refl _))
    obtain ⟨m0, m1, m2, m3⟩ : W0.cell? ⟨gm, 0, none⟩ = some (.int .i64 3) ∧ W0.cell? ⟨gm, 1, none⟩ = some (.int .i64 who) ∧ W0.cell? ⟨gm, 2, none⟩ = some (.int .u8 (pick : Int)) ∧ W0.cell? ⟨gm, 3, none⟩ = some (.string body) := ⟨by rw [cell_of_row _ gm 0 _ _ _ RM.out]; rfl, by rw [cell_of_row _ gm 1 _ _ _ RM.out]; rfl, by rw [cell_of_row _ gm 2 _ _ _ RM.out]; rfl, by rw [cell_of_row _ gm 3 _ _ _ RM.out]; rfl⟩
    have cT := (box13 E0.out.row).1.2.2.2
    rw [HTV.out] at cT
    have HGM := hide1 hgm
    clear hgm
    obtain ⟨LT, LTF⟩ := E0.out.ls 3 (by omega) (by omega)
    have LT' := LT
    obtain ⟨g, c9, hg9, _, _, hgl, _, hcap⟩ := LT'.cell (j := 0) (by have := HTN.out; omega)
    have hg9' := HTV.out.symm.trans hg9
    rw [HTN.out] at hg9' hcap
    cases hg9'
    have HLT := hide1 LT
    rw [HTV.out] at HLT
    have hsl := fun W => run_head W g tn tc kk (by omega) hcap
    have wi : IntKind.i64.wrap ((kk : Int) + 1) = (kk : Int) + 1 := by rw [IntKind.wrap_i64]; omega
    have HCAP := hide1 hcap
    obtain ⟨ad, had⟩ : ∃ ad : Option Addr, (if tc = kk + 1 then some ⟨g, 0, none⟩ else some ⟨g, kk + 1, none⟩) = ad := ⟨_, rfl⟩
    have HAD := hide1 had
    clear had
    have HLTF := hide1 LTF
    clear LT LT' hg9 LTF
    go_upto_region 26 with (fail)
    refine region_f (F := []) (S := fun _ => True) (by kernel_rfl) trivial (fun hS => ?_)
    have EU : Hid (Em B e p vl Fp n S (World.drew W0)) := E0.out.below (Below.refl _ _).drew (Nat.le_refl _)
    have LU : Hid (Lst B (World.drew W0) (.slice (some ⟨g, 0, none⟩) tn tc) (S.ls 3)) := HLT.out
    have BU : Hid (Below B w (World.drew W0)) := (B0.out.mono H.out.hB).drew
    generalize World.drew W0 = WU at EU LU BU ⊢
    clear hS
    refine take_p 0 173 (.pointer (some ⟨e, 0, none⟩)) rfl rfl (by kernel_rfl) (by kernel_rfl) (by kernel_rfl) (fun _ _ _ h => h) rfl (fun w => by go_simp) ?_
    try simp only [List.setIfInBounds_toArray, List.set_cons_zero, List.set_cons_succ]
    refine take_p 1 174 (.int .i64 1) rfl rfl (by kernel_rfl) (by kernel_rfl) (by kernel_rfl) (fun _ _ _ h => h) rfl (fun w => by go_simp) ?_
    try simp only [List.setIfInBounds_toArray, List.set_cons_zero, List.set_cons_succ]
    refine take_p 3 176 (.slice (some ⟨g, 0, none⟩) tn tc) rfl rfl (by kernel_rfl) (by kernel_rfl) (by kernel_rfl) (fun _ _ _ h => h) rfl (fun w => by go_simp) ?_
    try simp only [List.setIfInBounds_toArray, List.set_cons_zero, List.set_cons_succ]
    refine take_p 4 177 (.int .i64 (kk : Int)) rfl rfl (by kernel_rfl) (by kernel_rfl) (by kernel_rfl) (fun _ _ _ h => h) rfl (fun w => by go_simp) ?_
    try simp only [List.setIfInBounds_toArray, List.set_cons_zero, List.set_cons_succ]
    refine take_p 5 178 (.slice (some ⟨g, 0, none⟩) kk tc) rfl rfl (by kernel_rfl) (by kernel_rfl) (by kernel_rfl) (fun _ _ _ h => h) rfl (fun w => by go_simp) ?_
    try simp only [List.setIfInBounds_toArray, List.set_cons_zero, List.set_cons_succ]
    refine take_p 7 180 (.slice (some ⟨g, 0, none⟩) tn tc) rfl rfl (by kernel_rfl) (by kernel_rfl) (by kernel_rfl) (fun _ _ _ h => h) rfl (fun w => by go_simp) ?_
    try simp only [List.setIfInBounds_toArray, List.set_cons_zero, List.set_cons_succ]
    refine take_p 8 181 (.int .i64 (kk : Int)) rfl rfl (by kernel_rfl) (by kernel_rfl) (by kernel_rfl) (fun _ _ _ h => h) rfl (fun w => by go_simp) ?_
    try simp only [List.setIfInBounds_toArray, List.set_cons_zero, List.set_cons_succ]
    refine take_p 9 182 (.int .i64 ((kk : Int) + 1)) rfl rfl (by kernel_rfl) (by kernel_rfl) (by kernel_rfl) (fun _ _ _ h => h) rfl (fun w => by go_simp) ?_
    try simp only [List.setIfInBounds_toArray, List.set_cons_zero, List.set_cons_succ]
    refine take_p 10 183 (.slice ad (tn - (kk + 1)) (tc - (kk + 1))) rfl rfl (by kernel_rfl) (by kernel_rfl) (by kernel_rfl) (fun _ _ _ h => h) rfl (fun w => by rw [← HAD.out]; have h9 : (0 : Int) ≤ (kk : Int) + 1 := (by omega); have h8 : (kk : Int) + 1 ≤ (tn : Int) := (by omega); go_simp) ?_
    try simp only [List.setIfInBounds_toArray, List.set_cons_zero, List.set_cons_succ]
    refine take_p 12 185 (.pointer (some ⟨e, 0, none⟩)) rfl rfl (by kernel_rfl) (by kernel_rfl) (by kernel_rfl) (fun _ _ _ h => h) rfl (fun w => by go_simp) ?_
    try simp only [List.setIfInBounds_toArray, List.set_cons_zero, List.set_cons_succ]
    refine take_p 13 186 (.pointer (some ⟨e, 2, none⟩)) rfl rfl (by kernel_rfl) (by kernel_rfl) (by kernel_rfl) (fun _ _ _ h => h) rfl (fun w => by go_simp) ?_
    try simp only [List.setIfInBounds_toArray, List.set_cons_zero, List.set_cons_succ]
    refine ready_f 2 (o := { dst := some 175, op := Op.buildSlice 31 0 #[], type := 31, pos := "law.go:142", after := #[], guard := none }) (by kernel_rfl) rfl (fun K hK => ?_)
    go_simp
    refine hK.out _ _ (fun _ _ => trivial) ?_
    clear hK K
    try simp only [Act.put, List.setIfInBounds_toArray, List.set_cons_zero, List.set_cons_succ]
    have O1 := hide1 (Lst.empty (w := WU) EU.out.hB)
    have E1 := hide1 (EU.out.below (below1 (.cells #[] 9)) (Nat.le_refl _))
    have L1 := hide1 (LU.out.below (below1 (.cells #[] 9)) (Nat.le_refl _))
    have B1 : Hid (Below B w (WU.alloc (.cells #[] 9))) := BU.out.alloc EU.out.hB _
    obtain ⟨bs, hbs⟩ : ∃ b, WU.heap.size = b := ⟨_, rfl⟩
    have HBS : Hid (∀ j g, j < 9 → Fp j g → g < bs) := fun j g hj hg => by have := (EU.out.fb hj hg).2; omega
    have hbB : Hid (B ≤ bs) := by have := EU.out.hB; unfold Hid; omega
    rw [hbs] at O1 ⊢
    generalize WU.alloc (.cells #[] 9) = W1 at O1 E1 L1 B1 ⊢
    clear hbs EU LU BU
    refine ready_f 6 (o := { dst := some 179, op := Op.call { callee := Callee.builtin Builtin.append, args := #[Operand.tmp 175, Operand.tmp 178], argTypes := #[31, 31] }, type := 31, pos := "law.go:142", after := #[{ on := 2, ground := Ground.data }, { on := 5, ground := Ground.data }], guard := none }) (by kernel_rfl) rfl (fun K hK => ?_)
    rw [if_pos (by rfl)]
    refine wp_append_lst (B := B) (A := []) (C := (S.ls 3).take kk) _ _ rfl rfl rfl O1.out (L1.out.head (by have := HTN.out; have := HKT.out; omega)) (by have := HTN.out; simp; omega) (by have := E1.out.hB; omega) ?_
    intro v2 W2 ho hg hf
    refine hK.out _ _ (fun _ _ => trivial) ?_
    clear hK K
    try simp only [Act.put, List.setIfInBounds_toArray, List.set_cons_zero, List.set_cons_succ]
    rw [List.nil_append] at ho
    have K2 : Hid (Kp (fun g => g = bs) W1 W2) := (Kp.ofGrown hg).mono fun g e9 => (by cases e9; rfl)
    have hbs2 : Hid (bs ≤ W2.heap.size) := by have h8 := (O1.out.lt (g := bs) rfl).2; have h9 := hg.size; unfold Hid; omega
    have FR2 : Hid (∀ g, v2.ownBlock = some g → bs ≤ g) := fun g e9 => by rcases hf g e9 with h9 | h9; (cases h9; exact Nat.le_refl _); (have h8 := (O1.out.lt (g := bs) rfl).2; omega)
    have E2 := hide1 (E1.out.kp K2.out fun j g hj hg e9 => by have := HBS.out j g hj hg; omega)
    have L2 := hide1 (L1.out.kp K2.out fun g9 hg e9 => by have h9 := HBS.out 3 g9 (by omega) ((HLTF.out g9).2 (by rw [HTV.out]; exact hg)); omega)
    have B2 : Hid (Below B w W2) := B1.out.trans (K2.out.below E1.out.hB fun g e9 => by have := hbB.out; omega)
    have O2 := hide1 ho
    clear ho hg hf O1 E1 L1 B1 K2
    refine ready_f 11 (o := { dst := some 184, op := Op.call { callee := Callee.builtin Builtin.append, args := #[Operand.tmp 179, Operand.tmp 183], argTypes := #[31, 31] }, type := 31, pos := "law.go:142", after := #[{ on := 6, ground := Ground.data }, { on := 10, ground := Ground.data }, { on := 6, ground := Ground.chain }], guard := none }) (by kernel_rfl) rfl (fun K hK => ?_)
    rw [if_pos (by rfl)]
    refine wp_append_lst (B := B) (A := (S.ls 3).take kk) (C := (S.ls 3).drop (kk + 1)) _ _ rfl rfl rfl O2.out (by rw [← HAD.out]; exact L2.out.tail (by have := HTN.out; have := HKT.out; omega) HCAP.out) (by have := HTN.out; simp; omega) (by have := E2.out.hB; omega) ?_
    intro v3 W3 ho hg hf
    refine hK.out _ _ (fun _ _ => trivial) ?_
    clear hK K
    try simp only [Act.put, List.setIfInBounds_toArray, List.set_cons_zero, List.set_cons_succ]
    have K3 : Hid (Kp (fun g => v2.ownBlock = some g) W2 W3) := Kp.ofGrown hg
    have E3 := hide1 (E2.out.kp K3.out fun j g hj hg e9 => by have h8 := FR2.out g e9; have := HBS.out j g hj hg; omega)
    have B3 : Hid (Below B w W3) := B2.out.trans (K3.out.below E2.out.hB fun g e9 => (O2.out.lt e9).1)
    have FR3 : Hid (∀ g, v3.ownBlock = some g → bs ≤ g) := fun g e9 => by rcases hf g e9 with h9 | h9; (exact FR2.out g h9); (have h8 := E2.out.hB; have h7 := HBS.out 8 e (by omega) ((E2.out.box e).2 rfl); have h6 := lt_heap E2.out.row; have h5 : bs ≤ W2.heap.size := hbs2.out; omega)
    have HER : (S.ls 3).take kk ++ (S.ls 3).drop (kk + 1) = (S.ls 3).eraseIdx kk := (List.eraseIdx_eq_take_drop_succ ..).symm
    rw [HER] at ho
    have HO := hide1 ho
    obtain ⟨a3, c3, hv3⟩ := ho.form
    obtain ⟨n3, hn3⟩ : ∃ n, ((S.ls 3).eraseIdx kk).length = n := ⟨_, rfl⟩
    rw [hn3] at hv3
    subst hv3
    clear ho hg hf hn3 HER O2 E2 L2 B2 K3 FR2
    have k0 := (box13 E3.out.row).1.2.2.2
    have f0 := (box13 E3.out.row).2.2 3
    obtain ⟨E6, B6⟩ := E3.out.listN (i := 3) (by omega) (by omega) HO.out (fun g hg j hj e9 => by have h8 := FR3.out g hg; have h7 := HBS.out j g hj e9; omega) (by rw [heap_setCell_same _ e 3 _ _ _ E3.out.row]; rfl)
    have HE6 := hide1 E6
    have HB6 := hide1 (B3.out.trans B6)
    clear E6 B6 B3 FR3
    refine take_p 14 187 (.pointer (some ⟨e, 3, none⟩)) rfl rfl (by kernel_rfl) (by kernel_rfl) (by kernel_rfl) (fun _ _ _ h => h) rfl (fun w => by go_simp) ?_
    try simp only [List.setIfInBounds_toArray, List.set_cons_zero, List.set_cons_succ]
    refine ready_f 15 (o := { dst := none, op := Op.store 31 (Operand.tmp 187) (Operand.tmp 184), type := 0, pos := "law.go:142", after := #[{ on := 14, ground := Ground.data }, { on := 11, ground := Ground.data }, { on := 11, ground := Ground.chain }, { on := 0, ground := Ground.phase }, { on := 1, ground := Ground.phase }, { on := 2, ground := Ground.phase }, { on := 3, ground := Ground.phase }, { on := 4, ground := Ground.phase }, { on := 5, ground := Ground.phase }, { on := 6, ground := Ground.phase }, { on := 7, ground := Ground.phase }, { on := 8, ground := Ground.phase }, { on := 9, ground := Ground.phase }, { on := 10, ground := Ground.phase }, { on := 11, ground := Ground.phase }], guard := none }) (by kernel_rfl) rfl (fun K hK => ?_)
    go_simp
    refine hK.out _ _ (fun _ _ => trivial) ?_
    clear hK K
    generalize W3.setCell ⟨e, 3, none⟩ (.slice a3 n3 c3) = W6 at HE6 HB6 ⊢
    clear k0 f0 E3 HO
    refine done_f (by kernel_rfl) ?_ _
    have fin := hide1 (HP.out W6 ⟨_, _, _, (by have hl : (S.ls (2 + 1)).length = tn := HTN.out; rw [Es.mv3, if_neg (by rw [hl]; have := HKT.out; omega), Es.pk, hl, HKK.out]; exact HE6.out.mono (Nat.le_succ n)), HB6.out⟩)
    clear HE6 HB6
    go_wp2
    go_ret
    exact ⟨rfl, fin.out⟩

end Go.Proofs.Ytcadlcpccemkbaa
