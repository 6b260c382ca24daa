/- The document's Take and Double: whatever they are given. -/
import Derived.Test.YtfnedohampmnoaaYi
namespace Go.Proofs.Ytfnedohampmnoaa
open Go.RowKit
set_option maxRecDepth 100000
attribute [local go_sem] not_any

/- a list cut -/
theorem run_head (w : World) (g n c q : Nat) (h1 : q ≤ n) (h2 : n ≤ c) :
    (Instr.slice 25 (.slice (some ⟨g, 0, none⟩) n c) none (some (.int .i64 (q : Int))) none).run Try.prog w = .ok (.slice (some ⟨g, 0, none⟩) q c) w := by
  have hs : (sizeOf 9).run Try.prog w = .ok 1 w := by kernel_rfl
  have a1 : (q : Int) ≤ (c : Int) := by omega
  simp [Instr.slice, run_underlying Try.underlying25, Instr.sliceBounds, run_sliceBound, a1, Addr.add]
theorem Lst.head {B : Nat} {w : World} {g n c : Nat} {A : List ByteArray} (h : Lst B w (.slice (some ⟨g, 0, none⟩) n c) A) {q : Nat} (hq : q ≤ A.length) : Rdl w (.slice (some ⟨g, 0, none⟩) q c) (A.take q) := by
  obtain ⟨a, c', e⟩ := h.form
  cases e
  have hl : (A.take q).length = q := by rw [List.length_take]; omega
  refine ⟨some ⟨g, 0, none⟩, c, by rw [hl], fun j hj => ⟨g, 0, rfl, ?_⟩⟩
  obtain ⟨g', c', e, hcc, _⟩ := h.cell (j := j) (by omega)
  cases e
  rw [Nat.zero_add, hcc]
  congr 2
  rw [List.getD_eq_getElem?_getD, List.getD_eq_getElem?_getD, List.getElem?_take_of_lt (by omega)]
theorem Lst.tail {B : Nat} {w : World} {g n c : Nat} {A : List ByteArray} (h : Lst B w (.slice (some ⟨g, 0, none⟩) n c) A) {q : Nat} (hq : q ≤ A.length) (hc : n ≤ c) : Rdl w (.slice (if c = q then some ⟨g, 0, none⟩ else some ⟨g, q, none⟩) (n - q) (c - q)) (A.drop q) := by
  obtain ⟨a, c', e⟩ := h.form
  cases e
  refine ⟨if c = q then some ⟨g, 0, none⟩ else some ⟨g, q, none⟩, c - q, by rw [List.length_drop], fun j hj => ?_⟩
  rw [List.length_drop] at hj
  obtain ⟨g', c', e, hcc, _⟩ := h.cell (j := q + j) (by omega)
  cases e
  refine ⟨g, q, ?_, ?_⟩
  · rw [if_neg (by omega)]
  · rw [hcc]
    congr 2
    rw [List.getD_eq_getElem?_getD, List.getD_eq_getElem?_getD, List.getElem?_drop]

set_option maxHeartbeats 2000000 in
theorem rtake_ok0 {N : Nat → List ByteArray} (a0 a1 : Option Addr) (c0 c1 : Nat) (i : Nat) (w : World) (hi : i < (N 0).length) (h64 : (N 0).length ≤ 64) (hA : Lst 0 w (.slice a0 (N 0).length c0) (N 0)) :
    Calls Try.prog 22 #[.agg #[.slice a0 (N 0).length c0, .slice a1 (N 1).length c1], .int .i64 0, .int .i64 (i : Int)] w fun e w' => ∃ v', e = .returned (.tuple #[.agg #[v', .slice a1 (N 1).length c1], .string ((N 0).getD i ByteArray.empty), .int .i64 0]) ∧ Lst w.heap.size w' v' ((N 0).eraseIdx i) ∧ Below w.heap.size w w' := by
  have kW := fun w => hide1 (wrong_any (N := N) a0 a1 c0 c1 0 i w)
  have e0 : plc N 0 i = 0 := plc_zero (k := 0) (by omega) hi
  rw [e0] at kW
  obtain ⟨g, c, hx, hcl, _, hgl, _, hcap⟩ := hA.cell hi
  cases hx
  have kT := fun w => hide1 (to_any0 (some ⟨g, 0, none⟩) a1 (N 0).length c0 (N 1).length c1 w)
  have hsl := fun W => run_head W g (N 0).length c0 i (by omega) hcap
  have RH := fun W (hb : Below w.heap.size w W) => (hA.below hb (Nat.le_refl _)).head (q := i) (by omega)
  have RT := fun W (hb : Below w.heap.size w W) => (hA.below hb (Nat.le_refl _)).tail (q := i + 1) (by omega) hcap
  have HRH := hide1 RH
  have HRT := hide1 RT
  have HER : Hid ((N 0).take i ++ (N 0).drop (i + 1) = (N 0).eraseIdx i) := (List.eraseIdx_eq_take_drop_succ ..).symm
  have H64 := hide1 h64
  have wi : IntKind.i64.wrap ((i : Int) + 1) = (i : Int) + 1 := by rw [IntKind.wrap_i64]; omega
  generalize (N 0).getD i ByteArray.empty = s at *
  have CI := hide1 hcl
  have GL := hide1 hgl
  have hik : (i : Int) < ((N 0).length : Int) := by omega
  have hik' : i < (N 0).length := hi
  clear e0 hA hi h64 hcl hgl RH RT hcap
  obtain ⟨n0, hn0⟩ : ∃ n0, (N 0).length = n0 := ⟨_, rfl⟩
  obtain ⟨n1, hn1⟩ : ∃ n1, (N 1).length = n1 := ⟨_, rfl⟩
  rw [hn0] at hsl hik hik' HRT
  rw [hn0, hn1] at kT kW
  rw [hn0, hn1]
  have HNK := hide1 hn0
  clear hn0 hn1
  go_enter Try.func22, Try.ntmps22
  go_wp2_with fail
  have h2 := two_new w (.cells #[.slice (some ⟨g, 0, none⟩) n0 c0, .slice a1 n1 c1] 27) (.cells #[.slice none 0 0, .slice none 0 0] 27)
  have hB := below2 (w := w) (.cells #[.slice (some ⟨g, 0, none⟩) n0 c0, .slice a1 n1 c1] 27) (.cells #[.slice none 0 0, .slice none 0 0] 27)
  have H2 := hide1 h2
  have HB := hide1 hB
  clear h2 hB
  generalize (w.alloc _).alloc _ = W1 at H2 HB ⊢
  obtain ⟨b0, hb0⟩ : ∃ b0, w.heap.size = b0 := ⟨_, rfl⟩
  obtain ⟨b1, hb1⟩ : ∃ b1, w.heap.size + 1 = b1 := ⟨_, rfl⟩
  have HS : Hid (w.heap.size = b0 ∧ b0 + 1 = b1) := ⟨hb0, by omega⟩
  rw [hb1, hb0] at H2
  rw [hb1, hb0]
  clear hb0 hb1
  refine ((kW _).out).mono ?_
  rintro e W2 ⟨rfl, hbb⟩
  have R0' := hide1 ((hbb.block b0 (lt_heap H2.out.1)).trans H2.out.1)
  have R1' := hide1 ((hbb.block b1 (lt_heap H2.out.2)).trans H2.out.2)
  have B2' : Hid (Below w.heap.size w W2) := HB.out.trans (hbb.mono HB.out.size)
  clear hbb H2 HB
  have R0 := R0'
  have R1 := R1'
  have B2 := B2'
  clear R0' R1' B2'
  obtain ⟨d0, d1, _, _, _⟩ := box2 R0.out
  go_wp2_with fail
  clear d0 d1
  refine ((kT _).out).mono ?_
  rintro e W3 ⟨rfl, hbb⟩
  have R0' := hide1 ((hbb.block b0 (lt_heap R0.out)).trans R0.out)
  have R1' := hide1 ((hbb.block b1 (lt_heap R1.out)).trans R1.out)
  have B2' : Hid (Below w.heap.size w W3) := B2.out.trans (hbb.mono B2.out.size)
  clear hbb R0 R1 B2
  have R0 := R0'
  have R1 := R1'
  have B2 := B2'
  clear R0' R1' B2'
  obtain ⟨bs, hbs⟩ : ∃ bs, W3.heap.size = bs := ⟨_, rfl⟩
  have WB : Hid (b0 < bs ∧ b1 < bs ∧ w.heap.size ≤ bs) := ⟨by rw [← hbs]; exact lt_heap R0.out, by rw [← hbs]; exact lt_heap R1.out, by rw [← hbs]; exact B2.out.size⟩
  have OE : Hid (Lst bs (W3.alloc (.cells #[] 9)) (.slice (some ⟨bs, 0, none⟩) 0 0) []) := by
    have h := Lst.empty (B := bs) (w := W3) (Nat.le_of_eq hbs.symm)
    rw [hbs] at h
    exact h
  have hbA : Below W3.heap.size W3 (W3.alloc (.cells #[] 9)) := below1 _
  have R0' := hide1 ((hbA.block b0 (lt_heap R0.out)).trans R0.out)
  have R1' := hide1 ((hbA.block b1 (lt_heap R1.out)).trans R1.out)
  have B2' : Hid (Below w.heap.size w (W3.alloc (.cells #[] 9))) := B2.out.trans (hbA.mono B2.out.size)
  have SZ : Hid (bs ≤ (W3.alloc (.cells #[] 9)).heap.size) := by rw [← hbs]; exact hbA.size
  clear hbA
  go_wp2_with (at_builtin; go_must (refine wpList_append_lst (B := bs) (A := []) (C := (N 0).take i) rfl _ _ rfl rfl rfl (hbs ▸ OE.out) (HRH.out _ B2'.out) (by have := H64.out; simp; omega) SZ.out ?_); intro v10 W5 ho hg hf; rw [List.nil_append] at ho; replace hg : (W3.alloc (.cells #[] 9)).grownBy W5 (some bs) := hbs ▸ hg; have R05 := hide1 ((hg.block b0 (lt_heap R0'.out) (fun e => by have := WB.out; cases e; omega)).trans R0'.out); have R15 := hide1 ((hg.block b1 (lt_heap R1'.out) (fun e => by have := WB.out; cases e; omega)).trans R1'.out); have B5 : Hid (Below w.heap.size w W5) := B2'.out.grown hg B2'.out.size (fun k' hk' => by have := WB.out; cases hk'; omega); have S5 : Hid (bs ≤ W5.heap.size) := Nat.le_trans SZ.out hg.size; have O5 := hide1 ho; obtain ⟨a5, c5, rfl⟩ := ho.form; generalize (List.take i (N 0)).length = m5 at *; clear ho hg hf)
  clear R0' R1' B2' SZ OE R0 R1 B2
  have R0 := R05
  have R1 := R15
  have B2 := B5
  clear R05 R15 B5
  have CI4 := hide1 ((B2.out.cell (p := ⟨g, i, none⟩) GL.out).trans CI.out)
  have GL4 : Hid (g < W5.heap.size) := Nat.lt_of_lt_of_le GL.out B2.out.size
  have GB : Hid (g < bs) := Nat.lt_of_lt_of_le GL.out WB.out.2.2
  go_upto_region 5 with (fail)
  clear hsl
  refine region_f (F := []) (S := fun W => W.cell? ⟨b0, 0, none⟩ = some (.slice (some ⟨g, 0, none⟩) n0 c0) ∧ W.cell? ⟨b0, 1, none⟩ = some (.slice a1 n1 c1) ∧ b0 < W.heap.size ∧ W.cell? ⟨g, i, none⟩ = some (.string s) ∧ g < W.heap.size) (by kernel_rfl) ⟨(box2 R0.out).1, (box2 R0.out).2.1, (box2 R0.out).2.2.2.2, CI4.out, GL4.out⟩ (fun hS => ?_)
  generalize hU : World.drew W5 = U at hS ⊢
  have R1 : Hid (U.heap[b1]? = some (.cells #[.slice none 0 0, .slice none 0 0] 27 (0, 0))) := by rw [← hU]; exact R1.out
  have B2 : Hid (Below w.heap.size w U) := by rw [← hU]; exact B2.out.drew
  have O5 : Hid (Lst bs U (.slice a5 m5 c5) ((N 0).take i)) := by rw [← hU]; exact O5.out
  have SZ : Hid (bs ≤ U.heap.size) := by rw [← hU]; exact S5.out
  clear hU S5
  refine take_f 0 29 (.agg #[.slice (some ⟨g, 0, none⟩) n0 c0, .slice a1 n1 c1]) [8, 13, 14, 15] rfl rfl (by kernel_rfl) (by kernel_rfl) (by kernel_rfl) (by kernel_rfl) (by kernel_rfl) (by kernel_rfl) (fun _ _ _ h => h) rfl (fun w hSw => by obtain ⟨g0, g1, g2, g3, g4⟩ := hSw; go_simp) hS ?_
  try simp only [List.setIfInBounds_toArray, List.set_cons_zero, List.set_cons_succ]
  refine take_p 1 30 (.int .i64 0) rfl rfl (by kernel_rfl) (by kernel_rfl) (by kernel_rfl) (fun _ _ _ h => h) rfl (fun w => by go_simp) ?_
  try simp only [List.setIfInBounds_toArray, List.set_cons_zero, List.set_cons_succ]
  refine take_p 2 31 (.slice a5 m5 c5) rfl rfl (by kernel_rfl) (by kernel_rfl) (by kernel_rfl) (fun _ _ _ h => h) rfl (fun w => by go_simp) ?_
  try simp only [List.setIfInBounds_toArray, List.set_cons_zero, List.set_cons_succ]
  refine take_p 3 32 (.slice (some ⟨g, 0, none⟩) n0 c0) rfl rfl (by kernel_rfl) (by kernel_rfl) (by kernel_rfl) (fun _ _ _ h => h) rfl (fun w => by go_simp) ?_
  try simp only [List.setIfInBounds_toArray, List.set_cons_zero, List.set_cons_succ]
  refine take_p 4 33 (.int .i64 (i : Int)) rfl rfl (by kernel_rfl) (by kernel_rfl) (by kernel_rfl) (fun _ _ _ h => h) rfl (fun w => by go_simp) ?_
  try simp only [List.setIfInBounds_toArray, List.set_cons_zero, List.set_cons_succ]
  refine take_p 5 34 (.int .i64 ((i : Int) + 1)) rfl rfl (by kernel_rfl) (by kernel_rfl) (by kernel_rfl) (fun _ _ _ h => h) rfl (fun w => by go_simp) ?_
  try simp only [List.setIfInBounds_toArray, List.set_cons_zero, List.set_cons_succ]
  refine take_p 6 35 (.slice (if c0 = i + 1 then some ⟨g, 0, none⟩ else some ⟨g, i + 1, none⟩) (n0 - (i + 1)) (c0 - (i + 1))) rfl rfl (by kernel_rfl) (by kernel_rfl) (by kernel_rfl) (fun _ _ _ h => h) rfl (fun w => by have h9 : (0 : Int) ≤ (i : Int) + 1 := (by omega); have h8 : (i : Int) + 1 ≤ (n0 : Int) := (by omega); go_simp) ?_
  try simp only [List.setIfInBounds_toArray, List.set_cons_zero, List.set_cons_succ]
  refine take_p 9 38 (.slice (some ⟨g, 0, none⟩) n0 c0) rfl rfl (by kernel_rfl) (by kernel_rfl) (by kernel_rfl) (fun _ _ _ h => h) rfl (fun w => by go_simp) ?_
  try simp only [List.setIfInBounds_toArray, List.set_cons_zero, List.set_cons_succ]
  refine take_p 10 39 (.int .i64 (i : Int)) rfl rfl (by kernel_rfl) (by kernel_rfl) (by kernel_rfl) (fun _ _ _ h => h) rfl (fun w => by go_simp) ?_
  try simp only [List.setIfInBounds_toArray, List.set_cons_zero, List.set_cons_succ]
  refine take_p 11 40 (.pointer (some ⟨g, i, none⟩)) rfl rfl (by kernel_rfl) (by kernel_rfl) (by kernel_rfl) (fun _ _ _ h => h) rfl (fun w => by go_simp) ?_
  try simp only [List.setIfInBounds_toArray, List.set_cons_zero, List.set_cons_succ]
  refine take_f 12 41 (.string s) [14, 15] rfl rfl (by kernel_rfl) (by kernel_rfl) (by kernel_rfl) (by kernel_rfl) (by kernel_rfl) (by kernel_rfl) (fun _ _ _ h => h) rfl (fun w hSw => by obtain ⟨g0, g1, g2, g3, g4⟩ := hSw; go_simp) hS ?_
  try simp only [List.setIfInBounds_toArray, List.set_cons_zero, List.set_cons_succ]
  refine ready_f 7 (o := { dst := some 36, op := Op.call { callee := Callee.builtin Builtin.append, args := #[Operand.tmp 31, Operand.tmp 35], argTypes := #[25, 25] }, type := 25, pos := "ref.go:70", after := #[{ on := 2, ground := Ground.data }, { on := 6, ground := Ground.data }], guard := none }) (by kernel_rfl) rfl (fun K hK => ?_)
  rw [if_pos (by rfl)]
  refine wp_append_lst (B := bs) (A := (N 0).take i) (C := (N 0).drop (i + 1)) _ _ rfl rfl rfl O5.out (HRT.out _ B2.out) (by have := H64.out; simp; omega) SZ.out ?_
  intro v9 V9 ho hg hf
  have ne0 : some b0 ≠ (Value.slice a5 m5 c5).ownBlock := fun e => by have := (O5.out.lt e.symm).1; have := WB.out; omega
  have ne1 : some b1 ≠ (Value.slice a5 m5 c5).ownBlock := fun e => by have := (O5.out.lt e.symm).1; have := WB.out; omega
  have neg : some g ≠ (Value.slice a5 m5 c5).ownBlock := fun e => by have := (O5.out.lt e.symm).1; have := GB.out; omega
  refine hK.out _ _ (fun _ h => ⟨hg.cell (a := ⟨b0, 0, none⟩) h.1 ne0, hg.cell (a := ⟨b0, 1, none⟩) h.2.1 ne0, Nat.lt_of_lt_of_le h.2.2.1 hg.size, hg.cell (a := ⟨g, i, none⟩) h.2.2.2.1 neg, Nat.lt_of_lt_of_le h.2.2.2.2 hg.size⟩) ?_
  clear hK K
  try simp only [Act.put, List.setIfInBounds_toArray, List.set_cons_zero, List.set_cons_succ]
  have R1 := hide1 ((hg.block b1 (lt_heap R1.out) ne1).trans R1.out)
  have B2 : Hid (Below w.heap.size w V9) := B2.out.grown hg B2.out.size (fun k' hk' => by have := (O5.out.lt hk').1; have := WB.out; omega)
  rw [HER.out] at ho
  obtain ⟨a9, c9, rfl⟩ := ho.form
  generalize (List.eraseIdx (N 0) i).length = m9 at *
  have O9 := hide1 ho
  clear hg hf ho ne0 ne1 neg
  refine ready_f 8 (o := { dst := some 37, op := Op.call { callee := Callee.value (Operand.func 27), args := #[Operand.tmp 29, Operand.tmp 30, Operand.tmp 36], argTypes := #[27, 3, 25] }, type := 27, pos := "ref.go:70", after := #[{ on := 0, ground := Ground.data }, { on := 1, ground := Ground.data }, { on := 7, ground := Ground.data }, { on := 7, ground := Ground.chain }], guard := none }) (by kernel_rfl) rfl (fun K hK => ?_)
  go_simp
  refine (with_any0 (some ⟨g, 0, none⟩) a1 a9 n0 c0 n1 c1 m9 c9 V9).mono ?_
  rintro e V10 ⟨rfl, hb10⟩
  refine hK.out _ _ (fun _ h => ⟨(hb10.cell (p := ⟨b0, 0, none⟩) h.2.2.1).trans h.1, (hb10.cell (p := ⟨b0, 1, none⟩) h.2.2.1).trans h.2.1, Nat.lt_of_lt_of_le h.2.2.1 hb10.size, (hb10.cell (p := ⟨g, i, none⟩) h.2.2.2.2).trans h.2.2.2.1, Nat.lt_of_lt_of_le h.2.2.2.2 hb10.size⟩) ?_
  clear hK K
  try simp only [Act.put, List.setIfInBounds_toArray, List.set_cons_zero, List.set_cons_succ]
  have R1 := hide1 ((hb10.block b1 (lt_heap R1.out)).trans R1.out)
  have B3 : Hid (Below w.heap.size w V10) := B2.out.trans (hb10.mono B2.out.size)
  have O10 := hide1 (O9.out.below hb10 (Nat.le_refl _))
  clear hb10 hS
  have nb0 : b0 ≠ b1 := by have := HS.out; omega
  have nbg : g ≠ b1 := by have := GL.out; have := HS.out; omega
  refine ready_f 13 (o := { dst := none, op := Op.store 27 (Operand.tmp 6) (Operand.tmp 37), type := 0, pos := "ref.go:70", after := #[{ on := 8, ground := Ground.data }, { on := 8, ground := Ground.chain }, { on := 0, ground := Ground.phase }, { on := 1, ground := Ground.phase }, { on := 2, ground := Ground.phase }, { on := 3, ground := Ground.phase }, { on := 4, ground := Ground.phase }, { on := 5, ground := Ground.phase }, { on := 6, ground := Ground.phase }, { on := 7, ground := Ground.phase }, { on := 8, ground := Ground.phase }, { on := 9, ground := Ground.textOnly Departure.lateStores }, { on := 10, ground := Ground.textOnly Departure.lateStores }, { on := 11, ground := Ground.textOnly Departure.lateStores }, { on := 12, ground := Ground.textOnly Departure.lateStores }], guard := none }) (by kernel_rfl) rfl (fun K hK => ?_)
  rw [if_pos (by rfl)]
  refine wp_store_row 27 _ _ rfl b1 _ rfl rfl 27 _ R1.out (by kernel_rfl) rfl (by kernel_rfl) ?_
  refine hK.out _ _ (fun _ h => ⟨(cell_setRow_other _ b1 _ ⟨b0, 0, none⟩ nb0).trans h.1, (cell_setRow_other _ b1 _ ⟨b0, 1, none⟩ nb0).trans h.2.1, by have := h.2.2.1; simpa using this, (cell_setRow_other _ b1 _ ⟨g, i, none⟩ nbg).trans h.2.2.2.1, by have := h.2.2.2.2; simpa using this⟩) ?_
  clear hK K
  refine take_p 14 7 (.string s) rfl rfl (by kernel_rfl) (by kernel_rfl) (by kernel_rfl) (fun _ _ _ h => h) rfl (fun w => by go_simp) ?_
  try simp only [List.setIfInBounds_toArray, List.set_cons_zero, List.set_cons_succ]
  refine take_p 15 8 (.int .i64 0) rfl rfl (by kernel_rfl) (by kernel_rfl) (by kernel_rfl) (fun _ _ _ h => h) rfl (fun w => by go_simp) ?_
  try simp only [List.setIfInBounds_toArray, List.set_cons_zero, List.set_cons_succ]
  refine done_f (by kernel_rfl) ?_ _
  go_wp2
  all_goals exact ret_n3 Try.results22 b1 _ _ _ _ rfl rfl rfl (setRow_heap _ b1 _ _ _ _ R1.out) rfl ⟨_, rfl, (O10.out.setRow (by have := WB.out; omega) _).mono (by have := WB.out; omega), below_setRow B3.out (by have := HS.out; omega) _⟩

set_option maxHeartbeats 2000000 in
theorem rtake_ok1 {N : Nat → List ByteArray} (a0 a1 : Option Addr) (c0 c1 : Nat) (i : Nat) (w : World) (hi : i < (N 1).length) (h64 : (N 1).length ≤ 64) (hA : Lst 0 w (.slice a1 (N 1).length c1) (N 1)) :
    Calls Try.prog 22 #[.agg #[.slice a0 (N 0).length c0, .slice a1 (N 1).length c1], .int .i64 1, .int .i64 (i : Int)] w fun e w' => ∃ v', e = .returned (.tuple #[.agg #[.slice a0 (N 0).length c0, v'], .string ((N 1).getD i ByteArray.empty), .int .i64 0]) ∧ Lst w.heap.size w' v' ((N 1).eraseIdx i) ∧ Below w.heap.size w w' := by
  have kW := fun w => hide1 (wrong_any (N := N) a0 a1 c0 c1 1 i w)
  have e0 : plc N 1 i = 0 := plc_zero (k := 1) (by omega) hi
  rw [e0] at kW
  obtain ⟨g, c, hx, hcl, _, hgl, _, hcap⟩ := hA.cell hi
  cases hx
  have kT := fun w => hide1 (to_any1 a0 (some ⟨g, 0, none⟩) (N 0).length c0 (N 1).length c1 w)
  have hsl := fun W => run_head W g (N 1).length c1 i (by omega) hcap
  have RH := fun W (hb : Below w.heap.size w W) => (hA.below hb (Nat.le_refl _)).head (q := i) (by omega)
  have RT := fun W (hb : Below w.heap.size w W) => (hA.below hb (Nat.le_refl _)).tail (q := i + 1) (by omega) hcap
  have HRH := hide1 RH
  have HRT := hide1 RT
  have HER : Hid ((N 1).take i ++ (N 1).drop (i + 1) = (N 1).eraseIdx i) := (List.eraseIdx_eq_take_drop_succ ..).symm
  have H64 := hide1 h64
  have wi : IntKind.i64.wrap ((i : Int) + 1) = (i : Int) + 1 := by rw [IntKind.wrap_i64]; omega
  generalize (N 1).getD i ByteArray.empty = s at *
  have CI := hide1 hcl
  have GL := hide1 hgl
  have hik : (i : Int) < ((N 1).length : Int) := by omega
  have hik' : i < (N 1).length := hi
  clear e0 hA hi h64 hcl hgl RH RT hcap
  obtain ⟨n0, hn0⟩ : ∃ n0, (N 0).length = n0 := ⟨_, rfl⟩
  obtain ⟨n1, hn1⟩ : ∃ n1, (N 1).length = n1 := ⟨_, rfl⟩
  rw [hn1] at hsl hik hik' HRT
  rw [hn0, hn1] at kT kW
  rw [hn0, hn1]
  have HNK := hide1 hn1
  clear hn0 hn1
  go_enter Try.func22, Try.ntmps22
  go_wp2_with fail
  have h2 := two_new w (.cells #[.slice a0 n0 c0, .slice (some ⟨g, 0, none⟩) n1 c1] 27) (.cells #[.slice none 0 0, .slice none 0 0] 27)
  have hB := below2 (w := w) (.cells #[.slice a0 n0 c0, .slice (some ⟨g, 0, none⟩) n1 c1] 27) (.cells #[.slice none 0 0, .slice none 0 0] 27)
  have H2 := hide1 h2
  have HB := hide1 hB
  clear h2 hB
  generalize (w.alloc _).alloc _ = W1 at H2 HB ⊢
  obtain ⟨b0, hb0⟩ : ∃ b0, w.heap.size = b0 := ⟨_, rfl⟩
  obtain ⟨b1, hb1⟩ : ∃ b1, w.heap.size + 1 = b1 := ⟨_, rfl⟩
  have HS : Hid (w.heap.size = b0 ∧ b0 + 1 = b1) := ⟨hb0, by omega⟩
  rw [hb1, hb0] at H2
  rw [hb1, hb0]
  clear hb0 hb1
  refine ((kW _).out).mono ?_
  rintro e W2 ⟨rfl, hbb⟩
  have R0' := hide1 ((hbb.block b0 (lt_heap H2.out.1)).trans H2.out.1)
  have R1' := hide1 ((hbb.block b1 (lt_heap H2.out.2)).trans H2.out.2)
  have B2' : Hid (Below w.heap.size w W2) := HB.out.trans (hbb.mono HB.out.size)
  clear hbb H2 HB
  have R0 := R0'
  have R1 := R1'
  have B2 := B2'
  clear R0' R1' B2'
  obtain ⟨d0, d1, _, _, _⟩ := box2 R0.out
  go_wp2_with fail
  clear d0 d1
  refine ((kT _).out).mono ?_
  rintro e W3 ⟨rfl, hbb⟩
  have R0' := hide1 ((hbb.block b0 (lt_heap R0.out)).trans R0.out)
  have R1' := hide1 ((hbb.block b1 (lt_heap R1.out)).trans R1.out)
  have B2' : Hid (Below w.heap.size w W3) := B2.out.trans (hbb.mono B2.out.size)
  clear hbb R0 R1 B2
  have R0 := R0'
  have R1 := R1'
  have B2 := B2'
  clear R0' R1' B2'
  obtain ⟨bs, hbs⟩ : ∃ bs, W3.heap.size = bs := ⟨_, rfl⟩
  have WB : Hid (b0 < bs ∧ b1 < bs ∧ w.heap.size ≤ bs) := ⟨by rw [← hbs]; exact lt_heap R0.out, by rw [← hbs]; exact lt_heap R1.out, by rw [← hbs]; exact B2.out.size⟩
  have OE : Hid (Lst bs (W3.alloc (.cells #[] 9)) (.slice (some ⟨bs, 0, none⟩) 0 0) []) := by
    have h := Lst.empty (B := bs) (w := W3) (Nat.le_of_eq hbs.symm)
    rw [hbs] at h
    exact h
  have hbA : Below W3.heap.size W3 (W3.alloc (.cells #[] 9)) := below1 _
  have R0' := hide1 ((hbA.block b0 (lt_heap R0.out)).trans R0.out)
  have R1' := hide1 ((hbA.block b1 (lt_heap R1.out)).trans R1.out)
  have B2' : Hid (Below w.heap.size w (W3.alloc (.cells #[] 9))) := B2.out.trans (hbA.mono B2.out.size)
  have SZ : Hid (bs ≤ (W3.alloc (.cells #[] 9)).heap.size) := by rw [← hbs]; exact hbA.size
  clear hbA
  go_wp2_with (at_builtin; go_must (refine wpList_append_lst (B := bs) (A := []) (C := (N 1).take i) rfl _ _ rfl rfl rfl (hbs ▸ OE.out) (HRH.out _ B2'.out) (by have := H64.out; simp; omega) SZ.out ?_); intro v10 W5 ho hg hf; rw [List.nil_append] at ho; replace hg : (W3.alloc (.cells #[] 9)).grownBy W5 (some bs) := hbs ▸ hg; have R05 := hide1 ((hg.block b0 (lt_heap R0'.out) (fun e => by have := WB.out; cases e; omega)).trans R0'.out); have R15 := hide1 ((hg.block b1 (lt_heap R1'.out) (fun e => by have := WB.out; cases e; omega)).trans R1'.out); have B5 : Hid (Below w.heap.size w W5) := B2'.out.grown hg B2'.out.size (fun k' hk' => by have := WB.out; cases hk'; omega); have S5 : Hid (bs ≤ W5.heap.size) := Nat.le_trans SZ.out hg.size; have O5 := hide1 ho; obtain ⟨a5, c5, rfl⟩ := ho.form; generalize (List.take i (N 1)).length = m5 at *; clear ho hg hf)
  clear R0' R1' B2' SZ OE R0 R1 B2
  have R0 := R05
  have R1 := R15
  have B2 := B5
  clear R05 R15 B5
  have CI4 := hide1 ((B2.out.cell (p := ⟨g, i, none⟩) GL.out).trans CI.out)
  have GL4 : Hid (g < W5.heap.size) := Nat.lt_of_lt_of_le GL.out B2.out.size
  have GB : Hid (g < bs) := Nat.lt_of_lt_of_le GL.out WB.out.2.2
  go_upto_region 5 with (fail)
  clear hsl
  refine region_f (F := []) (S := fun W => W.cell? ⟨b0, 0, none⟩ = some (.slice a0 n0 c0) ∧ W.cell? ⟨b0, 1, none⟩ = some (.slice (some ⟨g, 0, none⟩) n1 c1) ∧ b0 < W.heap.size ∧ W.cell? ⟨g, i, none⟩ = some (.string s) ∧ g < W.heap.size) (by kernel_rfl) ⟨(box2 R0.out).1, (box2 R0.out).2.1, (box2 R0.out).2.2.2.2, CI4.out, GL4.out⟩ (fun hS => ?_)
  generalize hU : World.drew W5 = U at hS ⊢
  have R1 : Hid (U.heap[b1]? = some (.cells #[.slice none 0 0, .slice none 0 0] 27 (0, 0))) := by rw [← hU]; exact R1.out
  have B2 : Hid (Below w.heap.size w U) := by rw [← hU]; exact B2.out.drew
  have O5 : Hid (Lst bs U (.slice a5 m5 c5) ((N 1).take i)) := by rw [← hU]; exact O5.out
  have SZ : Hid (bs ≤ U.heap.size) := by rw [← hU]; exact S5.out
  clear hU S5
  refine take_f 0 29 (.agg #[.slice a0 n0 c0, .slice (some ⟨g, 0, none⟩) n1 c1]) [8, 13, 14, 15] rfl rfl (by kernel_rfl) (by kernel_rfl) (by kernel_rfl) (by kernel_rfl) (by kernel_rfl) (by kernel_rfl) (fun _ _ _ h => h) rfl (fun w hSw => by obtain ⟨g0, g1, g2, g3, g4⟩ := hSw; go_simp) hS ?_
  try simp only [List.setIfInBounds_toArray, List.set_cons_zero, List.set_cons_succ]
  refine take_p 1 30 (.int .i64 1) rfl rfl (by kernel_rfl) (by kernel_rfl) (by kernel_rfl) (fun _ _ _ h => h) rfl (fun w => by go_simp) ?_
  try simp only [List.setIfInBounds_toArray, List.set_cons_zero, List.set_cons_succ]
  refine take_p 2 31 (.slice a5 m5 c5) rfl rfl (by kernel_rfl) (by kernel_rfl) (by kernel_rfl) (fun _ _ _ h => h) rfl (fun w => by go_simp) ?_
  try simp only [List.setIfInBounds_toArray, List.set_cons_zero, List.set_cons_succ]
  refine take_p 3 32 (.slice (some ⟨g, 0, none⟩) n1 c1) rfl rfl (by kernel_rfl) (by kernel_rfl) (by kernel_rfl) (fun _ _ _ h => h) rfl (fun w => by go_simp) ?_
  try simp only [List.setIfInBounds_toArray, List.set_cons_zero, List.set_cons_succ]
  refine take_p 4 33 (.int .i64 (i : Int)) rfl rfl (by kernel_rfl) (by kernel_rfl) (by kernel_rfl) (fun _ _ _ h => h) rfl (fun w => by go_simp) ?_
  try simp only [List.setIfInBounds_toArray, List.set_cons_zero, List.set_cons_succ]
  refine take_p 5 34 (.int .i64 ((i : Int) + 1)) rfl rfl (by kernel_rfl) (by kernel_rfl) (by kernel_rfl) (fun _ _ _ h => h) rfl (fun w => by go_simp) ?_
  try simp only [List.setIfInBounds_toArray, List.set_cons_zero, List.set_cons_succ]
  refine take_p 6 35 (.slice (if c1 = i + 1 then some ⟨g, 0, none⟩ else some ⟨g, i + 1, none⟩) (n1 - (i + 1)) (c1 - (i + 1))) rfl rfl (by kernel_rfl) (by kernel_rfl) (by kernel_rfl) (fun _ _ _ h => h) rfl (fun w => by have h9 : (0 : Int) ≤ (i : Int) + 1 := (by omega); have h8 : (i : Int) + 1 ≤ (n1 : Int) := (by omega); go_simp) ?_
  try simp only [List.setIfInBounds_toArray, List.set_cons_zero, List.set_cons_succ]
  refine take_p 9 38 (.slice (some ⟨g, 0, none⟩) n1 c1) rfl rfl (by kernel_rfl) (by kernel_rfl) (by kernel_rfl) (fun _ _ _ h => h) rfl (fun w => by go_simp) ?_
  try simp only [List.setIfInBounds_toArray, List.set_cons_zero, List.set_cons_succ]
  refine take_p 10 39 (.int .i64 (i : Int)) rfl rfl (by kernel_rfl) (by kernel_rfl) (by kernel_rfl) (fun _ _ _ h => h) rfl (fun w => by go_simp) ?_
  try simp only [List.setIfInBounds_toArray, List.set_cons_zero, List.set_cons_succ]
  refine take_p 11 40 (.pointer (some ⟨g, i, none⟩)) rfl rfl (by kernel_rfl) (by kernel_rfl) (by kernel_rfl) (fun _ _ _ h => h) rfl (fun w => by go_simp) ?_
  try simp only [List.setIfInBounds_toArray, List.set_cons_zero, List.set_cons_succ]
  refine take_f 12 41 (.string s) [14, 15] rfl rfl (by kernel_rfl) (by kernel_rfl) (by kernel_rfl) (by kernel_rfl) (by kernel_rfl) (by kernel_rfl) (fun _ _ _ h => h) rfl (fun w hSw => by obtain ⟨g0, g1, g2, g3, g4⟩ := hSw; go_simp) hS ?_
  try simp only [List.setIfInBounds_toArray, List.set_cons_zero, List.set_cons_succ]
  refine ready_f 7 (o := { dst := some 36, op := Op.call { callee := Callee.builtin Builtin.append, args := #[Operand.tmp 31, Operand.tmp 35], argTypes := #[25, 25] }, type := 25, pos := "ref.go:70", after := #[{ on := 2, ground := Ground.data }, { on := 6, ground := Ground.data }], guard := none }) (by kernel_rfl) rfl (fun K hK => ?_)
  rw [if_pos (by rfl)]
  refine wp_append_lst (B := bs) (A := (N 1).take i) (C := (N 1).drop (i + 1)) _ _ rfl rfl rfl O5.out (HRT.out _ B2.out) (by have := H64.out; simp; omega) SZ.out ?_
  intro v9 V9 ho hg hf
  have ne0 : some b0 ≠ (Value.slice a5 m5 c5).ownBlock := fun e => by have := (O5.out.lt e.symm).1; have := WB.out; omega
  have ne1 : some b1 ≠ (Value.slice a5 m5 c5).ownBlock := fun e => by have := (O5.out.lt e.symm).1; have := WB.out; omega
  have neg : some g ≠ (Value.slice a5 m5 c5).ownBlock := fun e => by have := (O5.out.lt e.symm).1; have := GB.out; omega
  refine hK.out _ _ (fun _ h => ⟨hg.cell (a := ⟨b0, 0, none⟩) h.1 ne0, hg.cell (a := ⟨b0, 1, none⟩) h.2.1 ne0, Nat.lt_of_lt_of_le h.2.2.1 hg.size, hg.cell (a := ⟨g, i, none⟩) h.2.2.2.1 neg, Nat.lt_of_lt_of_le h.2.2.2.2 hg.size⟩) ?_
  clear hK K
  try simp only [Act.put, List.setIfInBounds_toArray, List.set_cons_zero, List.set_cons_succ]
  have R1 := hide1 ((hg.block b1 (lt_heap R1.out) ne1).trans R1.out)
  have B2 : Hid (Below w.heap.size w V9) := B2.out.grown hg B2.out.size (fun k' hk' => by have := (O5.out.lt hk').1; have := WB.out; omega)
  rw [HER.out] at ho
  obtain ⟨a9, c9, rfl⟩ := ho.form
  generalize (List.eraseIdx (N 1) i).length = m9 at *
  have O9 := hide1 ho
  clear hg hf ho ne0 ne1 neg
  refine ready_f 8 (o := { dst := some 37, op := Op.call { callee := Callee.value (Operand.func 27), args := #[Operand.tmp 29, Operand.tmp 30, Operand.tmp 36], argTypes := #[27, 3, 25] }, type := 27, pos := "ref.go:70", after := #[{ on := 0, ground := Ground.data }, { on := 1, ground := Ground.data }, { on := 7, ground := Ground.data }, { on := 7, ground := Ground.chain }], guard := none }) (by kernel_rfl) rfl (fun K hK => ?_)
  go_simp
  refine (with_any1 a0 (some ⟨g, 0, none⟩) a9 n0 c0 n1 c1 m9 c9 V9).mono ?_
  rintro e V10 ⟨rfl, hb10⟩
  refine hK.out _ _ (fun _ h => ⟨(hb10.cell (p := ⟨b0, 0, none⟩) h.2.2.1).trans h.1, (hb10.cell (p := ⟨b0, 1, none⟩) h.2.2.1).trans h.2.1, Nat.lt_of_lt_of_le h.2.2.1 hb10.size, (hb10.cell (p := ⟨g, i, none⟩) h.2.2.2.2).trans h.2.2.2.1, Nat.lt_of_lt_of_le h.2.2.2.2 hb10.size⟩) ?_
  clear hK K
  try simp only [Act.put, List.setIfInBounds_toArray, List.set_cons_zero, List.set_cons_succ]
  have R1 := hide1 ((hb10.block b1 (lt_heap R1.out)).trans R1.out)
  have B3 : Hid (Below w.heap.size w V10) := B2.out.trans (hb10.mono B2.out.size)
  have O10 := hide1 (O9.out.below hb10 (Nat.le_refl _))
  clear hb10 hS
  have nb0 : b0 ≠ b1 := by have := HS.out; omega
  have nbg : g ≠ b1 := by have := GL.out; have := HS.out; omega
  refine ready_f 13 (o := { dst := none, op := Op.store 27 (Operand.tmp 6) (Operand.tmp 37), type := 0, pos := "ref.go:70", after := #[{ on := 8, ground := Ground.data }, { on := 8, ground := Ground.chain }, { on := 0, ground := Ground.phase }, { on := 1, ground := Ground.phase }, { on := 2, ground := Ground.phase }, { on := 3, ground := Ground.phase }, { on := 4, ground := Ground.phase }, { on := 5, ground := Ground.phase }, { on := 6, ground := Ground.phase }, { on := 7, ground := Ground.phase }, { on := 8, ground := Ground.phase }, { on := 9, ground := Ground.textOnly Departure.lateStores }, { on := 10, ground := Ground.textOnly Departure.lateStores }, { on := 11, ground := Ground.textOnly Departure.lateStores }, { on := 12, ground := Ground.textOnly Departure.lateStores }], guard := none }) (by kernel_rfl) rfl (fun K hK => ?_)
  rw [if_pos (by rfl)]
  refine wp_store_row 27 _ _ rfl b1 _ rfl rfl 27 _ R1.out (by kernel_rfl) rfl (by kernel_rfl) ?_
  refine hK.out _ _ (fun _ h => ⟨(cell_setRow_other _ b1 _ ⟨b0, 0, none⟩ nb0).trans h.1, (cell_setRow_other _ b1 _ ⟨b0, 1, none⟩ nb0).trans h.2.1, by have := h.2.2.1; simpa using this, (cell_setRow_other _ b1 _ ⟨g, i, none⟩ nbg).trans h.2.2.2.1, by have := h.2.2.2.2; simpa using this⟩) ?_
  clear hK K
  refine take_p 14 7 (.string s) rfl rfl (by kernel_rfl) (by kernel_rfl) (by kernel_rfl) (fun _ _ _ h => h) rfl (fun w => by go_simp) ?_
  try simp only [List.setIfInBounds_toArray, List.set_cons_zero, List.set_cons_succ]
  refine take_p 15 8 (.int .i64 0) rfl rfl (by kernel_rfl) (by kernel_rfl) (by kernel_rfl) (fun _ _ _ h => h) rfl (fun w => by go_simp) ?_
  try simp only [List.setIfInBounds_toArray, List.set_cons_zero, List.set_cons_succ]
  refine done_f (by kernel_rfl) ?_ _
  go_wp2
  all_goals exact ret_n3 Try.results22 b1 _ _ _ _ rfl rfl rfl (setRow_heap _ b1 _ _ _ _ R1.out) rfl ⟨_, rfl, (O10.out.setRow (by have := WB.out; omega) _).mono (by have := WB.out; omega), below_setRow B3.out (by have := HS.out; omega) _⟩

theorem rtake_any {N : Nat → List ByteArray} {x0 x1 : Value} {w : World} (h0 : Lst 0 w x0 (N 0)) (h1 : Lst 0 w x1 (N 1)) (hs : Sm N) (q i : Int) :
    Calls Try.prog 22 #[.agg #[x0, x1], .int .i64 q, .int .i64 i] w fun e w' => ∃ y0 y1, e = .returned (.tuple #[.agg #[y0, y1], .string (takS N q i), .int .i64 (plc N q i)]) ∧ An w x0 x1 (takN N q i) y0 y1 w' := by
  obtain ⟨a0, c0, rfl⟩ := h0.form
  obtain ⟨a1, c1, rfl⟩ := h1.form
  unfold takN takS
  by_cases hp : plc N q i = 0
  · rw [if_pos hp, if_pos hp, hp]
    obtain ⟨k, j, rfl, rfl, hk, hj⟩ := plc_ok hp
    rcases (show k = 0 ∨ k = 1 by omega) with rfl | rfl
    · refine (rtake_ok0 a0 a1 c0 c1 j w hj (hs.len 0) h0).mono ?_
      rintro e w' ⟨v', rfl, hv, hb⟩
      exact ⟨_, _, rfl, An.put0 h1 hv hb⟩
    · refine (rtake_ok1 a0 a1 c0 c1 j w hj (hs.len 1) h1).mono ?_
      rintro e w' ⟨v', rfl, hv, hb⟩
      exact ⟨_, _, rfl, An.put1 h0 hv hb⟩
  · rw [if_neg hp, if_neg hp]
    refine (rtake_fail a0 a1 c0 c1 q i w hp).mono ?_
    rintro e w' ⟨rfl, hb⟩
    exact ⟨_, _, rfl, An.same h0 h1 hb⟩

set_option maxHeartbeats 2000000 in
theorem rdouble_ok0 {N : Nat → List ByteArray} (a0 a1 : Option Addr) (c0 c1 : Nat) (i : Nat) (w : World) (hi : i < (N 0).length) (h64 : (N 0).length ≤ 64) (h0 : Lst 0 w (.slice a0 (N 0).length c0) (N 0)) (h1 : Lst 0 w (.slice a1 (N 1).length c1) (N 1)) :
    Calls Try.prog 23 #[.agg #[.slice a0 (N 0).length c0, .slice a1 (N 1).length c1], .int .i64 0, .int .i64 (i : Int)] w fun e w' => ∃ y0 y1, e = .returned (.tuple #[.agg #[y0, y1], .int .i64 (snd N 0 ((N 0).getD i ByteArray.empty))]) ∧ An w (.slice a0 (N 0).length c0) (.slice a1 (N 1).length c1) (sndN N 0 ((N 0).getD i ByteArray.empty)) y0 y1 w' := by
  have kW := fun w => hide1 (wrong_any (N := N) a0 a1 c0 c1 0 i w)
  have e0 : plc N 0 i = 0 := plc_zero (k := 0) (by omega) hi
  rw [e0] at kW
  obtain ⟨g, c, hx, hcl, _, hgl, _, _⟩ := h0.cell hi
  cases hx
  generalize (N 0).getD i ByteArray.empty = s at *
  have kT := fun w => hide1 (to_any0 (some ⟨g, 0, none⟩) a1 (N 0).length c0 (N 1).length c1 w)
  have kS := fun W (hb : Below w.heap.size w W) => hide1 (rsend_any (h0.below hb (Nat.le_refl _)) (h1.below hb (Nat.le_refl _)) 0 s)
  have KS := hide1 kS
  have LO : Hid ((∀ g', (Value.slice (some ⟨g, 0, none⟩) (N 0).length c0).ownBlock = some g' → g' < w.heap.size) ∧ ∀ g', (Value.slice a1 (N 1).length c1).ownBlock = some g' → g' < w.heap.size) := ⟨fun g' hg' => (h0.lt hg').2, fun g' hg' => (h1.lt hg').2⟩
  have CI := hide1 hcl
  have GL := hide1 hgl
  have hik : (i : Int) < ((N 0).length : Int) := by omega
  have hik' : i < (N 0).length := hi
  have h64' := h64
  generalize snd N 0 s = cc at *
  generalize sndN N 0 s = M at *
  clear e0 h0 h1 hi h64 hcl hgl kS
  generalize (N 0).length = n0 at *
  generalize (N 1).length = n1 at *
  go_enter Try.func23, Try.ntmps23
  go_wp2_with fail
  have h2 := two_new w (.cells #[.slice (some ⟨g, 0, none⟩) n0 c0, .slice a1 n1 c1] 27) (.cells #[.slice none 0 0, .slice none 0 0] 27)
  have hB := below2 (w := w) (.cells #[.slice (some ⟨g, 0, none⟩) n0 c0, .slice a1 n1 c1] 27) (.cells #[.slice none 0 0, .slice none 0 0] 27)
  have H2 := hide1 h2
  have HB := hide1 hB
  clear h2 hB
  generalize (w.alloc _).alloc _ = W1 at H2 HB ⊢
  obtain ⟨b0, hb0⟩ : ∃ b0, w.heap.size = b0 := ⟨_, rfl⟩
  obtain ⟨b1, hb1⟩ : ∃ b1, w.heap.size + 1 = b1 := ⟨_, rfl⟩
  have HS : Hid (w.heap.size = b0 ∧ b0 + 1 = b1) := ⟨hb0, by omega⟩
  rw [hb1, hb0] at H2
  rw [hb1, hb0]
  clear hb0 hb1
  refine ((kW _).out).mono ?_
  rintro e W2 ⟨rfl, hbb⟩
  have R0' := hide1 ((hbb.block b0 (lt_heap H2.out.1)).trans H2.out.1)
  have R1' := hide1 ((hbb.block b1 (lt_heap H2.out.2)).trans H2.out.2)
  have B2' : Hid (Below w.heap.size w W2) := HB.out.trans (hbb.mono HB.out.size)
  clear hbb H2 HB
  have R0 := R0'
  have R1 := R1'
  have B2 := B2'
  clear R0' R1' B2'
  obtain ⟨d0, d1, _, _, _⟩ := box2 R0.out
  have CI4 := hide1 ((B2.out.cell (p := ⟨g, i, none⟩) GL.out).trans CI.out)
  have GL4 : Hid (g < W2.heap.size) := Nat.lt_of_lt_of_le GL.out B2.out.size
  go_upto_region 3 with (fail)
  clear d0 d1
  refine region_f (F := [8, 11]) (S := fun W => W.cell? ⟨b0, 0, none⟩ = some (.slice (some ⟨g, 0, none⟩) n0 c0) ∧ W.cell? ⟨b0, 1, none⟩ = some (.slice a1 n1 c1) ∧ b0 < W.heap.size ∧ W.cell? ⟨g, i, none⟩ = some (.string s) ∧ g < W.heap.size) (by kernel_rfl) ⟨(box2 R0.out).1, (box2 R0.out).2.1, (box2 R0.out).2.2.2.2, CI4.out, GL4.out⟩ (fun hS => ?_)
  generalize hU : World.drew W2 = U at hS ⊢
  have R1 : Hid (U.heap[b1]? = some (.cells #[.slice none 0 0, .slice none 0 0] 27 (0, 0))) := by rw [← hU]; exact R1.out
  have B2 : Hid (Below w.heap.size w U) := by rw [← hU]; exact B2.out.drew
  clear hU
  refine take_f 0 18 (.agg #[.slice (some ⟨g, 0, none⟩) n0 c0, .slice a1 n1 c1]) [8, 9, 10, 11, 12] rfl rfl (by kernel_rfl) (by kernel_rfl) (by kernel_rfl) (by kernel_rfl) (by kernel_rfl) (by kernel_rfl) (fun _ _ _ h => h) rfl (fun w hSw => by obtain ⟨g0, g1, g2, g3, g4⟩ := hSw; go_simp) hS ?_
  try simp only [List.setIfInBounds_toArray, List.set_cons_zero, List.set_cons_succ]
  refine take_p 1 19 (.int .i64 0) rfl rfl (by kernel_rfl) (by kernel_rfl) (by kernel_rfl) (fun _ _ _ h => h) rfl (fun w => by go_simp) ?_
  try simp only [List.setIfInBounds_toArray, List.set_cons_zero, List.set_cons_succ]
  refine take_f 2 20 (.agg #[.slice (some ⟨g, 0, none⟩) n0 c0, .slice a1 n1 c1]) [4, 6, 7, 8, 9, 10, 11, 12] rfl rfl (by kernel_rfl) (by kernel_rfl) (by kernel_rfl) (by kernel_rfl) (by kernel_rfl) (by kernel_rfl) (fun _ _ _ h => h) rfl (fun w hSw => by obtain ⟨g0, g1, g2, g3, g4⟩ := hSw; go_simp) hS ?_
  try simp only [List.setIfInBounds_toArray, List.set_cons_zero, List.set_cons_succ]
  refine take_p 3 21 (.int .i64 0) rfl rfl (by kernel_rfl) (by kernel_rfl) (by kernel_rfl) (fun _ _ _ h => h) rfl (fun w => by go_simp) ?_
  try simp only [List.setIfInBounds_toArray, List.set_cons_zero, List.set_cons_succ]
  refine take_p 5 23 (.int .i64 (i : Int)) rfl rfl (by kernel_rfl) (by kernel_rfl) (by kernel_rfl) (fun _ _ _ h => h) rfl (fun w => by go_simp) ?_
  try simp only [List.setIfInBounds_toArray, List.set_cons_zero, List.set_cons_succ]
  refine ready_f 4 (o := { dst := some 22, op := Op.call { callee := Callee.value (Operand.func 33), args := #[Operand.tmp 20, Operand.tmp 21], argTypes := #[27, 3] }, type := 25, pos := "ref.go:85", after := #[{ on := 2, ground := Ground.data }, { on := 3, ground := Ground.data }], guard := none }) (by kernel_rfl) rfl (fun K hK => ?_)
  go_simp
  refine (kT _).out.mono ?_
  rintro e U5 ⟨rfl, hb5⟩
  refine hK.out _ _ (fun _ h => ⟨(hb5.cell (p := ⟨b0, 0, none⟩) h.2.2.1).trans h.1, (hb5.cell (p := ⟨b0, 1, none⟩) h.2.2.1).trans h.2.1, Nat.lt_of_lt_of_le h.2.2.1 hb5.size, (hb5.cell (p := ⟨g, i, none⟩) h.2.2.2.2).trans h.2.2.2.1, Nat.lt_of_lt_of_le h.2.2.2.2 hb5.size⟩) ?_
  clear hK K
  try simp only [Act.put, List.setIfInBounds_toArray, List.set_cons_zero, List.set_cons_succ]
  replace hS : U5.cell? ⟨b0, 0, none⟩ = some (.slice (some ⟨g, 0, none⟩) n0 c0) ∧ U5.cell? ⟨b0, 1, none⟩ = some (.slice a1 n1 c1) ∧ b0 < U5.heap.size ∧ U5.cell? ⟨g, i, none⟩ = some (.string s) ∧ g < U5.heap.size := ⟨(hb5.cell (p := ⟨b0, 0, none⟩) hS.2.2.1).trans hS.1, (hb5.cell (p := ⟨b0, 1, none⟩) hS.2.2.1).trans hS.2.1, Nat.lt_of_lt_of_le hS.2.2.1 hb5.size, (hb5.cell (p := ⟨g, i, none⟩) hS.2.2.2.2).trans hS.2.2.2.1, Nat.lt_of_lt_of_le hS.2.2.2.2 hb5.size⟩
  have R1 := hide1 ((hb5.block b1 (lt_heap R1.out)).trans R1.out)
  have B2 : Hid (Below w.heap.size w U5) := B2.out.trans (hb5.mono B2.out.size)
  clear hb5
  refine take_p 6 24 (.pointer (some ⟨g, i, none⟩)) rfl rfl (by kernel_rfl) (by kernel_rfl) (by kernel_rfl) (fun _ _ _ h => h) rfl (fun w => by go_simp) ?_
  try simp only [List.setIfInBounds_toArray, List.set_cons_zero, List.set_cons_succ]
  refine take_f 7 25 (.string s) [8, 9, 10, 11, 12] rfl rfl (by kernel_rfl) (by kernel_rfl) (by kernel_rfl) (by kernel_rfl) (by kernel_rfl) (by kernel_rfl) (fun _ _ _ h => h) rfl (fun w hSw => by obtain ⟨g0, g1, g2, g3, g4⟩ := hSw; go_simp) hS ?_
  try simp only [List.setIfInBounds_toArray, List.set_cons_zero, List.set_cons_succ]
  refine ready_f 8 (o := { dst := some 26, op := Op.call { callee := Callee.value (Operand.func 21), args := #[Operand.tmp 18, Operand.tmp 19, Operand.tmp 25], argTypes := #[27, 3, 9] }, type := 52, pos := "ref.go:85", after := #[{ on := 0, ground := Ground.data }, { on := 1, ground := Ground.data }, { on := 7, ground := Ground.data }, { on := 4, ground := Ground.chain }], guard := none }) (by kernel_rfl) rfl (fun K hK => ?_)
  go_simp
  refine (KS.out U5 B2.out).out.mono ?_
  rintro e U6 ⟨y0, y1, rfl, an⟩
  refine hK.out _ _ (fun h => absurd (by decide) h) ?_
  clear hK K
  try simp only [Act.put, List.setIfInBounds_toArray, List.set_cons_zero, List.set_cons_succ]
  obtain ⟨ay, cy, rfl⟩ := an.l0.form
  obtain ⟨az, cz, rfl⟩ := an.l1.form
  have L5 : Hid (b1 < U5.heap.size) := lt_heap R1.out
  have R1 := hide1 ((an.bl.block b1 (lt_heap R1.out)).trans R1.out)
  have AN := hide1 an
  clear an hS
  refine take_p 9 27 (.agg #[.slice ay (M 0).length cy, .slice az (M 1).length cz]) rfl rfl (by kernel_rfl) (by kernel_rfl) (by kernel_rfl) (fun _ _ _ h => h) rfl (fun w => by go_simp) ?_
  try simp only [List.setIfInBounds_toArray, List.set_cons_zero, List.set_cons_succ]
  refine take_p 10 28 (.int .i64 cc) rfl rfl (by kernel_rfl) (by kernel_rfl) (by kernel_rfl) (fun _ _ _ h => h) rfl (fun w => by go_simp) ?_
  try simp only [List.setIfInBounds_toArray, List.set_cons_zero, List.set_cons_succ]
  refine ready_f 11 (o := { dst := none, op := Op.store 27 (Operand.tmp 6) (Operand.tmp 27), type := 0, pos := "ref.go:85", after := #[{ on := 9, ground := Ground.data }, { on := 8, ground := Ground.chain }, { on := 0, ground := Ground.phase }, { on := 1, ground := Ground.phase }, { on := 2, ground := Ground.phase }, { on := 3, ground := Ground.phase }, { on := 4, ground := Ground.phase }, { on := 5, ground := Ground.phase }, { on := 6, ground := Ground.phase }, { on := 7, ground := Ground.phase }, { on := 8, ground := Ground.phase }, { on := 9, ground := Ground.phase }, { on := 10, ground := Ground.phase }], guard := none }) (by kernel_rfl) rfl (fun K hK => ?_)
  rw [if_pos (by rfl)]
  refine wp_store_row 27 _ _ rfl b1 _ rfl rfl 27 _ R1.out (by kernel_rfl) rfl (by kernel_rfl) ?_
  refine hK.out _ _ (fun h => absurd (by decide) h) ?_
  clear hK K
  refine take_p 12 7 (.int .i64 cc) rfl rfl (by kernel_rfl) (by kernel_rfl) (by kernel_rfl) (fun _ _ _ h => h) rfl (fun w => by go_simp) ?_
  try simp only [List.setIfInBounds_toArray, List.set_cons_zero, List.set_cons_succ]
  refine done_f (by kernel_rfl) ?_ _
  go_wp2
  refine ret_n2 Try.results23 b1 _ _ _ rfl rfl (setRow_heap _ b1 _ _ _ _ R1.out) rfl ⟨_, _, rfl, ?_⟩
  have lo : ∀ g', (Value.slice ay (M 0).length cy).ownBlock = some g' ∨ (Value.slice az (M 1).length cz).ownBlock = some g' → g' ≠ b1 := fun g' hg' => by
    have hs := HS.out
    have l5 := L5.out
    rcases AN.out.fr g' hg' with h | h | h
    · have := LO.out.1 g' h
      omega
    · have := LO.out.2 g' h
      omega
    · omega
  refine ⟨AN.out.l0.same fun g' hg' => setRow_other _ _ _ _ (lo g' (.inl hg')), AN.out.l1.same fun g' hg' => setRow_other _ _ _ _ (lo g' (.inr hg')), fun g' hg' => ?_, below_setRow (B2.out.trans (AN.out.bl.mono B2.out.size)) (by have := HS.out; omega) _⟩
  rcases AN.out.fr g' hg' with h | h | h
  · exact .inl h
  · exact .inr (.inl h)
  · exact .inr (.inr (Nat.le_trans B2.out.size h))

set_option maxHeartbeats 2000000 in
theorem rdouble_ok1 {N : Nat → List ByteArray} (a0 a1 : Option Addr) (c0 c1 : Nat) (i : Nat) (w : World) (hi : i < (N 1).length) (h64 : (N 1).length ≤ 64) (h0 : Lst 0 w (.slice a0 (N 0).length c0) (N 0)) (h1 : Lst 0 w (.slice a1 (N 1).length c1) (N 1)) :
    Calls Try.prog 23 #[.agg #[.slice a0 (N 0).length c0, .slice a1 (N 1).length c1], .int .i64 1, .int .i64 (i : Int)] w fun e w' => ∃ y0 y1, e = .returned (.tuple #[.agg #[y0, y1], .int .i64 (snd N 1 ((N 1).getD i ByteArray.empty))]) ∧ An w (.slice a0 (N 0).length c0) (.slice a1 (N 1).length c1) (sndN N 1 ((N 1).getD i ByteArray.empty)) y0 y1 w' := by
  have kW := fun w => hide1 (wrong_any (N := N) a0 a1 c0 c1 1 i w)
  have e0 : plc N 1 i = 0 := plc_zero (k := 1) (by omega) hi
  rw [e0] at kW
  obtain ⟨g, c, hx, hcl, _, hgl, _, _⟩ := h1.cell hi
  cases hx
  generalize (N 1).getD i ByteArray.empty = s at *
  have kT := fun w => hide1 (to_any1 a0 (some ⟨g, 0, none⟩) (N 0).length c0 (N 1).length c1 w)
  have kS := fun W (hb : Below w.heap.size w W) => hide1 (rsend_any (h0.below hb (Nat.le_refl _)) (h1.below hb (Nat.le_refl _)) 1 s)
  have KS := hide1 kS
  have LO : Hid ((∀ g', (Value.slice a0 (N 0).length c0).ownBlock = some g' → g' < w.heap.size) ∧ ∀ g', (Value.slice (some ⟨g, 0, none⟩) (N 1).length c1).ownBlock = some g' → g' < w.heap.size) := ⟨fun g' hg' => (h0.lt hg').2, fun g' hg' => (h1.lt hg').2⟩
  have CI := hide1 hcl
  have GL := hide1 hgl
  have hik : (i : Int) < ((N 1).length : Int) := by omega
  have hik' : i < (N 1).length := hi
  have h64' := h64
  generalize snd N 1 s = cc at *
  generalize sndN N 1 s = M at *
  clear e0 h0 h1 hi h64 hcl hgl kS
  generalize (N 0).length = n0 at *
  generalize (N 1).length = n1 at *
  go_enter Try.func23, Try.ntmps23
  go_wp2_with fail
  have h2 := two_new w (.cells #[.slice a0 n0 c0, .slice (some ⟨g, 0, none⟩) n1 c1] 27) (.cells #[.slice none 0 0, .slice none 0 0] 27)
  have hB := below2 (w := w) (.cells #[.slice a0 n0 c0, .slice (some ⟨g, 0, none⟩) n1 c1] 27) (.cells #[.slice none 0 0, .slice none 0 0] 27)
  have H2 := hide1 h2
  have HB := hide1 hB
  clear h2 hB
  generalize (w.alloc _).alloc _ = W1 at H2 HB ⊢
  obtain ⟨b0, hb0⟩ : ∃ b0, w.heap.size = b0 := ⟨_, rfl⟩
  obtain ⟨b1, hb1⟩ : ∃ b1, w.heap.size + 1 = b1 := ⟨_, rfl⟩
  have HS : Hid (w.heap.size = b0 ∧ b0 + 1 = b1) := ⟨hb0, by omega⟩
  rw [hb1, hb0] at H2
  rw [hb1, hb0]
  clear hb0 hb1
  refine ((kW _).out).mono ?_
  rintro e W2 ⟨rfl, hbb⟩
  have R0' := hide1 ((hbb.block b0 (lt_heap H2.out.1)).trans H2.out.1)
  have R1' := hide1 ((hbb.block b1 (lt_heap H2.out.2)).trans H2.out.2)
  have B2' : Hid (Below w.heap.size w W2) := HB.out.trans (hbb.mono HB.out.size)
  clear hbb H2 HB
  have R0 := R0'
  have R1 := R1'
  have B2 := B2'
  clear R0' R1' B2'
  obtain ⟨d0, d1, _, _, _⟩ := box2 R0.out
  have CI4 := hide1 ((B2.out.cell (p := ⟨g, i, none⟩) GL.out).trans CI.out)
  have GL4 : Hid (g < W2.heap.size) := Nat.lt_of_lt_of_le GL.out B2.out.size
  go_upto_region 3 with (fail)
  clear d0 d1
  refine region_f (F := [8, 11]) (S := fun W => W.cell? ⟨b0, 0, none⟩ = some (.slice a0 n0 c0) ∧ W.cell? ⟨b0, 1, none⟩ = some (.slice (some ⟨g, 0, none⟩) n1 c1) ∧ b0 < W.heap.size ∧ W.cell? ⟨g, i, none⟩ = some (.string s) ∧ g < W.heap.size) (by kernel_rfl) ⟨(box2 R0.out).1, (box2 R0.out).2.1, (box2 R0.out).2.2.2.2, CI4.out, GL4.out⟩ (fun hS => ?_)
  generalize hU : World.drew W2 = U at hS ⊢
  have R1 : Hid (U.heap[b1]? = some (.cells #[.slice none 0 0, .slice none 0 0] 27 (0, 0))) := by rw [← hU]; exact R1.out
  have B2 : Hid (Below w.heap.size w U) := by rw [← hU]; exact B2.out.drew
  clear hU
  refine take_f 0 18 (.agg #[.slice a0 n0 c0, .slice (some ⟨g, 0, none⟩) n1 c1]) [8, 9, 10, 11, 12] rfl rfl (by kernel_rfl) (by kernel_rfl) (by kernel_rfl) (by kernel_rfl) (by kernel_rfl) (by kernel_rfl) (fun _ _ _ h => h) rfl (fun w hSw => by obtain ⟨g0, g1, g2, g3, g4⟩ := hSw; go_simp) hS ?_
  try simp only [List.setIfInBounds_toArray, List.set_cons_zero, List.set_cons_succ]
  refine take_p 1 19 (.int .i64 1) rfl rfl (by kernel_rfl) (by kernel_rfl) (by kernel_rfl) (fun _ _ _ h => h) rfl (fun w => by go_simp) ?_
  try simp only [List.setIfInBounds_toArray, List.set_cons_zero, List.set_cons_succ]
  refine take_f 2 20 (.agg #[.slice a0 n0 c0, .slice (some ⟨g, 0, none⟩) n1 c1]) [4, 6, 7, 8, 9, 10, 11, 12] rfl rfl (by kernel_rfl) (by kernel_rfl) (by kernel_rfl) (by kernel_rfl) (by kernel_rfl) (by kernel_rfl) (fun _ _ _ h => h) rfl (fun w hSw => by obtain ⟨g0, g1, g2, g3, g4⟩ := hSw; go_simp) hS ?_
  try simp only [List.setIfInBounds_toArray, List.set_cons_zero, List.set_cons_succ]
  refine take_p 3 21 (.int .i64 1) rfl rfl (by kernel_rfl) (by kernel_rfl) (by kernel_rfl) (fun _ _ _ h => h) rfl (fun w => by go_simp) ?_
  try simp only [List.setIfInBounds_toArray, List.set_cons_zero, List.set_cons_succ]
  refine take_p 5 23 (.int .i64 (i : Int)) rfl rfl (by kernel_rfl) (by kernel_rfl) (by kernel_rfl) (fun _ _ _ h => h) rfl (fun w => by go_simp) ?_
  try simp only [List.setIfInBounds_toArray, List.set_cons_zero, List.set_cons_succ]
  refine ready_f 4 (o := { dst := some 22, op := Op.call { callee := Callee.value (Operand.func 33), args := #[Operand.tmp 20, Operand.tmp 21], argTypes := #[27, 3] }, type := 25, pos := "ref.go:85", after := #[{ on := 2, ground := Ground.data }, { on := 3, ground := Ground.data }], guard := none }) (by kernel_rfl) rfl (fun K hK => ?_)
  go_simp
  refine (kT _).out.mono ?_
  rintro e U5 ⟨rfl, hb5⟩
  refine hK.out _ _ (fun _ h => ⟨(hb5.cell (p := ⟨b0, 0, none⟩) h.2.2.1).trans h.1, (hb5.cell (p := ⟨b0, 1, none⟩) h.2.2.1).trans h.2.1, Nat.lt_of_lt_of_le h.2.2.1 hb5.size, (hb5.cell (p := ⟨g, i, none⟩) h.2.2.2.2).trans h.2.2.2.1, Nat.lt_of_lt_of_le h.2.2.2.2 hb5.size⟩) ?_
  clear hK K
  try simp only [Act.put, List.setIfInBounds_toArray, List.set_cons_zero, List.set_cons_succ]
  replace hS : U5.cell? ⟨b0, 0, none⟩ = some (.slice a0 n0 c0) ∧ U5.cell? ⟨b0, 1, none⟩ = some (.slice (some ⟨g, 0, none⟩) n1 c1) ∧ b0 < U5.heap.size ∧ U5.cell? ⟨g, i, none⟩ = some (.string s) ∧ g < U5.heap.size := ⟨(hb5.cell (p := ⟨b0, 0, none⟩) hS.2.2.1).trans hS.1, (hb5.cell (p := ⟨b0, 1, none⟩) hS.2.2.1).trans hS.2.1, Nat.lt_of_lt_of_le hS.2.2.1 hb5.size, (hb5.cell (p := ⟨g, i, none⟩) hS.2.2.2.2).trans hS.2.2.2.1, Nat.lt_of_lt_of_le hS.2.2.2.2 hb5.size⟩
  have R1 := hide1 ((hb5.block b1 (lt_heap R1.out)).trans R1.out)
  have B2 : Hid (Below w.heap.size w U5) := B2.out.trans (hb5.mono B2.out.size)
  clear hb5
  refine take_p 6 24 (.pointer (some ⟨g, i, none⟩)) rfl rfl (by kernel_rfl) (by kernel_rfl) (by kernel_rfl) (fun _ _ _ h => h) rfl (fun w => by go_simp) ?_
  try simp only [List.setIfInBounds_toArray, List.set_cons_zero, List.set_cons_succ]
  refine take_f 7 25 (.string s) [8, 9, 10, 11, 12] rfl rfl (by kernel_rfl) (by kernel_rfl) (by kernel_rfl) (by kernel_rfl) (by kernel_rfl) (by kernel_rfl) (fun _ _ _ h => h) rfl (fun w hSw => by obtain ⟨g0, g1, g2, g3, g4⟩ := hSw; go_simp) hS ?_
  try simp only [List.setIfInBounds_toArray, List.set_cons_zero, List.set_cons_succ]
  refine ready_f 8 (o := { dst := some 26, op := Op.call { callee := Callee.value (Operand.func 21), args := #[Operand.tmp 18, Operand.tmp 19, Operand.tmp 25], argTypes := #[27, 3, 9] }, type := 52, pos := "ref.go:85", after := #[{ on := 0, ground := Ground.data }, { on := 1, ground := Ground.data }, { on := 7, ground := Ground.data }, { on := 4, ground := Ground.chain }], guard := none }) (by kernel_rfl) rfl (fun K hK => ?_)
  go_simp
  refine (KS.out U5 B2.out).out.mono ?_
  rintro e U6 ⟨y0, y1, rfl, an⟩
  refine hK.out _ _ (fun h => absurd (by decide) h) ?_
  clear hK K
  try simp only [Act.put, List.setIfInBounds_toArray, List.set_cons_zero, List.set_cons_succ]
  obtain ⟨ay, cy, rfl⟩ := an.l0.form
  obtain ⟨az, cz, rfl⟩ := an.l1.form
  have L5 : Hid (b1 < U5.heap.size) := lt_heap R1.out
  have R1 := hide1 ((an.bl.block b1 (lt_heap R1.out)).trans R1.out)
  have AN := hide1 an
  clear an hS
  refine take_p 9 27 (.agg #[.slice ay (M 0).length cy, .slice az (M 1).length cz]) rfl rfl (by kernel_rfl) (by kernel_rfl) (by kernel_rfl) (fun _ _ _ h => h) rfl (fun w => by go_simp) ?_
  try simp only [List.setIfInBounds_toArray, List.set_cons_zero, List.set_cons_succ]
  refine take_p 10 28 (.int .i64 cc) rfl rfl (by kernel_rfl) (by kernel_rfl) (by kernel_rfl) (fun _ _ _ h => h) rfl (fun w => by go_simp) ?_
  try simp only [List.setIfInBounds_toArray, List.set_cons_zero, List.set_cons_succ]
  refine ready_f 11 (o := { dst := none, op := Op.store 27 (Operand.tmp 6) (Operand.tmp 27), type := 0, pos := "ref.go:85", after := #[{ on := 9, ground := Ground.data }, { on := 8, ground := Ground.chain }, { on := 0, ground := Ground.phase }, { on := 1, ground := Ground.phase }, { on := 2, ground := Ground.phase }, { on := 3, ground := Ground.phase }, { on := 4, ground := Ground.phase }, { on := 5, ground := Ground.phase }, { on := 6, ground := Ground.phase }, { on := 7, ground := Ground.phase }, { on := 8, ground := Ground.phase }, { on := 9, ground := Ground.phase }, { on := 10, ground := Ground.phase }], guard := none }) (by kernel_rfl) rfl (fun K hK => ?_)
  rw [if_pos (by rfl)]
  refine wp_store_row 27 _ _ rfl b1 _ rfl rfl 27 _ R1.out (by kernel_rfl) rfl (by kernel_rfl) ?_
  refine hK.out _ _ (fun h => absurd (by decide) h) ?_
  clear hK K
  refine take_p 12 7 (.int .i64 cc) rfl rfl (by kernel_rfl) (by kernel_rfl) (by kernel_rfl) (fun _ _ _ h => h) rfl (fun w => by go_simp) ?_
  try simp only [List.setIfInBounds_toArray, List.set_cons_zero, List.set_cons_succ]
  refine done_f (by kernel_rfl) ?_ _
  go_wp2
  refine ret_n2 Try.results23 b1 _ _ _ rfl rfl (setRow_heap _ b1 _ _ _ _ R1.out) rfl ⟨_, _, rfl, ?_⟩
  have lo : ∀ g', (Value.slice ay (M 0).length cy).ownBlock = some g' ∨ (Value.slice az (M 1).length cz).ownBlock = some g' → g' ≠ b1 := fun g' hg' => by
    have hs := HS.out
    have l5 := L5.out
    rcases AN.out.fr g' hg' with h | h | h
    · have := LO.out.1 g' h
      omega
    · have := LO.out.2 g' h
      omega
    · omega
  refine ⟨AN.out.l0.same fun g' hg' => setRow_other _ _ _ _ (lo g' (.inl hg')), AN.out.l1.same fun g' hg' => setRow_other _ _ _ _ (lo g' (.inr hg')), fun g' hg' => ?_, below_setRow (B2.out.trans (AN.out.bl.mono B2.out.size)) (by have := HS.out; omega) _⟩
  rcases AN.out.fr g' hg' with h | h | h
  · exact .inl h
  · exact .inr (.inl h)
  · exact .inr (.inr (Nat.le_trans B2.out.size h))

theorem rdouble_any {N : Nat → List ByteArray} {x0 x1 : Value} {w : World} (h0 : Lst 0 w x0 (N 0)) (h1 : Lst 0 w x1 (N 1)) (hs : Sm N) (q i : Int) :
    Calls Try.prog 23 #[.agg #[x0, x1], .int .i64 q, .int .i64 i] w fun e w' => ∃ y0 y1, e = .returned (.tuple #[.agg #[y0, y1], .int .i64 (dblC N q i)]) ∧ An w x0 x1 (dblN N q i) y0 y1 w' := by
  obtain ⟨a0, c0, rfl⟩ := h0.form
  obtain ⟨a1, c1, rfl⟩ := h1.form
  unfold dblC dblN
  by_cases hp : plc N q i = 0
  · rw [if_pos hp, if_pos hp]
    obtain ⟨k, j, rfl, rfl, hk, hj⟩ := plc_ok hp
    rcases (show k = 0 ∨ k = 1 by omega) with rfl | rfl
    · exact rdouble_ok0 a0 a1 c0 c1 j w hj (hs.len 0) h0 h1
    · exact rdouble_ok1 a0 a1 c0 c1 j w hj (hs.len 1) h0 h1
  · rw [if_neg hp, if_neg hp]
    refine (rdouble_fail a0 a1 c0 c1 q i w hp).mono ?_
    rintro e w' ⟨rfl, hb⟩
    exact ⟨_, _, rfl, An.same h0 h1 hb⟩

end Go.Proofs.Ytfnedohampmnoaa
