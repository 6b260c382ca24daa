/- The document's Send: whatever it is given. -/
import Derived.Test.YtfnedohampmnoaaYh
namespace Go.Proofs.Ytfnedohampmnoaa
open Go.RowKit
set_option maxRecDepth 100000
attribute [local go_sem] not_any

/- one of three may come up -/
theorem ready3_f {P : Program} {ops : Array Oper} {Q : Exit → Act → World → Prop} {md : Region.Mode} {S : World → Prop} {F : List Nat} (i j k : Nat) {o o' o2 : Oper} {fuel : Nat} {listed : Array Bool} {a : Act} {w : World} (hr : Region.ready md ops listed = [i, j, k]) (ho : ops[i]? = some o) (ho' : ops[j]? = some o') (ho2 : ops[k]? = some o2)
    (h : ∀ K : Act → World → Prop, Shut (∀ a' w', (i ∉ F → S w → S w') → wpAnyF P md ops Q S F fuel (listed.setIfInBounds i true) a' w' → K a' w') → if Region.wanted o (yielded ops a.tmps) = true then Oper.wp P o a w K Q else K (a.put o.dst undef) w)
    (h' : ∀ K : Act → World → Prop, Shut (∀ a' w', (j ∉ F → S w → S w') → wpAnyF P md ops Q S F fuel (listed.setIfInBounds j true) a' w' → K a' w') → if Region.wanted o' (yielded ops a.tmps) = true then Oper.wp P o' a w K Q else K (a.put o'.dst undef) w)
    (h2 : ∀ K : Act → World → Prop, Shut (∀ a' w', (k ∉ F → S w → S w') → wpAnyF P md ops Q S F fuel (listed.setIfInBounds k true) a' w' → K a' w') → if Region.wanted o2 (yielded ops a.tmps) = true then Oper.wp P o2 a w K Q else K (a.put o2.dst undef) w) :
    wpAnyF P md ops Q S F (fuel + 1) listed a w := by
  refine ⟨fun h0 => (by rw [hr] at h0; cases h0), ?_⟩
  intro l hl
  rw [hr] at hl
  rcases List.mem_cons.1 hl with e | hl
  · rw [e]
    exact wpOp_step ho (fun K hK => h K (fun a w hS hW => hK a w ⟨hS, hW⟩))
  · rcases List.mem_cons.1 hl with e | hl
    · rw [e]
      exact wpOp_step ho' (fun K hK => h' K (fun a w hS hW => hK a w ⟨hS, hW⟩))
    · have e : l = k := by simpa using hl
      rw [e]
      exact wpOp_step ho2 (fun K hK => h2 K (fun a w hS hW => hK a w ⟨hS, hW⟩))

theorem Lst.empty {B : Nat} {w : World} (hB : B ≤ w.heap.size) : Lst B (w.alloc (.cells #[] 9)) (.slice (some ⟨w.heap.size, 0, none⟩) 0 0) [] :=
  ⟨rfl, .inr ⟨w.heap.size, 0, #[], rfl, hB, heap_alloc_new _ _, Nat.le_refl _, by unfold maxLen; omega, rfl, rfl⟩⟩
theorem Lst.one {B : Nat} {w : World} (s : ByteArray) (hB : B ≤ w.heap.size) : Lst B (w.alloc (.cells #[.string s] 9)) (.slice (some ⟨w.heap.size, 0, none⟩) 1 1) [s] :=
  ⟨rfl, .inr ⟨w.heap.size, 1, #[.string s], rfl, hB, heap_alloc_new _ _, Nat.le_refl _, by unfold maxLen; omega, rfl, rfl⟩⟩

set_option maxHeartbeats 1000000 in
theorem rsend_fail {N : Nat → List ByteArray} (a0 a1 : Option Addr) (c0 c1 : Nat) (q : Int) (s : ByteArray) (w : World) (hc : snd N q s ≠ 0) :
    Calls Try.prog 21 #[.agg #[.slice a0 (N 0).length c0, .slice a1 (N 1).length c1], .int .i64 q, .string s] w fun e w' => e = .returned (.tuple #[.agg #[.slice a0 (N 0).length c0, .slice a1 (N 1).length c1], .int .i64 (snd N q s)]) ∧ Below w.heap.size w w' := by
  unfold snd at *
  by_cases hb : q < 0 ∨ 1 < q
  · rw [if_pos hb]
    generalize (N 0).length = n0 at *
    generalize (N 1).length = n1 at *
    by_cases h0 : q < 0
    · go_enter Try.func21, Try.ntmps21
      go_wp2
      exact ret_n2 Try.results21 (w.heap.size + 1) _ _ _ rfl rfl (alloc2 _ _ _) rfl ⟨rfl, below2 _ _⟩
    · have h1 : 1 < q := by omega
      go_enter Try.func21, Try.ntmps21
      go_wp2
      exact ret_n2 Try.results21 (w.heap.size + 1) _ _ _ rfl rfl (alloc2 _ _ _) rfl ⟨rfl, below2 _ _⟩
  · rw [if_neg hb] at *
    have h0 : ¬ q < 0 := fun h => hb (.inl h)
    have h1 : ¬ 1 < q := fun h => hb (.inr h)
    by_cases h2 : 131072 < s.size
    · rw [if_pos h2]
      have h2' : (131072 : Int) < (s.size : Int) := by omega
      generalize (N 0).length = n0 at *
      generalize (N 1).length = n1 at *
      go_enter Try.func21, Try.ntmps21
      go_wp2
      exact ret_n2 Try.results21 (w.heap.size + 1) _ _ _ rfl rfl (alloc2 _ _ _) rfl ⟨rfl, below2 _ _⟩
    · rw [if_neg h2] at *
      have h2' : ¬ (131072 : Int) < (s.size : Int) := by omega
      by_cases h3 : 64 ≤ (N q.toNat).length
      · rw [if_pos h3]
        rcases (show q = 0 ∨ q = 1 by omega) with rfl | rfl
        · change 64 ≤ (N 0).length at h3
          have kT := fun w => hide1 (to_any0 a0 a1 (N 0).length c0 (N 1).length c1 w)
          generalize (N 0).length = n0 at *
          generalize (N 1).length = n1 at *
          have h3' : (64 : Int) ≤ (n0 : Int) := by omega
          go_enter Try.func21, Try.ntmps21
          go_wp2_with fail
          have h2 := two_new w (.cells #[.slice a0 n0 c0, .slice a1 n1 c1] 27) (.cells #[.slice none 0 0, .slice none 0 0] 27)
          have hB := below2 (w := w) (.cells #[.slice a0 n0 c0, .slice a1 n1 c1] 27) (.cells #[.slice none 0 0, .slice none 0 0] 27)
          have H2 := hide1 h2
          have HB := hide1 hB
          clear h2 hB
          generalize (w.alloc _).alloc _ = W1 at H2 HB ⊢
          obtain ⟨b0, hb0⟩ : ∃ b0, w.heap.size = b0 := ⟨_, rfl⟩
          obtain ⟨b1, hb1⟩ : ∃ b1, w.heap.size + 1 = b1 := ⟨_, rfl⟩
          have HS : Hid (w.heap.size = b0 ∧ b0 + 1 = b1) := ⟨hb0, by omega⟩
          rw [hb1, hb0] at H2
          rw [hb1, hb0]
          clear hb0 hb1
          refine ((kT _).out).mono ?_
          rintro e W2 ⟨rfl, hbb⟩
          have R0' := hide1 ((hbb.block b0 (lt_heap H2.out.1)).trans H2.out.1)
          have R1' := hide1 ((hbb.block b1 (lt_heap H2.out.2)).trans H2.out.2)
          have B2' : Hid (Below w.heap.size w W2) := HB.out.trans (hbb.mono HB.out.size)
          clear hbb H2 HB
          have R0 := R0'
          have R1 := R1'
          have B2 := B2'
          clear R0' R1' B2'
          obtain ⟨d0, d1, _, _, _⟩ := box2 R0.out
          obtain ⟨f0, f1, z0, z1, _⟩ := box2 R1.out
          go_wp2
          exact ret_n2 Try.results21 b1 _ _ _ rfl rfl (set_box2 R1.out) rfl ⟨rfl, below_set2 B2.out (by have := HS.out; omega)⟩
        · change 64 ≤ (N 1).length at h3
          have kT := fun w => hide1 (to_any1 a0 a1 (N 0).length c0 (N 1).length c1 w)
          generalize (N 0).length = n0 at *
          generalize (N 1).length = n1 at *
          have h3' : (64 : Int) ≤ (n1 : Int) := by omega
          go_enter Try.func21, Try.ntmps21
          go_wp2_with fail
          have h2 := two_new w (.cells #[.slice a0 n0 c0, .slice a1 n1 c1] 27) (.cells #[.slice none 0 0, .slice none 0 0] 27)
          have hB := below2 (w := w) (.cells #[.slice a0 n0 c0, .slice a1 n1 c1] 27) (.cells #[.slice none 0 0, .slice none 0 0] 27)
          have H2 := hide1 h2
          have HB := hide1 hB
          clear h2 hB
          generalize (w.alloc _).alloc _ = W1 at H2 HB ⊢
          obtain ⟨b0, hb0⟩ : ∃ b0, w.heap.size = b0 := ⟨_, rfl⟩
          obtain ⟨b1, hb1⟩ : ∃ b1, w.heap.size + 1 = b1 := ⟨_, rfl⟩
          have HS : Hid (w.heap.size = b0 ∧ b0 + 1 = b1) := ⟨hb0, by omega⟩
          rw [hb1, hb0] at H2
          rw [hb1, hb0]
          clear hb0 hb1
          refine ((kT _).out).mono ?_
          rintro e W2 ⟨rfl, hbb⟩
          have R0' := hide1 ((hbb.block b0 (lt_heap H2.out.1)).trans H2.out.1)
          have R1' := hide1 ((hbb.block b1 (lt_heap H2.out.2)).trans H2.out.2)
          have B2' : Hid (Below w.heap.size w W2) := HB.out.trans (hbb.mono HB.out.size)
          clear hbb H2 HB
          have R0 := R0'
          have R1 := R1'
          have B2 := B2'
          clear R0' R1' B2'
          obtain ⟨d0, d1, _, _, _⟩ := box2 R0.out
          obtain ⟨f0, f1, z0, z1, _⟩ := box2 R1.out
          go_wp2
          exact ret_n2 Try.results21 b1 _ _ _ rfl rfl (set_box2 R1.out) rfl ⟨rfl, below_set2 B2.out (by have := HS.out; omega)⟩
      · rw [if_neg h3] at hc
        exact absurd rfl hc

set_option maxHeartbeats 2000000 in
theorem rsend_ok0 {N : Nat → List ByteArray} (a0 a1 : Option Addr) (c0 c1 : Nat) (s : ByteArray) (w : World) (h64 : (N 0).length < 64) (hs : s.size ≤ 131072) (hA : Lst 0 w (.slice a0 (N 0).length c0) (N 0)) :
    Calls Try.prog 21 #[.agg #[.slice a0 (N 0).length c0, .slice a1 (N 1).length c1], .int .i64 0, .string s] w fun e w' => ∃ v', e = .returned (.tuple #[.agg #[v', .slice a1 (N 1).length c1], .int .i64 0]) ∧ Lst w.heap.size w' v' ((N 0) ++ [s]) ∧ Below w.heap.size w w' := by
  have kT := fun w => hide1 (to_any0 a0 a1 (N 0).length c0 (N 1).length c1 w)
  have HA := hide1 hA
  have H64 := hide1 h64
  have h2' : ¬ (131072 : Int) < (s.size : Int) := by omega
  have h3' : ¬ (64 : Int) ≤ ((N 0).length : Int) := by omega
  clear hA h64 hs
  obtain ⟨n0, hn0⟩ : ∃ n0, (N 0).length = n0 := ⟨_, rfl⟩
  obtain ⟨n1, hn1⟩ : ∃ n1, (N 1).length = n1 := ⟨_, rfl⟩
  rw [hn0] at h3' HA
  rw [hn0, hn1] at kT
  rw [hn0, hn1]
  clear hn0 hn1
  go_enter Try.func21, Try.ntmps21
  go_wp2_with fail
  have h2 := two_new w (.cells #[.slice a0 n0 c0, .slice a1 n1 c1] 27) (.cells #[.slice none 0 0, .slice none 0 0] 27)
  have hB := below2 (w := w) (.cells #[.slice a0 n0 c0, .slice a1 n1 c1] 27) (.cells #[.slice none 0 0, .slice none 0 0] 27)
  have H2 := hide1 h2
  have HB := hide1 hB
  clear h2 hB
  generalize (w.alloc _).alloc _ = W1 at H2 HB ⊢
  obtain ⟨b0, hb0⟩ : ∃ b0, w.heap.size = b0 := ⟨_, rfl⟩
  obtain ⟨b1, hb1⟩ : ∃ b1, w.heap.size + 1 = b1 := ⟨_, rfl⟩
  have HS : Hid (w.heap.size = b0 ∧ b0 + 1 = b1) := ⟨hb0, by omega⟩
  rw [hb1, hb0] at H2
  rw [hb1, hb0]
  clear hb0 hb1
  refine ((kT _).out).mono ?_
  rintro e W2 ⟨rfl, hbb⟩
  have R0' := hide1 ((hbb.block b0 (lt_heap H2.out.1)).trans H2.out.1)
  have R1' := hide1 ((hbb.block b1 (lt_heap H2.out.2)).trans H2.out.2)
  have B2' : Hid (Below w.heap.size w W2) := HB.out.trans (hbb.mono HB.out.size)
  clear hbb H2 HB
  have R0 := R0'
  have R1 := R1'
  have B2 := B2'
  clear R0' R1' B2'
  obtain ⟨d0, d1, _, _, _⟩ := box2 R0.out
  go_upto_region 7 with (fail)
  clear d0 d1
  refine region_f (F := [11]) (S := fun W => W.cell? ⟨b0, 0, none⟩ = some (.slice a0 n0 c0) ∧ W.cell? ⟨b0, 1, none⟩ = some (.slice a1 n1 c1) ∧ b0 < W.heap.size) (by kernel_rfl) ⟨(box2 R0.out).1, (box2 R0.out).2.1, (box2 R0.out).2.2.2.2⟩ (fun hS => ?_)
  generalize hU : World.drew W2 = U at hS ⊢
  have R0 : Hid (U.heap[b0]? = some (.cells #[.slice a0 n0 c0, .slice a1 n1 c1] 27 (0, 0))) := by rw [← hU]; exact R0.out
  have R1 : Hid (U.heap[b1]? = some (.cells #[.slice none 0 0, .slice none 0 0] 27 (0, 0))) := by rw [← hU]; exact R1.out
  have B2 : Hid (Below w.heap.size w U) := by rw [← hU]; exact B2.out.drew
  clear hU
  refine take_f 0 25 (.agg #[.slice a0 n0 c0, .slice a1 n1 c1]) [10, 11, 12] rfl rfl (by kernel_rfl) (by kernel_rfl) (by kernel_rfl) (by kernel_rfl) (by kernel_rfl) (by kernel_rfl) (fun _ _ _ h => h) rfl (fun w hSw => by obtain ⟨g0, g1, g2⟩ := hSw; go_simp) hS ?_
  try simp only [List.setIfInBounds_toArray, List.set_cons_zero, List.set_cons_succ]
  refine take_p 1 26 (.int .i64 0) rfl rfl (by kernel_rfl) (by kernel_rfl) (by kernel_rfl) (fun _ _ _ h => h) rfl (fun w => by go_simp) ?_
  try simp only [List.setIfInBounds_toArray, List.set_cons_zero, List.set_cons_succ]
  refine take_f 3 28 (.agg #[.slice a0 n0 c0, .slice a1 n1 c1]) [5, 6, 9, 10, 11, 12] rfl rfl (by kernel_rfl) (by kernel_rfl) (by kernel_rfl) (by kernel_rfl) (by kernel_rfl) (by kernel_rfl) (fun _ _ _ h => h) rfl (fun w hSw => by obtain ⟨g0, g1, g2⟩ := hSw; go_simp) hS ?_
  try simp only [List.setIfInBounds_toArray, List.set_cons_zero, List.set_cons_succ]
  refine take_p 4 29 (.int .i64 0) rfl rfl (by kernel_rfl) (by kernel_rfl) (by kernel_rfl) (fun _ _ _ h => h) rfl (fun w => by go_simp) ?_
  try simp only [List.setIfInBounds_toArray, List.set_cons_zero, List.set_cons_succ]
  refine take_p 7 32 (.string s) rfl rfl (by kernel_rfl) (by kernel_rfl) (by kernel_rfl) (fun _ _ _ h => h) rfl (fun w => by go_simp) ?_
  try simp only [List.setIfInBounds_toArray, List.set_cons_zero, List.set_cons_succ]
  obtain ⟨bs, hbs⟩ : ∃ bs, U.heap.size = bs := ⟨_, rfl⟩
  have SZ : Hid (bs ≤ U.heap.size) := Nat.le_of_eq hbs.symm
  have WB : Hid (b0 < bs ∧ b1 < bs ∧ w.heap.size ≤ bs) := ⟨by rw [← hbs]; exact lt_heap R0.out, by rw [← hbs]; exact lt_heap R1.out, by rw [← hbs]; exact B2.out.size⟩
  clear hbs
  refine ready3_f 2 5 8 (o := { dst := some 27, op := Op.buildSlice 25 0 #[], type := 25, pos := "ref.go:60", after := #[], guard := none }) (o' := { dst := some 30, op := Op.call { callee := Callee.value (Operand.func 33), args := #[Operand.tmp 28, Operand.tmp 29], argTypes := #[27, 3] }, type := 25, pos := "ref.go:60", after := #[{ on := 3, ground := Ground.data }, { on := 4, ground := Ground.data }], guard := none }) (o2 := { dst := some 33, op := Op.buildSlice 25 1 #[(0, Operand.tmp 32)], type := 25, pos := "ref.go:60", after := #[{ on := 7, ground := Ground.data }], guard := none }) (by kernel_rfl) rfl rfl rfl (fun K hK => ?_) (fun K hK => ?_) (fun K hK => ?_)
  · go_simp
    refine hK.out _ _ (fun _ h => ⟨((below1 _).cell (p := ⟨b0, 0, none⟩) h.2.2).trans h.1, ((below1 _).cell (p := ⟨b0, 1, none⟩) h.2.2).trans h.2.1, Nat.lt_of_lt_of_le h.2.2 (below1 _).size⟩) ?_
    clear hK K
    try simp only [Act.put, List.setIfInBounds_toArray, List.set_cons_zero, List.set_cons_succ]
    have hb : Below U.heap.size U (U.alloc (.cells #[] 9)) := below1 _
    have NEW := hide1 (Lst.empty (w := U) SZ.out)
    generalize World.alloc U _ = V1 at hb NEW ⊢
    replace R1 := hide1 ((hb.block b1 (lt_heap R1.out)).trans R1.out)
    replace B2 : Hid (Below w.heap.size w V1) := B2.out.trans (hb.mono B2.out.size)
    replace SZ : Hid (bs ≤ V1.heap.size) := Nat.le_trans SZ.out hb.size
    have O2 := NEW
    clear NEW hb
    refine ready2_f 5 8 (o := { dst := some 30, op := Op.call { callee := Callee.value (Operand.func 33), args := #[Operand.tmp 28, Operand.tmp 29], argTypes := #[27, 3] }, type := 25, pos := "ref.go:60", after := #[{ on := 3, ground := Ground.data }, { on := 4, ground := Ground.data }], guard := none }) (o' := { dst := some 33, op := Op.buildSlice 25 1 #[(0, Operand.tmp 32)], type := 25, pos := "ref.go:60", after := #[{ on := 7, ground := Ground.data }], guard := none }) (by kernel_rfl) rfl rfl (fun K hK => ?_) (fun K hK => ?_)
    · go_simp
      refine (kT _).out.mono ?_
      rintro e V2 ⟨rfl, hb⟩
      refine hK.out _ _ (fun _ h => ⟨(hb.cell (p := ⟨b0, 0, none⟩) h.2.2).trans h.1, (hb.cell (p := ⟨b0, 1, none⟩) h.2.2).trans h.2.1, Nat.lt_of_lt_of_le h.2.2 hb.size⟩) ?_
      clear hK K
      try simp only [Act.put, List.setIfInBounds_toArray, List.set_cons_zero, List.set_cons_succ]
      replace O2 := hide1 (O2.out.below hb (Nat.le_refl _))
      replace R1 := hide1 ((hb.block b1 (lt_heap R1.out)).trans R1.out)
      replace B2 : Hid (Below w.heap.size w V2) := B2.out.trans (hb.mono B2.out.size)
      replace SZ : Hid (bs ≤ V2.heap.size) := Nat.le_trans SZ.out hb.size
      clear hb
      refine ready2_f 6 8 (o := { dst := some 31, op := Op.call { callee := Callee.builtin Builtin.append, args := #[Operand.tmp 27, Operand.tmp 30], argTypes := #[25, 25] }, type := 25, pos := "ref.go:60", after := #[{ on := 2, ground := Ground.data }, { on := 5, ground := Ground.data }, { on := 5, ground := Ground.chain }], guard := none }) (o' := { dst := some 33, op := Op.buildSlice 25 1 #[(0, Operand.tmp 32)], type := 25, pos := "ref.go:60", after := #[{ on := 7, ground := Ground.data }], guard := none }) (by kernel_rfl) rfl rfl (fun K hK => ?_) (fun K hK => ?_)
      · rw [if_pos (by rfl)]
        refine wp_append_lst _ _ rfl rfl rfl O2.out (HA.out.below B2.out (Nat.le_refl _)).rd (by have := H64.out; simp; omega) SZ.out ?_
        intro v6 V3 ho hg hf
        replace hg : V2.grownBy V3 (some U.heap.size) := hg
        have hlo : bs ≤ U.heap.size := (O2.out.lt rfl).1
        have ne0 : some b0 ≠ some U.heap.size := fun e => by have := WB.out; cases e; omega
        have ne1 : some b1 ≠ some U.heap.size := fun e => by have := WB.out; cases e; omega
        refine hK.out _ _ (fun _ h => ⟨hg.cell (a := ⟨b0, 0, none⟩) h.1 ne0, hg.cell (a := ⟨b0, 1, none⟩) h.2.1 ne0, Nat.lt_of_lt_of_le h.2.2 hg.size⟩) ?_
        clear hK K
        try simp only [Act.put, List.setIfInBounds_toArray, List.set_cons_zero, List.set_cons_succ]
        replace R1 := hide1 ((hg.block b1 (lt_heap R1.out) ne1).trans R1.out)
        replace B2 : Hid (Below w.heap.size w V3) := B2.out.grown hg B2.out.size (fun k' hk' => by have := WB.out; cases hk'; omega)
        replace SZ : Hid (bs ≤ V3.heap.size) := Nat.le_trans SZ.out hg.size
        rw [List.nil_append] at ho
        have O6 := hide1 ho
        clear hg hf ho ne0 ne1 O2 hlo
        refine ready_f 8 (o := { dst := some 33, op := Op.buildSlice 25 1 #[(0, Operand.tmp 32)], type := 25, pos := "ref.go:60", after := #[{ on := 7, ground := Ground.data }], guard := none }) (by kernel_rfl) rfl (fun K hK => ?_)
        go_simp
        refine hK.out _ _ (fun _ h => ⟨((below1 _).cell (p := ⟨b0, 0, none⟩) h.2.2).trans h.1, ((below1 _).cell (p := ⟨b0, 1, none⟩) h.2.2).trans h.2.1, Nat.lt_of_lt_of_le h.2.2 (below1 _).size⟩) ?_
        clear hK K
        try simp only [Act.put, List.setIfInBounds_toArray, List.set_cons_zero, List.set_cons_succ]
        have hb : Below V3.heap.size V3 (V3.alloc (.cells #[.string s] 9)) := below1 _
        have NEW := hide1 (Lst.one (w := V3) s SZ.out)
        generalize World.alloc V3 _ = V4 at hb NEW ⊢
        replace O6 := hide1 (O6.out.below hb (Nat.le_refl _))
        replace R1 := hide1 ((hb.block b1 (lt_heap R1.out)).trans R1.out)
        replace B2 : Hid (Below w.heap.size w V4) := B2.out.trans (hb.mono B2.out.size)
        replace SZ : Hid (bs ≤ V4.heap.size) := Nat.le_trans SZ.out hb.size
        have E8 := NEW
        clear NEW hb
        refine ready_f 9 (o := { dst := some 34, op := Op.call { callee := Callee.builtin Builtin.append, args := #[Operand.tmp 31, Operand.tmp 33], argTypes := #[25, 25] }, type := 25, pos := "ref.go:60", after := #[{ on := 6, ground := Ground.data }, { on := 8, ground := Ground.data }, { on := 6, ground := Ground.chain }], guard := none }) (by kernel_rfl) rfl (fun K hK => ?_)
        rw [if_pos (by rfl)]
        refine wp_append_lst _ _ rfl rfl rfl O6.out E8.out.rd (by have := H64.out; simp; omega) SZ.out ?_
        intro v9 V9 ho hg hf
        have ne0 : some b0 ≠ v6.ownBlock := fun e => by have := (O6.out.lt e.symm).1; have := WB.out; omega
        have ne1 : some b1 ≠ v6.ownBlock := fun e => by have := (O6.out.lt e.symm).1; have := WB.out; omega
        refine hK.out _ _ (fun _ h => ⟨hg.cell (a := ⟨b0, 0, none⟩) h.1 ne0, hg.cell (a := ⟨b0, 1, none⟩) h.2.1 ne0, Nat.lt_of_lt_of_le h.2.2 hg.size⟩) ?_
        clear hK K
        try simp only [Act.put, List.setIfInBounds_toArray, List.set_cons_zero, List.set_cons_succ]
        have R1 := hide1 ((hg.block b1 (lt_heap R1.out) ne1).trans R1.out)
        have B2 : Hid (Below w.heap.size w V9) := B2.out.grown hg B2.out.size (fun k' hk' => by have := (O6.out.lt hk').1; have := WB.out; omega)
        obtain ⟨a9, c9, rfl⟩ := ho.form
        generalize (N 0 ++ [s]).length = m9 at *
        have O9 := hide1 ho
        clear hg hf ho ne0 ne1
        refine ready_f 10 (o := { dst := some 35, op := Op.call { callee := Callee.value (Operand.func 27), args := #[Operand.tmp 25, Operand.tmp 26, Operand.tmp 34], argTypes := #[27, 3, 25] }, type := 27, pos := "ref.go:60", after := #[{ on := 0, ground := Ground.data }, { on := 1, ground := Ground.data }, { on := 9, ground := Ground.data }, { on := 9, ground := Ground.chain }], guard := none }) (by kernel_rfl) rfl (fun K hK => ?_)
        go_simp
        refine (with_any0 a0 a1 a9 n0 c0 n1 c1 m9 c9 V9).mono ?_
        rintro e V10 ⟨rfl, hb10⟩
        refine hK.out _ _ (fun _ h => ⟨(hb10.cell (p := ⟨b0, 0, none⟩) h.2.2).trans h.1, (hb10.cell (p := ⟨b0, 1, none⟩) h.2.2).trans h.2.1, Nat.lt_of_lt_of_le h.2.2 hb10.size⟩) ?_
        clear hK K
        try simp only [Act.put, List.setIfInBounds_toArray, List.set_cons_zero, List.set_cons_succ]
        have R1 := hide1 ((hb10.block b1 (lt_heap R1.out)).trans R1.out)
        have B3 : Hid (Below w.heap.size w V10) := B2.out.trans (hb10.mono B2.out.size)
        have O10 := hide1 (O9.out.below hb10 (Nat.le_refl _))
        clear hb10 hS
        refine ready_f 11 (o := { dst := none, op := Op.store 27 (Operand.tmp 6) (Operand.tmp 35), type := 0, pos := "ref.go:60", after := #[{ on := 10, ground := Ground.data }, { on := 10, ground := Ground.chain }, { on := 0, ground := Ground.phase }, { on := 1, ground := Ground.phase }, { on := 2, ground := Ground.phase }, { on := 3, ground := Ground.phase }, { on := 4, ground := Ground.phase }, { on := 5, ground := Ground.phase }, { on := 6, ground := Ground.phase }, { on := 7, ground := Ground.phase }, { on := 8, ground := Ground.phase }, { on := 9, ground := Ground.phase }, { on := 10, ground := Ground.phase }], guard := none }) (by kernel_rfl) rfl (fun K hK => ?_)
        rw [if_pos (by rfl)]
        refine wp_store_row 27 _ _ rfl b1 _ rfl rfl 27 _ R1.out (by kernel_rfl) rfl (by kernel_rfl) ?_
        refine hK.out _ _ (fun h => absurd (by decide) h) ?_
        clear hK K
        refine take_p 12 7 (.int .i64 0) rfl rfl (by kernel_rfl) (by kernel_rfl) (by kernel_rfl) (fun _ _ _ h => h) rfl (fun w => by go_simp) ?_
        try simp only [List.setIfInBounds_toArray, List.set_cons_zero, List.set_cons_succ]
        refine done_f (by kernel_rfl) ?_ _
        go_wp2
        exact ret_n2 Try.results21 b1 _ _ _ rfl rfl (setRow_heap _ b1 _ _ _ _ R1.out) rfl ⟨_, rfl, (O10.out.setRow (by have := WB.out; omega) _).mono (by have := WB.out; omega), below_setRow B3.out (by have := HS.out; omega) _⟩
      · go_simp
        refine hK.out _ _ (fun _ h => ⟨((below1 _).cell (p := ⟨b0, 0, none⟩) h.2.2).trans h.1, ((below1 _).cell (p := ⟨b0, 1, none⟩) h.2.2).trans h.2.1, Nat.lt_of_lt_of_le h.2.2 (below1 _).size⟩) ?_
        clear hK K
        try simp only [Act.put, List.setIfInBounds_toArray, List.set_cons_zero, List.set_cons_succ]
        have hb : Below V2.heap.size V2 (V2.alloc (.cells #[.string s] 9)) := below1 _
        have NEW := hide1 (Lst.one (w := V2) s SZ.out)
        have NE : Hid (V2.heap.size ≠ U.heap.size) := Nat.ne_of_gt (O2.out.lt rfl).2
        generalize World.alloc V2 _ = V3 at hb NEW ⊢
        replace O2 := hide1 (O2.out.below hb (Nat.le_refl _))
        replace R1 := hide1 ((hb.block b1 (lt_heap R1.out)).trans R1.out)
        replace B2 : Hid (Below w.heap.size w V3) := B2.out.trans (hb.mono B2.out.size)
        replace SZ : Hid (bs ≤ V3.heap.size) := Nat.le_trans SZ.out hb.size
        have E8 := NEW
        clear NEW hb
        refine ready_f 6 (o := { dst := some 31, op := Op.call { callee := Callee.builtin Builtin.append, args := #[Operand.tmp 27, Operand.tmp 30], argTypes := #[25, 25] }, type := 25, pos := "ref.go:60", after := #[{ on := 2, ground := Ground.data }, { on := 5, ground := Ground.data }, { on := 5, ground := Ground.chain }], guard := none }) (by kernel_rfl) rfl (fun K hK => ?_)
        rw [if_pos (by rfl)]
        refine wp_append_lst _ _ rfl rfl rfl O2.out (HA.out.below B2.out (Nat.le_refl _)).rd (by have := H64.out; simp; omega) SZ.out ?_
        intro v6 V4 ho hg hf
        replace hg : V3.grownBy V4 (some U.heap.size) := hg
        have hlo : bs ≤ U.heap.size := (O2.out.lt rfl).1
        have ne0 : some b0 ≠ some U.heap.size := fun e => by have := WB.out; cases e; omega
        have ne1 : some b1 ≠ some U.heap.size := fun e => by have := WB.out; cases e; omega
        refine hK.out _ _ (fun _ h => ⟨hg.cell (a := ⟨b0, 0, none⟩) h.1 ne0, hg.cell (a := ⟨b0, 1, none⟩) h.2.1 ne0, Nat.lt_of_lt_of_le h.2.2 hg.size⟩) ?_
        clear hK K
        try simp only [Act.put, List.setIfInBounds_toArray, List.set_cons_zero, List.set_cons_succ]
        replace E8 := hide1 (E8.out.same (w' := V4) fun g hgg => hg.block g (E8.out.lt hgg).2 (fun e => NE.out ((Option.some.inj (show some V2.heap.size = some g from hgg)).trans (Option.some.inj e))))
        replace R1 := hide1 ((hg.block b1 (lt_heap R1.out) ne1).trans R1.out)
        replace B2 : Hid (Below w.heap.size w V4) := B2.out.grown hg B2.out.size (fun k' hk' => by have := WB.out; cases hk'; omega)
        replace SZ : Hid (bs ≤ V4.heap.size) := Nat.le_trans SZ.out hg.size
        rw [List.nil_append] at ho
        have O6 := hide1 ho
        clear hg hf ho ne0 ne1 O2 hlo
        refine ready_f 9 (o := { dst := some 34, op := Op.call { callee := Callee.builtin Builtin.append, args := #[Operand.tmp 31, Operand.tmp 33], argTypes := #[25, 25] }, type := 25, pos := "ref.go:60", after := #[{ on := 6, ground := Ground.data }, { on := 8, ground := Ground.data }, { on := 6, ground := Ground.chain }], guard := none }) (by kernel_rfl) rfl (fun K hK => ?_)
        rw [if_pos (by rfl)]
        refine wp_append_lst _ _ rfl rfl rfl O6.out E8.out.rd (by have := H64.out; simp; omega) SZ.out ?_
        intro v9 V9 ho hg hf
        have ne0 : some b0 ≠ v6.ownBlock := fun e => by have := (O6.out.lt e.symm).1; have := WB.out; omega
        have ne1 : some b1 ≠ v6.ownBlock := fun e => by have := (O6.out.lt e.symm).1; have := WB.out; omega
        refine hK.out _ _ (fun _ h => ⟨hg.cell (a := ⟨b0, 0, none⟩) h.1 ne0, hg.cell (a := ⟨b0, 1, none⟩) h.2.1 ne0, Nat.lt_of_lt_of_le h.2.2 hg.size⟩) ?_
        clear hK K
        try simp only [Act.put, List.setIfInBounds_toArray, List.set_cons_zero, List.set_cons_succ]
        have R1 := hide1 ((hg.block b1 (lt_heap R1.out) ne1).trans R1.out)
        have B2 : Hid (Below w.heap.size w V9) := B2.out.grown hg B2.out.size (fun k' hk' => by have := (O6.out.lt hk').1; have := WB.out; omega)
        obtain ⟨a9, c9, rfl⟩ := ho.form
        generalize (N 0 ++ [s]).length = m9 at *
        have O9 := hide1 ho
        clear hg hf ho ne0 ne1
        refine ready_f 10 (o := { dst := some 35, op := Op.call { callee := Callee.value (Operand.func 27), args := #[Operand.tmp 25, Operand.tmp 26, Operand.tmp 34], argTypes := #[27, 3, 25] }, type := 27, pos := "ref.go:60", after := #[{ on := 0, ground := Ground.data }, { on := 1, ground := Ground.data }, { on := 9, ground := Ground.data }, { on := 9, ground := Ground.chain }], guard := none }) (by kernel_rfl) rfl (fun K hK => ?_)
        go_simp
        refine (with_any0 a0 a1 a9 n0 c0 n1 c1 m9 c9 V9).mono ?_
        rintro e V10 ⟨rfl, hb10⟩
        refine hK.out _ _ (fun _ h => ⟨(hb10.cell (p := ⟨b0, 0, none⟩) h.2.2).trans h.1, (hb10.cell (p := ⟨b0, 1, none⟩) h.2.2).trans h.2.1, Nat.lt_of_lt_of_le h.2.2 hb10.size⟩) ?_
        clear hK K
        try simp only [Act.put, List.setIfInBounds_toArray, List.set_cons_zero, List.set_cons_succ]
        have R1 := hide1 ((hb10.block b1 (lt_heap R1.out)).trans R1.out)
        have B3 : Hid (Below w.heap.size w V10) := B2.out.trans (hb10.mono B2.out.size)
        have O10 := hide1 (O9.out.below hb10 (Nat.le_refl _))
        clear hb10 hS
        refine ready_f 11 (o := { dst := none, op := Op.store 27 (Operand.tmp 6) (Operand.tmp 35), type := 0, pos := "ref.go:60", after := #[{ on := 10, ground := Ground.data }, { on := 10, ground := Ground.chain }, { on := 0, ground := Ground.phase }, { on := 1, ground := Ground.phase }, { on := 2, ground := Ground.phase }, { on := 3, ground := Ground.phase }, { on := 4, ground := Ground.phase }, { on := 5, ground := Ground.phase }, { on := 6, ground := Ground.phase }, { on := 7, ground := Ground.phase }, { on := 8, ground := Ground.phase }, { on := 9, ground := Ground.phase }, { on := 10, ground := Ground.phase }], guard := none }) (by kernel_rfl) rfl (fun K hK => ?_)
        rw [if_pos (by rfl)]
        refine wp_store_row 27 _ _ rfl b1 _ rfl rfl 27 _ R1.out (by kernel_rfl) rfl (by kernel_rfl) ?_
        refine hK.out _ _ (fun h => absurd (by decide) h) ?_
        clear hK K
        refine take_p 12 7 (.int .i64 0) rfl rfl (by kernel_rfl) (by kernel_rfl) (by kernel_rfl) (fun _ _ _ h => h) rfl (fun w => by go_simp) ?_
        try simp only [List.setIfInBounds_toArray, List.set_cons_zero, List.set_cons_succ]
        refine done_f (by kernel_rfl) ?_ _
        go_wp2
        exact ret_n2 Try.results21 b1 _ _ _ rfl rfl (setRow_heap _ b1 _ _ _ _ R1.out) rfl ⟨_, rfl, (O10.out.setRow (by have := WB.out; omega) _).mono (by have := WB.out; omega), below_setRow B3.out (by have := HS.out; omega) _⟩
    · go_simp
      refine hK.out _ _ (fun _ h => ⟨((below1 _).cell (p := ⟨b0, 0, none⟩) h.2.2).trans h.1, ((below1 _).cell (p := ⟨b0, 1, none⟩) h.2.2).trans h.2.1, Nat.lt_of_lt_of_le h.2.2 (below1 _).size⟩) ?_
      clear hK K
      try simp only [Act.put, List.setIfInBounds_toArray, List.set_cons_zero, List.set_cons_succ]
      have hb : Below V1.heap.size V1 (V1.alloc (.cells #[.string s] 9)) := below1 _
      have NEW := hide1 (Lst.one (w := V1) s SZ.out)
      have NE : Hid (V1.heap.size ≠ U.heap.size) := Nat.ne_of_gt (O2.out.lt rfl).2
      generalize World.alloc V1 _ = V2 at hb NEW ⊢
      replace O2 := hide1 (O2.out.below hb (Nat.le_refl _))
      replace R1 := hide1 ((hb.block b1 (lt_heap R1.out)).trans R1.out)
      replace B2 : Hid (Below w.heap.size w V2) := B2.out.trans (hb.mono B2.out.size)
      replace SZ : Hid (bs ≤ V2.heap.size) := Nat.le_trans SZ.out hb.size
      have E8 := NEW
      clear NEW hb
      refine ready_f 5 (o := { dst := some 30, op := Op.call { callee := Callee.value (Operand.func 33), args := #[Operand.tmp 28, Operand.tmp 29], argTypes := #[27, 3] }, type := 25, pos := "ref.go:60", after := #[{ on := 3, ground := Ground.data }, { on := 4, ground := Ground.data }], guard := none }) (by kernel_rfl) rfl (fun K hK => ?_)
      go_simp
      refine (kT _).out.mono ?_
      rintro e V3 ⟨rfl, hb⟩
      refine hK.out _ _ (fun _ h => ⟨(hb.cell (p := ⟨b0, 0, none⟩) h.2.2).trans h.1, (hb.cell (p := ⟨b0, 1, none⟩) h.2.2).trans h.2.1, Nat.lt_of_lt_of_le h.2.2 hb.size⟩) ?_
      clear hK K
      try simp only [Act.put, List.setIfInBounds_toArray, List.set_cons_zero, List.set_cons_succ]
      replace O2 := hide1 (O2.out.below hb (Nat.le_refl _))
      replace E8 := hide1 (E8.out.below hb (Nat.le_refl _))
      replace R1 := hide1 ((hb.block b1 (lt_heap R1.out)).trans R1.out)
      replace B2 : Hid (Below w.heap.size w V3) := B2.out.trans (hb.mono B2.out.size)
      replace SZ : Hid (bs ≤ V3.heap.size) := Nat.le_trans SZ.out hb.size
      clear hb
      refine ready_f 6 (o := { dst := some 31, op := Op.call { callee := Callee.builtin Builtin.append, args := #[Operand.tmp 27, Operand.tmp 30], argTypes := #[25, 25] }, type := 25, pos := "ref.go:60", after := #[{ on := 2, ground := Ground.data }, { on := 5, ground := Ground.data }, { on := 5, ground := Ground.chain }], guard := none }) (by kernel_rfl) rfl (fun K hK => ?_)
      rw [if_pos (by rfl)]
      refine wp_append_lst _ _ rfl rfl rfl O2.out (HA.out.below B2.out (Nat.le_refl _)).rd (by have := H64.out; simp; omega) SZ.out ?_
      intro v6 V4 ho hg hf
      replace hg : V3.grownBy V4 (some U.heap.size) := hg
      have hlo : bs ≤ U.heap.size := (O2.out.lt rfl).1
      have ne0 : some b0 ≠ some U.heap.size := fun e => by have := WB.out; cases e; omega
      have ne1 : some b1 ≠ some U.heap.size := fun e => by have := WB.out; cases e; omega
      refine hK.out _ _ (fun _ h => ⟨hg.cell (a := ⟨b0, 0, none⟩) h.1 ne0, hg.cell (a := ⟨b0, 1, none⟩) h.2.1 ne0, Nat.lt_of_lt_of_le h.2.2 hg.size⟩) ?_
      clear hK K
      try simp only [Act.put, List.setIfInBounds_toArray, List.set_cons_zero, List.set_cons_succ]
      replace E8 := hide1 (E8.out.same (w' := V4) fun g hgg => hg.block g (E8.out.lt hgg).2 (fun e => NE.out ((Option.some.inj (show some V1.heap.size = some g from hgg)).trans (Option.some.inj e))))
      replace R1 := hide1 ((hg.block b1 (lt_heap R1.out) ne1).trans R1.out)
      replace B2 : Hid (Below w.heap.size w V4) := B2.out.grown hg B2.out.size (fun k' hk' => by have := WB.out; cases hk'; omega)
      replace SZ : Hid (bs ≤ V4.heap.size) := Nat.le_trans SZ.out hg.size
      rw [List.nil_append] at ho
      have O6 := hide1 ho
      clear hg hf ho ne0 ne1 O2 hlo
      refine ready_f 9 (o := { dst := some 34, op := Op.call { callee := Callee.builtin Builtin.append, args := #[Operand.tmp 31, Operand.tmp 33], argTypes := #[25, 25] }, type := 25, pos := "ref.go:60", after := #[{ on := 6, ground := Ground.data }, { on := 8, ground := Ground.data }, { on := 6, ground := Ground.chain }], guard := none }) (by kernel_rfl) rfl (fun K hK => ?_)
      rw [if_pos (by rfl)]
      refine wp_append_lst _ _ rfl rfl rfl O6.out E8.out.rd (by have := H64.out; simp; omega) SZ.out ?_
      intro v9 V9 ho hg hf
      have ne0 : some b0 ≠ v6.ownBlock := fun e => by have := (O6.out.lt e.symm).1; have := WB.out; omega
      have ne1 : some b1 ≠ v6.ownBlock := fun e => by have := (O6.out.lt e.symm).1; have := WB.out; omega
      refine hK.out _ _ (fun _ h => ⟨hg.cell (a := ⟨b0, 0, none⟩) h.1 ne0, hg.cell (a := ⟨b0, 1, none⟩) h.2.1 ne0, Nat.lt_of_lt_of_le h.2.2 hg.size⟩) ?_
      clear hK K
      try simp only [Act.put, List.setIfInBounds_toArray, List.set_cons_zero, List.set_cons_succ]
      have R1 := hide1 ((hg.block b1 (lt_heap R1.out) ne1).trans R1.out)
      have B2 : Hid (Below w.heap.size w V9) := B2.out.grown hg B2.out.size (fun k' hk' => by have := (O6.out.lt hk').1; have := WB.out; omega)
      obtain ⟨a9, c9, rfl⟩ := ho.form
      generalize (N 0 ++ [s]).length = m9 at *
      have O9 := hide1 ho
      clear hg hf ho ne0 ne1
      refine ready_f 10 (o := { dst := some 35, op := Op.call { callee := Callee.value (Operand.func 27), args := #[Operand.tmp 25, Operand.tmp 26, Operand.tmp 34], argTypes := #[27, 3, 25] }, type := 27, pos := "ref.go:60", after := #[{ on := 0, ground := Ground.data }, { on := 1, ground := Ground.data }, { on := 9, ground := Ground.data }, { on := 9, ground := Ground.chain }], guard := none }) (by kernel_rfl) rfl (fun K hK => ?_)
      go_simp
      refine (with_any0 a0 a1 a9 n0 c0 n1 c1 m9 c9 V9).mono ?_
      rintro e V10 ⟨rfl, hb10⟩
      refine hK.out _ _ (fun _ h => ⟨(hb10.cell (p := ⟨b0, 0, none⟩) h.2.2).trans h.1, (hb10.cell (p := ⟨b0, 1, none⟩) h.2.2).trans h.2.1, Nat.lt_of_lt_of_le h.2.2 hb10.size⟩) ?_
      clear hK K
      try simp only [Act.put, List.setIfInBounds_toArray, List.set_cons_zero, List.set_cons_succ]
      have R1 := hide1 ((hb10.block b1 (lt_heap R1.out)).trans R1.out)
      have B3 : Hid (Below w.heap.size w V10) := B2.out.trans (hb10.mono B2.out.size)
      have O10 := hide1 (O9.out.below hb10 (Nat.le_refl _))
      clear hb10 hS
      refine ready_f 11 (o := { dst := none, op := Op.store 27 (Operand.tmp 6) (Operand.tmp 35), type := 0, pos := "ref.go:60", after := #[{ on := 10, ground := Ground.data }, { on := 10, ground := Ground.chain }, { on := 0, ground := Ground.phase }, { on := 1, ground := Ground.phase }, { on := 2, ground := Ground.phase }, { on := 3, ground := Ground.phase }, { on := 4, ground := Ground.phase }, { on := 5, ground := Ground.phase }, { on := 6, ground := Ground.phase }, { on := 7, ground := Ground.phase }, { on := 8, ground := Ground.phase }, { on := 9, ground := Ground.phase }, { on := 10, ground := Ground.phase }], guard := none }) (by kernel_rfl) rfl (fun K hK => ?_)
      rw [if_pos (by rfl)]
      refine wp_store_row 27 _ _ rfl b1 _ rfl rfl 27 _ R1.out (by kernel_rfl) rfl (by kernel_rfl) ?_
      refine hK.out _ _ (fun h => absurd (by decide) h) ?_
      clear hK K
      refine take_p 12 7 (.int .i64 0) rfl rfl (by kernel_rfl) (by kernel_rfl) (by kernel_rfl) (fun _ _ _ h => h) rfl (fun w => by go_simp) ?_
      try simp only [List.setIfInBounds_toArray, List.set_cons_zero, List.set_cons_succ]
      refine done_f (by kernel_rfl) ?_ _
      go_wp2
      exact ret_n2 Try.results21 b1 _ _ _ rfl rfl (setRow_heap _ b1 _ _ _ _ R1.out) rfl ⟨_, rfl, (O10.out.setRow (by have := WB.out; omega) _).mono (by have := WB.out; omega), below_setRow B3.out (by have := HS.out; omega) _⟩
  · go_simp
    refine (kT _).out.mono ?_
    rintro e V1 ⟨rfl, hb⟩
    refine hK.out _ _ (fun _ h => ⟨(hb.cell (p := ⟨b0, 0, none⟩) h.2.2).trans h.1, (hb.cell (p := ⟨b0, 1, none⟩) h.2.2).trans h.2.1, Nat.lt_of_lt_of_le h.2.2 hb.size⟩) ?_
    clear hK K
    try simp only [Act.put, List.setIfInBounds_toArray, List.set_cons_zero, List.set_cons_succ]
    replace R1 := hide1 ((hb.block b1 (lt_heap R1.out)).trans R1.out)
    replace B2 : Hid (Below w.heap.size w V1) := B2.out.trans (hb.mono B2.out.size)
    replace SZ : Hid (bs ≤ V1.heap.size) := Nat.le_trans SZ.out hb.size
    clear hb
    refine ready2_f 2 8 (o := { dst := some 27, op := Op.buildSlice 25 0 #[], type := 25, pos := "ref.go:60", after := #[], guard := none }) (o' := { dst := some 33, op := Op.buildSlice 25 1 #[(0, Operand.tmp 32)], type := 25, pos := "ref.go:60", after := #[{ on := 7, ground := Ground.data }], guard := none }) (by kernel_rfl) rfl rfl (fun K hK => ?_) (fun K hK => ?_)
    · go_simp
      refine hK.out _ _ (fun _ h => ⟨((below1 _).cell (p := ⟨b0, 0, none⟩) h.2.2).trans h.1, ((below1 _).cell (p := ⟨b0, 1, none⟩) h.2.2).trans h.2.1, Nat.lt_of_lt_of_le h.2.2 (below1 _).size⟩) ?_
      clear hK K
      try simp only [Act.put, List.setIfInBounds_toArray, List.set_cons_zero, List.set_cons_succ]
      have hb : Below V1.heap.size V1 (V1.alloc (.cells #[] 9)) := below1 _
      have NEW := hide1 (Lst.empty (w := V1) SZ.out)
      generalize World.alloc V1 _ = V2 at hb NEW ⊢
      replace R1 := hide1 ((hb.block b1 (lt_heap R1.out)).trans R1.out)
      replace B2 : Hid (Below w.heap.size w V2) := B2.out.trans (hb.mono B2.out.size)
      replace SZ : Hid (bs ≤ V2.heap.size) := Nat.le_trans SZ.out hb.size
      have O2 := NEW
      clear NEW hb
      refine ready2_f 6 8 (o := { dst := some 31, op := Op.call { callee := Callee.builtin Builtin.append, args := #[Operand.tmp 27, Operand.tmp 30], argTypes := #[25, 25] }, type := 25, pos := "ref.go:60", after := #[{ on := 2, ground := Ground.data }, { on := 5, ground := Ground.data }, { on := 5, ground := Ground.chain }], guard := none }) (o' := { dst := some 33, op := Op.buildSlice 25 1 #[(0, Operand.tmp 32)], type := 25, pos := "ref.go:60", after := #[{ on := 7, ground := Ground.data }], guard := none }) (by kernel_rfl) rfl rfl (fun K hK => ?_) (fun K hK => ?_)
      · rw [if_pos (by rfl)]
        refine wp_append_lst _ _ rfl rfl rfl O2.out (HA.out.below B2.out (Nat.le_refl _)).rd (by have := H64.out; simp; omega) SZ.out ?_
        intro v6 V3 ho hg hf
        replace hg : V2.grownBy V3 (some V1.heap.size) := hg
        have hlo : bs ≤ V1.heap.size := (O2.out.lt rfl).1
        have ne0 : some b0 ≠ some V1.heap.size := fun e => by have := WB.out; cases e; omega
        have ne1 : some b1 ≠ some V1.heap.size := fun e => by have := WB.out; cases e; omega
        refine hK.out _ _ (fun _ h => ⟨hg.cell (a := ⟨b0, 0, none⟩) h.1 ne0, hg.cell (a := ⟨b0, 1, none⟩) h.2.1 ne0, Nat.lt_of_lt_of_le h.2.2 hg.size⟩) ?_
        clear hK K
        try simp only [Act.put, List.setIfInBounds_toArray, List.set_cons_zero, List.set_cons_succ]
        replace R1 := hide1 ((hg.block b1 (lt_heap R1.out) ne1).trans R1.out)
        replace B2 : Hid (Below w.heap.size w V3) := B2.out.grown hg B2.out.size (fun k' hk' => by have := WB.out; cases hk'; omega)
        replace SZ : Hid (bs ≤ V3.heap.size) := Nat.le_trans SZ.out hg.size
        rw [List.nil_append] at ho
        have O6 := hide1 ho
        clear hg hf ho ne0 ne1 O2 hlo
        refine ready_f 8 (o := { dst := some 33, op := Op.buildSlice 25 1 #[(0, Operand.tmp 32)], type := 25, pos := "ref.go:60", after := #[{ on := 7, ground := Ground.data }], guard := none }) (by kernel_rfl) rfl (fun K hK => ?_)
        go_simp
        refine hK.out _ _ (fun _ h => ⟨((below1 _).cell (p := ⟨b0, 0, none⟩) h.2.2).trans h.1, ((below1 _).cell (p := ⟨b0, 1, none⟩) h.2.2).trans h.2.1, Nat.lt_of_lt_of_le h.2.2 (below1 _).size⟩) ?_
        clear hK K
        try simp only [Act.put, List.setIfInBounds_toArray, List.set_cons_zero, List.set_cons_succ]
        have hb : Below V3.heap.size V3 (V3.alloc (.cells #[.string s] 9)) := below1 _
        have NEW := hide1 (Lst.one (w := V3) s SZ.out)
        generalize World.alloc V3 _ = V4 at hb NEW ⊢
        replace O6 := hide1 (O6.out.below hb (Nat.le_refl _))
        replace R1 := hide1 ((hb.block b1 (lt_heap R1.out)).trans R1.out)
        replace B2 : Hid (Below w.heap.size w V4) := B2.out.trans (hb.mono B2.out.size)
        replace SZ : Hid (bs ≤ V4.heap.size) := Nat.le_trans SZ.out hb.size
        have E8 := NEW
        clear NEW hb
        refine ready_f 9 (o := { dst := some 34, op := Op.call { callee := Callee.builtin Builtin.append, args := #[Operand.tmp 31, Operand.tmp 33], argTypes := #[25, 25] }, type := 25, pos := "ref.go:60", after := #[{ on := 6, ground := Ground.data }, { on := 8, ground := Ground.data }, { on := 6, ground := Ground.chain }], guard := none }) (by kernel_rfl) rfl (fun K hK => ?_)
        rw [if_pos (by rfl)]
        refine wp_append_lst _ _ rfl rfl rfl O6.out E8.out.rd (by have := H64.out; simp; omega) SZ.out ?_
        intro v9 V9 ho hg hf
        have ne0 : some b0 ≠ v6.ownBlock := fun e => by have := (O6.out.lt e.symm).1; have := WB.out; omega
        have ne1 : some b1 ≠ v6.ownBlock := fun e => by have := (O6.out.lt e.symm).1; have := WB.out; omega
        refine hK.out _ _ (fun _ h => ⟨hg.cell (a := ⟨b0, 0, none⟩) h.1 ne0, hg.cell (a := ⟨b0, 1, none⟩) h.2.1 ne0, Nat.lt_of_lt_of_le h.2.2 hg.size⟩) ?_
        clear hK K
        try simp only [Act.put, List.setIfInBounds_toArray, List.set_cons_zero, List.set_cons_succ]
        have R1 := hide1 ((hg.block b1 (lt_heap R1.out) ne1).trans R1.out)
        have B2 : Hid (Below w.heap.size w V9) := B2.out.grown hg B2.out.size (fun k' hk' => by have := (O6.out.lt hk').1; have := WB.out; omega)
        obtain ⟨a9, c9, rfl⟩ := ho.form
        generalize (N 0 ++ [s]).length = m9 at *
        have O9 := hide1 ho
        clear hg hf ho ne0 ne1
        refine ready_f 10 (o := { dst := some 35, op := Op.call { callee := Callee.value (Operand.func 27), args := #[Operand.tmp 25, Operand.tmp 26, Operand.tmp 34], argTypes := #[27, 3, 25] }, type := 27, pos := "ref.go:60", after := #[{ on := 0, ground := Ground.data }, { on := 1, ground := Ground.data }, { on := 9, ground := Ground.data }, { on := 9, ground := Ground.chain }], guard := none }) (by kernel_rfl) rfl (fun K hK => ?_)
        go_simp
        refine (with_any0 a0 a1 a9 n0 c0 n1 c1 m9 c9 V9).mono ?_
        rintro e V10 ⟨rfl, hb10⟩
        refine hK.out _ _ (fun _ h => ⟨(hb10.cell (p := ⟨b0, 0, none⟩) h.2.2).trans h.1, (hb10.cell (p := ⟨b0, 1, none⟩) h.2.2).trans h.2.1, Nat.lt_of_lt_of_le h.2.2 hb10.size⟩) ?_
        clear hK K
        try simp only [Act.put, List.setIfInBounds_toArray, List.set_cons_zero, List.set_cons_succ]
        have R1 := hide1 ((hb10.block b1 (lt_heap R1.out)).trans R1.out)
        have B3 : Hid (Below w.heap.size w V10) := B2.out.trans (hb10.mono B2.out.size)
        have O10 := hide1 (O9.out.below hb10 (Nat.le_refl _))
        clear hb10 hS
        refine ready_f 11 (o := { dst := none, op := Op.store 27 (Operand.tmp 6) (Operand.tmp 35), type := 0, pos := "ref.go:60", after := #[{ on := 10, ground := Ground.data }, { on := 10, ground := Ground.chain }, { on := 0, ground := Ground.phase }, { on := 1, ground := Ground.phase }, { on := 2, ground := Ground.phase }, { on := 3, ground := Ground.phase }, { on := 4, ground := Ground.phase }, { on := 5, ground := Ground.phase }, { on := 6, ground := Ground.phase }, { on := 7, ground := Ground.phase }, { on := 8, ground := Ground.phase }, { on := 9, ground := Ground.phase }, { on := 10, ground := Ground.phase }], guard := none }) (by kernel_rfl) rfl (fun K hK => ?_)
        rw [if_pos (by rfl)]
        refine wp_store_row 27 _ _ rfl b1 _ rfl rfl 27 _ R1.out (by kernel_rfl) rfl (by kernel_rfl) ?_
        refine hK.out _ _ (fun h => absurd (by decide) h) ?_
        clear hK K
        refine take_p 12 7 (.int .i64 0) rfl rfl (by kernel_rfl) (by kernel_rfl) (by kernel_rfl) (fun _ _ _ h => h) rfl (fun w => by go_simp) ?_
        try simp only [List.setIfInBounds_toArray, List.set_cons_zero, List.set_cons_succ]
        refine done_f (by kernel_rfl) ?_ _
        go_wp2
        exact ret_n2 Try.results21 b1 _ _ _ rfl rfl (setRow_heap _ b1 _ _ _ _ R1.out) rfl ⟨_, rfl, (O10.out.setRow (by have := WB.out; omega) _).mono (by have := WB.out; omega), below_setRow B3.out (by have := HS.out; omega) _⟩
      · go_simp
        refine hK.out _ _ (fun _ h => ⟨((below1 _).cell (p := ⟨b0, 0, none⟩) h.2.2).trans h.1, ((below1 _).cell (p := ⟨b0, 1, none⟩) h.2.2).trans h.2.1, Nat.lt_of_lt_of_le h.2.2 (below1 _).size⟩) ?_
        clear hK K
        try simp only [Act.put, List.setIfInBounds_toArray, List.set_cons_zero, List.set_cons_succ]
        have hb : Below V2.heap.size V2 (V2.alloc (.cells #[.string s] 9)) := below1 _
        have NEW := hide1 (Lst.one (w := V2) s SZ.out)
        have NE : Hid (V2.heap.size ≠ V1.heap.size) := Nat.ne_of_gt (O2.out.lt rfl).2
        generalize World.alloc V2 _ = V3 at hb NEW ⊢
        replace O2 := hide1 (O2.out.below hb (Nat.le_refl _))
        replace R1 := hide1 ((hb.block b1 (lt_heap R1.out)).trans R1.out)
        replace B2 : Hid (Below w.heap.size w V3) := B2.out.trans (hb.mono B2.out.size)
        replace SZ : Hid (bs ≤ V3.heap.size) := Nat.le_trans SZ.out hb.size
        have E8 := NEW
        clear NEW hb
        refine ready_f 6 (o := { dst := some 31, op := Op.call { callee := Callee.builtin Builtin.append, args := #[Operand.tmp 27, Operand.tmp 30], argTypes := #[25, 25] }, type := 25, pos := "ref.go:60", after := #[{ on := 2, ground := Ground.data }, { on := 5, ground := Ground.data }, { on := 5, ground := Ground.chain }], guard := none }) (by kernel_rfl) rfl (fun K hK => ?_)
        rw [if_pos (by rfl)]
        refine wp_append_lst _ _ rfl rfl rfl O2.out (HA.out.below B2.out (Nat.le_refl _)).rd (by have := H64.out; simp; omega) SZ.out ?_
        intro v6 V4 ho hg hf
        replace hg : V3.grownBy V4 (some V1.heap.size) := hg
        have hlo : bs ≤ V1.heap.size := (O2.out.lt rfl).1
        have ne0 : some b0 ≠ some V1.heap.size := fun e => by have := WB.out; cases e; omega
        have ne1 : some b1 ≠ some V1.heap.size := fun e => by have := WB.out; cases e; omega
        refine hK.out _ _ (fun _ h => ⟨hg.cell (a := ⟨b0, 0, none⟩) h.1 ne0, hg.cell (a := ⟨b0, 1, none⟩) h.2.1 ne0, Nat.lt_of_lt_of_le h.2.2 hg.size⟩) ?_
        clear hK K
        try simp only [Act.put, List.setIfInBounds_toArray, List.set_cons_zero, List.set_cons_succ]
        replace E8 := hide1 (E8.out.same (w' := V4) fun g hgg => hg.block g (E8.out.lt hgg).2 (fun e => NE.out ((Option.some.inj (show some V2.heap.size = some g from hgg)).trans (Option.some.inj e))))
        replace R1 := hide1 ((hg.block b1 (lt_heap R1.out) ne1).trans R1.out)
        replace B2 : Hid (Below w.heap.size w V4) := B2.out.grown hg B2.out.size (fun k' hk' => by have := WB.out; cases hk'; omega)
        replace SZ : Hid (bs ≤ V4.heap.size) := Nat.le_trans SZ.out hg.size
        rw [List.nil_append] at ho
        have O6 := hide1 ho
        clear hg hf ho ne0 ne1 O2 hlo
        refine ready_f 9 (o := { dst := some 34, op := Op.call { callee := Callee.builtin Builtin.append, args := #[Operand.tmp 31, Operand.tmp 33], argTypes := #[25, 25] }, type := 25, pos := "ref.go:60", after := #[{ on := 6, ground := Ground.data }, { on := 8, ground := Ground.data }, { on := 6, ground := Ground.chain }], guard := none }) (by kernel_rfl) rfl (fun K hK => ?_)
        rw [if_pos (by rfl)]
        refine wp_append_lst _ _ rfl rfl rfl O6.out E8.out.rd (by have := H64.out; simp; omega) SZ.out ?_
        intro v9 V9 ho hg hf
        have ne0 : some b0 ≠ v6.ownBlock := fun e => by have := (O6.out.lt e.symm).1; have := WB.out; omega
        have ne1 : some b1 ≠ v6.ownBlock := fun e => by have := (O6.out.lt e.symm).1; have := WB.out; omega
        refine hK.out _ _ (fun _ h => ⟨hg.cell (a := ⟨b0, 0, none⟩) h.1 ne0, hg.cell (a := ⟨b0, 1, none⟩) h.2.1 ne0, Nat.lt_of_lt_of_le h.2.2 hg.size⟩) ?_
        clear hK K
        try simp only [Act.put, List.setIfInBounds_toArray, List.set_cons_zero, List.set_cons_succ]
        have R1 := hide1 ((hg.block b1 (lt_heap R1.out) ne1).trans R1.out)
        have B2 : Hid (Below w.heap.size w V9) := B2.out.grown hg B2.out.size (fun k' hk' => by have := (O6.out.lt hk').1; have := WB.out; omega)
        obtain ⟨a9, c9, rfl⟩ := ho.form
        generalize (N 0 ++ [s]).length = m9 at *
        have O9 := hide1 ho
        clear hg hf ho ne0 ne1
        refine ready_f 10 (o := { dst := some 35, op := Op.call { callee := Callee.value (Operand.func 27), args := #[Operand.tmp 25, Operand.tmp 26, Operand.tmp 34], argTypes := #[27, 3, 25] }, type := 27, pos := "ref.go:60", after := #[{ on := 0, ground := Ground.data }, { on := 1, ground := Ground.data }, { on := 9, ground := Ground.data }, { on := 9, ground := Ground.chain }], guard := none }) (by kernel_rfl) rfl (fun K hK => ?_)
        go_simp
        refine (with_any0 a0 a1 a9 n0 c0 n1 c1 m9 c9 V9).mono ?_
        rintro e V10 ⟨rfl, hb10⟩
        refine hK.out _ _ (fun _ h => ⟨(hb10.cell (p := ⟨b0, 0, none⟩) h.2.2).trans h.1, (hb10.cell (p := ⟨b0, 1, none⟩) h.2.2).trans h.2.1, Nat.lt_of_lt_of_le h.2.2 hb10.size⟩) ?_
        clear hK K
        try simp only [Act.put, List.setIfInBounds_toArray, List.set_cons_zero, List.set_cons_succ]
        have R1 := hide1 ((hb10.block b1 (lt_heap R1.out)).trans R1.out)
        have B3 : Hid (Below w.heap.size w V10) := B2.out.trans (hb10.mono B2.out.size)
        have O10 := hide1 (O9.out.below hb10 (Nat.le_refl _))
        clear hb10 hS
        refine ready_f 11 (o := { dst := none, op := Op.store 27 (Operand.tmp 6) (Operand.tmp 35), type := 0, pos := "ref.go:60", after := #[{ on := 10, ground := Ground.data }, { on := 10, ground := Ground.chain }, { on := 0, ground := Ground.phase }, { on := 1, ground := Ground.phase }, { on := 2, ground := Ground.phase }, { on := 3, ground := Ground.phase }, { on := 4, ground := Ground.phase }, { on := 5, ground := Ground.phase }, { on := 6, ground := Ground.phase }, { on := 7, ground := Ground.phase }, { on := 8, ground := Ground.phase }, { on := 9, ground := Ground.phase }, { on := 10, ground := Ground.phase }], guard := none }) (by kernel_rfl) rfl (fun K hK => ?_)
        rw [if_pos (by rfl)]
        refine wp_store_row 27 _ _ rfl b1 _ rfl rfl 27 _ R1.out (by kernel_rfl) rfl (by kernel_rfl) ?_
        refine hK.out _ _ (fun h => absurd (by decide) h) ?_
        clear hK K
        refine take_p 12 7 (.int .i64 0) rfl rfl (by kernel_rfl) (by kernel_rfl) (by kernel_rfl) (fun _ _ _ h => h) rfl (fun w => by go_simp) ?_
        try simp only [List.setIfInBounds_toArray, List.set_cons_zero, List.set_cons_succ]
        refine done_f (by kernel_rfl) ?_ _
        go_wp2
        exact ret_n2 Try.results21 b1 _ _ _ rfl rfl (setRow_heap _ b1 _ _ _ _ R1.out) rfl ⟨_, rfl, (O10.out.setRow (by have := WB.out; omega) _).mono (by have := WB.out; omega), below_setRow B3.out (by have := HS.out; omega) _⟩
    · go_simp
      refine hK.out _ _ (fun _ h => ⟨((below1 _).cell (p := ⟨b0, 0, none⟩) h.2.2).trans h.1, ((below1 _).cell (p := ⟨b0, 1, none⟩) h.2.2).trans h.2.1, Nat.lt_of_lt_of_le h.2.2 (below1 _).size⟩) ?_
      clear hK K
      try simp only [Act.put, List.setIfInBounds_toArray, List.set_cons_zero, List.set_cons_succ]
      have hb : Below V1.heap.size V1 (V1.alloc (.cells #[.string s] 9)) := below1 _
      have NEW := hide1 (Lst.one (w := V1) s SZ.out)
      generalize World.alloc V1 _ = V2 at hb NEW ⊢
      replace R1 := hide1 ((hb.block b1 (lt_heap R1.out)).trans R1.out)
      replace B2 : Hid (Below w.heap.size w V2) := B2.out.trans (hb.mono B2.out.size)
      replace SZ : Hid (bs ≤ V2.heap.size) := Nat.le_trans SZ.out hb.size
      have E8 := NEW
      clear NEW hb
      refine ready_f 2 (o := { dst := some 27, op := Op.buildSlice 25 0 #[], type := 25, pos := "ref.go:60", after := #[], guard := none }) (by kernel_rfl) rfl (fun K hK => ?_)
      go_simp
      refine hK.out _ _ (fun _ h => ⟨((below1 _).cell (p := ⟨b0, 0, none⟩) h.2.2).trans h.1, ((below1 _).cell (p := ⟨b0, 1, none⟩) h.2.2).trans h.2.1, Nat.lt_of_lt_of_le h.2.2 (below1 _).size⟩) ?_
      clear hK K
      try simp only [Act.put, List.setIfInBounds_toArray, List.set_cons_zero, List.set_cons_succ]
      have hb : Below V2.heap.size V2 (V2.alloc (.cells #[] 9)) := below1 _
      have NEW := hide1 (Lst.empty (w := V2) SZ.out)
      have NE : Hid (V1.heap.size ≠ V2.heap.size) := Nat.ne_of_lt (E8.out.lt rfl).2
      generalize World.alloc V2 _ = V3 at hb NEW ⊢
      replace E8 := hide1 (E8.out.below hb (Nat.le_refl _))
      replace R1 := hide1 ((hb.block b1 (lt_heap R1.out)).trans R1.out)
      replace B2 : Hid (Below w.heap.size w V3) := B2.out.trans (hb.mono B2.out.size)
      replace SZ : Hid (bs ≤ V3.heap.size) := Nat.le_trans SZ.out hb.size
      have O2 := NEW
      clear NEW hb
      refine ready_f 6 (o := { dst := some 31, op := Op.call { callee := Callee.builtin Builtin.append, args := #[Operand.tmp 27, Operand.tmp 30], argTypes := #[25, 25] }, type := 25, pos := "ref.go:60", after := #[{ on := 2, ground := Ground.data }, { on := 5, ground := Ground.data }, { on := 5, ground := Ground.chain }], guard := none }) (by kernel_rfl) rfl (fun K hK => ?_)
      rw [if_pos (by rfl)]
      refine wp_append_lst _ _ rfl rfl rfl O2.out (HA.out.below B2.out (Nat.le_refl _)).rd (by have := H64.out; simp; omega) SZ.out ?_
      intro v6 V4 ho hg hf
      replace hg : V3.grownBy V4 (some V2.heap.size) := hg
      have hlo : bs ≤ V2.heap.size := (O2.out.lt rfl).1
      have ne0 : some b0 ≠ some V2.heap.size := fun e => by have := WB.out; cases e; omega
      have ne1 : some b1 ≠ some V2.heap.size := fun e => by have := WB.out; cases e; omega
      refine hK.out _ _ (fun _ h => ⟨hg.cell (a := ⟨b0, 0, none⟩) h.1 ne0, hg.cell (a := ⟨b0, 1, none⟩) h.2.1 ne0, Nat.lt_of_lt_of_le h.2.2 hg.size⟩) ?_
      clear hK K
      try simp only [Act.put, List.setIfInBounds_toArray, List.set_cons_zero, List.set_cons_succ]
      replace E8 := hide1 (E8.out.same (w' := V4) fun g hgg => hg.block g (E8.out.lt hgg).2 (fun e => NE.out ((Option.some.inj (show some V1.heap.size = some g from hgg)).trans (Option.some.inj e))))
      replace R1 := hide1 ((hg.block b1 (lt_heap R1.out) ne1).trans R1.out)
      replace B2 : Hid (Below w.heap.size w V4) := B2.out.grown hg B2.out.size (fun k' hk' => by have := WB.out; cases hk'; omega)
      replace SZ : Hid (bs ≤ V4.heap.size) := Nat.le_trans SZ.out hg.size
      rw [List.nil_append] at ho
      have O6 := hide1 ho
      clear hg hf ho ne0 ne1 O2 hlo
      refine ready_f 9 (o := { dst := some 34, op := Op.call { callee := Callee.builtin Builtin.append, args := #[Operand.tmp 31, Operand.tmp 33], argTypes := #[25, 25] }, type := 25, pos := "ref.go:60", after := #[{ on := 6, ground := Ground.data }, { on := 8, ground := Ground.data }, { on := 6, ground := Ground.chain }], guard := none }) (by kernel_rfl) rfl (fun K hK => ?_)
      rw [if_pos (by rfl)]
      refine wp_append_lst _ _ rfl rfl rfl O6.out E8.out.rd (by have := H64.out; simp; omega) SZ.out ?_
      intro v9 V9 ho hg hf
      have ne0 : some b0 ≠ v6.ownBlock := fun e => by have := (O6.out.lt e.symm).1; have := WB.out; omega
      have ne1 : some b1 ≠ v6.ownBlock := fun e => by have := (O6.out.lt e.symm).1; have := WB.out; omega
      refine hK.out _ _ (fun _ h => ⟨hg.cell (a := ⟨b0, 0, none⟩) h.1 ne0, hg.cell (a := ⟨b0, 1, none⟩) h.2.1 ne0, Nat.lt_of_lt_of_le h.2.2 hg.size⟩) ?_
      clear hK K
      try simp only [Act.put, List.setIfInBounds_toArray, List.set_cons_zero, List.set_cons_succ]
      have R1 := hide1 ((hg.block b1 (lt_heap R1.out) ne1).trans R1.out)
      have B2 : Hid (Below w.heap.size w V9) := B2.out.grown hg B2.out.size (fun k' hk' => by have := (O6.out.lt hk').1; have := WB.out; omega)
      obtain ⟨a9, c9, rfl⟩ := ho.form
      generalize (N 0 ++ [s]).length = m9 at *
      have O9 := hide1 ho
      clear hg hf ho ne0 ne1
      refine ready_f 10 (o := { dst := some 35, op := Op.call { callee := Callee.value (Operand.func 27), args := #[Operand.tmp 25, Operand.tmp 26, Operand.tmp 34], argTypes := #[27, 3, 25] }, type := 27, pos := "ref.go:60", after := #[{ on := 0, ground := Ground.data }, { on := 1, ground := Ground.data }, { on := 9, ground := Ground.data }, { on := 9, ground := Ground.chain }], guard := none }) (by kernel_rfl) rfl (fun K hK => ?_)
      go_simp
      refine (with_any0 a0 a1 a9 n0 c0 n1 c1 m9 c9 V9).mono ?_
      rintro e V10 ⟨rfl, hb10⟩
      refine hK.out _ _ (fun _ h => ⟨(hb10.cell (p := ⟨b0, 0, none⟩) h.2.2).trans h.1, (hb10.cell (p := ⟨b0, 1, none⟩) h.2.2).trans h.2.1, Nat.lt_of_lt_of_le h.2.2 hb10.size⟩) ?_
      clear hK K
      try simp only [Act.put, List.setIfInBounds_toArray, List.set_cons_zero, List.set_cons_succ]
      have R1 := hide1 ((hb10.block b1 (lt_heap R1.out)).trans R1.out)
      have B3 : Hid (Below w.heap.size w V10) := B2.out.trans (hb10.mono B2.out.size)
      have O10 := hide1 (O9.out.below hb10 (Nat.le_refl _))
      clear hb10 hS
      refine ready_f 11 (o := { dst := none, op := Op.store 27 (Operand.tmp 6) (Operand.tmp 35), type := 0, pos := "ref.go:60", after := #[{ on := 10, ground := Ground.data }, { on := 10, ground := Ground.chain }, { on := 0, ground := Ground.phase }, { on := 1, ground := Ground.phase }, { on := 2, ground := Ground.phase }, { on := 3, ground := Ground.phase }, { on := 4, ground := Ground.phase }, { on := 5, ground := Ground.phase }, { on := 6, ground := Ground.phase }, { on := 7, ground := Ground.phase }, { on := 8, ground := Ground.phase }, { on := 9, ground := Ground.phase }, { on := 10, ground := Ground.phase }], guard := none }) (by kernel_rfl) rfl (fun K hK => ?_)
      rw [if_pos (by rfl)]
      refine wp_store_row 27 _ _ rfl b1 _ rfl rfl 27 _ R1.out (by kernel_rfl) rfl (by kernel_rfl) ?_
      refine hK.out _ _ (fun h => absurd (by decide) h) ?_
      clear hK K
      refine take_p 12 7 (.int .i64 0) rfl rfl (by kernel_rfl) (by kernel_rfl) (by kernel_rfl) (fun _ _ _ h => h) rfl (fun w => by go_simp) ?_
      try simp only [List.setIfInBounds_toArray, List.set_cons_zero, List.set_cons_succ]
      refine done_f (by kernel_rfl) ?_ _
      go_wp2
      exact ret_n2 Try.results21 b1 _ _ _ rfl rfl (setRow_heap _ b1 _ _ _ _ R1.out) rfl ⟨_, rfl, (O10.out.setRow (by have := WB.out; omega) _).mono (by have := WB.out; omega), below_setRow B3.out (by have := HS.out; omega) _⟩
  · go_simp
    refine hK.out _ _ (fun _ h => ⟨((below1 _).cell (p := ⟨b0, 0, none⟩) h.2.2).trans h.1, ((below1 _).cell (p := ⟨b0, 1, none⟩) h.2.2).trans h.2.1, Nat.lt_of_lt_of_le h.2.2 (below1 _).size⟩) ?_
    clear hK K
    try simp only [Act.put, List.setIfInBounds_toArray, List.set_cons_zero, List.set_cons_succ]
    have hb : Below U.heap.size U (U.alloc (.cells #[.string s] 9)) := below1 _
    have NEW := hide1 (Lst.one (w := U) s SZ.out)
    generalize World.alloc U _ = V1 at hb NEW ⊢
    replace R1 := hide1 ((hb.block b1 (lt_heap R1.out)).trans R1.out)
    replace B2 : Hid (Below w.heap.size w V1) := B2.out.trans (hb.mono B2.out.size)
    replace SZ : Hid (bs ≤ V1.heap.size) := Nat.le_trans SZ.out hb.size
    have E8 := NEW
    clear NEW hb
    refine ready2_f 2 5 (o := { dst := some 27, op := Op.buildSlice 25 0 #[], type := 25, pos := "ref.go:60", after := #[], guard := none }) (o' := { dst := some 30, op := Op.call { callee := Callee.value (Operand.func 33), args := #[Operand.tmp 28, Operand.tmp 29], argTypes := #[27, 3] }, type := 25, pos := "ref.go:60", after := #[{ on := 3, ground := Ground.data }, { on := 4, ground := Ground.data }], guard := none }) (by kernel_rfl) rfl rfl (fun K hK => ?_) (fun K hK => ?_)
    · go_simp
      refine hK.out _ _ (fun _ h => ⟨((below1 _).cell (p := ⟨b0, 0, none⟩) h.2.2).trans h.1, ((below1 _).cell (p := ⟨b0, 1, none⟩) h.2.2).trans h.2.1, Nat.lt_of_lt_of_le h.2.2 (below1 _).size⟩) ?_
      clear hK K
      try simp only [Act.put, List.setIfInBounds_toArray, List.set_cons_zero, List.set_cons_succ]
      have hb : Below V1.heap.size V1 (V1.alloc (.cells #[] 9)) := below1 _
      have NEW := hide1 (Lst.empty (w := V1) SZ.out)
      have NE : Hid (U.heap.size ≠ V1.heap.size) := Nat.ne_of_lt (E8.out.lt rfl).2
      generalize World.alloc V1 _ = V2 at hb NEW ⊢
      replace E8 := hide1 (E8.out.below hb (Nat.le_refl _))
      replace R1 := hide1 ((hb.block b1 (lt_heap R1.out)).trans R1.out)
      replace B2 : Hid (Below w.heap.size w V2) := B2.out.trans (hb.mono B2.out.size)
      replace SZ : Hid (bs ≤ V2.heap.size) := Nat.le_trans SZ.out hb.size
      have O2 := NEW
      clear NEW hb
      refine ready_f 5 (o := { dst := some 30, op := Op.call { callee := Callee.value (Operand.func 33), args := #[Operand.tmp 28, Operand.tmp 29], argTypes := #[27, 3] }, type := 25, pos := "ref.go:60", after := #[{ on := 3, ground := Ground.data }, { on := 4, ground := Ground.data }], guard := none }) (by kernel_rfl) rfl (fun K hK => ?_)
      go_simp
      refine (kT _).out.mono ?_
      rintro e V3 ⟨rfl, hb⟩
      refine hK.out _ _ (fun _ h => ⟨(hb.cell (p := ⟨b0, 0, none⟩) h.2.2).trans h.1, (hb.cell (p := ⟨b0, 1, none⟩) h.2.2).trans h.2.1, Nat.lt_of_lt_of_le h.2.2 hb.size⟩) ?_
      clear hK K
      try simp only [Act.put, List.setIfInBounds_toArray, List.set_cons_zero, List.set_cons_succ]
      replace O2 := hide1 (O2.out.below hb (Nat.le_refl _))
      replace E8 := hide1 (E8.out.below hb (Nat.le_refl _))
      replace R1 := hide1 ((hb.block b1 (lt_heap R1.out)).trans R1.out)
      replace B2 : Hid (Below w.heap.size w V3) := B2.out.trans (hb.mono B2.out.size)
      replace SZ : Hid (bs ≤ V3.heap.size) := Nat.le_trans SZ.out hb.size
      clear hb
      refine ready_f 6 (o := { dst := some 31, op := Op.call { callee := Callee.builtin Builtin.append, args := #[Operand.tmp 27, Operand.tmp 30], argTypes := #[25, 25] }, type := 25, pos := "ref.go:60", after := #[{ on := 2, ground := Ground.data }, { on := 5, ground := Ground.data }, { on := 5, ground := Ground.chain }], guard := none }) (by kernel_rfl) rfl (fun K hK => ?_)
      rw [if_pos (by rfl)]
      refine wp_append_lst _ _ rfl rfl rfl O2.out (HA.out.below B2.out (Nat.le_refl _)).rd (by have := H64.out; simp; omega) SZ.out ?_
      intro v6 V4 ho hg hf
      replace hg : V3.grownBy V4 (some V1.heap.size) := hg
      have hlo : bs ≤ V1.heap.size := (O2.out.lt rfl).1
      have ne0 : some b0 ≠ some V1.heap.size := fun e => by have := WB.out; cases e; omega
      have ne1 : some b1 ≠ some V1.heap.size := fun e => by have := WB.out; cases e; omega
      refine hK.out _ _ (fun _ h => ⟨hg.cell (a := ⟨b0, 0, none⟩) h.1 ne0, hg.cell (a := ⟨b0, 1, none⟩) h.2.1 ne0, Nat.lt_of_lt_of_le h.2.2 hg.size⟩) ?_
      clear hK K
      try simp only [Act.put, List.setIfInBounds_toArray, List.set_cons_zero, List.set_cons_succ]
      replace E8 := hide1 (E8.out.same (w' := V4) fun g hgg => hg.block g (E8.out.lt hgg).2 (fun e => NE.out ((Option.some.inj (show some U.heap.size = some g from hgg)).trans (Option.some.inj e))))
      replace R1 := hide1 ((hg.block b1 (lt_heap R1.out) ne1).trans R1.out)
      replace B2 : Hid (Below w.heap.size w V4) := B2.out.grown hg B2.out.size (fun k' hk' => by have := WB.out; cases hk'; omega)
      replace SZ : Hid (bs ≤ V4.heap.size) := Nat.le_trans SZ.out hg.size
      rw [List.nil_append] at ho
      have O6 := hide1 ho
      clear hg hf ho ne0 ne1 O2 hlo
      refine ready_f 9 (o := { dst := some 34, op := Op.call { callee := Callee.builtin Builtin.append, args := #[Operand.tmp 31, Operand.tmp 33], argTypes := #[25, 25] }, type := 25, pos := "ref.go:60", after := #[{ on := 6, ground := Ground.data }, { on := 8, ground := Ground.data }, { on := 6, ground := Ground.chain }], guard := none }) (by kernel_rfl) rfl (fun K hK => ?_)
      rw [if_pos (by rfl)]
      refine wp_append_lst _ _ rfl rfl rfl O6.out E8.out.rd (by have := H64.out; simp; omega) SZ.out ?_
      intro v9 V9 ho hg hf
      have ne0 : some b0 ≠ v6.ownBlock := fun e => by have := (O6.out.lt e.symm).1; have := WB.out; omega
      have ne1 : some b1 ≠ v6.ownBlock := fun e => by have := (O6.out.lt e.symm).1; have := WB.out; omega
      refine hK.out _ _ (fun _ h => ⟨hg.cell (a := ⟨b0, 0, none⟩) h.1 ne0, hg.cell (a := ⟨b0, 1, none⟩) h.2.1 ne0, Nat.lt_of_lt_of_le h.2.2 hg.size⟩) ?_
      clear hK K
      try simp only [Act.put, List.setIfInBounds_toArray, List.set_cons_zero, List.set_cons_succ]
      have R1 := hide1 ((hg.block b1 (lt_heap R1.out) ne1).trans R1.out)
      have B2 : Hid (Below w.heap.size w V9) := B2.out.grown hg B2.out.size (fun k' hk' => by have := (O6.out.lt hk').1; have := WB.out; omega)
      obtain ⟨a9, c9, rfl⟩ := ho.form
      generalize (N 0 ++ [s]).length = m9 at *
      have O9 := hide1 ho
      clear hg hf ho ne0 ne1
      refine ready_f 10 (o := { dst := some 35, op := Op.call { callee := Callee.value (Operand.func 27), args := #[Operand.tmp 25, Operand.tmp 26, Operand.tmp 34], argTypes := #[27, 3, 25] }, type := 27, pos := "ref.go:60", after := #[{ on := 0, ground := Ground.data }, { on := 1, ground := Ground.data }, { on := 9, ground := Ground.data }, { on := 9, ground := Ground.chain }], guard := none }) (by kernel_rfl) rfl (fun K hK => ?_)
      go_simp
      refine (with_any0 a0 a1 a9 n0 c0 n1 c1 m9 c9 V9).mono ?_
      rintro e V10 ⟨rfl, hb10⟩
      refine hK.out _ _ (fun _ h => ⟨(hb10.cell (p := ⟨b0, 0, none⟩) h.2.2).trans h.1, (hb10.cell (p := ⟨b0, 1, none⟩) h.2.2).trans h.2.1, Nat.lt_of_lt_of_le h.2.2 hb10.size⟩) ?_
      clear hK K
      try simp only [Act.put, List.setIfInBounds_toArray, List.set_cons_zero, List.set_cons_succ]
      have R1 := hide1 ((hb10.block b1 (lt_heap R1.out)).trans R1.out)
      have B3 : Hid (Below w.heap.size w V10) := B2.out.trans (hb10.mono B2.out.size)
      have O10 := hide1 (O9.out.below hb10 (Nat.le_refl _))
      clear hb10 hS
      refine ready_f 11 (o := { dst := none, op := Op.store 27 (Operand.tmp 6) (Operand.tmp 35), type := 0, pos := "ref.go:60", after := #[{ on := 10, ground := Ground.data }, { on := 10, ground := Ground.chain }, { on := 0, ground := Ground.phase }, { on := 1, ground := Ground.phase }, { on := 2, ground := Ground.phase }, { on := 3, ground := Ground.phase }, { on := 4, ground := Ground.phase }, { on := 5, ground := Ground.phase }, { on := 6, ground := Ground.phase }, { on := 7, ground := Ground.phase }, { on := 8, ground := Ground.phase }, { on := 9, ground := Ground.phase }, { on := 10, ground := Ground.phase }], guard := none }) (by kernel_rfl) rfl (fun K hK => ?_)
      rw [if_pos (by rfl)]
      refine wp_store_row 27 _ _ rfl b1 _ rfl rfl 27 _ R1.out (by kernel_rfl) rfl (by kernel_rfl) ?_
      refine hK.out _ _ (fun h => absurd (by decide) h) ?_
      clear hK K
      refine take_p 12 7 (.int .i64 0) rfl rfl (by kernel_rfl) (by kernel_rfl) (by kernel_rfl) (fun _ _ _ h => h) rfl (fun w => by go_simp) ?_
      try simp only [List.setIfInBounds_toArray, List.set_cons_zero, List.set_cons_succ]
      refine done_f (by kernel_rfl) ?_ _
      go_wp2
      exact ret_n2 Try.results21 b1 _ _ _ rfl rfl (setRow_heap _ b1 _ _ _ _ R1.out) rfl ⟨_, rfl, (O10.out.setRow (by have := WB.out; omega) _).mono (by have := WB.out; omega), below_setRow B3.out (by have := HS.out; omega) _⟩
    · go_simp
      refine (kT _).out.mono ?_
      rintro e V2 ⟨rfl, hb⟩
      refine hK.out _ _ (fun _ h => ⟨(hb.cell (p := ⟨b0, 0, none⟩) h.2.2).trans h.1, (hb.cell (p := ⟨b0, 1, none⟩) h.2.2).trans h.2.1, Nat.lt_of_lt_of_le h.2.2 hb.size⟩) ?_
      clear hK K
      try simp only [Act.put, List.setIfInBounds_toArray, List.set_cons_zero, List.set_cons_succ]
      replace E8 := hide1 (E8.out.below hb (Nat.le_refl _))
      replace R1 := hide1 ((hb.block b1 (lt_heap R1.out)).trans R1.out)
      replace B2 : Hid (Below w.heap.size w V2) := B2.out.trans (hb.mono B2.out.size)
      replace SZ : Hid (bs ≤ V2.heap.size) := Nat.le_trans SZ.out hb.size
      clear hb
      refine ready_f 2 (o := { dst := some 27, op := Op.buildSlice 25 0 #[], type := 25, pos := "ref.go:60", after := #[], guard := none }) (by kernel_rfl) rfl (fun K hK => ?_)
      go_simp
      refine hK.out _ _ (fun _ h => ⟨((below1 _).cell (p := ⟨b0, 0, none⟩) h.2.2).trans h.1, ((below1 _).cell (p := ⟨b0, 1, none⟩) h.2.2).trans h.2.1, Nat.lt_of_lt_of_le h.2.2 (below1 _).size⟩) ?_
      clear hK K
      try simp only [Act.put, List.setIfInBounds_toArray, List.set_cons_zero, List.set_cons_succ]
      have hb : Below V2.heap.size V2 (V2.alloc (.cells #[] 9)) := below1 _
      have NEW := hide1 (Lst.empty (w := V2) SZ.out)
      have NE : Hid (U.heap.size ≠ V2.heap.size) := Nat.ne_of_lt (E8.out.lt rfl).2
      generalize World.alloc V2 _ = V3 at hb NEW ⊢
      replace E8 := hide1 (E8.out.below hb (Nat.le_refl _))
      replace R1 := hide1 ((hb.block b1 (lt_heap R1.out)).trans R1.out)
      replace B2 : Hid (Below w.heap.size w V3) := B2.out.trans (hb.mono B2.out.size)
      replace SZ : Hid (bs ≤ V3.heap.size) := Nat.le_trans SZ.out hb.size
      have O2 := NEW
      clear NEW hb
      refine ready_f 6 (o := { dst := some 31, op := Op.call { callee := Callee.builtin Builtin.append, args := #[Operand.tmp 27, Operand.tmp 30], argTypes := #[25, 25] }, type := 25, pos := "ref.go:60", after := #[{ on := 2, ground := Ground.data }, { on := 5, ground := Ground.data }, { on := 5, ground := Ground.chain }], guard := none }) (by kernel_rfl) rfl (fun K hK => ?_)
      rw [if_pos (by rfl)]
      refine wp_append_lst _ _ rfl rfl rfl O2.out (HA.out.below B2.out (Nat.le_refl _)).rd (by have := H64.out; simp; omega) SZ.out ?_
      intro v6 V4 ho hg hf
      replace hg : V3.grownBy V4 (some V2.heap.size) := hg
      have hlo : bs ≤ V2.heap.size := (O2.out.lt rfl).1
      have ne0 : some b0 ≠ some V2.heap.size := fun e => by have := WB.out; cases e; omega
      have ne1 : some b1 ≠ some V2.heap.size := fun e => by have := WB.out; cases e; omega
      refine hK.out _ _ (fun _ h => ⟨hg.cell (a := ⟨b0, 0, none⟩) h.1 ne0, hg.cell (a := ⟨b0, 1, none⟩) h.2.1 ne0, Nat.lt_of_lt_of_le h.2.2 hg.size⟩) ?_
      clear hK K
      try simp only [Act.put, List.setIfInBounds_toArray, List.set_cons_zero, List.set_cons_succ]
      replace E8 := hide1 (E8.out.same (w' := V4) fun g hgg => hg.block g (E8.out.lt hgg).2 (fun e => NE.out ((Option.some.inj (show some U.heap.size = some g from hgg)).trans (Option.some.inj e))))
      replace R1 := hide1 ((hg.block b1 (lt_heap R1.out) ne1).trans R1.out)
      replace B2 : Hid (Below w.heap.size w V4) := B2.out.grown hg B2.out.size (fun k' hk' => by have := WB.out; cases hk'; omega)
      replace SZ : Hid (bs ≤ V4.heap.size) := Nat.le_trans SZ.out hg.size
      rw [List.nil_append] at ho
      have O6 := hide1 ho
      clear hg hf ho ne0 ne1 O2 hlo
      refine ready_f 9 (o := { dst := some 34, op := Op.call { callee := Callee.builtin Builtin.append, args := #[Operand.tmp 31, Operand.tmp 33], argTypes := #[25, 25] }, type := 25, pos := "ref.go:60", after := #[{ on := 6, ground := Ground.data }, { on := 8, ground := Ground.data }, { on := 6, ground := Ground.chain }], guard := none }) (by kernel_rfl) rfl (fun K hK => ?_)
      rw [if_pos (by rfl)]
      refine wp_append_lst _ _ rfl rfl rfl O6.out E8.out.rd (by have := H64.out; simp; omega) SZ.out ?_
      intro v9 V9 ho hg hf
      have ne0 : some b0 ≠ v6.ownBlock := fun e => by have := (O6.out.lt e.symm).1; have := WB.out; omega
      have ne1 : some b1 ≠ v6.ownBlock := fun e => by have := (O6.out.lt e.symm).1; have := WB.out; omega
      refine hK.out _ _ (fun _ h => ⟨hg.cell (a := ⟨b0, 0, none⟩) h.1 ne0, hg.cell (a := ⟨b0, 1, none⟩) h.2.1 ne0, Nat.lt_of_lt_of_le h.2.2 hg.size⟩) ?_
      clear hK K
      try simp only [Act.put, List.setIfInBounds_toArray, List.set_cons_zero, List.set_cons_succ]
      have R1 := hide1 ((hg.block b1 (lt_heap R1.out) ne1).trans R1.out)
      have B2 : Hid (Below w.heap.size w V9) := B2.out.grown hg B2.out.size (fun k' hk' => by have := (O6.out.lt hk').1; have := WB.out; omega)
      obtain ⟨a9, c9, rfl⟩ := ho.form
      generalize (N 0 ++ [s]).length = m9 at *
      have O9 := hide1 ho
      clear hg hf ho ne0 ne1
      refine ready_f 10 (o := { dst := some 35, op := Op.call { callee := Callee.value (Operand.func 27), args := #[Operand.tmp 25, Operand.tmp 26, Operand.tmp 34], argTypes := #[27, 3, 25] }, type := 27, pos := "ref.go:60", after := #[{ on := 0, ground := Ground.data }, { on := 1, ground := Ground.data }, { on := 9, ground := Ground.data }, { on := 9, ground := Ground.chain }], guard := none }) (by kernel_rfl) rfl (fun K hK => ?_)
      go_simp
      refine (with_any0 a0 a1 a9 n0 c0 n1 c1 m9 c9 V9).mono ?_
      rintro e V10 ⟨rfl, hb10⟩
      refine hK.out _ _ (fun _ h => ⟨(hb10.cell (p := ⟨b0, 0, none⟩) h.2.2).trans h.1, (hb10.cell (p := ⟨b0, 1, none⟩) h.2.2).trans h.2.1, Nat.lt_of_lt_of_le h.2.2 hb10.size⟩) ?_
      clear hK K
      try simp only [Act.put, List.setIfInBounds_toArray, List.set_cons_zero, List.set_cons_succ]
      have R1 := hide1 ((hb10.block b1 (lt_heap R1.out)).trans R1.out)
      have B3 : Hid (Below w.heap.size w V10) := B2.out.trans (hb10.mono B2.out.size)
      have O10 := hide1 (O9.out.below hb10 (Nat.le_refl _))
      clear hb10 hS
      refine ready_f 11 (o := { dst := none, op := Op.store 27 (Operand.tmp 6) (Operand.tmp 35), type := 0, pos := "ref.go:60", after := #[{ on := 10, ground := Ground.data }, { on := 10, ground := Ground.chain }, { on := 0, ground := Ground.phase }, { on := 1, ground := Ground.phase }, { on := 2, ground := Ground.phase }, { on := 3, ground := Ground.phase }, { on := 4, ground := Ground.phase }, { on := 5, ground := Ground.phase }, { on := 6, ground := Ground.phase }, { on := 7, ground := Ground.phase }, { on := 8, ground := Ground.phase }, { on := 9, ground := Ground.phase }, { on := 10, ground := Ground.phase }], guard := none }) (by kernel_rfl) rfl (fun K hK => ?_)
      rw [if_pos (by rfl)]
      refine wp_store_row 27 _ _ rfl b1 _ rfl rfl 27 _ R1.out (by kernel_rfl) rfl (by kernel_rfl) ?_
      refine hK.out _ _ (fun h => absurd (by decide) h) ?_
      clear hK K
      refine take_p 12 7 (.int .i64 0) rfl rfl (by kernel_rfl) (by kernel_rfl) (by kernel_rfl) (fun _ _ _ h => h) rfl (fun w => by go_simp) ?_
      try simp only [List.setIfInBounds_toArray, List.set_cons_zero, List.set_cons_succ]
      refine done_f (by kernel_rfl) ?_ _
      go_wp2
      exact ret_n2 Try.results21 b1 _ _ _ rfl rfl (setRow_heap _ b1 _ _ _ _ R1.out) rfl ⟨_, rfl, (O10.out.setRow (by have := WB.out; omega) _).mono (by have := WB.out; omega), below_setRow B3.out (by have := HS.out; omega) _⟩

set_option maxHeartbeats 2000000 in
theorem rsend_ok1 {N : Nat → List ByteArray} (a0 a1 : Option Addr) (c0 c1 : Nat) (s : ByteArray) (w : World) (h64 : (N 1).length < 64) (hs : s.size ≤ 131072) (hA : Lst 0 w (.slice a1 (N 1).length c1) (N 1)) :
    Calls Try.prog 21 #[.agg #[.slice a0 (N 0).length c0, .slice a1 (N 1).length c1], .int .i64 1, .string s] w fun e w' => ∃ v', e = .returned (.tuple #[.agg #[.slice a0 (N 0).length c0, v'], .int .i64 0]) ∧ Lst w.heap.size w' v' ((N 1) ++ [s]) ∧ Below w.heap.size w w' := by
  have kT := fun w => hide1 (to_any1 a0 a1 (N 0).length c0 (N 1).length c1 w)
  have HA := hide1 hA
  have H64 := hide1 h64
  have h2' : ¬ (131072 : Int) < (s.size : Int) := by omega
  have h3' : ¬ (64 : Int) ≤ ((N 1).length : Int) := by omega
  clear hA h64 hs
  obtain ⟨n0, hn0⟩ : ∃ n0, (N 0).length = n0 := ⟨_, rfl⟩
  obtain ⟨n1, hn1⟩ : ∃ n1, (N 1).length = n1 := ⟨_, rfl⟩
  rw [hn1] at h3' HA
  rw [hn0, hn1] at kT
  rw [hn0, hn1]
  clear hn0 hn1
  go_enter Try.func21, Try.ntmps21
  go_wp2_with fail
  have h2 := two_new w (.cells #[.slice a0 n0 c0, .slice a1 n1 c1] 27) (.cells #[.slice none 0 0, .slice none 0 0] 27)
  have hB := below2 (w := w) (.cells #[.slice a0 n0 c0, .slice a1 n1 c1] 27) (.cells #[.slice none 0 0, .slice none 0 0] 27)
  have H2 := hide1 h2
  have HB := hide1 hB
  clear h2 hB
  generalize (w.alloc _).alloc _ = W1 at H2 HB ⊢
  obtain ⟨b0, hb0⟩ : ∃ b0, w.heap.size = b0 := ⟨_, rfl⟩
  obtain ⟨b1, hb1⟩ : ∃ b1, w.heap.size + 1 = b1 := ⟨_, rfl⟩
  have HS : Hid (w.heap.size = b0 ∧ b0 + 1 = b1) := ⟨hb0, by omega⟩
  rw [hb1, hb0] at H2
  rw [hb1, hb0]
  clear hb0 hb1
  refine ((kT _).out).mono ?_
  rintro e W2 ⟨rfl, hbb⟩
  have R0' := hide1 ((hbb.block b0 (lt_heap H2.out.1)).trans H2.out.1)
  have R1' := hide1 ((hbb.block b1 (lt_heap H2.out.2)).trans H2.out.2)
  have B2' : Hid (Below w.heap.size w W2) := HB.out.trans (hbb.mono HB.out.size)
  clear hbb H2 HB
  have R0 := R0'
  have R1 := R1'
  have B2 := B2'
  clear R0' R1' B2'
  obtain ⟨d0, d1, _, _, _⟩ := box2 R0.out
  go_upto_region 7 with (fail)
  clear d0 d1
  refine region_f (F := [11]) (S := fun W => W.cell? ⟨b0, 0, none⟩ = some (.slice a0 n0 c0) ∧ W.cell? ⟨b0, 1, none⟩ = some (.slice a1 n1 c1) ∧ b0 < W.heap.size) (by kernel_rfl) ⟨(box2 R0.out).1, (box2 R0.out).2.1, (box2 R0.out).2.2.2.2⟩ (fun hS => ?_)
  generalize hU : World.drew W2 = U at hS ⊢
  have R0 : Hid (U.heap[b0]? = some (.cells #[.slice a0 n0 c0, .slice a1 n1 c1] 27 (0, 0))) := by rw [← hU]; exact R0.out
  have R1 : Hid (U.heap[b1]? = some (.cells #[.slice none 0 0, .slice none 0 0] 27 (0, 0))) := by rw [← hU]; exact R1.out
  have B2 : Hid (Below w.heap.size w U) := by rw [← hU]; exact B2.out.drew
  clear hU
  refine take_f 0 25 (.agg #[.slice a0 n0 c0, .slice a1 n1 c1]) [10, 11, 12] rfl rfl (by kernel_rfl) (by kernel_rfl) (by kernel_rfl) (by kernel_rfl) (by kernel_rfl) (by kernel_rfl) (fun _ _ _ h => h) rfl (fun w hSw => by obtain ⟨g0, g1, g2⟩ := hSw; go_simp) hS ?_
  try simp only [List.setIfInBounds_toArray, List.set_cons_zero, List.set_cons_succ]
  refine take_p 1 26 (.int .i64 1) rfl rfl (by kernel_rfl) (by kernel_rfl) (by kernel_rfl) (fun _ _ _ h => h) rfl (fun w => by go_simp) ?_
  try simp only [List.setIfInBounds_toArray, List.set_cons_zero, List.set_cons_succ]
  refine take_f 3 28 (.agg #[.slice a0 n0 c0, .slice a1 n1 c1]) [5, 6, 9, 10, 11, 12] rfl rfl (by kernel_rfl) (by kernel_rfl) (by kernel_rfl) (by kernel_rfl) (by kernel_rfl) (by kernel_rfl) (fun _ _ _ h => h) rfl (fun w hSw => by obtain ⟨g0, g1, g2⟩ := hSw; go_simp) hS ?_
  try simp only [List.setIfInBounds_toArray, List.set_cons_zero, List.set_cons_succ]
  refine take_p 4 29 (.int .i64 1) rfl rfl (by kernel_rfl) (by kernel_rfl) (by kernel_rfl) (fun _ _ _ h => h) rfl (fun w => by go_simp) ?_
  try simp only [List.setIfInBounds_toArray, List.set_cons_zero, List.set_cons_succ]
  refine take_p 7 32 (.string s) rfl rfl (by kernel_rfl) (by kernel_rfl) (by kernel_rfl) (fun _ _ _ h => h) rfl (fun w => by go_simp) ?_
  try simp only [List.setIfInBounds_toArray, List.set_cons_zero, List.set_cons_succ]
  obtain ⟨bs, hbs⟩ : ∃ bs, U.heap.size = bs := ⟨_, rfl⟩
  have SZ : Hid (bs ≤ U.heap.size) := Nat.le_of_eq hbs.symm
  have WB : Hid (b0 < bs ∧ b1 < bs ∧ w.heap.size ≤ bs) := ⟨by rw [← hbs]; exact lt_heap R0.out, by rw [← hbs]; exact lt_heap R1.out, by rw [← hbs]; exact B2.out.size⟩
  clear hbs
  refine ready3_f 2 5 8 (o := { dst := some 27, op := Op.buildSlice 25 0 #[], type := 25, pos := "ref.go:60", after := #[], guard := none }) (o' := { dst := some 30, op := Op.call { callee := Callee.value (Operand.func 33), args := #[Operand.tmp 28, Operand.tmp 29], argTypes := #[27, 3] }, type := 25, pos := "ref.go:60", after := #[{ on := 3, ground := Ground.data }, { on := 4, ground := Ground.data }], guard := none }) (o2 := { dst := some 33, op := Op.buildSlice 25 1 #[(0, Operand.tmp 32)], type := 25, pos := "ref.go:60", after := #[{ on := 7, ground := Ground.data }], guard := none }) (by kernel_rfl) rfl rfl rfl (fun K hK => ?_) (fun K hK => ?_) (fun K hK => ?_)
  · go_simp
    refine hK.out _ _ (fun _ h => ⟨((below1 _).cell (p := ⟨b0, 0, none⟩) h.2.2).trans h.1, ((below1 _).cell (p := ⟨b0, 1, none⟩) h.2.2).trans h.2.1, Nat.lt_of_lt_of_le h.2.2 (below1 _).size⟩) ?_
    clear hK K
    try simp only [Act.put, List.setIfInBounds_toArray, List.set_cons_zero, List.set_cons_succ]
    have hb : Below U.heap.size U (U.alloc (.cells #[] 9)) := below1 _
    have NEW := hide1 (Lst.empty (w := U) SZ.out)
    generalize World.alloc U _ = V1 at hb NEW ⊢
    replace R1 := hide1 ((hb.block b1 (lt_heap R1.out)).trans R1.out)
    replace B2 : Hid (Below w.heap.size w V1) := B2.out.trans (hb.mono B2.out.size)
    replace SZ : Hid (bs ≤ V1.heap.size) := Nat.le_trans SZ.out hb.size
    have O2 := NEW
    clear NEW hb
    refine ready2_f 5 8 (o := { dst := some 30, op := Op.call { callee := Callee.value (Operand.func 33), args := #[Operand.tmp 28, Operand.tmp 29], argTypes := #[27, 3] }, type := 25, pos := "ref.go:60", after := #[{ on := 3, ground := Ground.data }, { on := 4, ground := Ground.data }], guard := none }) (o' := { dst := some 33, op := Op.buildSlice 25 1 #[(0, Operand.tmp 32)], type := 25, pos := "ref.go:60", after := #[{ on := 7, ground := Ground.data }], guard := none }) (by kernel_rfl) rfl rfl (fun K hK => ?_) (fun K hK => ?_)
    · go_simp
      refine (kT _).out.mono ?_
      rintro e V2 ⟨rfl, hb⟩
      refine hK.out _ _ (fun _ h => ⟨(hb.cell (p := ⟨b0, 0, none⟩) h.2.2).trans h.1, (hb.cell (p := ⟨b0, 1, none⟩) h.2.2).trans h.2.1, Nat.lt_of_lt_of_le h.2.2 hb.size⟩) ?_
      clear hK K
      try simp only [Act.put, List.setIfInBounds_toArray, List.set_cons_zero, List.set_cons_succ]
      replace O2 := hide1 (O2.out.below hb (Nat.le_refl _))
      replace R1 := hide1 ((hb.block b1 (lt_heap R1.out)).trans R1.out)
      replace B2 : Hid (Below w.heap.size w V2) := B2.out.trans (hb.mono B2.out.size)
      replace SZ : Hid (bs ≤ V2.heap.size) := Nat.le_trans SZ.out hb.size
      clear hb
      refine ready2_f 6 8 (o := { dst := some 31, op := Op.call { callee := Callee.builtin Builtin.append, args := #[Operand.tmp 27, Operand.tmp 30], argTypes := #[25, 25] }, type := 25, pos := "ref.go:60", after := #[{ on := 2, ground := Ground.data }, { on := 5, ground := Ground.data }, { on := 5, ground := Ground.chain }], guard := none }) (o' := { dst := some 33, op := Op.buildSlice 25 1 #[(0, Operand.tmp 32)], type := 25, pos := "ref.go:60", after := #[{ on := 7, ground := Ground.data }], guard := none }) (by kernel_rfl) rfl rfl (fun K hK => ?_) (fun K hK => ?_)
      · rw [if_pos (by rfl)]
        refine wp_append_lst _ _ rfl rfl rfl O2.out (HA.out.below B2.out (Nat.le_refl _)).rd (by have := H64.out; simp; omega) SZ.out ?_
        intro v6 V3 ho hg hf
        replace hg : V2.grownBy V3 (some U.heap.size) := hg
        have hlo : bs ≤ U.heap.size := (O2.out.lt rfl).1
        have ne0 : some b0 ≠ some U.heap.size := fun e => by have := WB.out; cases e; omega
        have ne1 : some b1 ≠ some U.heap.size := fun e => by have := WB.out; cases e; omega
        refine hK.out _ _ (fun _ h => ⟨hg.cell (a := ⟨b0, 0, none⟩) h.1 ne0, hg.cell (a := ⟨b0, 1, none⟩) h.2.1 ne0, Nat.lt_of_lt_of_le h.2.2 hg.size⟩) ?_
        clear hK K
        try simp only [Act.put, List.setIfInBounds_toArray, List.set_cons_zero, List.set_cons_succ]
        replace R1 := hide1 ((hg.block b1 (lt_heap R1.out) ne1).trans R1.out)
        replace B2 : Hid (Below w.heap.size w V3) := B2.out.grown hg B2.out.size (fun k' hk' => by have := WB.out; cases hk'; omega)
        replace SZ : Hid (bs ≤ V3.heap.size) := Nat.le_trans SZ.out hg.size
        rw [List.nil_append] at ho
        have O6 := hide1 ho
        clear hg hf ho ne0 ne1 O2 hlo
        refine ready_f 8 (o := { dst := some 33, op := Op.buildSlice 25 1 #[(0, Operand.tmp 32)], type := 25, pos := "ref.go:60", after := #[{ on := 7, ground := Ground.data }], guard := none }) (by kernel_rfl) rfl (fun K hK => ?_)
        go_simp
        refine hK.out _ _ (fun _ h => ⟨((below1 _).cell (p := ⟨b0, 0, none⟩) h.2.2).trans h.1, ((below1 _).cell (p := ⟨b0, 1, none⟩) h.2.2).trans h.2.1, Nat.lt_of_lt_of_le h.2.2 (below1 _).size⟩) ?_
        clear hK K
        try simp only [Act.put, List.setIfInBounds_toArray, List.set_cons_zero, List.set_cons_succ]
        have hb : Below V3.heap.size V3 (V3.alloc (.cells #[.string s] 9)) := below1 _
        have NEW := hide1 (Lst.one (w := V3) s SZ.out)
        generalize World.alloc V3 _ = V4 at hb NEW ⊢
        replace O6 := hide1 (O6.out.below hb (Nat.le_refl _))
        replace R1 := hide1 ((hb.block b1 (lt_heap R1.out)).trans R1.out)
        replace B2 : Hid (Below w.heap.size w V4) := B2.out.trans (hb.mono B2.out.size)
        replace SZ : Hid (bs ≤ V4.heap.size) := Nat.le_trans SZ.out hb.size
        have E8 := NEW
        clear NEW hb
        refine ready_f 9 (o := { dst := some 34, op := Op.call { callee := Callee.builtin Builtin.append, args := #[Operand.tmp 31, Operand.tmp 33], argTypes := #[25, 25] }, type := 25, pos := "ref.go:60", after := #[{ on := 6, ground := Ground.data }, { on := 8, ground := Ground.data }, { on := 6, ground := Ground.chain }], guard := none }) (by kernel_rfl) rfl (fun K hK => ?_)
        rw [if_pos (by rfl)]
        refine wp_append_lst _ _ rfl rfl rfl O6.out E8.out.rd (by have := H64.out; simp; omega) SZ.out ?_
        intro v9 V9 ho hg hf
        have ne0 : some b0 ≠ v6.ownBlock := fun e => by have := (O6.out.lt e.symm).1; have := WB.out; omega
        have ne1 : some b1 ≠ v6.ownBlock := fun e => by have := (O6.out.lt e.symm).1; have := WB.out; omega
        refine hK.out _ _ (fun _ h => ⟨hg.cell (a := ⟨b0, 0, none⟩) h.1 ne0, hg.cell (a := ⟨b0, 1, none⟩) h.2.1 ne0, Nat.lt_of_lt_of_le h.2.2 hg.size⟩) ?_
        clear hK K
        try simp only [Act.put, List.setIfInBounds_toArray, List.set_cons_zero, List.set_cons_succ]
        have R1 := hide1 ((hg.block b1 (lt_heap R1.out) ne1).trans R1.out)
        have B2 : Hid (Below w.heap.size w V9) := B2.out.grown hg B2.out.size (fun k' hk' => by have := (O6.out.lt hk').1; have := WB.out; omega)
        obtain ⟨a9, c9, rfl⟩ := ho.form
        generalize (N 1 ++ [s]).length = m9 at *
        have O9 := hide1 ho
        clear hg hf ho ne0 ne1
        refine ready_f 10 (o := { dst := some 35, op := Op.call { callee := Callee.value (Operand.func 27), args := #[Operand.tmp 25, Operand.tmp 26, Operand.tmp 34], argTypes := #[27, 3, 25] }, type := 27, pos := "ref.go:60", after := #[{ on := 0, ground := Ground.data }, { on := 1, ground := Ground.data }, { on := 9, ground := Ground.data }, { on := 9, ground := Ground.chain }], guard := none }) (by kernel_rfl) rfl (fun K hK => ?_)
        go_simp
        refine (with_any1 a0 a1 a9 n0 c0 n1 c1 m9 c9 V9).mono ?_
        rintro e V10 ⟨rfl, hb10⟩
        refine hK.out _ _ (fun _ h => ⟨(hb10.cell (p := ⟨b0, 0, none⟩) h.2.2).trans h.1, (hb10.cell (p := ⟨b0, 1, none⟩) h.2.2).trans h.2.1, Nat.lt_of_lt_of_le h.2.2 hb10.size⟩) ?_
        clear hK K
        try simp only [Act.put, List.setIfInBounds_toArray, List.set_cons_zero, List.set_cons_succ]
        have R1 := hide1 ((hb10.block b1 (lt_heap R1.out)).trans R1.out)
        have B3 : Hid (Below w.heap.size w V10) := B2.out.trans (hb10.mono B2.out.size)
        have O10 := hide1 (O9.out.below hb10 (Nat.le_refl _))
        clear hb10 hS
        refine ready_f 11 (o := { dst := none, op := Op.store 27 (Operand.tmp 6) (Operand.tmp 35), type := 0, pos := "ref.go:60", after := #[{ on := 10, ground := Ground.data }, { on := 10, ground := Ground.chain }, { on := 0, ground := Ground.phase }, { on := 1, ground := Ground.phase }, { on := 2, ground := Ground.phase }, { on := 3, ground := Ground.phase }, { on := 4, ground := Ground.phase }, { on := 5, ground := Ground.phase }, { on := 6, ground := Ground.phase }, { on := 7, ground := Ground.phase }, { on := 8, ground := Ground.phase }, { on := 9, ground := Ground.phase }, { on := 10, ground := Ground.phase }], guard := none }) (by kernel_rfl) rfl (fun K hK => ?_)
        rw [if_pos (by rfl)]
        refine wp_store_row 27 _ _ rfl b1 _ rfl rfl 27 _ R1.out (by kernel_rfl) rfl (by kernel_rfl) ?_
        refine hK.out _ _ (fun h => absurd (by decide) h) ?_
        clear hK K
        refine take_p 12 7 (.int .i64 0) rfl rfl (by kernel_rfl) (by kernel_rfl) (by kernel_rfl) (fun _ _ _ h => h) rfl (fun w => by go_simp) ?_
        try simp only [List.setIfInBounds_toArray, List.set_cons_zero, List.set_cons_succ]
        refine done_f (by kernel_rfl) ?_ _
        go_wp2
        exact ret_n2 Try.results21 b1 _ _ _ rfl rfl (setRow_heap _ b1 _ _ _ _ R1.out) rfl ⟨_, rfl, (O10.out.setRow (by have := WB.out; omega) _).mono (by have := WB.out; omega), below_setRow B3.out (by have := HS.out; omega) _⟩
      · go_simp
        refine hK.out _ _ (fun _ h => ⟨((below1 _).cell (p := ⟨b0, 0, none⟩) h.2.2).trans h.1, ((below1 _).cell (p := ⟨b0, 1, none⟩) h.2.2).trans h.2.1, Nat.lt_of_lt_of_le h.2.2 (below1 _).size⟩) ?_
        clear hK K
        try simp only [Act.put, List.setIfInBounds_toArray, List.set_cons_zero, List.set_cons_succ]
        have hb : Below V2.heap.size V2 (V2.alloc (.cells #[.string s] 9)) := below1 _
        have NEW := hide1 (Lst.one (w := V2) s SZ.out)
        have NE : Hid (V2.heap.size ≠ U.heap.size) := Nat.ne_of_gt (O2.out.lt rfl).2
        generalize World.alloc V2 _ = V3 at hb NEW ⊢
        replace O2 := hide1 (O2.out.below hb (Nat.le_refl _))
        replace R1 := hide1 ((hb.block b1 (lt_heap R1.out)).trans R1.out)
        replace B2 : Hid (Below w.heap.size w V3) := B2.out.trans (hb.mono B2.out.size)
        replace SZ : Hid (bs ≤ V3.heap.size) := Nat.le_trans SZ.out hb.size
        have E8 := NEW
        clear NEW hb
        refine ready_f 6 (o := { dst := some 31, op := Op.call { callee := Callee.builtin Builtin.append, args := #[Operand.tmp 27, Operand.tmp 30], argTypes := #[25, 25] }, type := 25, pos := "ref.go:60", after := #[{ on := 2, ground := Ground.data }, { on := 5, ground := Ground.data }, { on := 5, ground := Ground.chain }], guard := none }) (by kernel_rfl) rfl (fun K hK => ?_)
        rw [if_pos (by rfl)]
        refine wp_append_lst _ _ rfl rfl rfl O2.out (HA.out.below B2.out (Nat.le_refl _)).rd (by have := H64.out; simp; omega) SZ.out ?_
        intro v6 V4 ho hg hf
        replace hg : V3.grownBy V4 (some U.heap.size) := hg
        have hlo : bs ≤ U.heap.size := (O2.out.lt rfl).1
        have ne0 : some b0 ≠ some U.heap.size := fun e => by have := WB.out; cases e; omega
        have ne1 : some b1 ≠ some U.heap.size := fun e => by have := WB.out; cases e; omega
        refine hK.out _ _ (fun _ h => ⟨hg.cell (a := ⟨b0, 0, none⟩) h.1 ne0, hg.cell (a := ⟨b0, 1, none⟩) h.2.1 ne0, Nat.lt_of_lt_of_le h.2.2 hg.size⟩) ?_
        clear hK K
        try simp only [Act.put, List.setIfInBounds_toArray, List.set_cons_zero, List.set_cons_succ]
        replace E8 := hide1 (E8.out.same (w' := V4) fun g hgg => hg.block g (E8.out.lt hgg).2 (fun e => NE.out ((Option.some.inj (show some V2.heap.size = some g from hgg)).trans (Option.some.inj e))))
        replace R1 := hide1 ((hg.block b1 (lt_heap R1.out) ne1).trans R1.out)
        replace B2 : Hid (Below w.heap.size w V4) := B2.out.grown hg B2.out.size (fun k' hk' => by have := WB.out; cases hk'; omega)
        replace SZ : Hid (bs ≤ V4.heap.size) := Nat.le_trans SZ.out hg.size
        rw [List.nil_append] at ho
        have O6 := hide1 ho
        clear hg hf ho ne0 ne1 O2 hlo
        refine ready_f 9 (o := { dst := some 34, op := Op.call { callee := Callee.builtin Builtin.append, args := #[Operand.tmp 31, Operand.tmp 33], argTypes := #[25, 25] }, type := 25, pos := "ref.go:60", after := #[{ on := 6, ground := Ground.data }, { on := 8, ground := Ground.data }, { on := 6, ground := Ground.chain }], guard := none }) (by kernel_rfl) rfl (fun K hK => ?_)
        rw [if_pos (by rfl)]
        refine wp_append_lst _ _ rfl rfl rfl O6.out E8.out.rd (by have := H64.out; simp; omega) SZ.out ?_
        intro v9 V9 ho hg hf
        have ne0 : some b0 ≠ v6.ownBlock := fun e => by have := (O6.out.lt e.symm).1; have := WB.out; omega
        have ne1 : some b1 ≠ v6.ownBlock := fun e => by have := (O6.out.lt e.symm).1; have := WB.out; omega
        refine hK.out _ _ (fun _ h => ⟨hg.cell (a := ⟨b0, 0, none⟩) h.1 ne0, hg.cell (a := ⟨b0, 1, none⟩) h.2.1 ne0, Nat.lt_of_lt_of_le h.2.2 hg.size⟩) ?_
        clear hK K
        try simp only [Act.put, List.setIfInBounds_toArray, List.set_cons_zero, List.set_cons_succ]
        have R1 := hide1 ((hg.block b1 (lt_heap R1.out) ne1).trans R1.out)
        have B2 : Hid (Below w.heap.size w V9) := B2.out.grown hg B2.out.size (fun k' hk' => by have := (O6.out.lt hk').1; have := WB.out; omega)
        obtain ⟨a9, c9, rfl⟩ := ho.form
        generalize (N 1 ++ [s]).length = m9 at *
        have O9 := hide1 ho
        clear hg hf ho ne0 ne1
        refine ready_f 10 (o := { dst := some 35, op := Op.call { callee := Callee.value (Operand.func 27), args := #[Operand.tmp 25, Operand.tmp 26, Operand.tmp 34], argTypes := #[27, 3, 25] }, type := 27, pos := "ref.go:60", after := #[{ on := 0, ground := Ground.data }, { on := 1, ground := Ground.data }, { on := 9, ground := Ground.data }, { on := 9, ground := Ground.chain }], guard := none }) (by kernel_rfl) rfl (fun K hK => ?_)
        go_simp
        refine (with_any1 a0 a1 a9 n0 c0 n1 c1 m9 c9 V9).mono ?_
        rintro e V10 ⟨rfl, hb10⟩
        refine hK.out _ _ (fun _ h => ⟨(hb10.cell (p := ⟨b0, 0, none⟩) h.2.2).trans h.1, (hb10.cell (p := ⟨b0, 1, none⟩) h.2.2).trans h.2.1, Nat.lt_of_lt_of_le h.2.2 hb10.size⟩) ?_
        clear hK K
        try simp only [Act.put, List.setIfInBounds_toArray, List.set_cons_zero, List.set_cons_succ]
        have R1 := hide1 ((hb10.block b1 (lt_heap R1.out)).trans R1.out)
        have B3 : Hid (Below w.heap.size w V10) := B2.out.trans (hb10.mono B2.out.size)
        have O10 := hide1 (O9.out.below hb10 (Nat.le_refl _))
        clear hb10 hS
        refine ready_f 11 (o := { dst := none, op := Op.store 27 (Operand.tmp 6) (Operand.tmp 35), type := 0, pos := "ref.go:60", after := #[{ on := 10, ground := Ground.data }, { on := 10, ground := Ground.chain }, { on := 0, ground := Ground.phase }, { on := 1, ground := Ground.phase }, { on := 2, ground := Ground.phase }, { on := 3, ground := Ground.phase }, { on := 4, ground := Ground.phase }, { on := 5, ground := Ground.phase }, { on := 6, ground := Ground.phase }, { on := 7, ground := Ground.phase }, { on := 8, ground := Ground.phase }, { on := 9, ground := Ground.phase }, { on := 10, ground := Ground.phase }], guard := none }) (by kernel_rfl) rfl (fun K hK => ?_)
        rw [if_pos (by rfl)]
        refine wp_store_row 27 _ _ rfl b1 _ rfl rfl 27 _ R1.out (by kernel_rfl) rfl (by kernel_rfl) ?_
        refine hK.out _ _ (fun h => absurd (by decide) h) ?_
        clear hK K
        refine take_p 12 7 (.int .i64 0) rfl rfl (by kernel_rfl) (by kernel_rfl) (by kernel_rfl) (fun _ _ _ h => h) rfl (fun w => by go_simp) ?_
        try simp only [List.setIfInBounds_toArray, List.set_cons_zero, List.set_cons_succ]
        refine done_f (by kernel_rfl) ?_ _
        go_wp2
        exact ret_n2 Try.results21 b1 _ _ _ rfl rfl (setRow_heap _ b1 _ _ _ _ R1.out) rfl ⟨_, rfl, (O10.out.setRow (by have := WB.out; omega) _).mono (by have := WB.out; omega), below_setRow B3.out (by have := HS.out; omega) _⟩
    · go_simp
      refine hK.out _ _ (fun _ h => ⟨((below1 _).cell (p := ⟨b0, 0, none⟩) h.2.2).trans h.1, ((below1 _).cell (p := ⟨b0, 1, none⟩) h.2.2).trans h.2.1, Nat.lt_of_lt_of_le h.2.2 (below1 _).size⟩) ?_
      clear hK K
      try simp only [Act.put, List.setIfInBounds_toArray, List.set_cons_zero, List.set_cons_succ]
      have hb : Below V1.heap.size V1 (V1.alloc (.cells #[.string s] 9)) := below1 _
      have NEW := hide1 (Lst.one (w := V1) s SZ.out)
      have NE : Hid (V1.heap.size ≠ U.heap.size) := Nat.ne_of_gt (O2.out.lt rfl).2
      generalize World.alloc V1 _ = V2 at hb NEW ⊢
      replace O2 := hide1 (O2.out.below hb (Nat.le_refl _))
      replace R1 := hide1 ((hb.block b1 (lt_heap R1.out)).trans R1.out)
      replace B2 : Hid (Below w.heap.size w V2) := B2.out.trans (hb.mono B2.out.size)
      replace SZ : Hid (bs ≤ V2.heap.size) := Nat.le_trans SZ.out hb.size
      have E8 := NEW
      clear NEW hb
      refine ready_f 5 (o := { dst := some 30, op := Op.call { callee := Callee.value (Operand.func 33), args := #[Operand.tmp 28, Operand.tmp 29], argTypes := #[27, 3] }, type := 25, pos := "ref.go:60", after := #[{ on := 3, ground := Ground.data }, { on := 4, ground := Ground.data }], guard := none }) (by kernel_rfl) rfl (fun K hK => ?_)
      go_simp
      refine (kT _).out.mono ?_
      rintro e V3 ⟨rfl, hb⟩
      refine hK.out _ _ (fun _ h => ⟨(hb.cell (p := ⟨b0, 0, none⟩) h.2.2).trans h.1, (hb.cell (p := ⟨b0, 1, none⟩) h.2.2).trans h.2.1, Nat.lt_of_lt_of_le h.2.2 hb.size⟩) ?_
      clear hK K
      try simp only [Act.put, List.setIfInBounds_toArray, List.set_cons_zero, List.set_cons_succ]
      replace O2 := hide1 (O2.out.below hb (Nat.le_refl _))
      replace E8 := hide1 (E8.out.below hb (Nat.le_refl _))
      replace R1 := hide1 ((hb.block b1 (lt_heap R1.out)).trans R1.out)
      replace B2 : Hid (Below w.heap.size w V3) := B2.out.trans (hb.mono B2.out.size)
      replace SZ : Hid (bs ≤ V3.heap.size) := Nat.le_trans SZ.out hb.size
      clear hb
      refine ready_f 6 (o := { dst := some 31, op := Op.call { callee := Callee.builtin Builtin.append, args := #[Operand.tmp 27, Operand.tmp 30], argTypes := #[25, 25] }, type := 25, pos := "ref.go:60", after := #[{ on := 2, ground := Ground.data }, { on := 5, ground := Ground.data }, { on := 5, ground := Ground.chain }], guard := none }) (by kernel_rfl) rfl (fun K hK => ?_)
      rw [if_pos (by rfl)]
      refine wp_append_lst _ _ rfl rfl rfl O2.out (HA.out.below B2.out (Nat.le_refl _)).rd (by have := H64.out; simp; omega) SZ.out ?_
      intro v6 V4 ho hg hf
      replace hg : V3.grownBy V4 (some U.heap.size) := hg
      have hlo : bs ≤ U.heap.size := (O2.out.lt rfl).1
      have ne0 : some b0 ≠ some U.heap.size := fun e => by have := WB.out; cases e; omega
      have ne1 : some b1 ≠ some U.heap.size := fun e => by have := WB.out; cases e; omega
      refine hK.out _ _ (fun _ h => ⟨hg.cell (a := ⟨b0, 0, none⟩) h.1 ne0, hg.cell (a := ⟨b0, 1, none⟩) h.2.1 ne0, Nat.lt_of_lt_of_le h.2.2 hg.size⟩) ?_
      clear hK K
      try simp only [Act.put, List.setIfInBounds_toArray, List.set_cons_zero, List.set_cons_succ]
      replace E8 := hide1 (E8.out.same (w' := V4) fun g hgg => hg.block g (E8.out.lt hgg).2 (fun e => NE.out ((Option.some.inj (show some V1.heap.size = some g from hgg)).trans (Option.some.inj e))))
      replace R1 := hide1 ((hg.block b1 (lt_heap R1.out) ne1).trans R1.out)
      replace B2 : Hid (Below w.heap.size w V4) := B2.out.grown hg B2.out.size (fun k' hk' => by have := WB.out; cases hk'; omega)
      replace SZ : Hid (bs ≤ V4.heap.size) := Nat.le_trans SZ.out hg.size
      rw [List.nil_append] at ho
      have O6 := hide1 ho
      clear hg hf ho ne0 ne1 O2 hlo
      refine ready_f 9 (o := { dst := some 34, op := Op.call { callee := Callee.builtin Builtin.append, args := #[Operand.tmp 31, Operand.tmp 33], argTypes := #[25, 25] }, type := 25, pos := "ref.go:60", after := #[{ on := 6, ground := Ground.data }, { on := 8, ground := Ground.data }, { on := 6, ground := Ground.chain }], guard := none }) (by kernel_rfl) rfl (fun K hK => ?_)
      rw [if_pos (by rfl)]
      refine wp_append_lst _ _ rfl rfl rfl O6.out E8.out.rd (by have := H64.out; simp; omega) SZ.out ?_
      intro v9 V9 ho hg hf
      have ne0 : some b0 ≠ v6.ownBlock := fun e => by have := (O6.out.lt e.symm).1; have := WB.out; omega
      have ne1 : some b1 ≠ v6.ownBlock := fun e => by have := (O6.out.lt e.symm).1; have := WB.out; omega
      refine hK.out _ _ (fun _ h => ⟨hg.cell (a := ⟨b0, 0, none⟩) h.1 ne0, hg.cell (a := ⟨b0, 1, none⟩) h.2.1 ne0, Nat.lt_of_lt_of_le h.2.2 hg.size⟩) ?_
      clear hK K
      try simp only [Act.put, List.setIfInBounds_toArray, List.set_cons_zero, List.set_cons_succ]
      have R1 := hide1 ((hg.block b1 (lt_heap R1.out) ne1).trans R1.out)
      have B2 : Hid (Below w.heap.size w V9) := B2.out.grown hg B2.out.size (fun k' hk' => by have := (O6.out.lt hk').1; have := WB.out; omega)
      obtain ⟨a9, c9, rfl⟩ := ho.form
      generalize (N 1 ++ [s]).length = m9 at *
      have O9 := hide1 ho
      clear hg hf ho ne0 ne1
      refine ready_f 10 (o := { dst := some 35, op := Op.call { callee := Callee.value (Operand.func 27), args := #[Operand.tmp 25, Operand.tmp 26, Operand.tmp 34], argTypes := #[27, 3, 25] }, type := 27, pos := "ref.go:60", after := #[{ on := 0, ground := Ground.data }, { on := 1, ground := Ground.data }, { on := 9, ground := Ground.data }, { on := 9, ground := Ground.chain }], guard := none }) (by kernel_rfl) rfl (fun K hK => ?_)
      go_simp
      refine (with_any1 a0 a1 a9 n0 c0 n1 c1 m9 c9 V9).mono ?_
      rintro e V10 ⟨rfl, hb10⟩
      refine hK.out _ _ (fun _ h => ⟨(hb10.cell (p := ⟨b0, 0, none⟩) h.2.2).trans h.1, (hb10.cell (p := ⟨b0, 1, none⟩) h.2.2).trans h.2.1, Nat.lt_of_lt_of_le h.2.2 hb10.size⟩) ?_
      clear hK K
      try simp only [Act.put, List.setIfInBounds_toArray, List.set_cons_zero, List.set_cons_succ]
      have R1 := hide1 ((hb10.block b1 (lt_heap R1.out)).trans R1.out)
      have B3 : Hid (Below w.heap.size w V10) := B2.out.trans (hb10.mono B2.out.size)
      have O10 := hide1 (O9.out.below hb10 (Nat.le_refl _))
      clear hb10 hS
      refine ready_f 11 (o := { dst := none, op := Op.store 27 (Operand.tmp 6) (Operand.tmp 35), type := 0, pos := "ref.go:60", after := #[{ on := 10, ground := Ground.data }, { on := 10, ground := Ground.chain }, { on := 0, ground := Ground.phase }, { on := 1, ground := Ground.phase }, { on := 2, ground := Ground.phase }, { on := 3, ground := Ground.phase }, { on := 4, ground := Ground.phase }, { on := 5, ground := Ground.phase }, { on := 6, ground := Ground.phase }, { on := 7, ground := Ground.phase }, { on := 8, ground := Ground.phase }, { on := 9, ground := Ground.phase }, { on := 10, ground := Ground.phase }], guard := none }) (by kernel_rfl) rfl (fun K hK => ?_)
      rw [if_pos (by rfl)]
      refine wp_store_row 27 _ _ rfl b1 _ rfl rfl 27 _ R1.out (by kernel_rfl) rfl (by kernel_rfl) ?_
      refine hK.out _ _ (fun h => absurd (by decide) h) ?_
      clear hK K
      refine take_p 12 7 (.int .i64 0) rfl rfl (by kernel_rfl) (by kernel_rfl) (by kernel_rfl) (fun _ _ _ h => h) rfl (fun w => by go_simp) ?_
      try simp only [List.setIfInBounds_toArray, List.set_cons_zero, List.set_cons_succ]
      refine done_f (by kernel_rfl) ?_ _
      go_wp2
      exact ret_n2 Try.results21 b1 _ _ _ rfl rfl (setRow_heap _ b1 _ _ _ _ R1.out) rfl ⟨_, rfl, (O10.out.setRow (by have := WB.out; omega) _).mono (by have := WB.out; omega), below_setRow B3.out (by have := HS.out; omega) _⟩
  · go_simp
    refine (kT _).out.mono ?_
    rintro e V1 ⟨rfl, hb⟩
    refine hK.out _ _ (fun _ h => ⟨(hb.cell (p := ⟨b0, 0, none⟩) h.2.2).trans h.1, (hb.cell (p := ⟨b0, 1, none⟩) h.2.2).trans h.2.1, Nat.lt_of_lt_of_le h.2.2 hb.size⟩) ?_
    clear hK K
    try simp only [Act.put, List.setIfInBounds_toArray, List.set_cons_zero, List.set_cons_succ]
    replace R1 := hide1 ((hb.block b1 (lt_heap R1.out)).trans R1.out)
    replace B2 : Hid (Below w.heap.size w V1) := B2.out.trans (hb.mono B2.out.size)
    replace SZ : Hid (bs ≤ V1.heap.size) := Nat.le_trans SZ.out hb.size
    clear hb
    refine ready2_f 2 8 (o := { dst := some 27, op := Op.buildSlice 25 0 #[], type := 25, pos := "ref.go:60", after := #[], guard := none }) (o' := { dst := some 33, op := Op.buildSlice 25 1 #[(0, Operand.tmp 32)], type := 25, pos := "ref.go:60", after := #[{ on := 7, ground := Ground.data }], guard := none }) (by kernel_rfl) rfl rfl (fun K hK => ?_) (fun K hK => ?_)
    · go_simp
      refine hK.out _ _ (fun _ h => ⟨((below1 _).cell (p := ⟨b0, 0, none⟩) h.2.2).trans h.1, ((below1 _).cell (p := ⟨b0, 1, none⟩) h.2.2).trans h.2.1, Nat.lt_of_lt_of_le h.2.2 (below1 _).size⟩) ?_
      clear hK K
      try simp only [Act.put, List.setIfInBounds_toArray, List.set_cons_zero, List.set_cons_succ]
      have hb : Below V1.heap.size V1 (V1.alloc (.cells #[] 9)) := below1 _
      have NEW := hide1 (Lst.empty (w := V1) SZ.out)
      generalize World.alloc V1 _ = V2 at hb NEW ⊢
      replace R1 := hide1 ((hb.block b1 (lt_heap R1.out)).trans R1.out)
      replace B2 : Hid (Below w.heap.size w V2) := B2.out.trans (hb.mono B2.out.size)
      replace SZ : Hid (bs ≤ V2.heap.size) := Nat.le_trans SZ.out hb.size
      have O2 := NEW
      clear NEW hb
      refine ready2_f 6 8 (o := { dst := some 31, op := Op.call { callee := Callee.builtin Builtin.append, args := #[Operand.tmp 27, Operand.tmp 30], argTypes := #[25, 25] }, type := 25, pos := "ref.go:60", after := #[{ on := 2, ground := Ground.data }, { on := 5, ground := Ground.data }, { on := 5, ground := Ground.chain }], guard := none }) (o' := { dst := some 33, op := Op.buildSlice 25 1 #[(0, Operand.tmp 32)], type := 25, pos := "ref.go:60", after := #[{ on := 7, ground := Ground.data }], guard := none }) (by kernel_rfl) rfl rfl (fun K hK => ?_) (fun K hK => ?_)
      · rw [if_pos (by rfl)]
        refine wp_append_lst _ _ rfl rfl rfl O2.out (HA.out.below B2.out (Nat.le_refl _)).rd (by have := H64.out; simp; omega) SZ.out ?_
        intro v6 V3 ho hg hf
        replace hg : V2.grownBy V3 (some V1.heap.size) := hg
        have hlo : bs ≤ V1.heap.size := (O2.out.lt rfl).1
        have ne0 : some b0 ≠ some V1.heap.size := fun e => by have := WB.out; cases e; omega
        have ne1 : some b1 ≠ some V1.heap.size := fun e => by have := WB.out; cases e; omega
        refine hK.out _ _ (fun _ h => ⟨hg.cell (a := ⟨b0, 0, none⟩) h.1 ne0, hg.cell (a := ⟨b0, 1, none⟩) h.2.1 ne0, Nat.lt_of_lt_of_le h.2.2 hg.size⟩) ?_
        clear hK K
        try simp only [Act.put, List.setIfInBounds_toArray, List.set_cons_zero, List.set_cons_succ]
        replace R1 := hide1 ((hg.block b1 (lt_heap R1.out) ne1).trans R1.out)
        replace B2 : Hid (Below w.heap.size w V3) := B2.out.grown hg B2.out.size (fun k' hk' => by have := WB.out; cases hk'; omega)
        replace SZ : Hid (bs ≤ V3.heap.size) := Nat.le_trans SZ.out hg.size
        rw [List.nil_append] at ho
        have O6 := hide1 ho
        clear hg hf ho ne0 ne1 O2 hlo
        refine ready_f 8 (o := { dst := some 33, op := Op.buildSlice 25 1 #[(0, Operand.tmp 32)], type := 25, pos := "ref.go:60", after := #[{ on := 7, ground := Ground.data }], guard := none }) (by kernel_rfl) rfl (fun K hK => ?_)
        go_simp
        refine hK.out _ _ (fun _ h => ⟨((below1 _).cell (p := ⟨b0, 0, none⟩) h.2.2).trans h.1, ((below1 _).cell (p := ⟨b0, 1, none⟩) h.2.2).trans h.2.1, Nat.lt_of_lt_of_le h.2.2 (below1 _).size⟩) ?_
        clear hK K
        try simp only [Act.put, List.setIfInBounds_toArray, List.set_cons_zero, List.set_cons_succ]
        have hb : Below V3.heap.size V3 (V3.alloc (.cells #[.string s] 9)) := below1 _
        have NEW := hide1 (Lst.one (w := V3) s SZ.out)
        generalize World.alloc V3 _ = V4 at hb NEW ⊢
        replace O6 := hide1 (O6.out.below hb (Nat.le_refl _))
        replace R1 := hide1 ((hb.block b1 (lt_heap R1.out)).trans R1.out)
        replace B2 : Hid (Below w.heap.size w V4) := B2.out.trans (hb.mono B2.out.size)
        replace SZ : Hid (bs ≤ V4.heap.size) := Nat.le_trans SZ.out hb.size
        have E8 := NEW
        clear NEW hb
        refine ready_f 9 (o := { dst := some 34, op := Op.call { callee := Callee.builtin Builtin.append, args := #[Operand.tmp 31, Operand.tmp 33], argTypes := #[25, 25] }, type := 25, pos := "ref.go:60", after := #[{ on := 6, ground := Ground.data }, { on := 8, ground := Ground.data }, { on := 6, ground := Ground.chain }], guard := none }) (by kernel_rfl) rfl (fun K hK => ?_)
        rw [if_pos (by rfl)]
        refine wp_append_lst _ _ rfl rfl rfl O6.out E8.out.rd (by have := H64.out; simp; omega) SZ.out ?_
        intro v9 V9 ho hg hf
        have ne0 : some b0 ≠ v6.ownBlock := fun e => by have := (O6.out.lt e.symm).1; have := WB.out; omega
        have ne1 : some b1 ≠ v6.ownBlock := fun e => by have := (O6.out.lt e.symm).1; have := WB.out; omega
        refine hK.out _ _ (fun _ h => ⟨hg.cell (a := ⟨b0, 0, none⟩) h.1 ne0, hg.cell (a := ⟨b0, 1, none⟩) h.2.1 ne0, Nat.lt_of_lt_of_le h.2.2 hg.size⟩) ?_
        clear hK K
        try simp only [Act.put, List.setIfInBounds_toArray, List.set_cons_zero, List.set_cons_succ]
        have R1 := hide1 ((hg.block b1 (lt_heap R1.out) ne1).trans R1.out)
        have B2 : Hid (Below w.heap.size w V9) := B2.out.grown hg B2.out.size (fun k' hk' => by have := (O6.out.lt hk').1; have := WB.out; omega)
        obtain ⟨a9, c9, rfl⟩ := ho.form
        generalize (N 1 ++ [s]).length = m9 at *
        have O9 := hide1 ho
        clear hg hf ho ne0 ne1
        refine ready_f 10 (o := { dst := some 35, op := Op.call { callee := Callee.value (Operand.func 27), args := #[Operand.tmp 25, Operand.tmp 26, Operand.tmp 34], argTypes := #[27, 3, 25] }, type := 27, pos := "ref.go:60", after := #[{ on := 0, ground := Ground.data }, { on := 1, ground := Ground.data }, { on := 9, ground := Ground.data }, { on := 9, ground := Ground.chain }], guard := none }) (by kernel_rfl) rfl (fun K hK => ?_)
        go_simp
        refine (with_any1 a0 a1 a9 n0 c0 n1 c1 m9 c9 V9).mono ?_
        rintro e V10 ⟨rfl, hb10⟩
        refine hK.out _ _ (fun _ h => ⟨(hb10.cell (p := ⟨b0, 0, none⟩) h.2.2).trans h.1, (hb10.cell (p := ⟨b0, 1, none⟩) h.2.2).trans h.2.1, Nat.lt_of_lt_of_le h.2.2 hb10.size⟩) ?_
        clear hK K
        try simp only [Act.put, List.setIfInBounds_toArray, List.set_cons_zero, List.set_cons_succ]
        have R1 := hide1 ((hb10.block b1 (lt_heap R1.out)).trans R1.out)
        have B3 : Hid (Below w.heap.size w V10) := B2.out.trans (hb10.mono B2.out.size)
        have O10 := hide1 (O9.out.below hb10 (Nat.le_refl _))
        clear hb10 hS
        refine ready_f 11 (o := { dst := none, op := Op.store 27 (Operand.tmp 6) (Operand.tmp 35), type := 0, pos := "ref.go:60", after := #[{ on := 10, ground := Ground.data }, { on := 10, ground := Ground.chain }, { on := 0, ground := Ground.phase }, { on := 1, ground := Ground.phase }, { on := 2, ground := Ground.phase }, { on := 3, ground := Ground.phase }, { on := 4, ground := Ground.phase }, { on := 5, ground := Ground.phase }, { on := 6, ground := Ground.phase }, { on := 7, ground := Ground.phase }, { on := 8, ground := Ground.phase }, { on := 9, ground := Ground.phase }, { on := 10, ground := Ground.phase }], guard := none }) (by kernel_rfl) rfl (fun K hK => ?_)
        rw [if_pos (by rfl)]
        refine wp_store_row 27 _ _ rfl b1 _ rfl rfl 27 _ R1.out (by kernel_rfl) rfl (by kernel_rfl) ?_
        refine hK.out _ _ (fun h => absurd (by decide) h) ?_
        clear hK K
        refine take_p 12 7 (.int .i64 0) rfl rfl (by kernel_rfl) (by kernel_rfl) (by kernel_rfl) (fun _ _ _ h => h) rfl (fun w => by go_simp) ?_
        try simp only [List.setIfInBounds_toArray, List.set_cons_zero, List.set_cons_succ]
        refine done_f (by kernel_rfl) ?_ _
        go_wp2
        exact ret_n2 Try.results21 b1 _ _ _ rfl rfl (setRow_heap _ b1 _ _ _ _ R1.out) rfl ⟨_, rfl, (O10.out.setRow (by have := WB.out; omega) _).mono (by have := WB.out; omega), below_setRow B3.out (by have := HS.out; omega) _⟩
      · go_simp
        refine hK.out _ _ (fun _ h => ⟨((below1 _).cell (p := ⟨b0, 0, none⟩) h.2.2).trans h.1, ((below1 _).cell (p := ⟨b0, 1, none⟩) h.2.2).trans h.2.1, Nat.lt_of_lt_of_le h.2.2 (below1 _).size⟩) ?_
        clear hK K
        try simp only [Act.put, List.setIfInBounds_toArray, List.set_cons_zero, List.set_cons_succ]
        have hb : Below V2.heap.size V2 (V2.alloc (.cells #[.string s] 9)) := below1 _
        have NEW := hide1 (Lst.one (w := V2) s SZ.out)
        have NE : Hid (V2.heap.size ≠ V1.heap.size) := Nat.ne_of_gt (O2.out.lt rfl).2
        generalize World.alloc V2 _ = V3 at hb NEW ⊢
        replace O2 := hide1 (O2.out.below hb (Nat.le_refl _))
        replace R1 := hide1 ((hb.block b1 (lt_heap R1.out)).trans R1.out)
        replace B2 : Hid (Below w.heap.size w V3) := B2.out.trans (hb.mono B2.out.size)
        replace SZ : Hid (bs ≤ V3.heap.size) := Nat.le_trans SZ.out hb.size
        have E8 := NEW
        clear NEW hb
        refine ready_f 6 (o := { dst := some 31, op := Op.call { callee := Callee.builtin Builtin.append, args := #[Operand.tmp 27, Operand.tmp 30], argTypes := #[25, 25] }, type := 25, pos := "ref.go:60", after := #[{ on := 2, ground := Ground.data }, { on := 5, ground := Ground.data }, { on := 5, ground := Ground.chain }], guard := none }) (by kernel_rfl) rfl (fun K hK => ?_)
        rw [if_pos (by rfl)]
        refine wp_append_lst _ _ rfl rfl rfl O2.out (HA.out.below B2.out (Nat.le_refl _)).rd (by have := H64.out; simp; omega) SZ.out ?_
        intro v6 V4 ho hg hf
        replace hg : V3.grownBy V4 (some V1.heap.size) := hg
        have hlo : bs ≤ V1.heap.size := (O2.out.lt rfl).1
        have ne0 : some b0 ≠ some V1.heap.size := fun e => by have := WB.out; cases e; omega
        have ne1 : some b1 ≠ some V1.heap.size := fun e => by have := WB.out; cases e; omega
        refine hK.out _ _ (fun _ h => ⟨hg.cell (a := ⟨b0, 0, none⟩) h.1 ne0, hg.cell (a := ⟨b0, 1, none⟩) h.2.1 ne0, Nat.lt_of_lt_of_le h.2.2 hg.size⟩) ?_
        clear hK K
        try simp only [Act.put, List.setIfInBounds_toArray, List.set_cons_zero, List.set_cons_succ]
        replace E8 := hide1 (E8.out.same (w' := V4) fun g hgg => hg.block g (E8.out.lt hgg).2 (fun e => NE.out ((Option.some.inj (show some V2.heap.size = some g from hgg)).trans (Option.some.inj e))))
        replace R1 := hide1 ((hg.block b1 (lt_heap R1.out) ne1).trans R1.out)
        replace B2 : Hid (Below w.heap.size w V4) := B2.out.grown hg B2.out.size (fun k' hk' => by have := WB.out; cases hk'; omega)
        replace SZ : Hid (bs ≤ V4.heap.size) := Nat.le_trans SZ.out hg.size
        rw [List.nil_append] at ho
        have O6 := hide1 ho
        clear hg hf ho ne0 ne1 O2 hlo
        refine ready_f 9 (o := { dst := some 34, op := Op.call { callee := Callee.builtin Builtin.append, args := #[Operand.tmp 31, Operand.tmp 33], argTypes := #[25, 25] }, type := 25, pos := "ref.go:60", after := #[{ on := 6, ground := Ground.data }, { on := 8, ground := Ground.data }, { on := 6, ground := Ground.chain }], guard := none }) (by kernel_rfl) rfl (fun K hK => ?_)
        rw [if_pos (by rfl)]
        refine wp_append_lst _ _ rfl rfl rfl O6.out E8.out.rd (by have := H64.out; simp; omega) SZ.out ?_
        intro v9 V9 ho hg hf
        have ne0 : some b0 ≠ v6.ownBlock := fun e => by have := (O6.out.lt e.symm).1; have := WB.out; omega
        have ne1 : some b1 ≠ v6.ownBlock := fun e => by have := (O6.out.lt e.symm).1; have := WB.out; omega
        refine hK.out _ _ (fun _ h => ⟨hg.cell (a := ⟨b0, 0, none⟩) h.1 ne0, hg.cell (a := ⟨b0, 1, none⟩) h.2.1 ne0, Nat.lt_of_lt_of_le h.2.2 hg.size⟩) ?_
        clear hK K
        try simp only [Act.put, List.setIfInBounds_toArray, List.set_cons_zero, List.set_cons_succ]
        have R1 := hide1 ((hg.block b1 (lt_heap R1.out) ne1).trans R1.out)
        have B2 : Hid (Below w.heap.size w V9) := B2.out.grown hg B2.out.size (fun k' hk' => by have := (O6.out.lt hk').1; have := WB.out; omega)
        obtain ⟨a9, c9, rfl⟩ := ho.form
        generalize (N 1 ++ [s]).length = m9 at *
        have O9 := hide1 ho
        clear hg hf ho ne0 ne1
        refine ready_f 10 (o := { dst := some 35, op := Op.call { callee := Callee.value (Operand.func 27), args := #[Operand.tmp 25, Operand.tmp 26, Operand.tmp 34], argTypes := #[27, 3, 25] }, type := 27, pos := "ref.go:60", after := #[{ on := 0, ground := Ground.data }, { on := 1, ground := Ground.data }, { on := 9, ground := Ground.data }, { on := 9, ground := Ground.chain }], guard := none }) (by kernel_rfl) rfl (fun K hK => ?_)
        go_simp
        refine (with_any1 a0 a1 a9 n0 c0 n1 c1 m9 c9 V9).mono ?_
        rintro e V10 ⟨rfl, hb10⟩
        refine hK.out _ _ (fun _ h => ⟨(hb10.cell (p := ⟨b0, 0, none⟩) h.2.2).trans h.1, (hb10.cell (p := ⟨b0, 1, none⟩) h.2.2).trans h.2.1, Nat.lt_of_lt_of_le h.2.2 hb10.size⟩) ?_
        clear hK K
        try simp only [Act.put, List.setIfInBounds_toArray, List.set_cons_zero, List.set_cons_succ]
        have R1 := hide1 ((hb10.block b1 (lt_heap R1.out)).trans R1.out)
        have B3 : Hid (Below w.heap.size w V10) := B2.out.trans (hb10.mono B2.out.size)
        have O10 := hide1 (O9.out.below hb10 (Nat.le_refl _))
        clear hb10 hS
        refine ready_f 11 (o := { dst := none, op := Op.store 27 (Operand.tmp 6) (Operand.tmp 35), type := 0, pos := "ref.go:60", after := #[{ on := 10, ground := Ground.data }, { on := 10, ground := Ground.chain }, { on := 0, ground := Ground.phase }, { on := 1, ground := Ground.phase }, { on := 2, ground := Ground.phase }, { on := 3, ground := Ground.phase }, { on := 4, ground := Ground.phase }, { on := 5, ground := Ground.phase }, { on := 6, ground := Ground.phase }, { on := 7, ground := Ground.phase }, { on := 8, ground := Ground.phase }, { on := 9, ground := Ground.phase }, { on := 10, ground := Ground.phase }], guard := none }) (by kernel_rfl) rfl (fun K hK => ?_)
        rw [if_pos (by rfl)]
        refine wp_store_row 27 _ _ rfl b1 _ rfl rfl 27 _ R1.out (by kernel_rfl) rfl (by kernel_rfl) ?_
        refine hK.out _ _ (fun h => absurd (by decide) h) ?_
        clear hK K
        refine take_p 12 7 (.int .i64 0) rfl rfl (by kernel_rfl) (by kernel_rfl) (by kernel_rfl) (fun _ _ _ h => h) rfl (fun w => by go_simp) ?_
        try simp only [List.setIfInBounds_toArray, List.set_cons_zero, List.set_cons_succ]
        refine done_f (by kernel_rfl) ?_ _
        go_wp2
        exact ret_n2 Try.results21 b1 _ _ _ rfl rfl (setRow_heap _ b1 _ _ _ _ R1.out) rfl ⟨_, rfl, (O10.out.setRow (by have := WB.out; omega) _).mono (by have := WB.out; omega), below_setRow B3.out (by have := HS.out; omega) _⟩
    · go_simp
      refine hK.out _ _ (fun _ h => ⟨((below1 _).cell (p := ⟨b0, 0, none⟩) h.2.2).trans h.1, ((below1 _).cell (p := ⟨b0, 1, none⟩) h.2.2).trans h.2.1, Nat.lt_of_lt_of_le h.2.2 (below1 _).size⟩) ?_
      clear hK K
      try simp only [Act.put, List.setIfInBounds_toArray, List.set_cons_zero, List.set_cons_succ]
      have hb : Below V1.heap.size V1 (V1.alloc (.cells #[.string s] 9)) := below1 _
      have NEW := hide1 (Lst.one (w := V1) s SZ.out)
      generalize World.alloc V1 _ = V2 at hb NEW ⊢
      replace R1 := hide1 ((hb.block b1 (lt_heap R1.out)).trans R1.out)
      replace B2 : Hid (Below w.heap.size w V2) := B2.out.trans (hb.mono B2.out.size)
      replace SZ : Hid (bs ≤ V2.heap.size) := Nat.le_trans SZ.out hb.size
      have E8 := NEW
      clear NEW hb
      refine ready_f 2 (o := { dst := some 27, op := Op.buildSlice 25 0 #[], type := 25, pos := "ref.go:60", after := #[], guard := none }) (by kernel_rfl) rfl (fun K hK => ?_)
      go_simp
      refine hK.out _ _ (fun _ h => ⟨((below1 _).cell (p := ⟨b0, 0, none⟩) h.2.2).trans h.1, ((below1 _).cell (p := ⟨b0, 1, none⟩) h.2.2).trans h.2.1, Nat.lt_of_lt_of_le h.2.2 (below1 _).size⟩) ?_
      clear hK K
      try simp only [Act.put, List.setIfInBounds_toArray, List.set_cons_zero, List.set_cons_succ]
      have hb : Below V2.heap.size V2 (V2.alloc (.cells #[] 9)) := below1 _
      have NEW := hide1 (Lst.empty (w := V2) SZ.out)
      have NE : Hid (V1.heap.size ≠ V2.heap.size) := Nat.ne_of_lt (E8.out.lt rfl).2
      generalize World.alloc V2 _ = V3 at hb NEW ⊢
      replace E8 := hide1 (E8.out.below hb (Nat.le_refl _))
      replace R1 := hide1 ((hb.block b1 (lt_heap R1.out)).trans R1.out)
      replace B2 : Hid (Below w.heap.size w V3) := B2.out.trans (hb.mono B2.out.size)
      replace SZ : Hid (bs ≤ V3.heap.size) := Nat.le_trans SZ.out hb.size
      have O2 := NEW
      clear NEW hb
      refine ready_f 6 (o := { dst := some 31, op := Op.call { callee := Callee.builtin Builtin.append, args := #[Operand.tmp 27, Operand.tmp 30], argTypes := #[25, 25] }, type := 25, pos := "ref.go:60", after := #[{ on := 2, ground := Ground.data }, { on := 5, ground := Ground.data }, { on := 5, ground := Ground.chain }], guard := none }) (by kernel_rfl) rfl (fun K hK => ?_)
      rw [if_pos (by rfl)]
      refine wp_append_lst _ _ rfl rfl rfl O2.out (HA.out.below B2.out (Nat.le_refl _)).rd (by have := H64.out; simp; omega) SZ.out ?_
      intro v6 V4 ho hg hf
      replace hg : V3.grownBy V4 (some V2.heap.size) := hg
      have hlo : bs ≤ V2.heap.size := (O2.out.lt rfl).1
      have ne0 : some b0 ≠ some V2.heap.size := fun e => by have := WB.out; cases e; omega
      have ne1 : some b1 ≠ some V2.heap.size := fun e => by have := WB.out; cases e; omega
      refine hK.out _ _ (fun _ h => ⟨hg.cell (a := ⟨b0, 0, none⟩) h.1 ne0, hg.cell (a := ⟨b0, 1, none⟩) h.2.1 ne0, Nat.lt_of_lt_of_le h.2.2 hg.size⟩) ?_
      clear hK K
      try simp only [Act.put, List.setIfInBounds_toArray, List.set_cons_zero, List.set_cons_succ]
      replace E8 := hide1 (E8.out.same (w' := V4) fun g hgg => hg.block g (E8.out.lt hgg).2 (fun e => NE.out ((Option.some.inj (show some V1.heap.size = some g from hgg)).trans (Option.some.inj e))))
      replace R1 := hide1 ((hg.block b1 (lt_heap R1.out) ne1).trans R1.out)
      replace B2 : Hid (Below w.heap.size w V4) := B2.out.grown hg B2.out.size (fun k' hk' => by have := WB.out; cases hk'; omega)
      replace SZ : Hid (bs ≤ V4.heap.size) := Nat.le_trans SZ.out hg.size
      rw [List.nil_append] at ho
      have O6 := hide1 ho
      clear hg hf ho ne0 ne1 O2 hlo
      refine ready_f 9 (o := { dst := some 34, op := Op.call { callee := Callee.builtin Builtin.append, args := #[Operand.tmp 31, Operand.tmp 33], argTypes := #[25, 25] }, type := 25, pos := "ref.go:60", after := #[{ on := 6, ground := Ground.data }, { on := 8, ground := Ground.data }, { on := 6, ground := Ground.chain }], guard := none }) (by kernel_rfl) rfl (fun K hK => ?_)
      rw [if_pos (by rfl)]
      refine wp_append_lst _ _ rfl rfl rfl O6.out E8.out.rd (by have := H64.out; simp; omega) SZ.out ?_
      intro v9 V9 ho hg hf
      have ne0 : some b0 ≠ v6.ownBlock := fun e => by have := (O6.out.lt e.symm).1; have := WB.out; omega
      have ne1 : some b1 ≠ v6.ownBlock := fun e => by have := (O6.out.lt e.symm).1; have := WB.out; omega
      refine hK.out _ _ (fun _ h => ⟨hg.cell (a := ⟨b0, 0, none⟩) h.1 ne0, hg.cell (a := ⟨b0, 1, none⟩) h.2.1 ne0, Nat.lt_of_lt_of_le h.2.2 hg.size⟩) ?_
      clear hK K
      try simp only [Act.put, List.setIfInBounds_toArray, List.set_cons_zero, List.set_cons_succ]
      have R1 := hide1 ((hg.block b1 (lt_heap R1.out) ne1).trans R1.out)
      have B2 : Hid (Below w.heap.size w V9) := B2.out.grown hg B2.out.size (fun k' hk' => by have := (O6.out.lt hk').1; have := WB.out; omega)
      obtain ⟨a9, c9, rfl⟩ := ho.form
      generalize (N 1 ++ [s]).length = m9 at *
      have O9 := hide1 ho
      clear hg hf ho ne0 ne1
      refine ready_f 10 (o := { dst := some 35, op := Op.call { callee := Callee.value (Operand.func 27), args := #[Operand.tmp 25, Operand.tmp 26, Operand.tmp 34], argTypes := #[27, 3, 25] }, type := 27, pos := "ref.go:60", after := #[{ on := 0, ground := Ground.data }, { on := 1, ground := Ground.data }, { on := 9, ground := Ground.data }, { on := 9, ground := Ground.chain }], guard := none }) (by kernel_rfl) rfl (fun K hK => ?_)
      go_simp
      refine (with_any1 a0 a1 a9 n0 c0 n1 c1 m9 c9 V9).mono ?_
      rintro e V10 ⟨rfl, hb10⟩
      refine hK.out _ _ (fun _ h => ⟨(hb10.cell (p := ⟨b0, 0, none⟩) h.2.2).trans h.1, (hb10.cell (p := ⟨b0, 1, none⟩) h.2.2).trans h.2.1, Nat.lt_of_lt_of_le h.2.2 hb10.size⟩) ?_
      clear hK K
      try simp only [Act.put, List.setIfInBounds_toArray, List.set_cons_zero, List.set_cons_succ]
      have R1 := hide1 ((hb10.block b1 (lt_heap R1.out)).trans R1.out)
      have B3 : Hid (Below w.heap.size w V10) := B2.out.trans (hb10.mono B2.out.size)
      have O10 := hide1 (O9.out.below hb10 (Nat.le_refl _))
      clear hb10 hS
      refine ready_f 11 (o := { dst := none, op := Op.store 27 (Operand.tmp 6) (Operand.tmp 35), type := 0, pos := "ref.go:60", after := #[{ on := 10, ground := Ground.data }, { on := 10, ground := Ground.chain }, { on := 0, ground := Ground.phase }, { on := 1, ground := Ground.phase }, { on := 2, ground := Ground.phase }, { on := 3, ground := Ground.phase }, { on := 4, ground := Ground.phase }, { on := 5, ground := Ground.phase }, { on := 6, ground := Ground.phase }, { on := 7, ground := Ground.phase }, { on := 8, ground := Ground.phase }, { on := 9, ground := Ground.phase }, { on := 10, ground := Ground.phase }], guard := none }) (by kernel_rfl) rfl (fun K hK => ?_)
      rw [if_pos (by rfl)]
      refine wp_store_row 27 _ _ rfl b1 _ rfl rfl 27 _ R1.out (by kernel_rfl) rfl (by kernel_rfl) ?_
      refine hK.out _ _ (fun h => absurd (by decide) h) ?_
      clear hK K
      refine take_p 12 7 (.int .i64 0) rfl rfl (by kernel_rfl) (by kernel_rfl) (by kernel_rfl) (fun _ _ _ h => h) rfl (fun w => by go_simp) ?_
      try simp only [List.setIfInBounds_toArray, List.set_cons_zero, List.set_cons_succ]
      refine done_f (by kernel_rfl) ?_ _
      go_wp2
      exact ret_n2 Try.results21 b1 _ _ _ rfl rfl (setRow_heap _ b1 _ _ _ _ R1.out) rfl ⟨_, rfl, (O10.out.setRow (by have := WB.out; omega) _).mono (by have := WB.out; omega), below_setRow B3.out (by have := HS.out; omega) _⟩
  · go_simp
    refine hK.out _ _ (fun _ h => ⟨((below1 _).cell (p := ⟨b0, 0, none⟩) h.2.2).trans h.1, ((below1 _).cell (p := ⟨b0, 1, none⟩) h.2.2).trans h.2.1, Nat.lt_of_lt_of_le h.2.2 (below1 _).size⟩) ?_
    clear hK K
    try simp only [Act.put, List.setIfInBounds_toArray, List.set_cons_zero, List.set_cons_succ]
    have hb : Below U.heap.size U (U.alloc (.cells #[.string s] 9)) := below1 _
    have NEW := hide1 (Lst.one (w := U) s SZ.out)
    generalize World.alloc U _ = V1 at hb NEW ⊢
    replace R1 := hide1 ((hb.block b1 (lt_heap R1.out)).trans R1.out)
    replace B2 : Hid (Below w.heap.size w V1) := B2.out.trans (hb.mono B2.out.size)
    replace SZ : Hid (bs ≤ V1.heap.size) := Nat.le_trans SZ.out hb.size
    have E8 := NEW
    clear NEW hb
    refine ready2_f 2 5 (o := { dst := some 27, op := Op.buildSlice 25 0 #[], type := 25, pos := "ref.go:60", after := #[], guard := none }) (o' := { dst := some 30, op := Op.call { callee := Callee.value (Operand.func 33), args := #[Operand.tmp 28, Operand.tmp 29], argTypes := #[27, 3] }, type := 25, pos := "ref.go:60", after := #[{ on := 3, ground := Ground.data }, { on := 4, ground := Ground.data }], guard := none }) (by kernel_rfl) rfl rfl (fun K hK => ?_) (fun K hK => ?_)
    · go_simp
      refine hK.out _ _ (fun _ h => ⟨((below1 _).cell (p := ⟨b0, 0, none⟩) h.2.2).trans h.1, ((below1 _).cell (p := ⟨b0, 1, none⟩) h.2.2).trans h.2.1, Nat.lt_of_lt_of_le h.2.2 (below1 _).size⟩) ?_
      clear hK K
      try simp only [Act.put, List.setIfInBounds_toArray, List.set_cons_zero, List.set_cons_succ]
      have hb : Below V1.heap.size V1 (V1.alloc (.cells #[] 9)) := below1 _
      have NEW := hide1 (Lst.empty (w := V1) SZ.out)
      have NE : Hid (U.heap.size ≠ V1.heap.size) := Nat.ne_of_lt (E8.out.lt rfl).2
      generalize World.alloc V1 _ = V2 at hb NEW ⊢
      replace E8 := hide1 (E8.out.below hb (Nat.le_refl _))
      replace R1 := hide1 ((hb.block b1 (lt_heap R1.out)).trans R1.out)
      replace B2 : Hid (Below w.heap.size w V2) := B2.out.trans (hb.mono B2.out.size)
      replace SZ : Hid (bs ≤ V2.heap.size) := Nat.le_trans SZ.out hb.size
      have O2 := NEW
      clear NEW hb
      refine ready_f 5 (o := { dst := some 30, op := Op.call { callee := Callee.value (Operand.func 33), args := #[Operand.tmp 28, Operand.tmp 29], argTypes := #[27, 3] }, type := 25, pos := "ref.go:60", after := #[{ on := 3, ground := Ground.data }, { on := 4, ground := Ground.data }], guard := none }) (by kernel_rfl) rfl (fun K hK => ?_)
      go_simp
      refine (kT _).out.mono ?_
      rintro e V3 ⟨rfl, hb⟩
      refine hK.out _ _ (fun _ h => ⟨(hb.cell (p := ⟨b0, 0, none⟩) h.2.2).trans h.1, (hb.cell (p := ⟨b0, 1, none⟩) h.2.2).trans h.2.1, Nat.lt_of_lt_of_le h.2.2 hb.size⟩) ?_
      clear hK K
      try simp only [Act.put, List.setIfInBounds_toArray, List.set_cons_zero, List.set_cons_succ]
      replace O2 := hide1 (O2.out.below hb (Nat.le_refl _))
      replace E8 := hide1 (E8.out.below hb (Nat.le_refl _))
      replace R1 := hide1 ((hb.block b1 (lt_heap R1.out)).trans R1.out)
      replace B2 : Hid (Below w.heap.size w V3) := B2.out.trans (hb.mono B2.out.size)
      replace SZ : Hid (bs ≤ V3.heap.size) := Nat.le_trans SZ.out hb.size
      clear hb
      refine ready_f 6 (o := { dst := some 31, op := Op.call { callee := Callee.builtin Builtin.append, args := #[Operand.tmp 27, Operand.tmp 30], argTypes := #[25, 25] }, type := 25, pos := "ref.go:60", after := #[{ on := 2, ground := Ground.data }, { on := 5, ground := Ground.data }, { on := 5, ground := Ground.chain }], guard := none }) (by kernel_rfl) rfl (fun K hK => ?_)
      rw [if_pos (by rfl)]
      refine wp_append_lst _ _ rfl rfl rfl O2.out (HA.out.below B2.out (Nat.le_refl _)).rd (by have := H64.out; simp; omega) SZ.out ?_
      intro v6 V4 ho hg hf
      replace hg : V3.grownBy V4 (some V1.heap.size) := hg
      have hlo : bs ≤ V1.heap.size := (O2.out.lt rfl).1
      have ne0 : some b0 ≠ some V1.heap.size := fun e => by have := WB.out; cases e; omega
      have ne1 : some b1 ≠ some V1.heap.size := fun e => by have := WB.out; cases e; omega
      refine hK.out _ _ (fun _ h => ⟨hg.cell (a := ⟨b0, 0, none⟩) h.1 ne0, hg.cell (a := ⟨b0, 1, none⟩) h.2.1 ne0, Nat.lt_of_lt_of_le h.2.2 hg.size⟩) ?_
      clear hK K
      try simp only [Act.put, List.setIfInBounds_toArray, List.set_cons_zero, List.set_cons_succ]
      replace E8 := hide1 (E8.out.same (w' := V4) fun g hgg => hg.block g (E8.out.lt hgg).2 (fun e => NE.out ((Option.some.inj (show some U.heap.size = some g from hgg)).trans (Option.some.inj e))))
      replace R1 := hide1 ((hg.block b1 (lt_heap R1.out) ne1).trans R1.out)
      replace B2 : Hid (Below w.heap.size w V4) := B2.out.grown hg B2.out.size (fun k' hk' => by have := WB.out; cases hk'; omega)
      replace SZ : Hid (bs ≤ V4.heap.size) := Nat.le_trans SZ.out hg.size
      rw [List.nil_append] at ho
      have O6 := hide1 ho
      clear hg hf ho ne0 ne1 O2 hlo
      refine ready_f 9 (o := { dst := some 34, op := Op.call { callee := Callee.builtin Builtin.append, args := #[Operand.tmp 31, Operand.tmp 33], argTypes := #[25, 25] }, type := 25, pos := "ref.go:60", after := #[{ on := 6, ground := Ground.data }, { on := 8, ground := Ground.data }, { on := 6, ground := Ground.chain }], guard := none }) (by kernel_rfl) rfl (fun K hK => ?_)
      rw [if_pos (by rfl)]
      refine wp_append_lst _ _ rfl rfl rfl O6.out E8.out.rd (by have := H64.out; simp; omega) SZ.out ?_
      intro v9 V9 ho hg hf
      have ne0 : some b0 ≠ v6.ownBlock := fun e => by have := (O6.out.lt e.symm).1; have := WB.out; omega
      have ne1 : some b1 ≠ v6.ownBlock := fun e => by have := (O6.out.lt e.symm).1; have := WB.out; omega
      refine hK.out _ _ (fun _ h => ⟨hg.cell (a := ⟨b0, 0, none⟩) h.1 ne0, hg.cell (a := ⟨b0, 1, none⟩) h.2.1 ne0, Nat.lt_of_lt_of_le h.2.2 hg.size⟩) ?_
      clear hK K
      try simp only [Act.put, List.setIfInBounds_toArray, List.set_cons_zero, List.set_cons_succ]
      have R1 := hide1 ((hg.block b1 (lt_heap R1.out) ne1).trans R1.out)
      have B2 : Hid (Below w.heap.size w V9) := B2.out.grown hg B2.out.size (fun k' hk' => by have := (O6.out.lt hk').1; have := WB.out; omega)
      obtain ⟨a9, c9, rfl⟩ := ho.form
      generalize (N 1 ++ [s]).length = m9 at *
      have O9 := hide1 ho
      clear hg hf ho ne0 ne1
      refine ready_f 10 (o := { dst := some 35, op := Op.call { callee := Callee.value (Operand.func 27), args := #[Operand.tmp 25, Operand.tmp 26, Operand.tmp 34], argTypes := #[27, 3, 25] }, type := 27, pos := "ref.go:60", after := #[{ on := 0, ground := Ground.data }, { on := 1, ground := Ground.data }, { on := 9, ground := Ground.data }, { on := 9, ground := Ground.chain }], guard := none }) (by kernel_rfl) rfl (fun K hK => ?_)
      go_simp
      refine (with_any1 a0 a1 a9 n0 c0 n1 c1 m9 c9 V9).mono ?_
      rintro e V10 ⟨rfl, hb10⟩
      refine hK.out _ _ (fun _ h => ⟨(hb10.cell (p := ⟨b0, 0, none⟩) h.2.2).trans h.1, (hb10.cell (p := ⟨b0, 1, none⟩) h.2.2).trans h.2.1, Nat.lt_of_lt_of_le h.2.2 hb10.size⟩) ?_
      clear hK K
      try simp only [Act.put, List.setIfInBounds_toArray, List.set_cons_zero, List.set_cons_succ]
      have R1 := hide1 ((hb10.block b1 (lt_heap R1.out)).trans R1.out)
      have B3 : Hid (Below w.heap.size w V10) := B2.out.trans (hb10.mono B2.out.size)
      have O10 := hide1 (O9.out.below hb10 (Nat.le_refl _))
      clear hb10 hS
      refine ready_f 11 (o := { dst := none, op := Op.store 27 (Operand.tmp 6) (Operand.tmp 35), type := 0, pos := "ref.go:60", after := #[{ on := 10, ground := Ground.data }, { on := 10, ground := Ground.chain }, { on := 0, ground := Ground.phase }, { on := 1, ground := Ground.phase }, { on := 2, ground := Ground.phase }, { on := 3, ground := Ground.phase }, { on := 4, ground := Ground.phase }, { on := 5, ground := Ground.phase }, { on := 6, ground := Ground.phase }, { on := 7, ground := Ground.phase }, { on := 8, ground := Ground.phase }, { on := 9, ground := Ground.phase }, { on := 10, ground := Ground.phase }], guard := none }) (by kernel_rfl) rfl (fun K hK => ?_)
      rw [if_pos (by rfl)]
      refine wp_store_row 27 _ _ rfl b1 _ rfl rfl 27 _ R1.out (by kernel_rfl) rfl (by kernel_rfl) ?_
      refine hK.out _ _ (fun h => absurd (by decide) h) ?_
      clear hK K
      refine take_p 12 7 (.int .i64 0) rfl rfl (by kernel_rfl) (by kernel_rfl) (by kernel_rfl) (fun _ _ _ h => h) rfl (fun w => by go_simp) ?_
      try simp only [List.setIfInBounds_toArray, List.set_cons_zero, List.set_cons_succ]
      refine done_f (by kernel_rfl) ?_ _
      go_wp2
      exact ret_n2 Try.results21 b1 _ _ _ rfl rfl (setRow_heap _ b1 _ _ _ _ R1.out) rfl ⟨_, rfl, (O10.out.setRow (by have := WB.out; omega) _).mono (by have := WB.out; omega), below_setRow B3.out (by have := HS.out; omega) _⟩
    · go_simp
      refine (kT _).out.mono ?_
      rintro e V2 ⟨rfl, hb⟩
      refine hK.out _ _ (fun _ h => ⟨(hb.cell (p := ⟨b0, 0, none⟩) h.2.2).trans h.1, (hb.cell (p := ⟨b0, 1, none⟩) h.2.2).trans h.2.1, Nat.lt_of_lt_of_le h.2.2 hb.size⟩) ?_
      clear hK K
      try simp only [Act.put, List.setIfInBounds_toArray, List.set_cons_zero, List.set_cons_succ]
      replace E8 := hide1 (E8.out.below hb (Nat.le_refl _))
      replace R1 := hide1 ((hb.block b1 (lt_heap R1.out)).trans R1.out)
      replace B2 : Hid (Below w.heap.size w V2) := B2.out.trans (hb.mono B2.out.size)
      replace SZ : Hid (bs ≤ V2.heap.size) := Nat.le_trans SZ.out hb.size
      clear hb
      refine ready_f 2 (o := { dst := some 27, op := Op.buildSlice 25 0 #[], type := 25, pos := "ref.go:60", after := #[], guard := none }) (by kernel_rfl) rfl (fun K hK => ?_)
      go_simp
      refine hK.out _ _ (fun _ h => ⟨((below1 _).cell (p := ⟨b0, 0, none⟩) h.2.2).trans h.1, ((below1 _).cell (p := ⟨b0, 1, none⟩) h.2.2).trans h.2.1, Nat.lt_of_lt_of_le h.2.2 (below1 _).size⟩) ?_
      clear hK K
      try simp only [Act.put, List.setIfInBounds_toArray, List.set_cons_zero, List.set_cons_succ]
      have hb : Below V2.heap.size V2 (V2.alloc (.cells #[] 9)) := below1 _
      have NEW := hide1 (Lst.empty (w := V2) SZ.out)
      have NE : Hid (U.heap.size ≠ V2.heap.size) := Nat.ne_of_lt (E8.out.lt rfl).2
      generalize World.alloc V2 _ = V3 at hb NEW ⊢
      replace E8 := hide1 (E8.out.below hb (Nat.le_refl _))
      replace R1 := hide1 ((hb.block b1 (lt_heap R1.out)).trans R1.out)
      replace B2 : Hid (Below w.heap.size w V3) := B2.out.trans (hb.mono B2.out.size)
      replace SZ : Hid (bs ≤ V3.heap.size) := Nat.le_trans SZ.out hb.size
      have O2 := NEW
      clear NEW hb
      refine ready_f 6 (o := { dst := some 31, op := Op.call { callee := Callee.builtin Builtin.append, args := #[Operand.tmp 27, Operand.tmp 30], argTypes := #[25, 25] }, type := 25, pos := "ref.go:60", after := #[{ on := 2, ground := Ground.data }, { on := 5, ground := Ground.data }, { on := 5, ground := Ground.chain }], guard := none }) (by kernel_rfl) rfl (fun K hK => ?_)
      rw [if_pos (by rfl)]
      refine wp_append_lst _ _ rfl rfl rfl O2.out (HA.out.below B2.out (Nat.le_refl _)).rd (by have := H64.out; simp; omega) SZ.out ?_
      intro v6 V4 ho hg hf
      replace hg : V3.grownBy V4 (some V2.heap.size) := hg
      have hlo : bs ≤ V2.heap.size := (O2.out.lt rfl).1
      have ne0 : some b0 ≠ some V2.heap.size := fun e => by have := WB.out; cases e; omega
      have ne1 : some b1 ≠ some V2.heap.size := fun e => by have := WB.out; cases e; omega
      refine hK.out _ _ (fun _ h => ⟨hg.cell (a := ⟨b0, 0, none⟩) h.1 ne0, hg.cell (a := ⟨b0, 1, none⟩) h.2.1 ne0, Nat.lt_of_lt_of_le h.2.2 hg.size⟩) ?_
      clear hK K
      try simp only [Act.put, List.setIfInBounds_toArray, List.set_cons_zero, List.set_cons_succ]
      replace E8 := hide1 (E8.out.same (w' := V4) fun g hgg => hg.block g (E8.out.lt hgg).2 (fun e => NE.out ((Option.some.inj (show some U.heap.size = some g from hgg)).trans (Option.some.inj e))))
      replace R1 := hide1 ((hg.block b1 (lt_heap R1.out) ne1).trans R1.out)
      replace B2 : Hid (Below w.heap.size w V4) := B2.out.grown hg B2.out.size (fun k' hk' => by have := WB.out; cases hk'; omega)
      replace SZ : Hid (bs ≤ V4.heap.size) := Nat.le_trans SZ.out hg.size
      rw [List.nil_append] at ho
      have O6 := hide1 ho
      clear hg hf ho ne0 ne1 O2 hlo
      refine ready_f 9 (o := { dst := some 34, op := Op.call { callee := Callee.builtin Builtin.append, args := #[Operand.tmp 31, Operand.tmp 33], argTypes := #[25, 25] }, type := 25, pos := "ref.go:60", after := #[{ on := 6, ground := Ground.data }, { on := 8, ground := Ground.data }, { on := 6, ground := Ground.chain }], guard := none }) (by kernel_rfl) rfl (fun K hK => ?_)
      rw [if_pos (by rfl)]
      refine wp_append_lst _ _ rfl rfl rfl O6.out E8.out.rd (by have := H64.out; simp; omega) SZ.out ?_
      intro v9 V9 ho hg hf
      have ne0 : some b0 ≠ v6.ownBlock := fun e => by have := (O6.out.lt e.symm).1; have := WB.out; omega
      have ne1 : some b1 ≠ v6.ownBlock := fun e => by have := (O6.out.lt e.symm).1; have := WB.out; omega
      refine hK.out _ _ (fun _ h => ⟨hg.cell (a := ⟨b0, 0, none⟩) h.1 ne0, hg.cell (a := ⟨b0, 1, none⟩) h.2.1 ne0, Nat.lt_of_lt_of_le h.2.2 hg.size⟩) ?_
      clear hK K
      try simp only [Act.put, List.setIfInBounds_toArray, List.set_cons_zero, List.set_cons_succ]
      have R1 := hide1 ((hg.block b1 (lt_heap R1.out) ne1).trans R1.out)
      have B2 : Hid (Below w.heap.size w V9) := B2.out.grown hg B2.out.size (fun k' hk' => by have := (O6.out.lt hk').1; have := WB.out; omega)
      obtain ⟨a9, c9, rfl⟩ := ho.form
      generalize (N 1 ++ [s]).length = m9 at *
      have O9 := hide1 ho
      clear hg hf ho ne0 ne1
      refine ready_f 10 (o := { dst := some 35, op := Op.call { callee := Callee.value (Operand.func 27), args := #[Operand.tmp 25, Operand.tmp 26, Operand.tmp 34], argTypes := #[27, 3, 25] }, type := 27, pos := "ref.go:60", after := #[{ on := 0, ground := Ground.data }, { on := 1, ground := Ground.data }, { on := 9, ground := Ground.data }, { on := 9, ground := Ground.chain }], guard := none }) (by kernel_rfl) rfl (fun K hK => ?_)
      go_simp
      refine (with_any1 a0 a1 a9 n0 c0 n1 c1 m9 c9 V9).mono ?_
      rintro e V10 ⟨rfl, hb10⟩
      refine hK.out _ _ (fun _ h => ⟨(hb10.cell (p := ⟨b0, 0, none⟩) h.2.2).trans h.1, (hb10.cell (p := ⟨b0, 1, none⟩) h.2.2).trans h.2.1, Nat.lt_of_lt_of_le h.2.2 hb10.size⟩) ?_
      clear hK K
      try simp only [Act.put, List.setIfInBounds_toArray, List.set_cons_zero, List.set_cons_succ]
      have R1 := hide1 ((hb10.block b1 (lt_heap R1.out)).trans R1.out)
      have B3 : Hid (Below w.heap.size w V10) := B2.out.trans (hb10.mono B2.out.size)
      have O10 := hide1 (O9.out.below hb10 (Nat.le_refl _))
      clear hb10 hS
      refine ready_f 11 (o := { dst := none, op := Op.store 27 (Operand.tmp 6) (Operand.tmp 35), type := 0, pos := "ref.go:60", after := #[{ on := 10, ground := Ground.data }, { on := 10, ground := Ground.chain }, { on := 0, ground := Ground.phase }, { on := 1, ground := Ground.phase }, { on := 2, ground := Ground.phase }, { on := 3, ground := Ground.phase }, { on := 4, ground := Ground.phase }, { on := 5, ground := Ground.phase }, { on := 6, ground := Ground.phase }, { on := 7, ground := Ground.phase }, { on := 8, ground := Ground.phase }, { on := 9, ground := Ground.phase }, { on := 10, ground := Ground.phase }], guard := none }) (by kernel_rfl) rfl (fun K hK => ?_)
      rw [if_pos (by rfl)]
      refine wp_store_row 27 _ _ rfl b1 _ rfl rfl 27 _ R1.out (by kernel_rfl) rfl (by kernel_rfl) ?_
      refine hK.out _ _ (fun h => absurd (by decide) h) ?_
      clear hK K
      refine take_p 12 7 (.int .i64 0) rfl rfl (by kernel_rfl) (by kernel_rfl) (by kernel_rfl) (fun _ _ _ h => h) rfl (fun w => by go_simp) ?_
      try simp only [List.setIfInBounds_toArray, List.set_cons_zero, List.set_cons_succ]
      refine done_f (by kernel_rfl) ?_ _
      go_wp2
      exact ret_n2 Try.results21 b1 _ _ _ rfl rfl (setRow_heap _ b1 _ _ _ _ R1.out) rfl ⟨_, rfl, (O10.out.setRow (by have := WB.out; omega) _).mono (by have := WB.out; omega), below_setRow B3.out (by have := HS.out; omega) _⟩

theorem rsend_any {N : Nat → List ByteArray} {x0 x1 : Value} {w : World} (h0 : Lst 0 w x0 (N 0)) (h1 : Lst 0 w x1 (N 1)) (q : Int) (s : ByteArray) :
    Calls Try.prog 21 #[.agg #[x0, x1], .int .i64 q, .string s] w fun e w' => ∃ y0 y1, e = .returned (.tuple #[.agg #[y0, y1], .int .i64 (snd N q s)]) ∧ An w x0 x1 (sndN N q s) y0 y1 w' := by
  obtain ⟨a0, c0, rfl⟩ := h0.form
  obtain ⟨a1, c1, rfl⟩ := h1.form
  unfold sndN
  by_cases hc : snd N q s = 0
  · obtain ⟨k, rfl, hk, hs, hN⟩ := snd_ok hc
    rw [if_pos hc, hc]
    rcases (show k = 0 ∨ k = 1 by omega) with rfl | rfl
    · refine (rsend_ok0 a0 a1 c0 c1 s w hN hs h0).mono ?_
      rintro e w' ⟨v', rfl, hv, hb⟩
      exact ⟨_, _, rfl, An.put0 h1 hv hb⟩
    · refine (rsend_ok1 a0 a1 c0 c1 s w hN hs h1).mono ?_
      rintro e w' ⟨v', rfl, hv, hb⟩
      exact ⟨_, _, rfl, An.put1 h0 hv hb⟩
  · rw [if_neg hc]
    refine (rsend_fail a0 a1 c0 c1 q s w hc).mono ?_
    rintro e w' ⟨rfl, hb⟩
    exact ⟨_, _, rfl, An.same h0 h1 hb⟩

end Go.Proofs.Ytfnedohampmnoaa
