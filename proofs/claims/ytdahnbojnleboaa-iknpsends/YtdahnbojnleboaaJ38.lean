/- Joined. -/
import Derived.Test.YtdahnbojnleboaaJ37
import Derived.Laws.StructEq
namespace Go.Proofs.Ytdahnbojnleboaa.I
open Go.RowKit Pg
set_option maxRecDepth 100000
attribute [local go_sem] not_any T.mf_any

theorem run_equalIn_u64s {P : Program} (w : World) (d : Nat) (t e : TypeId) (n : Nat) (ht : P.underlying t = some (.array n e)) (he : P.underlying e = some (.int .u64)) (hsz : ∀ w, (sizeOf e).run P w = .ok 1 w)
    (xs ys : List Nat) (hx : xs.length = n) (hy : ys.length = n) : (Op.equalIn (d + 2) t (.agg (T.u64s xs).toArray) (.agg (T.u64s ys).toArray)).run P w = .ok ((List.range n).all fun i => xs.getD i 0 == ys.getD i 0) w := by
  rw [List.range_eq_range', Op.equalIn]
  simp only [Sem.run_bind, run_underlying ht, Result.andThen_ok, hsz, Std.Legacy.Range.forIn_eq_forIn_range', Std.Legacy.Range.size, Nat.sub_zero, Nat.add_sub_cancel, Nat.div_one]
  have hl : ∀ i ∈ List.range' 0 n 1, i < n := fun i hi => by simpa using (List.mem_range'_1.1 hi).2
  generalize List.range' 0 n 1 = l at hl ⊢
  induction l with
  | nil => simp
  | cons i l ih =>
    have hi : i < n := hl i (by simp)
    have px : (part e (T.u64s xs).toArray (i * 1)).run P w = .ok (.int .u64 (xs.getD i 0 : Nat)) w := by
      simp [part, isAgg, run_underlying he, T.u64s, List.getD, List.getElem?_eq_getElem (show i < xs.length by omega)]
    have py : (part e (T.u64s ys).toArray (i * 1)).run P w = .ok (.int .u64 (ys.getD i 0 : Nat)) w := by
      simp [part, isAgg, run_underlying he, T.u64s, List.getD, List.getElem?_eq_getElem (show i < ys.length by omega)]
    have pe : (Op.equalIn (d + 1) e (.int .u64 (xs.getD i 0 : Nat)) (.int .u64 (ys.getD i 0 : Nat))).run P w = .ok (xs.getD i 0 == ys.getD i 0) w := by
      rw [run_equalIn_int w d e .u64 .u64 _ _ he]
      congr 1
      rw [Bool.eq_iff_iff]
      simp
      omega
    simp only [List.forIn_cons, Sem.run_bind, px, py, pe, Result.andThen_ok, List.all_cons]
    cases hb : (xs.getD i 0 == ys.getD i 0)
    · simp
    · simp only [Bool.not_true, Bool.false_eq_true, if_false, Sem.run_pure, Result.andThen_ok, Bool.true_and]
      exact ih fun j hj => hl j (by simp [hj])
theorem eq_rows (a b c d : Nat) (w : World) : (Op.equalIn 10000 28 (.agg #[.int .u64 (a : Int), .int .u64 (b : Int)]) (.agg #[.int .u64 (c : Int), .int .u64 (d : Int)])).run Try.prog w = .ok (decide (a = c ∧ b = d)) w := by
  have h := run_equalIn_u64s w 9998 28 24 2 Try.underlying28 Try.underlying24 (fun w => by kernel_rfl) [a, b] [c, d] rfl rfl
  have e : ((List.range 2).all fun i => [a, b].getD i 0 == [c, d].getD i 0) = decide (a = c ∧ b = d) := by
    rw [Bool.eq_iff_iff]
    simp [List.range_succ]
  rw [e] at h
  exact h
theorem guardR : Try.prog.eqGuardType Try.prog.depth 28 = false := by kernel_rfl
theorem exec_neq_row {o : Oper} {tmps : Array Value} {ds : List Deferred} {w : World} {a b c d : Nat} (x y : Operand) (t : TypeId) (ho : o.op = .binOp .neq 28 x y t) (hx : Act.eval ⟨tmps, ds⟩ x = .agg #[.int .u64 (a : Int), .int .u64 (b : Int)]) (hy : Act.eval ⟨tmps, ds⟩ y = .agg #[.int .u64 (c : Int), .int .u64 (d : Int)]) :
    (execOp (Act.eval ⟨tmps, ds⟩) o).run Try.prog w = .ok (.value (.bool (!decide (a = c ∧ b = d)))) w := by
  have hg := guardR
  have h2 := eq_rows a b c d w
  unfold execOp
  simp only [ho, hx, hy]
  go_simp

/- Joined, in numbers -/
def tm (t : Bool) (x : Nat) : Nat := if t then x else 0
def rowOk (d0 d1 : Nat) (S R : Nat → Nat → Nat) (ch : List Bool) (j : Nat) : Prop := S j 0 = R j 0 ^^^ tm (ch.getD j false) d0 ∧ S j 1 = R j 1 ^^^ tm (ch.getD j false) d1
instance (d0 d1 : Nat) (S R : Nat → Nat → Nat) (ch : List Bool) (j : Nat) : Decidable (rowOk d0 d1 S R ch j) := by unfold rowOk; infer_instance
def jn (d0 d1 : Nat) (S R : Nat → Nat → Nat) (m mr N : Nat) (ch : List Bool) : Bool := decide (m = mr ∧ m = N ∧ ∀ j, j < m → rowOk d0 d1 S R ch j)

theorem joined_len (d0 d1 m mr N c cr b : Nat) (a ar av : Option Addr) (S R : Nat → Nat → Nat) (ch : List Bool) (w : World) (_hv : T.Vc b w N av ch) (_hm : m ≤ 4194304) (hmr : mr ≤ 4194304) (_hN : N ≤ 4194304) (hne : ¬ (m = mr ∧ m = N)) :
    Calls Try.prog 18 #[rw2 d0 d1, .slice a m c, .slice ar mr cr, .agg #[.int .i64 (N : Int), .slice av (T.need N 64) (T.need N 64)]] w fun e w' => e = .returned (.bool (jn d0 d1 S R m mr N ch)) ∧ Below w.heap.size w w' := by
  rw [show jn d0 d1 S R m mr N ch = false from decide_eq_false (fun h => hne ⟨h.1, h.2.1⟩)]
  have kL := fun w => hide1 (T.len_any (N : Int) (.slice av (T.need N 64) (T.need N 64)) w rfl)
  obtain ⟨W0, hW0⟩ : ∃ W0, W0 = (w.alloc (row2 d0 d1)).alloc (.cells #[.int .i64 (N : Int), .slice av (T.need N 64) (T.need N 64)] 40) := ⟨_, rfl⟩
  have A0 : Hid (At w W0 (row2 d0 d1) (.cells #[.int .i64 (N : Int), .slice av (T.need N 64) (T.need N 64)] 40)) := by rw [hW0]; exact At.start _ _ _
  unfold row2 at hW0
  unfold rw2
  by_cases h1 : m = mr
  · subst h1
    have h2 : m ≠ N := fun h => hne ⟨rfl, h⟩
    have t1 : ((m : Int) != (m : Int)) = false := by simp
    have t2 : ((m : Int) != (N : Int)) = true := by rw [bne_iff_ne]; omega
    clear hne
    go_enter Try.func18, Try.ntmps18
    go_upto_region 1 with (fail)
    rw [← hW0]
    clear hW0
    obtain ⟨q0, q1, q2, q3, q4⟩ := T.box2 A0.out.h2
    go_wp2_with fail
    go_at_call 24
    refine (kL _).out.mono ?_
    rintro e w1 ⟨rfl, rfl⟩
    have B1 := hide1 (A0.out.to (T.below_alloc1 W0 (.cells #[.int .i64 (N : Int), .slice av (T.need N 64) (T.need N 64)] 40))).bel
    go_wp2
    go_ret
    exact ⟨rfl, B1.out⟩
  · have t1 : ((m : Int) != (mr : Int)) = true := by rw [bne_iff_ne]; omega
    have B1 := hide1 A0.out.bel
    clear hne
    go_enter Try.func18, Try.ntmps18
    go_upto_region 1 with (fail)
    rw [← hW0]
    clear hW0
    go_wp2
    go_ret
    exact ⟨rfl, B1.out⟩

set_option maxHeartbeats 8000000 in
theorem joined_same (d0 d1 m c c2 b : Nat) (a ar av : Option Addr) (S R : Nat → Nat → Nat) (ch : List Bool) (w : World) (hS : T.Rws w m a S) (hR : T.Rws w m ar R) (hv : T.Vc b w m av ch) (hm : m ≤ 4194304) (hd0 : d0 < 18446744073709551616) (hd1 : d1 < 18446744073709551616) :
    Calls Try.prog 18 #[rw2 d0 d1, .slice a m c, .slice ar m c2, .agg #[.int .i64 (m : Int), .slice av (T.need m 64) (T.need m 64)]] w fun e w' => e = .returned (.bool (jn d0 d1 S R m m m ch)) ∧ Below w.heap.size w w' := by
  have kL := fun w => hide1 (T.len_any (m : Int) (.slice av (T.need m 64) (T.need m 64)) w rfl)
  have HSR := hide1 hS
  have HRR := hide1 hR
  have HVC := hide1 hv
  obtain ⟨W0, hW0⟩ : ∃ W0, W0 = (w.alloc (row2 d0 d1)).alloc (.cells #[.int .i64 (m : Int), .slice av (T.need m 64) (T.need m 64)] 40) := ⟨_, rfl⟩
  have A0 : Hid (At w W0 (row2 d0 d1) (.cells #[.int .i64 (m : Int), .slice av (T.need m 64) (T.need m 64)] 40)) := by rw [hW0]; exact At.start _ _ _
  unfold row2 at hW0
  clear hv hS hR
  have t1 : ((m : Int) != (m : Int)) = false := by simp
  show Calls _ _ #[.agg #[.int .u64 (d0 : Int), .int .u64 (d1 : Int)], _, _, _] _ _
  go_enter Try.func18, Try.ntmps18
  go_upto_region 1 with (fail)
  rw [← hW0]
  clear hW0
  obtain ⟨q0, q1, q2, q3, q4⟩ := T.box2 A0.out.h2
  go_wp2_with fail
  go_at_call 24
  refine (kL _).out.mono ?_
  rintro e w1 ⟨rfl, rfl⟩
  have A1 := hide1 (A0.out.to (T.below_alloc1 W0 (.cells #[.int .i64 (m : Int), .slice av (T.need m 64) (T.need m 64)] 40)))
  generalize W0.alloc (.cells #[.int .i64 (m : Int), .slice av (T.need m 64) (T.need m 64)] 40) = W1 at *
  clear q0 q1 q2 q3 q4 A0 kL W0
  go_wp2
  go_loopw [25] (fun iv wr => ∃ j : Nat, j ≤ m ∧ iv = .int .i64 j ∧ (∀ i, i < j → rowOk d0 d1 S R ch i) ∧ At w wr (row2 d0 d1) (.cells #[.int .i64 (m : Int), .slice av (T.need m 64) (T.need m 64)] 40)) (fun iv _ => m - (intOf iv).toNat)
  case atStart => exact ⟨0, Nat.zero_le _, rfl, fun i hi => by omega, A1.out⟩
  case round =>
    obtain ⟨j, hj, rfl, hok, hA⟩ := hrel
    clear A1
    have HA := hide1 hA
    have HOK := hide1 hok
    clear hA hok
    by_cases hlt : j < m
    · have hlt' : (j : Int) < (m : Int) := by omega
      obtain ⟨g, o, rfl, c0, c1⟩ := HSR.out.at' j hlt
      obtain ⟨gr, o2, rfl, e0, e1⟩ := HRR.out.at' j hlt
      have b0 := (HA.out.bel.cell (p := ⟨g, o + j * 2, none⟩) (T.lt_cell c0)).trans c0
      have b1 := (HA.out.bel.cell (p := ⟨g, o + j * 2 + 1, none⟩) (T.lt_cell c1)).trans c1
      have f0 := (HA.out.bel.cell (p := ⟨gr, o2 + j * 2, none⟩) (T.lt_cell e0)).trans e0
      have f1 := (HA.out.bel.cell (p := ⟨gr, o2 + j * 2 + 1, none⟩) (T.lt_cell e1)).trans e1
      have hx0l := HSR.out.lt j 0
      have hx1l := HSR.out.lt j 1
      have hy0l := HRR.out.lt j 0
      have hy1l := HRR.out.lt j 1
      have HOKJ : Hid (rowOk d0 d1 S R ch j ↔ S j 0 = R j 0 ^^^ tm (T.getI ch (j : Int)) d0 ∧ S j 1 = R j 1 ^^^ tm (T.getI ch (j : Int)) d1) := by
        have : T.getI ch (j : Int) = ch.getD j false := by simp [T.getI]
        rw [this]
        exact Iff.rfl
      obtain ⟨x0, hx0⟩ : ∃ x, x = S j 0 := ⟨_, rfl⟩
      obtain ⟨x1, hx1⟩ : ∃ x, x = S j 1 := ⟨_, rfl⟩
      obtain ⟨y0, hy0⟩ : ∃ x, x = R j 0 := ⟨_, rfl⟩
      obtain ⟨y1, hy1⟩ : ∃ x, x = R j 1 := ⟨_, rfl⟩
      rw [← hx0] at b0 hx0l HOKJ
      rw [← hx1] at b1 hx1l HOKJ
      rw [← hy0] at f0 hy0l HOKJ
      rw [← hy1] at f1 hy1l HOKJ
      clear hx0 hx1 hy0 hy1 c0 c1 e0 e1
      obtain ⟨gb, hgb⟩ : ∃ g, g = wr.heap.size := ⟨_, rfl⟩
      obtain ⟨V, hV⟩ : ∃ V, V = wr.alloc (.cells #[.int .u64 (x0 : Int), .int .u64 (x1 : Int)] 28) := ⟨_, rfl⟩
      have hbw : Below wr.heap.size wr V := by rw [hV]; exact T.below_alloc1 _ _
      have AV := hide1 (HA.out.to hbw)
      have f0' := (hbw.cell (p := ⟨gr, o2 + j * 2, none⟩) (T.lt_cell f0)).trans f0
      have f1' := (hbw.cell (p := ⟨gr, o2 + j * 2 + 1, none⟩) (T.lt_cell f1)).trans f1
      have hbx : V.heap[gb]? = some (.cells #[.int .u64 (x0 : Int), .int .u64 (x1 : Int)] 28 (0, 0)) := by rw [hV, hgb]; exact heap_alloc_new _ _
      have HV := hide1 (HVC.out.below AV.out.bel (Nat.le_refl _))
      have CX : Hid (∀ W, Below V.heap.size V W → W.cell? ⟨gb, 0, none⟩ = some (.int .u64 (x0 : Int)) ∧ W.cell? ⟨gb, 1, none⟩ = some (.int .u64 (x1 : Int))) := fun W hW => by
        have h := T.box2 ((hW.block _ (T.lt_heap hbx)).trans hbx)
        exact ⟨h.1, h.2.1⟩
      have CY : Hid (∀ W, Below V.heap.size V W → W.cell? ⟨gr, o2 + j * 2, none⟩ = some (.int .u64 (y0 : Int)) ∧ W.cell? ⟨gr, o2 + j * 2 + 1, none⟩ = some (.int .u64 (y1 : Int))) := fun W hW =>
        ⟨(hW.cell (p := ⟨gr, o2 + j * 2, none⟩) (T.lt_cell f0')).trans f0', (hW.cell (p := ⟨gr, o2 + j * 2 + 1, none⟩) (T.lt_cell f1')).trans f1'⟩
      have CV : Hid (∀ W, Below V.heap.size V W → W.cell? ⟨w.heap.size + 1, 0, none⟩ = some (.int .i64 (m : Int)) ∧ W.cell? ⟨w.heap.size + 1, 1, none⟩ = some (.slice av (T.need m 64) (T.need m 64))) := fun W hW => by
        have h := T.box2 ((hW.block _ (T.lt_heap AV.out.h2)).trans AV.out.h2)
        exact ⟨h.1, h.2.1⟩
      have CD : Hid (∀ W, Below V.heap.size V W → W.cell? ⟨w.heap.size, 0, none⟩ = some (.int .u64 (d0 : Int)) ∧ W.cell? ⟨w.heap.size, 1, none⟩ = some (.int .u64 (d1 : Int))) := fun W hW => by
        have h := T.box2 ((hW.block _ (T.lt_heap AV.out.h1)).trans AV.out.h1)
        exact ⟨h.1, h.2.1⟩
      have kG := fun W hv => hide1 (T.get_any b W m av ch (j : Int) hv hm)
      have kT := fun t W => hide1 (times_any t d0 d1 W)
      have kO := fun x y W hx hy => hide1 (other_any y0 y1 x y W hy0l hy1l hx hy)
      have HT : Shy (tm (T.getI ch (j : Int)) d0 < 18446744073709551616 ∧ tm (T.getI ch (j : Int)) d1 < 18446744073709551616) := ⟨by
        constructor <;> (unfold tm; split) <;> omega⟩
      unfold tm at HT HOKJ
      go_upto_region 6 with (fail)
      rw [← hgb, ← hV]
      clear hV hgb hbw f0 f1 f0' f1' b0 b1 hbx HA
      refine region_f (F := []) (S := fun W' => Below V.heap.size V W') (by kernel_rfl) (Below.refl _ _).drew (fun hS => ?_)
      refine take_f 0 30 (.agg #[.int .u64 (x0 : Int), .int .u64 (x1 : Int)]) [11] rfl rfl (by kernel_rfl) (by kernel_rfl) (by kernel_rfl) (by kernel_rfl) (by kernel_rfl) (by kernel_rfl) (fun _ _ _ h => h) rfl (fun w hSw => by have h1 := (CX.out w hSw).1; have h2 := (CX.out w hSw).2; go_simp) hS ?_
      try simp only [List.setIfInBounds_toArray, List.set_cons_zero, List.set_cons_succ]
      refine take_p 1 31 (.slice (some ⟨gr, o2, none⟩) m c2) rfl rfl (by kernel_rfl) (by kernel_rfl) (by kernel_rfl) (fun _ _ _ h => h) rfl (fun w => by go_simp) ?_
      try simp only [List.setIfInBounds_toArray, List.set_cons_zero, List.set_cons_succ]
      refine take_p 2 32 (.int .i64 (j : Int)) rfl rfl (by kernel_rfl) (by kernel_rfl) (by kernel_rfl) (fun _ _ _ h => h) rfl (fun w => by go_simp) ?_
      try simp only [List.setIfInBounds_toArray, List.set_cons_zero, List.set_cons_succ]
      refine take_p 3 33 (.pointer (some ⟨gr, o2 + j * 2, none⟩)) rfl rfl (by kernel_rfl) (by kernel_rfl) (by kernel_rfl) (fun _ _ _ h => h) rfl (fun w => by go_simp) ?_
      try simp only [List.setIfInBounds_toArray, List.set_cons_zero, List.set_cons_succ]
      refine take_f 4 34 (.agg #[.int .u64 (y0 : Int), .int .u64 (y1 : Int)]) [10, 11] rfl rfl (by kernel_rfl) (by kernel_rfl) (by kernel_rfl) (by kernel_rfl) (by kernel_rfl) (by kernel_rfl) (fun _ _ _ h => h) rfl (fun w hSw => by have h1 := (CY.out w hSw).1; have h2 := (CY.out w hSw).2; go_simp) hS ?_
      try simp only [List.setIfInBounds_toArray, List.set_cons_zero, List.set_cons_succ]
      refine take_f 5 35 (.agg #[.int .i64 (m : Int), .slice av (T.need m 64) (T.need m 64)]) [7, 9, 10, 11] rfl rfl (by kernel_rfl) (by kernel_rfl) (by kernel_rfl) (by kernel_rfl) (by kernel_rfl) (by kernel_rfl) (fun _ _ _ h => h) rfl (fun w hSw => by have h1 := (CV.out w hSw).1; have h2 := (CV.out w hSw).2; go_simp) hS ?_
      try simp only [List.setIfInBounds_toArray, List.set_cons_zero, List.set_cons_succ]
      refine take_p 6 36 (.int .i64 (j : Int)) rfl rfl (by kernel_rfl) (by kernel_rfl) (by kernel_rfl) (fun _ _ _ h => h) rfl (fun w => by go_simp) ?_
      try simp only [List.setIfInBounds_toArray, List.set_cons_zero, List.set_cons_succ]
      refine take_f 8 38 (.agg #[.int .u64 (d0 : Int), .int .u64 (d1 : Int)]) [9, 10, 11] rfl rfl (by kernel_rfl) (by kernel_rfl) (by kernel_rfl) (by kernel_rfl) (by kernel_rfl) (by kernel_rfl) (fun _ _ _ h => h) rfl (fun w hSw => by have h1 := (CD.out w hSw).1; have h2 := (CD.out w hSw).2; go_simp) hS ?_
      try simp only [List.setIfInBounds_toArray, List.set_cons_zero, List.set_cons_succ]
      refine ready_f 7 (o := { dst := some 37, op := Op.call { callee := Callee.value (Operand.func 32), args := #[Operand.tmp 35, Operand.tmp 36], argTypes := #[40, 3] }, type := 4, pos := "iknp.go:74", after := #[{ on := 5, ground := Ground.data }, { on := 6, ground := Ground.data }], guard := none }) (by kernel_rfl) rfl (fun K hK => ?_)
      go_simp
      refine (kG _ (HV.out.below hS (Nat.le_refl _))).out.mono ?_
      rintro e w1 ⟨rfl, hg1⟩
      have hS1 : Below V.heap.size V w1 := hS.trans ((T.gr_below hg1).mono hS.size)
      refine hK.out _ _ (fun _ _ => hS1) ?_
      clear hK K
      try simp only [Act.put, List.setIfInBounds_toArray, List.set_cons_zero, List.set_cons_succ]
      refine ready_f 9 (o := { dst := some 39, op := Op.call { callee := Callee.value (Operand.func 36), args := #[Operand.tmp 37, Operand.tmp 38], argTypes := #[4, 28] }, type := 28, pos := "iknp.go:74", after := #[{ on := 7, ground := Ground.data }, { on := 8, ground := Ground.data }, { on := 7, ground := Ground.chain }], guard := none }) (by kernel_rfl) rfl (fun K hK => ?_)
      go_simp
      refine (kT _ _).out.mono ?_
      rintro e w2 ⟨rfl, hb2⟩
      have hS2 := hS1.trans (hb2.mono hS1.size)
      refine hK.out _ _ (fun _ _ => hS2) ?_
      clear hK K
      try simp only [Act.put, List.setIfInBounds_toArray, List.set_cons_zero, List.set_cons_succ]
      generalize (if T.getI ch (j : Int) then d0 else 0) = t0 at *
      generalize (if T.getI ch (j : Int) then d1 else 0) = t1' at *
      refine ready_f 10 (o := { dst := some 40, op := Op.call { callee := Callee.value (Operand.func 19), args := #[Operand.tmp 34, Operand.tmp 39], argTypes := #[28, 28] }, type := 28, pos := "iknp.go:74", after := #[{ on := 4, ground := Ground.data }, { on := 9, ground := Ground.data }, { on := 9, ground := Ground.chain }], guard := none }) (by kernel_rfl) rfl (fun K hK => ?_)
      go_simp
      refine (kO _ _ _ HT.out.1 HT.out.2).out.mono ?_
      rintro e w3 ⟨rfl, hb3⟩
      have hS3 := hS2.trans (hb3.mono hS2.size)
      refine hK.out _ _ (fun _ _ => hS3) ?_
      clear hK K
      try simp only [Act.put, List.setIfInBounds_toArray, List.set_cons_zero, List.set_cons_succ]
      refine take_p 11 41 ((.bool (!decide (x0 = y0 ^^^ t0 ∧ x1 = y1 ^^^ t1')))) rfl rfl (by kernel_rfl) (by kernel_rfl) (by kernel_rfl) (fun _ _ _ h => h) rfl (fun w => by exact exec_neq_row _ _ _ rfl rfl rfl) ?_
      try simp only [List.setIfInBounds_toArray, List.set_cons_zero, List.set_cons_succ]
      refine done_f (by kernel_rfl) ?_ _
      have A9 := hide1 (AV.out.to hS3)
      clear hS hS1 hS2 hS3 kO kT kG CX CY CV CD HT
      by_cases hq : x0 = y0 ^^^ t0 ∧ x1 = y1 ^^^ t1'
      · have HQ := hide1 hq
        rw [decide_eq_true hq]
        clear hq
        go_wp2
        go_roundw
        case rel => exact ⟨j + 1, by omega, by go_num, fun i hi => by
          by_cases e : i = j
          · rw [e]; exact HOKJ.out.2 HQ.out
          · exact HOK.out i (by omega), A9.out⟩
        case measure => simp [intOf]; omega
      · have HQ : Hid (jn d0 d1 S R m m m ch = false) := decide_eq_false (fun h => hq (HOKJ.out.1 (h.2.2 j hlt)))
        rw [decide_eq_false hq]
        clear hq
        go_wp2
        go_ret
        rw [HQ.out]
        exact ⟨rfl, A9.out.bel⟩
    · obtain rfl : j = m := by omega
      have hlt' : ¬ (j : Int) < (j : Int) := by omega
      have HQ : Hid (jn d0 d1 S R j j j ch = true) := decide_eq_true ⟨rfl, rfl, HOK.out⟩
      go_wp2
      go_ret
      rw [HQ.out]
      exact ⟨rfl, HA.out.bel⟩
theorem joined_any (d0 d1 m mr N c cr b : Nat) (a ar av : Option Addr) (S R : Nat → Nat → Nat) (ch : List Bool) (w : World) (hS : T.Rws w m a S) (hR : T.Rws w mr ar R) (hv : T.Vc b w N av ch) (hm : m ≤ 4194304) (hmr : mr ≤ 4194304) (hN : N ≤ 4194304) (hd0 : d0 < 18446744073709551616) (hd1 : d1 < 18446744073709551616) :
    Calls Try.prog 18 #[rw2 d0 d1, .slice a m c, .slice ar mr cr, .agg #[.int .i64 (N : Int), .slice av (T.need N 64) (T.need N 64)]] w fun e w' => e = .returned (.bool (jn d0 d1 S R m mr N ch)) ∧ Below w.heap.size w w' := by
  by_cases h : m = mr ∧ m = N
  · obtain ⟨rfl, rfl⟩ := h
    exact joined_same d0 d1 m c cr b a ar av S R ch w hS hR hv hm hd0 hd1
  · exact joined_len d0 d1 m mr N c cr b a ar av S R ch w hv hm hmr hN h
end Go.Proofs.Ytdahnbojnleboaa.I
