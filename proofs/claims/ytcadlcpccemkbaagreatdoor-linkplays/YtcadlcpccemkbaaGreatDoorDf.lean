/- The document's Tick. -/
import Derived.Test.YtcadlcpccemkbaaGreatDoorMDdDe
namespace Go.Proofs.YtcadlcpccemkbaaGreatDoor
open Go.RowKit
set_option maxRecDepth 100000
attribute [local go_sem] not_any

set_option maxHeartbeats 4000000 in
theorem rtick_any {N : Nat} (x : Ls) (LL : List ByteArray) (LLv hv lv : Value) (w : World) (h : Rf x LL LLv hv lv w) (hx : x.Ok N) (hN : N + 1000 < 4294967296) (hm : LL.length + x.Q.length ≤ 1000) :
    Calls Tryz.prog 29 #[rv x LLv hv lv] w fun e w' => ∃ L' l' r, e = .returned (.tuple #[rv x.flush L' hv l', r]) ∧ Rfp x LL LLv hv lv w x.flush (LL ++ x.Q.take x.mvn) L' hv l' w' ∧ Lst w.heap.size w' r x.tickF := by
  obtain ⟨g, hg⟩ : ∃ g, w.heap.size = g := ⟨_, rfl⟩
  have HF := hide1 h
  have HX := hide1 hx
  have HN := hide1 hN
  have HM := hide1 hm
  unfold rv
  have cE : ∀ y L h l, rcs y L h l = #[.int .u32 (y.own : Int), .int .u32 (y.peer : Int), .bool y.sure, .int .i64 0, L, .int .i64 (y.k : Int), .int .i64 ((y.a : Int) + 1), h, l, .bool y.owed] := fun _ _ _ _ => rfl
  have CE := hide1 cE
  rw [cE]
  clear h hx cE hN hm
  go_enter Tryz.func29, Tryz.ntmps29
  go_upto_region 1 with (fail)
  generalize hW : World.alloc (World.alloc w _) _ = W0
  have RW0 : Hid (Rw (fun b => b = g ∨ b = g + 1) x LL LLv hv lv w x LL LLv hv lv W0) := by
    unfold Hid
    rw [← hW, ← hg]
    exact Rw.start2 HF.out _ _
  have B0 : Hid (W0.heap[g]? = some (.cells (rcs x LLv hv lv) 39 (0, 0))) := by unfold Hid; rw [← hW, ← hg]; exact heap_alloc2_old w _ _
  have T0 : Hid (W0.heap[g + 1]? = some (.cells #[.int .u32 0, .int .u32 0, .bool false, .int .i64 0, .slice none 0 0, .int .i64 0, .int .i64 0, .slice none 0 0, .slice none 0 0, .bool false] 39 (0, 0))) := by unfold Hid; rw [← hW, ← hg]; exact heap_alloc2_new w _ _
  obtain ⟨RR, hRR⟩ : ∃ RR, RR = rcs x LLv hv lv := ⟨_, rfl⟩
  have SZ : Hid (Option.map (fun x => x.size) (Tryz.prog.info? 39) = some RR.size) := by rw [hRR]; exact sz10 rfl
  have kF : Hid (Calls Tryz.prog 53 #[.agg RR] W0 fun e w' => ∃ L' l' za zn zc RR1, e = .returned (.tuple #[.agg RR1, .slice za zn zc]) ∧ RR1 = rcs x.mv L' hv l' ∧ zn = x.mvd.length ∧ Rfp x LL LLv hv lv W0 x.mv (LL ++ x.Q.take x.mvn) L' hv l' w' ∧ Rnl w' (.slice za zn zc) x.mvd ∧ ∀ b, (Value.slice za zn zc).ownBlock = some b → W0.heap.size ≤ b) := by
    rw [hRR]
    refine (rfilled_any x LL LLv hv lv W0 RW0.out.rf HX.out HN.out HM.out).mono ?_
    rintro e w' ⟨L', l', z, rfl, h1, h2⟩
    obtain ⟨za, zc, rfl⟩ := h2.form
    exact ⟨L', l', za, _, zc, _, rfl, rfl, rfl, h1, h2.rd, fun b e => by have := (h2.lt e).1; omega⟩
  rw [← hRR] at B0
  clear hW hg hRR
  go_wp2_with (first | (refine wpList_load_row rfl 39 (.tmp 1) rfl g rfl 39 RR (0, 0) _ B0.out Tryz.underlying39 rfl SZ.out ?_) | fail)
  refine kF.out.mono ?_
  rintro e W1 ⟨L', l', za, zn, zc, RR1, rfl, hRR1, hzn, hfp, hz, hzb⟩
  have RW1 := hide1 (RW0.out.step hfp)
  have B1 := hide1 ((hfp.2.1.block g (lt_heap B0.out)).trans B0.out)
  have T1 := hide1 ((hfp.2.1.block (g + 1) (lt_heap T0.out)).trans T0.out)
  have A1 := hide1 (rcs_one x.mv RW1.out.rf)
  have SZ1 : Hid (Option.map (fun x => x.size) (Tryz.prog.info? 39) = some RR1.size) := by rw [hRR1]; exact sz10 rfl
  have HC1 : Hid (RR.size = RR1.size) := by have h1 := SZ.out; rw [SZ1.out] at h1; exact (Option.some.inj h1).symm
  rw [← hRR1] at A1
  have RW2 := hide1 (RW1.out.row (b := g) (.inl rfl) RR1)
  have B2 := hide1 (setRow_heap W1 g _ RR1 _ _ B1.out)
  have T2 := hide1 ((setRow_other W1 g (g + 1) RR1 (by omega)).trans T1.out)
  have HRR1 := hide1 hRR1
  obtain ⟨RR2, hRR2⟩ : ∃ R, R = rcs x.flush L' hv l' := ⟨_, rfl⟩
  have hR12 : RR1.setIfInBounds 9 (.bool false) = RR2 := by rw [HRR1.out, hRR2]; rfl
  have SZ2 : Hid (Option.map (fun x => x.size) (Tryz.prog.info? 39) = some RR2.size) := by rw [hRR2]; exact sz10 rfl
  have A2 := hide1 (rcs_one x.flush (RW1.out.mark (x2 := x.flush) rfl rfl rfl rfl).rf)
  rw [← hRR2] at A2
  have HC2 : Hid ((#[.int .u32 0, .int .u32 0, .bool false, .int .i64 0, .slice none 0 0, .int .i64 0, .int .i64 0, .slice none 0 0, .slice none 0 0, .bool false] : Array Value).size = RR2.size) := by rw [hRR2]; rfl
  clear hzn hfp hz hzb kF hRR1
  have HR2 := hide1 hRR2
  have HR12 := hide1 hR12
  clear hRR2 hR12
  go_upto_region 2 with (first | (refine wpList_store_row rfl 39 (.tmp 1) (.tmp 7) rfl g RR1 rfl rfl 39 _ B1.out SZ1.out HC1.out A1.out ?_) | fail)
  generalize W1.setRow g RR1 = WX at RW2 B2 T2 ⊢
  have c9 : WX.cell? ⟨g, 9, none⟩ = some (.bool x.owed) := by rw [cell_of_row _ g 9 _ _ _ B2.out, HRR1.out]; rfl
  have f9 : WX.frozen? ⟨g, 9, none⟩ = false := frozen_of_row _ g 9 _ _ B2.out
  go_upto_region 3 with (fail)
  replace B2 : Hid ((WX.setCell ⟨g, 9, none⟩ (.bool false)).heap[g]? = some (.cells RR2 39 (0, 0))) := by unfold Hid; rw [heap_setCell_same _ g 9 _ _ _ B2.out, HR12.out]
  replace T2 : Hid ((WX.setCell ⟨g, 9, none⟩ (.bool false)).heap[g + 1]? = some (.cells #[.int .u32 0, .int .u32 0, .bool false, .int .i64 0, .slice none 0 0, .int .i64 0, .int .i64 0, .slice none 0 0, .slice none 0 0, .bool false] 39 (0, 0))) := (heap_setCell_other _ _ _ _ (by show g + 1 ≠ g; omega)).trans T2.out
  replace RW2 := hide1 ((RW2.out.cell (b := g) (.inl rfl) 9 (.bool false)).mark (x2 := x.flush) rfl rfl rfl rfl)
  clear c9 f9 RW0 RW1 B0 B1 T0 T1 A1 HC1 SZ1 SZ
  generalize WX.setCell ⟨g, 9, none⟩ (.bool false) = W2 at RW2 B2 T2 ⊢
  have hrow : W2.heap[g]? = some (.cells #[.int .u32 (x.own : Int), .int .u32 (x.peer : Int), .bool x.sure, .int .i64 0, L', .int .i64 (x.k : Int), .int .i64 ((x.a : Int) + 1), hv, l', .bool false] 39 (0, 0)) := by rw [B2.out, HR2.out]; rfl
  obtain ⟨la, lc, hL, _⟩ := RW2.out.rf.ll
  obtain ⟨ln, hln⟩ : ∃ n, (LL ++ x.Q.take x.mvn).length = n := ⟨_, rfl⟩
  rw [hln] at hL
  subst hL
  have HROW := hide1 hrow
  obtain ⟨⟨_, _, c2, c3, c4⟩, ⟨c5, _, _, _, _⟩, _, _⟩ := box10 hrow
  have CL : Hid (∀ W', Below W2.heap.size W2 W' → W'.cell? ⟨g, 3, none⟩ = some (.int .i64 0) ∧ W'.cell? ⟨g, 4, none⟩ = some (.slice la ln lc) ∧ W'.cell? ⟨g, 5, none⟩ = some (.int .i64 (x.k : Int))) := fun W' hb => ⟨(hb.cell (p := ⟨g, 3, none⟩) (lt_heap B2.out)).trans c3, (hb.cell (p := ⟨g, 4, none⟩) (lt_heap B2.out)).trans c4, (hb.cell (p := ⟨g, 5, none⟩) (lt_heap B2.out)).trans c5⟩
  have HLN := hide1 hln
  obtain ⟨pn, hpn⟩ : ∃ n, n = x.mv.A.length := ⟨_, rfl⟩
  have HPN := hide1 hpn
  have kN : Hid (∀ W', Below W2.heap.size W2 W' → Calls Tryz.prog 56 #[.agg #[.int .i64 0, .slice la ln lc, .int .i64 (x.k : Int)]] W' fun e w1 => ∃ pa pc, e = .returned (.slice pa pn pc) ∧ Rnl w1 (.slice pa pn pc) (pend (x.k + 1) x.mv.A) ∧ Below W'.heap.size W' w1) := fun W' hb => by
    have hll := RW2.out.rf.ll.below hb (Nat.le_refl _)
    have h1 := RW2.out.rf.mx
    have h2 := RW2.out.rf.le
    rw [hln] at h1 h2
    refine (rpending_any 0 ln x.k lc la hll (by omega) h1 h2).mono ?_
    rintro e w1 ⟨z, rfl, hz, hb1⟩
    have e1 : (LL ++ x.Q.take x.mvn).drop x.k = x.mv.A := RW2.out.rf.eq
    rw [e1, Nat.zero_add] at hz
    obtain ⟨pa, pc, rfl⟩ := hz.form
    rw [pend_length, ← hpn] at hz ⊢
    exact ⟨pa, pc, rfl, hz.rd, hb1⟩
  have kR : Hid (∀ W' pa pc, Rnl W' (.slice pa pn pc) (pend (x.k + 1) x.mv.A) → Calls Tryz.prog 54 #[.agg RR2, .slice pa pn pc] W' fun e w' => ∃ ra rn rc, e = .returned (.slice ra rn rc) ∧ Lst W'.heap.size w' (.slice ra rn rc) ((pend (x.k + 1) x.mv.A).map x.mv.frm) ∧ Below W'.heap.size W' w') := fun W' pa pc hz => by
    have k2 := rframes_any (x := x.flush) (LLv := .slice la ln lc) (hv := hv) (lv := l') (z := .slice pa pn pc) (w := W') HX.out.flush HN.out hz (Ls.fms_pend HX.out.flush HN.out)
    unfold rv at k2
    rw [← HR2.out] at k2
    refine k2.mono ?_
    rintro e w' ⟨r, rfl, h1, h2⟩
    obtain ⟨a, c, h3⟩ := h1.form
    exact ⟨a, _, c, by rw [h3], h3 ▸ h1, h2⟩
  have kP : Hid (∀ W', Calls Tryz.prog 55 #[.agg RR2] W' fun e w' => e = .returned (.string x.mv.pln) ∧ Below W'.heap.size W' w') := fun W' => by
    have k := rplain_any (x := x.flush) (LLv := .slice la ln lc) (hv := hv) (lv := l') W' HX.out.flush HN.out
    unfold rv at k
    rw [← HR2.out] at k
    exact k
  -- the end
  have FIN : Hid (∀ (WF : World) (r : Value) (Fs : List ByteArray), Rw (fun b => b = g ∨ b = g + 1) x LL LLv hv lv w x.flush (LL ++ x.Q.take x.mvn) (.slice la ln lc) hv l' WF → Lst w.heap.size WF r Fs → (∀ b, r.ownBlock = some b → b ≠ g ∧ b ≠ g + 1) → Fs = x.tickF →
      Rfp x LL LLv hv lv w x.flush (LL ++ x.Q.take x.mvn) (.slice la ln lc) hv l' (WF.setRow (g + 1) RR2) ∧ Lst w.heap.size (WF.setRow (g + 1) RR2) r x.tickF) := fun WF r Fs h1 h2 h3 h4 => by
    refine ⟨(h1.row (b := g + 1) (.inr rfl) RR2).fin, ?_⟩
    rw [← h4]
    exact h2.kp (kp_setRow _ _ _) fun b e => (h3 b e).2
  have FINB : Hid (∀ (WF : World) (m : Nat) (_ : Unit), Rw (fun b => b = g ∨ b = g + 1) x LL LLv hv lv w x.flush (LL ++ x.Q.take x.mvn) (.slice la ln lc) hv l' WF → WF.heap.size = m → (g + 1 < m ∧ w.heap.size ≤ m) → [x.mv.pln] = x.tickF →
      Rfp x LL LLv hv lv w x.flush (LL ++ x.Q.take x.mvn) (.slice la ln lc) hv l' (WF.alloc (.cells #[.string x.mv.pln] 9)) ∧ Lst w.heap.size (WF.alloc (.cells #[.string x.mv.pln] 9)) (.slice (some ⟨m, 0, none⟩) 1 1) x.tickF) := fun WF m _ h1 h2 h3 h4 => by
    subst h2
    refine ⟨(h1.below (below1 _)).fin, ?_⟩
    rw [← h4]
    exact Lst.one h3.2
  clear hln hpn hrow
  cases hsu : x.sure with
  | false =>
    rw [hsu] at c2
    have HFF : Hid ([x.mv.pln] = x.tickF) := by
      have h1 := (HX.out.mv.ns hsu).1
      unfold Hid Ls.tickF
      rw [h1]
      rfl
    clear hsu c3 c4 c5
    go_upto_region 5 with (fail)
    refine region_f (F := [4]) (S := fun X => X.heap[g]? = some (.cells RR2 39 (0, 0))) (by kernel_rfl) B2.out (fun hS => ?_)
    refine take_f 0 25 (.agg RR2) [4, 5] rfl rfl (by kernel_rfl) (by kernel_rfl) (by kernel_rfl) (by kernel_rfl) (by kernel_rfl) (by kernel_rfl) (fun _ _ _ h => h) rfl (fun w hSw => by exact exec_load_box 39 (.tmp 1) rfl _ rfl 39 _ _ (hSw) Tryz.underlying39 rfl SZ2.out) hS ?_
    try simp only [List.setIfInBounds_toArray, List.set_cons_zero, List.set_cons_succ]
    refine take_f 1 26 (.agg RR2) [2, 3, 4, 5] rfl rfl (by kernel_rfl) (by kernel_rfl) (by kernel_rfl) (by kernel_rfl) (by kernel_rfl) (by kernel_rfl) (fun _ _ _ h => h) rfl (fun w hSw => by exact exec_load_box 39 (.tmp 1) rfl _ rfl 39 _ _ (hSw) Tryz.underlying39 rfl SZ2.out) hS ?_
    try simp only [List.setIfInBounds_toArray, List.set_cons_zero, List.set_cons_succ]
    refine ready_f 2 (o := { dst := some 27, op := Op.call { callee := Callee.value (Operand.func 55), args := #[Operand.tmp 26], argTypes := #[39] }, type := 9, pos := "ref.go:111", after := #[{ on := 1, ground := Ground.data }], guard := none }) (by kernel_rfl) rfl (fun K hK => ?_)
    go_simp
    refine (kP.out _).mono ?_
    rintro e W4 ⟨rfl, hb4⟩
    have RW4 := hide1 (RW2.out.below (Below.trans (Below.refl _ _).drew hb4))
    have B4 := hide1 ((hb4.block g (lt_heap B2.out)).trans B2.out)
    have T4 := hide1 ((hb4.block (g + 1) (lt_heap T2.out)).trans T2.out)
    refine hK.out _ _ (fun _ _ => B4.out) ?_
    clear hK K
    try simp only [Act.put, List.setIfInBounds_toArray, List.set_cons_zero, List.set_cons_succ]
    have HGT : Hid (g + 1 < W4.heap.size ∧ w.heap.size ≤ W4.heap.size) := ⟨lt_heap T4.out, RW4.out.bel.size⟩
    clear hb4 hS
    refine ready2_f 3 4 (o := { dst := some 28, op := Op.buildSlice 32 1 #[(0, Operand.tmp 27)], type := 32, pos := "ref.go:111", after := #[{ on := 2, ground := Ground.data }, { on := 4, ground := Ground.gcOnly Departure.lateStores }], guard := none }) (o' := { dst := none, op := Op.store 39 (Operand.tmp 2) (Operand.tmp 25), type := 0, pos := "ref.go:111", after := #[{ on := 0, ground := Ground.data }, { on := 2, ground := Ground.chain }, { on := 0, ground := Ground.phase }, { on := 1, ground := Ground.textOnly Departure.lateStores }, { on := 2, ground := Ground.textOnly Departure.lateStoresUnsure }, { on := 3, ground := Ground.textOnly Departure.lateStores }], guard := none }) (by kernel_rfl) rfl rfl (fun K hK => ?_) (fun K hK => ?_)
    · go_simp
      refine hK.out _ _ (fun _ h => ((below1 _).block g (lt_heap B4.out)).trans h) ?_
      clear hK K
      try simp only [Act.put, List.setIfInBounds_toArray, List.set_cons_zero, List.set_cons_succ]
      have T5 : (W4.alloc (.cells #[.string x.mv.pln] 9)).heap[g + 1]? = some (.cells #[.int .u32 0, .int .u32 0, .bool false, .int .i64 0, .slice none 0 0, .int .i64 0, .int .i64 0, .slice none 0 0, .slice none 0 0, .bool false] 39 (0, 0)) := ((below1 _).block (g + 1) (lt_heap T4.out)).trans T4.out
      refine ready_f 4 (o := { dst := none, op := Op.store 39 (Operand.tmp 2) (Operand.tmp 25), type := 0, pos := "ref.go:111", after := #[{ on := 0, ground := Ground.data }, { on := 2, ground := Ground.chain }, { on := 0, ground := Ground.phase }, { on := 1, ground := Ground.textOnly Departure.lateStores }, { on := 2, ground := Ground.textOnly Departure.lateStoresUnsure }, { on := 3, ground := Ground.textOnly Departure.lateStores }], guard := none }) (by kernel_rfl) rfl (fun K hK => ?_)
      rw [if_pos (by rfl)]
      refine wp_store_row 39 _ _ rfl (g + 1) RR2 rfl rfl 39 _ T5 SZ2.out HC2.out A2.out ?_
      refine hK.out _ _ (fun h => absurd (by decide) h) ?_
      clear hK K
      refine take_p 5 3 (.slice (some ⟨W4.heap.size, 0, none⟩) 1 1) rfl rfl (by kernel_rfl) (by kernel_rfl) (by kernel_rfl) (fun _ _ _ h => h) rfl (fun w => by go_simp) ?_
      try simp only [List.setIfInBounds_toArray, List.set_cons_zero, List.set_cons_succ]
      refine done_f (by kernel_rfl) ?_ _
      have FN := hide1 (FIN.out _ _ _ (RW4.out.below (below1 (.cells #[.string x.mv.pln] 9))) (Lst.one (B := w.heap.size) (w := W4) (b := x.mv.pln) HGT.out.2) (fun b e => by cases e; have := HGT.out.1; show W4.heap.size ≠ g ∧ W4.heap.size ≠ g + 1; omega) HFF.out)
      have HRW := hide1 (setRow_heap (W4.alloc (.cells #[.string x.mv.pln] 9)) (g + 1) _ RR2 _ _ T5)
      go_wp2
      exact ret_l2 Tryz.results29 (g + 1) RR2 _ (by rw [HR2.out]; rfl) rfl rfl HRW.out rfl ⟨_, _, _, by rw [HR2.out]; rfl, FN.out.1, FN.out.2⟩
    · rw [if_pos (by rfl)]
      refine wp_store_row 39 _ _ rfl (g + 1) RR2 rfl rfl 39 _ T4.out SZ2.out HC2.out A2.out ?_
      refine hK.out _ _ (fun h => absurd (by decide) h) ?_
      clear hK K
      refine ready_f 3 (o := { dst := some 28, op := Op.buildSlice 32 1 #[(0, Operand.tmp 27)], type := 32, pos := "ref.go:111", after := #[{ on := 2, ground := Ground.data }, { on := 4, ground := Ground.gcOnly Departure.lateStores }], guard := none }) (by kernel_rfl) rfl (fun K hK => ?_)
      go_simp
      refine hK.out _ _ (fun _ _ => ((below1 _).block g (by rw [setRow_size]; exact lt_heap B4.out)).trans ((setRow_other W4 (g + 1) g RR2 (by omega)).trans B4.out)) ?_
      clear hK K
      try simp only [Act.put, List.setIfInBounds_toArray, List.set_cons_zero, List.set_cons_succ]
      refine take_p 5 3 (.slice (some ⟨W4.heap.size, 0, none⟩) 1 1) rfl rfl (by kernel_rfl) (by kernel_rfl) (by kernel_rfl) (fun _ _ _ h => h) rfl (fun w => by go_simp) ?_
      try simp only [List.setIfInBounds_toArray, List.set_cons_zero, List.set_cons_succ]
      refine done_f (by kernel_rfl) ?_ _
      have FN := hide1 (FINB.out _ _ () (RW4.out.row (b := g + 1) (.inr rfl) RR2) (setRow_size W4 (g + 1) RR2) HGT.out HFF.out)
      have HRW := hide1 (((below1 (.cells #[.string x.mv.pln] 9)).block (g + 1) (by rw [setRow_size]; exact HGT.out.1)).trans (setRow_heap W4 (g + 1) _ RR2 _ _ T4.out))
      go_wp2
      exact ret_l2 Tryz.results29 (g + 1) RR2 _ (by rw [HR2.out]; rfl) rfl rfl HRW.out rfl ⟨_, _, _, by rw [HR2.out]; rfl, FN.out.1, FN.out.2⟩
  | true =>
    rw [hsu] at c2
    have hSU : x.sure = true := hsu
    clear hsu
    go_wp2_with fail
    refine (kN.out W2 (Below.refl _ _)).mono ?_
    rintro e W3 ⟨qa, qc, rfl, _, hb3⟩
    by_cases hp0 : pn = 0
    · have g0 : ¬ (0 : Int) < (pn : Int) := by omega
      have HFF : Hid ([x.mv.pln] = x.tickF) := by
        unfold Hid Ls.tickF
        rw [List.eq_nil_of_length_eq_zero (HPN.out.symm.trans hp0)]
        rfl
      have RW3 := hide1 (RW2.out.below hb3)
      have B3 := hide1 ((hb3.block g (lt_heap B2.out)).trans B2.out)
      have T3 := hide1 ((hb3.block (g + 1) (lt_heap T2.out)).trans T2.out)
      clear hp0 c3 c4 c5 hb3
      go_upto_region 5 with (fail)
      refine region_f (F := [4]) (S := fun X => X.heap[g]? = some (.cells RR2 39 (0, 0))) (by kernel_rfl) B3.out (fun hS => ?_)
      refine take_f 0 25 (.agg RR2) [4, 5] rfl rfl (by kernel_rfl) (by kernel_rfl) (by kernel_rfl) (by kernel_rfl) (by kernel_rfl) (by kernel_rfl) (fun _ _ _ h => h) rfl (fun w hSw => by exact exec_load_box 39 (.tmp 1) rfl _ rfl 39 _ _ (hSw) Tryz.underlying39 rfl SZ2.out) hS ?_
      try simp only [List.setIfInBounds_toArray, List.set_cons_zero, List.set_cons_succ]
      refine take_f 1 26 (.agg RR2) [2, 3, 4, 5] rfl rfl (by kernel_rfl) (by kernel_rfl) (by kernel_rfl) (by kernel_rfl) (by kernel_rfl) (by kernel_rfl) (fun _ _ _ h => h) rfl (fun w hSw => by exact exec_load_box 39 (.tmp 1) rfl _ rfl 39 _ _ (hSw) Tryz.underlying39 rfl SZ2.out) hS ?_
      try simp only [List.setIfInBounds_toArray, List.set_cons_zero, List.set_cons_succ]
      refine ready_f 2 (o := { dst := some 27, op := Op.call { callee := Callee.value (Operand.func 55), args := #[Operand.tmp 26], argTypes := #[39] }, type := 9, pos := "ref.go:111", after := #[{ on := 1, ground := Ground.data }], guard := none }) (by kernel_rfl) rfl (fun K hK => ?_)
      go_simp
      refine (kP.out _).mono ?_
      rintro e W4 ⟨rfl, hb4⟩
      have RW4 := hide1 (RW3.out.below (Below.trans (Below.refl _ _).drew hb4))
      have B4 := hide1 ((hb4.block g (lt_heap B3.out)).trans B3.out)
      have T4 := hide1 ((hb4.block (g + 1) (lt_heap T3.out)).trans T3.out)
      refine hK.out _ _ (fun _ _ => B4.out) ?_
      clear hK K
      try simp only [Act.put, List.setIfInBounds_toArray, List.set_cons_zero, List.set_cons_succ]
      have HGT : Hid (g + 1 < W4.heap.size ∧ w.heap.size ≤ W4.heap.size) := ⟨lt_heap T4.out, RW4.out.bel.size⟩
      clear hb4 hS
      refine ready2_f 3 4 (o := { dst := some 28, op := Op.buildSlice 32 1 #[(0, Operand.tmp 27)], type := 32, pos := "ref.go:111", after := #[{ on := 2, ground := Ground.data }, { on := 4, ground := Ground.gcOnly Departure.lateStores }], guard := none }) (o' := { dst := none, op := Op.store 39 (Operand.tmp 2) (Operand.tmp 25), type := 0, pos := "ref.go:111", after := #[{ on := 0, ground := Ground.data }, { on := 2, ground := Ground.chain }, { on := 0, ground := Ground.phase }, { on := 1, ground := Ground.textOnly Departure.lateStores }, { on := 2, ground := Ground.textOnly Departure.lateStoresUnsure }, { on := 3, ground := Ground.textOnly Departure.lateStores }], guard := none }) (by kernel_rfl) rfl rfl (fun K hK => ?_) (fun K hK => ?_)
      · go_simp
        refine hK.out _ _ (fun _ h => ((below1 _).block g (lt_heap B4.out)).trans h) ?_
        clear hK K
        try simp only [Act.put, List.setIfInBounds_toArray, List.set_cons_zero, List.set_cons_succ]
        have T5 : (W4.alloc (.cells #[.string x.mv.pln] 9)).heap[g + 1]? = some (.cells #[.int .u32 0, .int .u32 0, .bool false, .int .i64 0, .slice none 0 0, .int .i64 0, .int .i64 0, .slice none 0 0, .slice none 0 0, .bool false] 39 (0, 0)) := ((below1 _).block (g + 1) (lt_heap T4.out)).trans T4.out
        refine ready_f 4 (o := { dst := none, op := Op.store 39 (Operand.tmp 2) (Operand.tmp 25), type := 0, pos := "ref.go:111", after := #[{ on := 0, ground := Ground.data }, { on := 2, ground := Ground.chain }, { on := 0, ground := Ground.phase }, { on := 1, ground := Ground.textOnly Departure.lateStores }, { on := 2, ground := Ground.textOnly Departure.lateStoresUnsure }, { on := 3, ground := Ground.textOnly Departure.lateStores }], guard := none }) (by kernel_rfl) rfl (fun K hK => ?_)
        rw [if_pos (by rfl)]
        refine wp_store_row 39 _ _ rfl (g + 1) RR2 rfl rfl 39 _ T5 SZ2.out HC2.out A2.out ?_
        refine hK.out _ _ (fun h => absurd (by decide) h) ?_
        clear hK K
        refine take_p 5 3 (.slice (some ⟨W4.heap.size, 0, none⟩) 1 1) rfl rfl (by kernel_rfl) (by kernel_rfl) (by kernel_rfl) (fun _ _ _ h => h) rfl (fun w => by go_simp) ?_
        try simp only [List.setIfInBounds_toArray, List.set_cons_zero, List.set_cons_succ]
        refine done_f (by kernel_rfl) ?_ _
        have FN := hide1 (FIN.out _ _ _ (RW4.out.below (below1 (.cells #[.string x.mv.pln] 9))) (Lst.one (B := w.heap.size) (w := W4) (b := x.mv.pln) HGT.out.2) (fun b e => by cases e; have := HGT.out.1; show W4.heap.size ≠ g ∧ W4.heap.size ≠ g + 1; omega) HFF.out)
        have HRW := hide1 (setRow_heap (W4.alloc (.cells #[.string x.mv.pln] 9)) (g + 1) _ RR2 _ _ T5)
        go_wp2
        exact ret_l2 Tryz.results29 (g + 1) RR2 _ (by rw [HR2.out]; rfl) rfl rfl HRW.out rfl ⟨_, _, _, by rw [HR2.out]; rfl, FN.out.1, FN.out.2⟩
      · rw [if_pos (by rfl)]
        refine wp_store_row 39 _ _ rfl (g + 1) RR2 rfl rfl 39 _ T4.out SZ2.out HC2.out A2.out ?_
        refine hK.out _ _ (fun h => absurd (by decide) h) ?_
        clear hK K
        refine ready_f 3 (o := { dst := some 28, op := Op.buildSlice 32 1 #[(0, Operand.tmp 27)], type := 32, pos := "ref.go:111", after := #[{ on := 2, ground := Ground.data }, { on := 4, ground := Ground.gcOnly Departure.lateStores }], guard := none }) (by kernel_rfl) rfl (fun K hK => ?_)
        go_simp
        refine hK.out _ _ (fun _ _ => ((below1 _).block g (by rw [setRow_size]; exact lt_heap B4.out)).trans ((setRow_other W4 (g + 1) g RR2 (by omega)).trans B4.out)) ?_
        clear hK K
        try simp only [Act.put, List.setIfInBounds_toArray, List.set_cons_zero, List.set_cons_succ]
        refine take_p 5 3 (.slice (some ⟨W4.heap.size, 0, none⟩) 1 1) rfl rfl (by kernel_rfl) (by kernel_rfl) (by kernel_rfl) (fun _ _ _ h => h) rfl (fun w => by go_simp) ?_
        try simp only [List.setIfInBounds_toArray, List.set_cons_zero, List.set_cons_succ]
        refine done_f (by kernel_rfl) ?_ _
        have FN := hide1 (FINB.out _ _ () (RW4.out.row (b := g + 1) (.inr rfl) RR2) (setRow_size W4 (g + 1) RR2) HGT.out HFF.out)
        have HRW := hide1 (((below1 (.cells #[.string x.mv.pln] 9)).block (g + 1) (by rw [setRow_size]; exact HGT.out.1)).trans (setRow_heap W4 (g + 1) _ RR2 _ _ T4.out))
        go_wp2
        exact ret_l2 Tryz.results29 (g + 1) RR2 _ (by rw [HR2.out]; rfl) rfl rfl HRW.out rfl ⟨_, _, _, by rw [HR2.out]; rfl, FN.out.1, FN.out.2⟩
    · have g0 : (0 : Int) < (pn : Int) := by omega
      have HFF : Hid ((pend (x.k + 1) x.mv.A).map x.mv.frm = x.tickF) := by
        unfold Hid Ls.tickF Ls.tell
        rw [if_neg (fun e => hp0 (by rw [HPN.out, ← pend_length (x.k + 1) x.mv.A, e]; rfl))]
      go_upto_region 4 with (fail)
      replace kN : Hid (∀ W', Below W3.heap.size W3 W' → Calls Tryz.prog 56 #[.agg #[.int .i64 0, .slice la ln lc, .int .i64 (x.k : Int)]] W' fun e w1 => ∃ pa pc, e = .returned (.slice pa pn pc) ∧ Rnl w1 (.slice pa pn pc) (pend (x.k + 1) x.mv.A) ∧ Below W'.heap.size W' w1) := fun W' hb => kN.out W' (hb3.trans (hb.mono hb3.size))
      replace CL : Hid (∀ W', Below W3.heap.size W3 W' → W'.cell? ⟨g, 3, none⟩ = some (.int .i64 0) ∧ W'.cell? ⟨g, 4, none⟩ = some (.slice la ln lc) ∧ W'.cell? ⟨g, 5, none⟩ = some (.int .i64 (x.k : Int))) := fun W' hb => CL.out W' (hb3.trans (hb.mono hb3.size))
      have RW3 := hide1 (RW2.out.below hb3)
      have B3 := hide1 ((hb3.block g (lt_heap B2.out)).trans B2.out)
      have T3 := hide1 ((hb3.block (g + 1) (lt_heap T2.out)).trans T2.out)
      clear hp0 c3 c4 c5 hb3
      refine region_f (F := [6]) (S := fun X => Below W3.heap.size W3 X) (by kernel_rfl) (Below.refl _ _).drew (fun hS => ?_)
      refine take_f 0 19 (.agg RR2) [6, 7] rfl rfl (by kernel_rfl) (by kernel_rfl) (by kernel_rfl) (by kernel_rfl) (by kernel_rfl) (by kernel_rfl) (fun _ _ _ h => h) rfl (fun w hSw => by exact exec_load_box 39 (.tmp 1) rfl _ rfl 39 _ _ ((hSw.block g (lt_heap B3.out)).trans B3.out) Tryz.underlying39 rfl SZ2.out) hS ?_
      try simp only [List.setIfInBounds_toArray, List.set_cons_zero, List.set_cons_succ]
      refine take_f 1 20 (.agg RR2) [5, 6, 7] rfl rfl (by kernel_rfl) (by kernel_rfl) (by kernel_rfl) (by kernel_rfl) (by kernel_rfl) (by kernel_rfl) (fun _ _ _ h => h) rfl (fun w hSw => by exact exec_load_box 39 (.tmp 1) rfl _ rfl 39 _ _ ((hSw.block g (lt_heap B3.out)).trans B3.out) Tryz.underlying39 rfl SZ2.out) hS ?_
      try simp only [List.setIfInBounds_toArray, List.set_cons_zero, List.set_cons_succ]
      refine take_p 2 21 (.pointer (some ⟨g, 3, none⟩)) rfl rfl (by kernel_rfl) (by kernel_rfl) (by kernel_rfl) (fun _ _ _ h => h) rfl (fun w => by go_simp) ?_
      try simp only [List.setIfInBounds_toArray, List.set_cons_zero, List.set_cons_succ]
      refine take_f 3 22 (.agg #[.int .i64 0, .slice la ln lc, .int .i64 (x.k : Int)]) [4, 5, 6, 7] rfl rfl (by kernel_rfl) (by kernel_rfl) (by kernel_rfl) (by kernel_rfl) (by kernel_rfl) (by kernel_rfl) (fun _ _ _ h => h) rfl (fun w hSw => by obtain ⟨h3, h4, h5⟩ := CL.out _ hSw; go_simp) hS ?_
      try simp only [List.setIfInBounds_toArray, List.set_cons_zero, List.set_cons_succ]
      refine ready_f 4 (o := { dst := some 23, op := Op.call { callee := Callee.value (Operand.func 56), args := #[Operand.tmp 22], argTypes := #[34] }, type := 35, pos := "ref.go:109", after := #[{ on := 3, ground := Ground.data }], guard := none }) (by kernel_rfl) rfl (fun K hK => ?_)
      go_simp
      refine (kN.out _ hS).mono ?_
      rintro e W5 ⟨pa, pc, rfl, hz5, hb5⟩
      have hS5 := hS.trans (hb5.mono hS.size)
      refine hK.out _ _ (fun _ _ => hS5) ?_
      clear hK K
      try simp only [Act.put, List.setIfInBounds_toArray, List.set_cons_zero, List.set_cons_succ]
      refine ready_f 5 (o := { dst := some 24, op := Op.call { callee := Callee.value (Operand.func 54), args := #[Operand.tmp 20, Operand.tmp 23], argTypes := #[39, 35] }, type := 32, pos := "ref.go:109", after := #[{ on := 1, ground := Ground.data }, { on := 4, ground := Ground.data }, { on := 4, ground := Ground.chain }], guard := none }) (by kernel_rfl) rfl (fun K hK => ?_)
      go_simp
      refine (kR.out _ _ _ hz5).mono ?_
      rintro e W6 ⟨ra, rn, rc, rfl, hL6, hb6⟩
      have hS6 := hS5.trans (hb6.mono hS5.size)
      refine hK.out _ _ (fun _ _ => hS6) ?_
      clear hK K
      try simp only [Act.put, List.setIfInBounds_toArray, List.set_cons_zero, List.set_cons_succ]
      have T6 := hide1 ((hS6.block (g + 1) (lt_heap T3.out)).trans T3.out)
      refine ready_f 6 (o := { dst := none, op := Op.store 39 (Operand.tmp 2) (Operand.tmp 19), type := 0, pos := "ref.go:109", after := #[{ on := 0, ground := Ground.data }, { on := 5, ground := Ground.chain }, { on := 0, ground := Ground.phase }, { on := 1, ground := Ground.textOnly Departure.lateStores }, { on := 2, ground := Ground.textOnly Departure.lateStores }, { on := 3, ground := Ground.textOnly Departure.lateStores }, { on := 4, ground := Ground.textOnly Departure.lateStoresUnsure }, { on := 5, ground := Ground.textOnly Departure.lateStoresUnsure }], guard := none }) (by kernel_rfl) rfl (fun K hK => ?_)
      rw [if_pos (by rfl)]
      refine wp_store_row 39 _ _ rfl (g + 1) RR2 rfl rfl 39 _ T6.out SZ2.out HC2.out A2.out ?_
      refine hK.out _ _ (fun h => absurd (by decide) h) ?_
      clear hK K
      refine take_p 7 3 (.slice ra rn rc) rfl rfl (by kernel_rfl) (by kernel_rfl) (by kernel_rfl) (fun _ _ _ h => h) rfl (fun w => by go_simp) ?_
      try simp only [List.setIfInBounds_toArray, List.set_cons_zero, List.set_cons_succ]
      refine done_f (by kernel_rfl) ?_ _
      have FN := hide1 (FIN.out _ _ _ (RW3.out.below hS6) (hL6.mono (by have h1 := RW3.out.bel.size; have h2 := hS5.size; omega)) (fun b e => by have h1 := (hL6.lt e).1; have h2 := lt_heap T3.out; have h3 := hS5.size; omega) HFF.out)
      have HRW := hide1 (setRow_heap W6 (g + 1) _ RR2 _ _ T6.out)
      clear hS hS5 hS6 hb5 hb6 hz5 hL6
      go_wp2
      exact ret_l2 Tryz.results29 (g + 1) RR2 _ (by rw [HR2.out]; rfl) rfl rfl HRW.out rfl ⟨_, _, _, by rw [HR2.out]; rfl, FN.out.1, FN.out.2⟩
end Go.Proofs.YtcadlcpccemkbaaGreatDoor
