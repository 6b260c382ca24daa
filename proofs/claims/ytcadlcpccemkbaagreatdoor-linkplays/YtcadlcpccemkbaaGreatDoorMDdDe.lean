/- The document's end on its way through a call. The document's Flush. -/
import Derived.Test.YtcadlcpccemkbaaGreatDoorDs
namespace Go.Proofs.YtcadlcpccemkbaaGreatDoor
open Go.RowKit
set_option maxRecDepth 100000
attribute [local go_sem] not_any

/- what it holds lies outside the call's own boxes F -/
structure Rw (F : Nat → Prop) (x : Ls) (LL : List ByteArray) (LLv hv lv : Value) (w : World) (x' : Ls) (LL' : List ByteArray) (L' h' l' : Value) (W : World) : Prop where
  rf : Rf x' LL' L' h' l' W
  bel : Below w.heap.size w W
  ro : ∀ b, Ro x' LL' L' h' l' b → Ro x LL LLv hv lv b ∨ w.heap.size ≤ b
  nf : ∀ b, Ro x' LL' L' h' l' b → ¬ F b
  fb : ∀ b, F b → w.heap.size ≤ b ∧ b < W.heap.size
variable {F : Nat → Prop} {x : Ls} {LL : List ByteArray} {LLv hv lv : Value} {w : World} {x' : Ls} {LL' : List ByteArray} {L' h' l' : Value} {W : World}
theorem Rw.kp (h : Rw F x LL LLv hv lv w x' LL' L' h' l' W) {W' : World} (hk : Kp F W W') : Rw F x LL LLv hv lv w x' LL' L' h' l' W' :=
  ⟨h.rf.kp hk h.nf, h.bel.trans (hk.below h.bel.size fun b hb => (h.fb b hb).1), h.ro, h.nf, fun b hb => ⟨(h.fb b hb).1, Nat.lt_of_lt_of_le (h.fb b hb).2 hk.size⟩⟩
theorem Rw.row (h : Rw F x LL LLv hv lv w x' LL' L' h' l' W) {b : Nat} (hb : F b) (cs : Array Value) : Rw F x LL LLv hv lv w x' LL' L' h' l' (W.setRow b cs) :=
  h.kp ((kp_setRow W b cs).mono fun _ e => e ▸ hb)
theorem Rw.cell (h : Rw F x LL LLv hv lv w x' LL' L' h' l' W) {b : Nat} (hb : F b) (j : Nat) (v : Value) : Rw F x LL LLv hv lv w x' LL' L' h' l' (W.setCell ⟨b, j, none⟩ v) :=
  h.kp (Kp.setCell _ _ _ _ hb)
theorem Rw.below (h : Rw F x LL LLv hv lv w x' LL' L' h' l' W) {W' : World} (hb : Below W.heap.size W W') : Rw F x LL LLv hv lv w x' LL' L' h' l' W' :=
  h.kp (Kp.ofBelow hb)
theorem Rw.mark (h : Rw F x LL LLv hv lv w x' LL' L' h' l' W) {x2 : Ls} (hk : x2.k = x'.k) (hA : x2.A = x'.A) (hl : x2.l = x'.l) (hQ : x2.Q = x'.Q) : Rw F x LL LLv hv lv w x2 LL' L' h' l' W := by
  have hr : ∀ b, Ro x2 LL' L' h' l' b → Ro x' LL' L' h' l' b := fun b hb => by unfold Ro at hb ⊢; rw [hl, hQ] at hb; exact hb
  refine ⟨⟨h.rf.ll, hl ▸ h.rf.hl, hQ ▸ h.rf.ql, hk ▸ h.rf.le, ?_, h.rf.mx, h.rf.sz, h.rf.cp⟩, h.bel, fun b hb => h.ro b (hr b hb), fun b hb => h.nf b (hr b hb), h.fb⟩
  rw [hk, hA]
  exact h.rf.eq
theorem Rw.step (h : Rw F x LL LLv hv lv w x' LL' L' h' l' W) {x2 : Ls} {LL2 : List ByteArray} {L2 h2 l2 : Value} {W' : World} (hp : Rfp x' LL' L' h' l' W x2 LL2 L2 h2 l2 W') : Rw F x LL LLv hv lv w x2 LL2 L2 h2 l2 W' := by
  have hs := h.bel.size
  refine ⟨hp.1, h.bel.trans (hp.2.1.mono hs), fun b hb => ?_, fun b hb hF => ?_, fun b hb => ⟨(h.fb b hb).1, Nat.lt_of_lt_of_le (h.fb b hb).2 hp.2.1.size⟩⟩
  · rcases hp.2.2 b hb with h1 | h1
    · exact h.ro b h1
    · exact .inr (by omega)
  · rcases hp.2.2 b hb with h1 | h1
    · exact h.nf b h1 hF
    · have := (h.fb b hF).2; omega
theorem Rw.more (h : Rw F x LL LLv hv lv w x' LL' L' h' l' W) (o : Obj) : Rw (fun b => F b ∨ b = W.heap.size) x LL LLv hv lv w x' LL' L' h' l' (W.alloc o) := by
  have h1 := h.below (below1 o)
  have hs := h.bel.size
  refine ⟨h1.rf, h1.bel, h1.ro, fun b hb hF => ?_, fun b hb => ?_⟩
  · rcases hF with hF | rfl
    · exact h.nf b hb hF
    · have := h.rf.lt hb; omega
  · rcases hb with hb | rfl
    · exact h1.fb b hb
    · exact ⟨hs, by simp⟩
theorem Rw.mono {G : Nat → Prop} (h : Rw F x LL LLv hv lv w x' LL' L' h' l' W) (hG : ∀ b, G b → F b) : Rw G x LL LLv hv lv w x' LL' L' h' l' W :=
  ⟨h.rf, h.bel, h.ro, fun b hb hg => h.nf b hb (hG b hg), fun b hb => h.fb b (hG b hb)⟩
theorem Rw.start (h : Rf x LL LLv hv lv w) : Rw (fun _ => False) x LL LLv hv lv w x LL LLv hv lv w :=
  ⟨h, Below.refl _ _, fun _ hb => .inl hb, fun _ _ e => e, fun _ e => e.elim⟩
theorem Rw.start2 (h : Rf x LL LLv hv lv w) (o o' : Obj) : Rw (fun b => b = w.heap.size ∨ b = w.heap.size + 1) x LL LLv hv lv w x LL LLv hv lv ((w.alloc o).alloc o') :=
  (((Rw.start h).more o).more o').mono fun b hb => by
    rcases hb with rfl | rfl
    · exact .inl (.inr rfl)
    · exact .inr (by simp)
theorem Rw.fin (h : Rw F x LL LLv hv lv w x' LL' L' h' l' W) : Rfp x LL LLv hv lv w x' LL' L' h' l' W := ⟨h.rf, h.bel, h.ro⟩
theorem rcs_one (x : Ls) {LL : List ByteArray} {L h l : Value} {W : World} (hf : Rf x LL L h l W) : (rcs x L h l).all (·.oneCell') = true := by
  obtain ⟨_, _, rfl, _⟩ := hf.ll
  obtain ⟨_, _, rfl, _⟩ := hf.hl
  obtain ⟨_, _, rfl, _⟩ := hf.ql
  unfold rcs
  simp [Value.oneCell']
theorem Lst.one {B : Nat} {w : World} {b : ByteArray} (hB : B ≤ w.heap.size) : Lst B (w.alloc (.cells #[.string b] 9)) (.slice (some ⟨w.heap.size, 0, none⟩) 1 1) [b] :=
  ⟨rfl, .inr ⟨w.heap.size, 1, #[.string b], rfl, hB, heap_alloc_new _ _, Nat.le_refl _, by unfold maxLen; omega, rfl, rfl⟩⟩
theorem exec_load_mid {P : Program} {o : Oper} {tmps : Array Value} {ds : List Deferred} {w : World} (ty : TypeId) (x : Operand) (ho : o.op = .load ty x)
    (g p : Nat) (hx : Act.eval ⟨tmps, ds⟩ x = .pointer (some ⟨g, p, none⟩)) (cs : List Value) (d : TypeDesc) (hg : w.rangeAt g p cs)
    (hu : P.underlying ty = some d) (hd : d.isRow = true) (hi : (P.info? ty).map (·.size) = some cs.length) : (execOp (Act.eval ⟨tmps, ds⟩) o).run P w = .ok (.value (.agg cs.toArray)) w := by
  unfold execOp
  simp only [ho, hx, Instr.loadAt, Instr.sureAddr, Sem.run_bind, Sem.run_pure, Result.andThen_ok, run_loadVar_mid w g p ty cs d hg hu hd hi]
/- a struct's load -/
theorem exec_load_box {P : Program} {o : Oper} {tmps : Array Value} {ds : List Deferred} {w : World} (ty : TypeId) (x : Operand) (ho : o.op = .load ty x)
    (g : Nat) (hx : Act.eval ⟨tmps, ds⟩ x = .pointer (some ⟨g, 0, none⟩)) (t : TypeId) (cs : Array Value) (d : TypeDesc) (hg : w.heap[g]? = some (.cells cs t (0, 0)))
    (hu : P.underlying ty = some d) (hd : (match d with | .struct _ | .array _ _ => true | _ => false) = true) (hi : (P.info? ty).map (·.size) = some cs.size) : (execOp (Act.eval ⟨tmps, ds⟩) o).run P w = .ok (.value (.agg cs)) w := by
  unfold execOp
  simp only [ho, hx, Instr.loadAt, Instr.sureAddr, Sem.run_bind, Sem.run_pure, Result.andThen_ok, run_loadVar_row w g t ty cs (0, 0) d hg hu hd hi]
end Go.Proofs.YtcadlcpccemkbaaGreatDoor

namespace Go.Proofs.YtcadlcpccemkbaaGreatDoor
open Go.RowKit
set_option maxRecDepth 100000
attribute [local go_sem] not_any

set_option maxHeartbeats 4000000 in
theorem rflush_any {N : Nat} (x : Ls) (LL : List ByteArray) (LLv hv lv : Value) (w : World) (h : Rf x LL LLv hv lv w) (hx : x.Ok N) (hN : N + 1000 < 4294967296) (hm : LL.length + x.Q.length ≤ 1000) :
    Calls Tryz.prog 27 #[rv x LLv hv lv] w fun e w' => ∃ L' l' r, e = .returned (.tuple #[rv x.flush L' hv l', r]) ∧ Rfp x LL LLv hv lv w x.flush (LL ++ x.Q.take x.mvn) L' hv l' w' ∧ Lst w.heap.size w' r x.flushF := by
  obtain ⟨g, hg⟩ : ∃ g, w.heap.size = g := ⟨_, rfl⟩
  have HF := hide1 h
  have HX := hide1 hx
  have HN := hide1 hN
  have HM := hide1 hm
  unfold rv
  have cE : ∀ y L h l, rcs y L h l = #[.int .u32 (y.own : Int), .int .u32 (y.peer : Int), .bool y.sure, .int .i64 0, L, .int .i64 (y.k : Int), .int .i64 ((y.a : Int) + 1), h, l, .bool y.owed] := fun _ _ _ _ => rfl
  have CE := hide1 cE
  rw [cE]
  clear h hx cE hN hm
  go_enter Tryz.func27, Tryz.ntmps27
  go_upto_region 1 with (fail)
  generalize hW : World.alloc (World.alloc w _) _ = W0
  have RW0 : Hid (Rw (fun b => b = g ∨ b = g + 1) x LL LLv hv lv w x LL LLv hv lv W0) := by
    unfold Hid
    rw [← hW, ← hg]
    exact Rw.start2 HF.out _ _
  have B0 : Hid (W0.heap[g]? = some (.cells (rcs x LLv hv lv) 39 (0, 0))) := by unfold Hid; rw [← hW, ← hg]; exact heap_alloc2_old w _ _
  have T0 : Hid (W0.heap[g + 1]? = some (.cells #[.int .u32 0, .int .u32 0, .bool false, .int .i64 0, .slice none 0 0, .int .i64 0, .int .i64 0, .slice none 0 0, .slice none 0 0, .bool false] 39 (0, 0))) := by unfold Hid; rw [← hW, ← hg]; exact heap_alloc2_new w _ _
  obtain ⟨RR, hRR⟩ : ∃ RR, RR = rcs x LLv hv lv := ⟨_, rfl⟩
  have SZ : Hid (Option.map (fun x => x.size) (Tryz.prog.info? 39) = some RR.size) := by rw [hRR]; exact sz10 rfl
  have kF : Hid (Calls Tryz.prog 53 #[.agg RR] W0 fun e w' => ∃ L' l' za zn zc RR1, e = .returned (.tuple #[.agg RR1, .slice za zn zc]) ∧ RR1 = rcs x.mv L' hv l' ∧ zn = x.mvd.length ∧ Rfp x LL LLv hv lv W0 x.mv (LL ++ x.Q.take x.mvn) L' hv l' w' ∧ Rnl w' (.slice za zn zc) x.mvd ∧ ∀ b, (Value.slice za zn zc).ownBlock = some b → W0.heap.size ≤ b) := by
    rw [hRR]
    refine (rfilled_any x LL LLv hv lv W0 RW0.out.rf HX.out HN.out HM.out).mono ?_
    rintro e w' ⟨L', l', z, rfl, h1, h2⟩
    obtain ⟨za, zc, rfl⟩ := h2.form
    exact ⟨L', l', za, _, zc, _, rfl, rfl, rfl, h1, h2.rd, fun b e => by have := (h2.lt e).1; omega⟩
  rw [← hRR] at B0
  clear hW hg hRR
  go_wp2_with (first | (refine wpList_load_row rfl 39 (.tmp 1) rfl g rfl 39 RR (0, 0) _ B0.out Tryz.underlying39 rfl SZ.out ?_) | fail)
  refine kF.out.mono ?_
  rintro e W1 ⟨L', l', za, zn, zc, RR1, rfl, hRR1, hzn, hfp, hz, hzb⟩
  have RW1 := hide1 (RW0.out.step hfp)
  have B1 := hide1 ((hfp.2.1.block g (lt_heap B0.out)).trans B0.out)
  have T1 := hide1 ((hfp.2.1.block (g + 1) (lt_heap T0.out)).trans T0.out)
  have A1 := hide1 (rcs_one x.mv RW1.out.rf)
  have SZ1 : Hid (Option.map (fun x => x.size) (Tryz.prog.info? 39) = some RR1.size) := by rw [hRR1]; exact sz10 rfl
  have HC1 : Hid (RR.size = RR1.size) := by have h1 := SZ.out; rw [SZ1.out] at h1; exact (Option.some.inj h1).symm
  rw [← hRR1] at A1
  have RW2 := hide1 (RW1.out.row (b := g) (.inl rfl) RR1)
  have B2 := hide1 (setRow_heap W1 g _ RR1 _ _ B1.out)
  have T2 := hide1 ((setRow_other W1 g (g + 1) RR1 (by omega)).trans T1.out)
  have hz2 : Rnl (W1.setRow g RR1) (.slice za zn zc) x.mvd := hz.kp2 (kp_setRow W1 g RR1) fun _ b e e2 => by have h1 := hzb b e; have h2 := lt_heap B0.out; omega
  have HRR1 := hide1 hRR1
  have HZN := hide1 hzn
  have kR : Hid (Calls Tryz.prog 54 #[.agg RR1, .slice za zn zc] (W1.setRow g RR1) fun e w' => ∃ ra rc, e = .returned (.slice ra zn rc) ∧ Lst (W1.setRow g RR1).heap.size w' (.slice ra zn rc) (x.mvd.map x.mv.frm) ∧ Below (W1.setRow g RR1).heap.size (W1.setRow g RR1) w') := by
    have k := rframes_any (x := x.mv) (LLv := L') (hv := hv) (lv := l') (z := .slice za zn zc) (l := x.mvd) (w := W1.setRow g RR1) HX.out.mv HN.out hz2 (Ls.fms_mvd HX.out HN.out)
    unfold rv at k
    rw [← hRR1] at k
    refine k.mono ?_
    rintro e w' ⟨r, rfl, h1, h2⟩
    obtain ⟨a, c, h3⟩ := h1.form
    rw [List.length_map, ← hzn] at h3
    subst h3
    exact ⟨a, c, rfl, h1, h2⟩
  clear hRR1 hzn hfp hz hzb hz2
  go_wp2_with (first | (refine wpList_store_row rfl 39 (.tmp 1) (.tmp 9) rfl g RR1 rfl rfl 39 _ B1.out SZ1.out HC1.out A1.out ?_) | (refine wpList_load_row rfl 39 (.tmp 1) rfl g rfl 39 RR1 (0, 0) _ B2.out Tryz.underlying39 rfl SZ1.out ?_) | fail)
  refine kR.out.mono ?_
  rintro e W3 ⟨ra, rc, rfl, hL3, hb3⟩
  have RW3 := hide1 (RW2.out.below hb3)
  have B3 := hide1 ((hb3.block g (lt_heap B2.out)).trans B2.out)
  have T3 := hide1 ((hb3.block (g + 1) (lt_heap T2.out)).trans T2.out)
  have L3 : Hid (Lst w.heap.size W3 (.slice ra zn rc) (x.mvd.map x.mv.frm)) := hL3.mono RW2.out.bel.size
  have LB3 : Hid (∀ b, (Value.slice ra zn rc).ownBlock = some b → b ≠ g ∧ b ≠ g + 1) := fun b e => by
    have h1 := (hL3.lt e).1
    have h2 := lt_heap B2.out
    have h3 := lt_heap T2.out
    omega
  clear hL3 hb3 kR kF RW0 RW1 RW2 B0 B1 B2 T0 T1 T2
  obtain ⟨RR2, hRR2⟩ : ∃ R, R = rcs x.flush L' hv l' := ⟨_, rfl⟩
  have hR12 : RR1.setIfInBounds 9 (.bool false) = RR2 := by rw [HRR1.out, hRR2]; rfl
  have SZ2 : Hid (Option.map (fun x => x.size) (Tryz.prog.info? 39) = some RR2.size) := by rw [hRR2]; exact sz10 rfl
  have A2 := hide1 (rcs_one x.flush (RW3.out.mark (x2 := x.flush) rfl rfl rfl rfl).rf)
  rw [← hRR2] at A2
  have HC2 : Hid ((#[.int .u32 0, .int .u32 0, .bool false, .int .i64 0, .slice none 0 0, .int .i64 0, .int .i64 0, .slice none 0 0, .slice none 0 0, .bool false] : Array Value).size = RR2.size) := by rw [hRR2]; rfl
  -- the end, from any world in which the answer lies
  have FIN : Hid (∀ (WF : World) (r : Value) (Fs : List ByteArray), Rw (fun b => b = g ∨ b = g + 1) x LL LLv hv lv w x.mv (LL ++ x.Q.take x.mvn) L' hv l' WF → Lst w.heap.size WF r Fs → (∀ b, r.ownBlock = some b → b ≠ g ∧ b ≠ g + 1) → Fs = x.flushF →
      Rfp x LL LLv hv lv w x.flush (LL ++ x.Q.take x.mvn) L' hv l' ((WF.setCell ⟨g, 9, none⟩ (.bool false)).setRow (g + 1) RR2) ∧ Lst w.heap.size ((WF.setCell ⟨g, 9, none⟩ (.bool false)).setRow (g + 1) RR2) r x.flushF) := fun WF r Fs h1 h2 h3 h4 => by
    refine ⟨(((h1.cell (.inl rfl) 9 (.bool false)).row (b := g + 1) (.inr rfl) RR2).mark (x2 := x.flush) rfl rfl rfl rfl).fin, ?_⟩
    rw [← h4]
    exact (h2.kp (Kp.setCell (F := fun b => b = g) WF g 9 (.bool false) rfl) fun b e => (h3 b e).1).kp (kp_setRow _ _ _) fun b e => (h3 b e).2
  have HR2 := hide1 hRR2
  have HR12 := hide1 hR12
  clear hRR2 hR12
  have c9 : W3.cell? ⟨g, 9, none⟩ = some (.bool x.owed) := by rw [cell_of_row W3 g 9 _ _ _ B3.out, HRR1.out]; rfl
  have f9 : W3.frozen? ⟨g, 9, none⟩ = false := frozen_of_row W3 g 9 _ _ B3.out
  have ends : ∀ (WF : World), WF.heap[g]? = some (.cells RR1 39 (0, 0)) → WF.heap[g + 1]? = some (.cells #[.int .u32 0, .int .u32 0, .bool false, .int .i64 0, .slice none 0 0, .int .i64 0, .int .i64 0, .slice none 0 0, .slice none 0 0, .bool false] 39 (0, 0)) → (WF.setCell ⟨g, 9, none⟩ (.bool false)).heap[g]? = some (.cells RR2 39 (0, 0)) ∧ (WF.setCell ⟨g, 9, none⟩ (.bool false)).heap[g + 1]? = some (.cells #[.int .u32 0, .int .u32 0, .bool false, .int .i64 0, .slice none 0 0, .int .i64 0, .int .i64 0, .slice none 0 0, .slice none 0 0, .bool false] 39 (0, 0)) := fun WF h1 h2 => by
    refine ⟨?_, (heap_setCell_other _ _ _ _ (by show g + 1 ≠ g; omega)).trans h2⟩
    rw [heap_setCell_same _ g 9 _ _ _ h1, HR12.out]
  have ENDS := hide1 ends
  clear ends
  by_cases hm : x.mvd = []
  · have hz0 : zn = 0 := by rw [HZN.out, hm]; rfl
    have g0 : ((zn : Int) == 0) = true := by rw [hz0]; rfl
    cases hw : x.owed with
    | false =>
      rw [hw] at c9
      have E := hide1 (ENDS.out W3 B3.out T3.out)
      have FN := hide1 (FIN.out W3 (.slice ra zn rc) _ RW3.out L3.out LB3.out (by unfold Ls.flushF; rw [if_pos ⟨hm, hw⟩, hm]; rfl))
      clear hm hw hz0
      go_wp2_with (first | (refine wpList_load_row rfl 39 (.tmp 1) rfl g rfl 39 RR2 (0, 0) _ E.out.1 Tryz.underlying39 rfl SZ2.out ?_) | (refine wpList_store_row rfl 39 (.tmp 2) (.tmp 25) rfl (g + 1) RR2 rfl rfl 39 _ E.out.2 SZ2.out HC2.out A2.out ?_) | fail)
      exact ret_l2 Tryz.results27 (g + 1) RR2 _ (by rw [HR2.out]; rfl) rfl rfl (setRow_heap _ _ _ _ _ _ E.out.2) rfl ⟨_, _, _, by rw [HR2.out]; rfl, FN.out.1, FN.out.2⟩
    | true =>
      rw [hw] at c9
      have kP : Hid (Calls Tryz.prog 55 #[.agg RR1] W3 fun e w' => e = .returned (.string x.mv.pln) ∧ Below W3.heap.size W3 w') := by
        have k := rplain_any (LLv := L') (hv := hv) (lv := l') W3 HX.out.mv HN.out
        unfold rv at k
        rw [← HRR1.out] at k
        exact k
      have HFF : Hid ([x.mv.pln] = x.flushF) := by unfold Hid Ls.flushF; rw [if_neg (by rw [hw]; simp), Ls.tell, if_pos hm]
      clear hm hw hz0
      go_wp2_with (first | (refine wpList_load_row rfl 39 (.tmp 1) rfl g rfl 39 RR1 (0, 0) _ B3.out Tryz.underlying39 rfl SZ1.out ?_) | fail)
      refine kP.out.mono ?_
      rintro e W4 ⟨rfl, hb4⟩
      have RW4 := hide1 ((RW3.out.below hb4).below (below1 (.cells #[.string x.mv.pln] 9)))
      have B4 := hide1 (((below1 (.cells #[.string x.mv.pln] 9)).block g (lt_heap ((hb4.block g (lt_heap B3.out)).trans B3.out))).trans ((hb4.block g (lt_heap B3.out)).trans B3.out))
      have T4 := hide1 (((below1 (.cells #[.string x.mv.pln] 9)).block (g + 1) (lt_heap ((hb4.block (g + 1) (lt_heap T3.out)).trans T3.out))).trans ((hb4.block (g + 1) (lt_heap T3.out)).trans T3.out))
      have HGT : Hid (g + 1 < W4.heap.size ∧ w.heap.size ≤ W4.heap.size) := by have h1 := lt_heap T3.out; have h2 := hb4.size; have h3 := RW3.out.bel.size; unfold Hid; omega
      have L4 := hide1 (Lst.one (B := w.heap.size) (w := W4) (b := x.mv.pln) HGT.out.2)
      have E := hide1 (ENDS.out _ B4.out T4.out)
      have FN := hide1 (FIN.out _ _ _ RW4.out L4.out (fun b e => by cases e; have := HGT.out.1; show W4.heap.size ≠ g ∧ W4.heap.size ≠ g + 1; omega) HFF.out)
      have c9 : (W4.alloc (.cells #[.string x.mv.pln] 9)).cell? ⟨g, 9, none⟩ = some (.bool x.owed) := by rw [cell_of_row _ g 9 _ _ _ B4.out, HRR1.out]; rfl
      have f9 : (W4.alloc (.cells #[.string x.mv.pln] 9)).frozen? ⟨g, 9, none⟩ = false := frozen_of_row _ g 9 _ _ B4.out
      clear hb4
      go_wp2_with (first | (refine wpList_load_row rfl 39 (.tmp 1) rfl g rfl 39 RR2 (0, 0) _ E.out.1 Tryz.underlying39 rfl SZ2.out ?_) | (refine wpList_store_row rfl 39 (.tmp 2) (.tmp 25) rfl (g + 1) RR2 rfl rfl 39 _ E.out.2 SZ2.out HC2.out A2.out ?_) | fail)
      exact ret_l2 Tryz.results27 (g + 1) RR2 _ (by rw [HR2.out]; rfl) rfl rfl (setRow_heap _ _ _ _ _ _ E.out.2) rfl ⟨_, _, _, by rw [HR2.out]; rfl, FN.out.1, FN.out.2⟩
  · have hz0 : zn ≠ 0 := by rw [HZN.out]; exact fun e => hm (List.eq_nil_of_length_eq_zero e)
    have g0 : ((zn : Int) == 0) = false := by simp; omega
    have E := hide1 (ENDS.out W3 B3.out T3.out)
    have FN := hide1 (FIN.out W3 (.slice ra zn rc) _ RW3.out L3.out LB3.out (by unfold Ls.flushF; rw [if_neg (fun e => hm e.1), Ls.tell, if_neg hm]))
    clear hm hz0
    go_wp2_with (first | (refine wpList_load_row rfl 39 (.tmp 1) rfl g rfl 39 RR2 (0, 0) _ E.out.1 Tryz.underlying39 rfl SZ2.out ?_) | (refine wpList_store_row rfl 39 (.tmp 2) (.tmp 25) rfl (g + 1) RR2 rfl rfl 39 _ E.out.2 SZ2.out HC2.out A2.out ?_) | fail)
    exact ret_l2 Tryz.results27 (g + 1) RR2 _ (by rw [HR2.out]; rfl) rfl rfl (setRow_heap _ _ _ _ _ _ E.out.2) rfl ⟨_, _, _, by rw [HR2.out]; rfl, FN.out.1, FN.out.2⟩
end Go.Proofs.YtcadlcpccemkbaaGreatDoor
