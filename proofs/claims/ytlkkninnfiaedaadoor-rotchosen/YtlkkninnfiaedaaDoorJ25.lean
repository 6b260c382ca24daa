/- The sum of what was taken: Sum. -/
import Derived.Test.YtlkkninnfiaedaaDoorJ24
import Derived.Deep.Upon
namespace Go.Proofs.YtlkkninnfiaedaaDoor.Sh
open Go.RowKit
set_option maxRecDepth 100000
attribute [local go_sem] not_any

theorem setCells_row {w : World} {g o : Nat} {cur cs : List Value} {t : TypeId} (h : w.heap[g]? = some (.cells cur.toArray t (0, 0))) (hf : o + cs.length ≤ cur.length) (h1 : ∀ v ∈ cs, v.oneCell' = true) :
    w.setCells g o cs = w.setRow g (splice cur o cs).toArray := by
  have e1 := run_storeCells_at Tryd.prog g o t cs 0 cur.toArray w h (by simpa using hf) h1
  have e2 := run_storeCells_cells (P := Tryd.prog) g o cs 0 w (fun j hj => by
      rw [cell_of_row w g _ _ t (0, 0) h, List.getElem?_toArray, List.getElem?_eq_getElem (by omega)]; rfl) (fun j _ => frozen_of_row w g _ _ t h) h1
  have e3 := e2.symm.trans e1
  simp only [Nat.add_zero] at e3
  injection e3 with _ e4
  rw [e4]
  simp [splice]

theorem there_new (v : World) (cs : List Value) (t : TypeId) : (v.alloc (.cells cs.toArray t (0, 0))).there v.heap.size 0 cs.length := fun j hj => by
  have h := heap_alloc_new v (.cells cs.toArray t (0, 0))
  refine ⟨?_, frozen_of_row _ _ _ _ _ h⟩
  rw [cell_of_row _ _ _ _ _ _ h, Nat.zero_add, List.getElem?_toArray, List.getElem?_eq_getElem hj]
  rfl

theorem Sums.range {w : World} {b : Nat} {g r : List Nat} {n : Nat} (h : Sums w b g r n) : w.rangeAt b 8 (u8s r) := fun j v hv => by
  have hj : j < r.length := by have := (List.getElem?_eq_some_iff.1 hv).1; rwa [u8s_length] at this
  rw [h.rest (by rw [← h.lr]; exact hj)]
  rw [u8s, List.getElem?_map, get_at0 hj] at hv
  exact hv

/- the end: the last bytes with their mark, the length in the last two words -/
def tailP (l : List Nat) : List Nat := l.drop (64 * (l.length / 64)) ++ [128]
def withLen (n : Nat) (ws : List Nat) : List Nat := (ws.set 14 (n * 8 % 18446744073709551616 / 4294967296)).set 15 (n * 8 % 18446744073709551616 % 4294967296)
def sumP (l : List Nat) : List Nat :=
  if l.length % 64 < 56 then dig (addW FIRST (foldP (grownP l) (withLen l.length (wordsOf (tailP l)))))
  else dig (addW FIRST (foldP (foldP (grownP l) (wordsOf (tailP l))) (withLen l.length (zeros 16))))

theorem tail_take {l : List Nat} : ((restP l).set (l.length % 64) 128).take (l.length % 64 + 1) = tailP l := by
  have e := drop_length l
  unfold restP tailP
  generalize l.drop (64 * (l.length / 64)) = d at *
  have h64 : 64 - l.length % 64 = (63 - l.length % 64) + 1 := by omega
  rw [List.set_append_right _ _ (by omega), e, Nat.sub_self, h64, zeros, List.replicate_succ, List.set_cons_zero, List.take_append, e, List.take_of_length_le (by omega), Nat.add_sub_cancel_left]
  simp
theorem tailP_lt {l : List Nat} (h : Lt 256 l) : Lt 256 (tailP l) := (h.drop _).app (lt_one (by omega))
theorem tailP_length (l : List Nat) : (tailP l).length = l.length % 64 + 1 := by rw [tailP, List.length_append, drop_length]; rfl

theorem step_store_own {P : Program} {ops : Array Oper} {o : Oper} {a : Act} {w : World} {K : Act → World → Prop} {Q : Exit → Act → World → Prop} {E : Prop} (hgd : o.guard = none) (ty : TypeId) (x y : Operand) (ho : o.op = .store ty x y)
    (g : Nat) (hx : a.eval x = .pointer (some ⟨g, 0, none⟩)) (cs' : Array Value) (hy : a.eval y = .agg cs') (t : TypeId) (cs : Array Value) (hg : w.heap[g]? = some (.cells cs t (0, 0)))
    (hi : (P.info? ty).map (·.size) = some cs'.size) (hs : cs.size = cs'.size) (h1 : cs'.all (·.oneCell') = true) (hdst : o.dst = none)
    (h : K a (w.setRow g cs')) : if Region.wanted o (yielded ops a.tmps) = true then Oper.wp P o a w K Q else E := by
  have hw : Region.wanted o (yielded ops a.tmps) = true := by simp [Region.wanted, hgd]
  rw [if_pos hw]
  have e := run_storeVar_row (P := P) w g t ty cs cs' hg hi hs h1
  have e3 : a.put o.dst undef = a := by rw [hdst]; rfl
  unfold Oper.wp execOp
  simp only [ho, hx, hy, Instr.storeAt, Instr.sureAddr, Sem.run_bind, Sem.run_pure, Result.andThen_ok, e]
  show K (a.put o.dst undef) _
  rw [e3]
  exact h

theorem run_arrh (T n : Nat) (hT : Tryd.prog.underlying T = some (.array n 5)) (g p : Nat) (w : World) (h : p ≤ n) (h0 : 0 < n) :
    (Instr.sliceAt T (.pointer (some ⟨g, 0, none⟩)) none (some (.int .i64 (p : Int))) none).run Tryd.prog w = .ok (.slice (some ⟨g, 0, none⟩) p n) w := by
  have hs : (sizeOf 5).run Tryd.prog w = .ok 1 w := by kernel_rfl
  have a1 : (p : Int) ≤ (n : Int) := by omega
  have a2 : ¬ n = 0 := by omega
  simp [Instr.sliceAt, Instr.sureAddr, run_underlying hT, Instr.sliceBounds, run_sliceBound, a1, Addr.add_lit]

/- an operation that may come first, its slot named -/
theorem take_at {P : Program} {md : Region.Mode} {ops : Array Oper} {Q : Exit → Act → World → Prop} {S : World → Prop} (i d : Nat) (v : Value) {oi : Oper} {fuel : Nat} {listed : Array Bool} {tmps : Array Value} {ds : List Deferred} {w : World} (hi : ops[i]? = some oi) (hd : oi.dst = some d)
    (hs : Region.noSelect ops = true) (hf : Region.free md ops listed i = true) (hr : (Region.ready md ops listed).contains i = true)
    (hQ : ∀ c a w, Q (.panic c) (a.put oi.dst v) w → Q (.panic c) a w) (hw : Region.wanted oi (yielded ops tmps) = true) (hy : ∀ w, S w → (execOp (Act.eval ⟨tmps, ds⟩) oi).run P w = .ok (.value v) w) (hS : S w)
    (h : wpAnyH P md ops Q S fuel (listed.setIfInBounds i true) ⟨tmps.setIfInBounds d v, ds⟩ w) : wpAnyH P md ops Q S (fuel + 1) listed ⟨tmps, ds⟩ w :=
  wpAnyH_take hi hs hf hr hQ (Or.inl ⟨hw, hy⟩) hS (by rw [hd]; exact h)

set_option maxHeartbeats 4000000 in
theorem sum_any (b : Nat) (l : List Nat) (w : World) (hL : Laid w) (_hb : 2 ≤ b) (hS : Sums w b (grownP l) (restP l) l.length) (hl : Lt 256 l) (hz : l.length < 144115188075855872) :
    Calls Tryd.prog 51 #[.pointer (some ⟨b, 0, none⟩)] w fun e w' => e = .returned (arr8 (sumP l)) ∧ Below w.heap.size w w' := by
  have HL := hide1 hL
  have Hl := hide1 hl
  have HS := hide1 hS
  clear hL hS hl
  go_enter Tryd.func51, Tryd.ntmps51
  go_upto_region 1 with (fail)
  generalize hW : World.alloc w _ = W
  have w1 : W.heap[w.heap.size]? = some (row8 76 (zeros 32)) := by rw [← hW]; exact heap_alloc_new _ _
  have w2 : Below w.heap.size w W := by rw [← hW]; exact (Below.refl _ _).alloc (Nat.le_refl _) _
  have w3 : W.heap.size = w.heap.size + 1 := by rw [← hW]; simp
  have w4 : Sums W b (grownP l) (restP l) l.length := HS.out.to (w2.block _ HS.out.lt)
  have W1 := hide1 w1
  have W2 := hide1 w2
  have W3 := hide1 w3
  have W4 := hide1 w4
  clear hW w1 w2 w3 w4
  go_upto_region 3 with (fail)
  obtain ⟨r, hr⟩ : ∃ r, r = l.length % 64 := ⟨_, rfl⟩
  have hr64 : r < 64 := by omega
  have Hr := hide1 hr
  have hH := fun w h => hide1 (held_any b l.length w (by omega) h)
  rw [← hr] at hH
  clear hr
  go_cut [3, 4] (fun x3 x4 wx => ∃ g3 : Nat, x3 = .pointer (some ⟨g3, 0, none⟩) ∧ x4 = .int .i64 (r : Int) ∧ wx.heap[g3]? = some (row8 103 (restP l)) ∧ W.heap.size ≤ g3 ∧ Below W.heap.size W wx)
  case first =>
    have hu := Tryd.underlying103
    have hi : (Tryd.prog.info? 103).map (·.size) = some (u8s (restP l)).length := by rw [u8s_length, restP_length]; kernel_rfl
    have hlen : (u8s (restP l)).length = 64 := by rw [u8s_length, restP_length]
    have h1 := u8s_one (restP l)
    have ht : ((W.alloc (.cells (u8s (zeros 64)).toArray 103 (0, 0))).drew).there W.heap.size 0 64 := there_new W (u8s (zeros 64)) 103
    have HZ : Hid (((W.alloc (.cells (u8s (zeros 64)).toArray 103 (0, 0))).drew).heap[W.heap.size]? = some (.cells (u8s (zeros 64)).toArray 103 (0, 0))) := heap_alloc_new _ _
    have HK : Hid (∀ w' : World, w'.heap[b]? = W.heap[b]? → w'.rangeAt b 8 (u8s (restP l)) ∧ w'.heap[b]? = W.heap[b]?) := by
      show ∀ w' : World, _
      exact fun w' e => ⟨(W4.out.to e).range, e⟩
    have ctk := W4.out.taken
    have ctk2 := fun O => (W4.out.to (heap_alloc_old W O W4.out.lt)).taken
    have Hbl := hide1 W4.out.lt
    simp only [u8s, zeros, List.replicate, List.map] at ht
    go_region_held3 (fun w' => w'.rangeAt b 8 (u8s (restP l)) ∧ w'.heap[b]? = W.heap[b]?)
      ((refine HK.out _ ?_; first | rfl | exact heap_alloc_old W _ Hbl.out | exact (World.heap_setCells_other _ _ _ _ (by have := Hbl.out; simp; omega) (Nat.ne_of_lt Hbl.out)).trans (heap_alloc_old W _ Hbl.out) | fail))
      (first
        | (go_at_call 73; refine (hH _ ?_).out.mono ?_; (first | exact ctk | exact ctk2 _); rintro e w1 ⟨rfl, rfl⟩)
        | fail)
    all_goals
      go_wp2_with fail
      go_meet
      case rel =>
        have e := setCells_row (o := 0) HZ.out (cs := u8s (restP l)) (by rw [hlen]; exact Nat.le_refl _) h1
        have e2 : splice (u8s (zeros 64)) 0 (u8s (restP l)) = u8s (restP l) := by
          unfold splice
          rw [hlen, List.drop_eq_nil_of_le (by rw [u8s_length, zeros_length]; exact Nat.le_refl _)]
          simp
        rw [e2] at e
        refine ⟨W.heap.size, rfl, rfl, ?_, Nat.le_refl _, ?_⟩
        · exact (congrArg (fun x : World => x.heap[W.heap.size]?) e).trans (setRow_heap _ _ _ _ _ _ HZ.out)
        · have hB : Below W.heap.size W (((W.alloc (.cells (u8s (zeros 64)).toArray 103 (0, 0))).drew).setRow W.heap.size (u8s (restP l)).toArray) := Below.setRow' ((Below.refl _ _).alloc (Nat.le_refl _) _).drew (Nat.le_refl _) _
          rw [← e] at hB
          exact hB
  case rest =>
    obtain ⟨g3, rfl, rfl, h3, hg3, hB⟩ := hcut
    have c1 := cell8 h3 (j := r) (by rw [restP_length]; exact hr64)
    have f1 := frozen_of_row wc g3 r _ _ h3
    have H3 := hide1 h3
    have HB := hide1 hB
    have Hg3 := hide1 hg3
    clear h3 hB hg3 hH
    go_wp2_with fail
    generalize hX : World.setCell _ _ _ = X
    have x3 : X.heap[g3]? = some (row8 103 ((restP l).set r 128)) := by rw [← hX]; exact set8 H3.out
    have xb : Below W.heap.size W X := by rw [← hX]; exact HB.out.setCell Hg3.out _
    have xs : Sums X b (grownP l) (restP l) l.length := W4.out.to (xb.block _ W4.out.lt)
    have X3 := hide1 x3
    have XB := hide1 xb
    have XS := hide1 xs
    clear hX x3 xb xs c1 f1 H3 HB
    obtain ⟨p, hp⟩ : ∃ p, p = r + 1 := ⟨_, rfl⟩
    have HG := hide1 (gather_any (tailP l) p 64 (some ⟨g3, 0, none⟩))
    have hBy : ∀ w', Below X.heap.size X w' → By w' p (some ⟨g3, 0, none⟩) (tailP l) := fun w' hb' => by
      have e : w'.heap[g3]? = some (row8 103 ((restP l).set r 128)) := (hb'.block _ (lt_heap X3.out)).trans X3.out
      refine ⟨by rw [tailP_length, ← Hr.out, hp], fun j hj => ⟨g3, 0, rfl, ?_⟩⟩
      rw [Nat.zero_add, cell8 e (by simp [restP_length]; omega), ← tail_take, ← Hr.out, at0_take (by omega)]
    have HBy := hide1 hBy
    have ep : (r : Int) + 1 = (p : Int) := by omega
    have wp : IntKind.i64.wrap (p : Int) = (p : Int) := by rw [IntKind.wrap_i64]; omega
    have hp64 : p ≤ 64 := by omega
    have hsl := fun w' => run_arrh 103 64 Tryd.underlying103 g3 p w' hp64 (by omega)
    clear hBy hp
    have Hz8 : Hid (((Tryd.prog.info? 102).map (·.size) = some (u32s (grownP l)).toArray.size) ∧ (u32s (zeros 8)).toArray.size = (u32s (grownP l)).toArray.size) := by
      have e : (u32s (grownP l)).toArray.size = 8 := by simp [u32s, grownP_length]
      exact ⟨by rw [e]; kernel_rfl, by rw [e]; rfl⟩
    have Hz16 : Hid (((Tryd.prog.info? 136).map (·.size) = some (u32s (wordsOf (tailP l))).toArray.size) ∧ (u32s (zeros 16)).toArray.size = (u32s (wordsOf (tailP l))).toArray.size) := by
      have e : (u32s (wordsOf (tailP l))).toArray.size = 16 := by simp [u32s, wordsOf_length]
      exact ⟨by rw [e]; kernel_rfl, by rw [e]; rfl⟩
    go_cut [5, 6] (fun x5 x6 wx => ∃ g5 g6 : Nat, x5 = .pointer (some ⟨g5, 0, none⟩) ∧ x6 = .pointer (some ⟨g6, 0, none⟩) ∧ wx.heap[g5]? = some (row32 102 (grownP l)) ∧ wx.heap[g6]? = some (row32 136 (wordsOf (tailP l))) ∧ g5 ≠ g6 ∧ X.heap.size ≤ g5 ∧ X.heap.size ≤ g6 ∧ Below X.heap.size X wx)
    case first =>
      refine wp_region_held_drew (S := fun w' => Below X.heap.size X w') (by kernel_rfl) ((Below.refl _ _).drew) (fun hS => ?_)
      refine take_at 0 19 (.pointer (some ⟨b, 0, none⟩)) rfl rfl (by kernel_rfl) (by kernel_rfl) (by kernel_rfl) (fun _ _ _ h => h) rfl (fun w hSw => by
        clear hSw
        go_simp) hS ?_
      simp only [List.setIfInBounds_toArray, List.set_cons_zero, List.set_cons_succ]
      refine take_at 1 20 (.pointer (some ⟨b, 0, none⟩)) rfl rfl (by kernel_rfl) (by kernel_rfl) (by kernel_rfl) (fun _ _ _ h => h) rfl (fun w hSw => by
        clear hSw
        go_simp) hS ?_
      simp only [List.setIfInBounds_toArray, List.set_cons_zero, List.set_cons_succ]
      refine take_at 2 21 (.pointer (some ⟨b, 0, none⟩)) rfl rfl (by kernel_rfl) (by kernel_rfl) (by kernel_rfl) (fun _ _ _ h => h) rfl (fun w hSw => by
        clear hSw
        go_simp) hS ?_
      simp only [List.setIfInBounds_toArray, List.set_cons_zero, List.set_cons_succ]
      refine take_at 3 22 (.agg (u32s (grownP l)).toArray) rfl rfl (by kernel_rfl) (by kernel_rfl) (by kernel_rfl) (fun _ _ _ h => h) rfl (fun w hSw => by
        obtain ⟨⟨c0, c1, c2, c3, c4, c5, c6, c7⟩, _⟩ := (XS.out.to (hSw.block _ XS.out.lt)).eight
        rw [lit8 (grownP_length l)]
        clear hSw
        go_simp) hS ?_
      simp only [List.setIfInBounds_toArray, List.set_cons_zero, List.set_cons_succ]
      refine take_at 4 23 (.int .i64 (r : Int)) rfl rfl (by kernel_rfl) (by kernel_rfl) (by kernel_rfl) (fun _ _ _ h => h) rfl (fun w hSw => by
        clear hSw
        go_simp) hS ?_
      simp only [List.setIfInBounds_toArray, List.set_cons_zero, List.set_cons_succ]
      refine take_at 5 24 (.int .i64 (p : Int)) rfl rfl (by kernel_rfl) (by kernel_rfl) (by kernel_rfl) (fun _ _ _ h => h) rfl (fun w hSw => by
        clear hSw
        go_simp) hS ?_
      simp only [List.setIfInBounds_toArray, List.set_cons_zero, List.set_cons_succ]
      refine take_at 6 25 (.slice (some ⟨g3, 0, none⟩) p 64) rfl rfl (by kernel_rfl) (by kernel_rfl) (by kernel_rfl) (fun _ _ _ h => h) rfl (fun w hSw => by
        clear hSw
        go_simp) hS ?_
      simp only [List.setIfInBounds_toArray, List.set_cons_zero, List.set_cons_succ]
      refine wpAnyH_ready (rs := [7, 8, 9]) (by kernel_rfl) (by simp) ?_
      refine AllReadyH.cons (o := { dst := some 26, op := .call { callee := .value (.func 74), args := #[.tmp 25], argTypes := #[80] }, type := 136, pos := "sha.go:43", after := #[{ on := 6, ground := .data }], guard := none }) rfl (fun K hK => ?_) (AllReadyH.cons (o := { dst := some 5, op := .alloc 102, type := 0, pos := "sha.go:43", after := #[], guard := none }) rfl (fun K hK => ?_) (AllReadyH.cons (o := { dst := some 6, op := .alloc 136, type := 0, pos := "sha.go:43", after := #[], guard := none }) rfl (fun K hK => ?_) AllReadyH.nil))
      · go_simp
        refine (HG.out _ hp64 hp64 (HBy.out _ hS) (tailP_lt Hl.out)).mono ?_
        rintro e w1 ⟨rfl, hb1⟩
        refine hK.out _ _ (hS.trans (hb1.mono hS.size)) (fun hS' => ?_)
        replace hS := hS'
        clear hK K hS' hb1
        try simp only [Act.put, List.setIfInBounds_toArray, List.set_cons_zero, List.set_cons_succ]
        refine wpAnyH_ready (rs := [8, 9]) (by kernel_rfl) (by simp) ?_
        refine AllReadyH.cons (o := { dst := some 5, op := .alloc 102, type := 0, pos := "sha.go:43", after := #[], guard := none }) rfl (fun K hK => ?_) (AllReadyH.cons (o := { dst := some 6, op := .alloc 136, type := 0, pos := "sha.go:43", after := #[], guard := none }) rfl (fun K hK => ?_) AllReadyH.nil)
        · go_simp
          have L5 := hS.size
          have F5 := heap_alloc_new w1 (row32 102 (zeros 8))
          refine hK.out _ _ (hS.alloc hS.size _) (fun hS' => ?_)
          replace hS := hS'
          clear hK K hS'
          try simp only [Act.put, List.setIfInBounds_toArray, List.set_cons_zero, List.set_cons_succ]
          refine wpAnyH_ready (rs := [9]) (by kernel_rfl) (by simp) ?_
          refine AllReadyH.cons (o := { dst := some 6, op := .alloc 136, type := 0, pos := "sha.go:43", after := #[], guard := none }) rfl (fun K hK => ?_) AllReadyH.nil
          · go_simp
            have L6 := hS.size
            have F6 := heap_alloc_new (w1.alloc (row32 102 (zeros 8))) (row32 136 (zeros 16))
            refine hK.out _ _ (hS.alloc hS.size _) (fun hS' => ?_)
            have NE := Nat.ne_of_lt (lt_heap F5)
            replace F5 := (heap_alloc_old (w1.alloc (row32 102 (zeros 8))) (row32 136 (zeros 16)) (lt_heap F5)).trans F5
            replace hS := hS'
            clear hK K hS'
            try simp only [Act.put, List.setIfInBounds_toArray, List.set_cons_zero, List.set_cons_succ]
            try simp only [World.size_alloc, heap_drew] at F5
            try simp only [World.size_alloc] at F6
            try simp only [World.size_alloc] at NE
            try simp only [World.size_alloc, heap_drew] at L5
            try simp only [World.size_alloc] at L6
            refine wpAnyH_ready (rs := [10]) (by kernel_rfl) (by simp) ?_
            refine AllReadyH.cons rfl (fun K hK => ?_) AllReadyH.nil
            refine step_store_own rfl 102 (.tmp 5) (.tmp 22) rfl _ rfl (u32s (grownP l)).toArray rfl 102 _ F5 Hz8.out.1 Hz8.out.2 (all_one (u32s_one _)) rfl ?_
            refine hK.out _ _ (Below.setRow' hS L5 _) (fun hS' => ?_)
            clear hK K
            refine wpAnyH_ready (rs := [11]) (by kernel_rfl) (by simp) ?_
            refine AllReadyH.cons rfl (fun K hK => ?_) AllReadyH.nil
            refine step_store_own rfl 136 (.tmp 6) (.tmp 26) rfl _ rfl (u32s (wordsOf (tailP l))).toArray rfl 136 _ ((setRow_other _ _ _ _ NE.symm).trans F6) Hz16.out.1 Hz16.out.2 (all_one (u32s_one _)) rfl ?_
            refine hK.out _ _ (Below.setRow' hS' L6 _) (fun hS'' => ?_)
            clear hK K
            refine wpAnyH_done (by kernel_rfl) ?_ _
            go_wp2_with fail
            go_meet
            case rel => exact ⟨_, _, rfl, rfl, (setRow_other _ _ _ _ NE).trans (setRow_heap _ _ _ _ _ _ F5), setRow_heap _ _ _ _ _ _ ((setRow_other _ _ _ _ NE.symm).trans F6), NE, L5, L6, hS''⟩
        · go_simp
          have L6 := hS.size
          have F6 := heap_alloc_new w1 (row32 136 (zeros 16))
          refine hK.out _ _ (hS.alloc hS.size _) (fun hS' => ?_)
          replace hS := hS'
          clear hK K hS'
          try simp only [Act.put, List.setIfInBounds_toArray, List.set_cons_zero, List.set_cons_succ]
          refine wpAnyH_ready (rs := [8]) (by kernel_rfl) (by simp) ?_
          refine AllReadyH.cons (o := { dst := some 5, op := .alloc 102, type := 0, pos := "sha.go:43", after := #[], guard := none }) rfl (fun K hK => ?_) AllReadyH.nil
          · go_simp
            have L5 := hS.size
            have F5 := heap_alloc_new (w1.alloc (row32 136 (zeros 16))) (row32 102 (zeros 8))
            refine hK.out _ _ (hS.alloc hS.size _) (fun hS' => ?_)
            have NE := Nat.ne_of_gt (lt_heap F6)
            replace F6 := (heap_alloc_old (w1.alloc (row32 136 (zeros 16))) (row32 102 (zeros 8)) (lt_heap F6)).trans F6
            replace hS := hS'
            clear hK K hS'
            try simp only [Act.put, List.setIfInBounds_toArray, List.set_cons_zero, List.set_cons_succ]
            try simp only [World.size_alloc] at F5
            try simp only [World.size_alloc, heap_drew] at F6
            try simp only [World.size_alloc] at NE
            try simp only [World.size_alloc] at L5
            try simp only [World.size_alloc, heap_drew] at L6
            refine wpAnyH_ready (rs := [10]) (by kernel_rfl) (by simp) ?_
            refine AllReadyH.cons rfl (fun K hK => ?_) AllReadyH.nil
            refine step_store_own rfl 102 (.tmp 5) (.tmp 22) rfl _ rfl (u32s (grownP l)).toArray rfl 102 _ F5 Hz8.out.1 Hz8.out.2 (all_one (u32s_one _)) rfl ?_
            refine hK.out _ _ (Below.setRow' hS L5 _) (fun hS' => ?_)
            clear hK K
            refine wpAnyH_ready (rs := [11]) (by kernel_rfl) (by simp) ?_
            refine AllReadyH.cons rfl (fun K hK => ?_) AllReadyH.nil
            refine step_store_own rfl 136 (.tmp 6) (.tmp 26) rfl _ rfl (u32s (wordsOf (tailP l))).toArray rfl 136 _ ((setRow_other _ _ _ _ NE.symm).trans F6) Hz16.out.1 Hz16.out.2 (all_one (u32s_one _)) rfl ?_
            refine hK.out _ _ (Below.setRow' hS' L6 _) (fun hS'' => ?_)
            clear hK K
            refine wpAnyH_done (by kernel_rfl) ?_ _
            go_wp2_with fail
            go_meet
            case rel => exact ⟨_, _, rfl, rfl, (setRow_other _ _ _ _ NE).trans (setRow_heap _ _ _ _ _ _ F5), setRow_heap _ _ _ _ _ _ ((setRow_other _ _ _ _ NE.symm).trans F6), NE, L5, L6, hS''⟩
      · go_simp
        have L5 := hS.size
        have F5 := heap_alloc_new X.drew (row32 102 (zeros 8))
        refine hK.out _ _ (hS.alloc hS.size _) (fun hS' => ?_)
        replace hS := hS'
        clear hK K hS'
        try simp only [Act.put, List.setIfInBounds_toArray, List.set_cons_zero, List.set_cons_succ]
        refine wpAnyH_ready (rs := [7, 9]) (by kernel_rfl) (by simp) ?_
        refine AllReadyH.cons (o := { dst := some 26, op := .call { callee := .value (.func 74), args := #[.tmp 25], argTypes := #[80] }, type := 136, pos := "sha.go:43", after := #[{ on := 6, ground := .data }], guard := none }) rfl (fun K hK => ?_) (AllReadyH.cons (o := { dst := some 6, op := .alloc 136, type := 0, pos := "sha.go:43", after := #[], guard := none }) rfl (fun K hK => ?_) AllReadyH.nil)
        · go_simp
          refine (HG.out _ hp64 hp64 (HBy.out _ hS) (tailP_lt Hl.out)).mono ?_
          rintro e w1 ⟨rfl, hb1⟩
          refine hK.out _ _ (hS.trans (hb1.mono hS.size)) (fun hS' => ?_)
          replace F5 := (hb1.block _ (lt_heap F5)).trans F5
          replace hS := hS'
          clear hK K hS' hb1
          try simp only [Act.put, List.setIfInBounds_toArray, List.set_cons_zero, List.set_cons_succ]
          refine wpAnyH_ready (rs := [9]) (by kernel_rfl) (by simp) ?_
          refine AllReadyH.cons (o := { dst := some 6, op := .alloc 136, type := 0, pos := "sha.go:43", after := #[], guard := none }) rfl (fun K hK => ?_) AllReadyH.nil
          · go_simp
            have L6 := hS.size
            have F6 := heap_alloc_new w1 (row32 136 (zeros 16))
            refine hK.out _ _ (hS.alloc hS.size _) (fun hS' => ?_)
            have NE := Nat.ne_of_lt (lt_heap F5)
            replace F5 := (heap_alloc_old w1 (row32 136 (zeros 16)) (lt_heap F5)).trans F5
            replace hS := hS'
            clear hK K hS'
            try simp only [Act.put, List.setIfInBounds_toArray, List.set_cons_zero, List.set_cons_succ]
            try simp only [heap_drew] at F5
            try simp only [World.size_alloc, heap_drew] at F6
            try simp only [heap_drew] at NE
            try simp only [heap_drew] at L5
            try simp only [World.size_alloc, heap_drew] at L6
            refine wpAnyH_ready (rs := [10]) (by kernel_rfl) (by simp) ?_
            refine AllReadyH.cons rfl (fun K hK => ?_) AllReadyH.nil
            refine step_store_own rfl 102 (.tmp 5) (.tmp 22) rfl _ rfl (u32s (grownP l)).toArray rfl 102 _ F5 Hz8.out.1 Hz8.out.2 (all_one (u32s_one _)) rfl ?_
            refine hK.out _ _ (Below.setRow' hS L5 _) (fun hS' => ?_)
            clear hK K
            refine wpAnyH_ready (rs := [11]) (by kernel_rfl) (by simp) ?_
            refine AllReadyH.cons rfl (fun K hK => ?_) AllReadyH.nil
            refine step_store_own rfl 136 (.tmp 6) (.tmp 26) rfl _ rfl (u32s (wordsOf (tailP l))).toArray rfl 136 _ ((setRow_other _ _ _ _ NE.symm).trans F6) Hz16.out.1 Hz16.out.2 (all_one (u32s_one _)) rfl ?_
            refine hK.out _ _ (Below.setRow' hS' L6 _) (fun hS'' => ?_)
            clear hK K
            refine wpAnyH_done (by kernel_rfl) ?_ _
            go_wp2_with fail
            go_meet
            case rel => exact ⟨_, _, rfl, rfl, (setRow_other _ _ _ _ NE).trans (setRow_heap _ _ _ _ _ _ F5), setRow_heap _ _ _ _ _ _ ((setRow_other _ _ _ _ NE.symm).trans F6), NE, L5, L6, hS''⟩
        · go_simp
          have L6 := hS.size
          have F6 := heap_alloc_new (X.drew.alloc (row32 102 (zeros 8))) (row32 136 (zeros 16))
          refine hK.out _ _ (hS.alloc hS.size _) (fun hS' => ?_)
          have NE := Nat.ne_of_lt (lt_heap F5)
          replace F5 := (heap_alloc_old (X.drew.alloc (row32 102 (zeros 8))) (row32 136 (zeros 16)) (lt_heap F5)).trans F5
          replace hS := hS'
          clear hK K hS'
          try simp only [Act.put, List.setIfInBounds_toArray, List.set_cons_zero, List.set_cons_succ]
          refine wpAnyH_ready (rs := [7]) (by kernel_rfl) (by simp) ?_
          refine AllReadyH.cons (o := { dst := some 26, op := .call { callee := .value (.func 74), args := #[.tmp 25], argTypes := #[80] }, type := 136, pos := "sha.go:43", after := #[{ on := 6, ground := .data }], guard := none }) rfl (fun K hK => ?_) AllReadyH.nil
          · go_simp
            refine (HG.out _ hp64 hp64 (HBy.out _ hS) (tailP_lt Hl.out)).mono ?_
            rintro e w1 ⟨rfl, hb1⟩
            refine hK.out _ _ (hS.trans (hb1.mono hS.size)) (fun hS' => ?_)
            replace F5 := (hb1.block _ (lt_heap F5)).trans F5
            replace F6 := (hb1.block _ (lt_heap F6)).trans F6
            replace hS := hS'
            clear hK K hS' hb1
            try simp only [Act.put, List.setIfInBounds_toArray, List.set_cons_zero, List.set_cons_succ]
            try simp only [heap_drew] at F5
            try simp only [World.size_alloc, heap_drew] at F6
            try simp only [World.size_alloc, heap_drew] at NE
            try simp only [heap_drew] at L5
            try simp only [World.size_alloc, heap_drew] at L6
            refine wpAnyH_ready (rs := [10]) (by kernel_rfl) (by simp) ?_
            refine AllReadyH.cons rfl (fun K hK => ?_) AllReadyH.nil
            refine step_store_own rfl 102 (.tmp 5) (.tmp 22) rfl _ rfl (u32s (grownP l)).toArray rfl 102 _ F5 Hz8.out.1 Hz8.out.2 (all_one (u32s_one _)) rfl ?_
            refine hK.out _ _ (Below.setRow' hS L5 _) (fun hS' => ?_)
            clear hK K
            refine wpAnyH_ready (rs := [11]) (by kernel_rfl) (by simp) ?_
            refine AllReadyH.cons rfl (fun K hK => ?_) AllReadyH.nil
            refine step_store_own rfl 136 (.tmp 6) (.tmp 26) rfl _ rfl (u32s (wordsOf (tailP l))).toArray rfl 136 _ ((setRow_other _ _ _ _ NE.symm).trans F6) Hz16.out.1 Hz16.out.2 (all_one (u32s_one _)) rfl ?_
            refine hK.out _ _ (Below.setRow' hS' L6 _) (fun hS'' => ?_)
            clear hK K
            refine wpAnyH_done (by kernel_rfl) ?_ _
            go_wp2_with fail
            go_meet
            case rel => exact ⟨_, _, rfl, rfl, (setRow_other _ _ _ _ NE).trans (setRow_heap _ _ _ _ _ _ F5), setRow_heap _ _ _ _ _ _ ((setRow_other _ _ _ _ NE.symm).trans F6), NE, L5, L6, hS''⟩
      · go_simp
        have L6 := hS.size
        have F6 := heap_alloc_new X.drew (row32 136 (zeros 16))
        refine hK.out _ _ (hS.alloc hS.size _) (fun hS' => ?_)
        replace hS := hS'
        clear hK K hS'
        try simp only [Act.put, List.setIfInBounds_toArray, List.set_cons_zero, List.set_cons_succ]
        refine wpAnyH_ready (rs := [7, 8]) (by kernel_rfl) (by simp) ?_
        refine AllReadyH.cons (o := { dst := some 26, op := .call { callee := .value (.func 74), args := #[.tmp 25], argTypes := #[80] }, type := 136, pos := "sha.go:43", after := #[{ on := 6, ground := .data }], guard := none }) rfl (fun K hK => ?_) (AllReadyH.cons (o := { dst := some 5, op := .alloc 102, type := 0, pos := "sha.go:43", after := #[], guard := none }) rfl (fun K hK => ?_) AllReadyH.nil)
        · go_simp
          refine (HG.out _ hp64 hp64 (HBy.out _ hS) (tailP_lt Hl.out)).mono ?_
          rintro e w1 ⟨rfl, hb1⟩
          refine hK.out _ _ (hS.trans (hb1.mono hS.size)) (fun hS' => ?_)
          replace F6 := (hb1.block _ (lt_heap F6)).trans F6
          replace hS := hS'
          clear hK K hS' hb1
          try simp only [Act.put, List.setIfInBounds_toArray, List.set_cons_zero, List.set_cons_succ]
          refine wpAnyH_ready (rs := [8]) (by kernel_rfl) (by simp) ?_
          refine AllReadyH.cons (o := { dst := some 5, op := .alloc 102, type := 0, pos := "sha.go:43", after := #[], guard := none }) rfl (fun K hK => ?_) AllReadyH.nil
          · go_simp
            have L5 := hS.size
            have F5 := heap_alloc_new w1 (row32 102 (zeros 8))
            refine hK.out _ _ (hS.alloc hS.size _) (fun hS' => ?_)
            have NE := Nat.ne_of_gt (lt_heap F6)
            replace F6 := (heap_alloc_old w1 (row32 102 (zeros 8)) (lt_heap F6)).trans F6
            replace hS := hS'
            clear hK K hS'
            try simp only [Act.put, List.setIfInBounds_toArray, List.set_cons_zero, List.set_cons_succ]
            try simp only [World.size_alloc, heap_drew] at F5
            try simp only [heap_drew] at F6
            try simp only [heap_drew] at NE
            try simp only [World.size_alloc, heap_drew] at L5
            try simp only [heap_drew] at L6
            refine wpAnyH_ready (rs := [10]) (by kernel_rfl) (by simp) ?_
            refine AllReadyH.cons rfl (fun K hK => ?_) AllReadyH.nil
            refine step_store_own rfl 102 (.tmp 5) (.tmp 22) rfl _ rfl (u32s (grownP l)).toArray rfl 102 _ F5 Hz8.out.1 Hz8.out.2 (all_one (u32s_one _)) rfl ?_
            refine hK.out _ _ (Below.setRow' hS L5 _) (fun hS' => ?_)
            clear hK K
            refine wpAnyH_ready (rs := [11]) (by kernel_rfl) (by simp) ?_
            refine AllReadyH.cons rfl (fun K hK => ?_) AllReadyH.nil
            refine step_store_own rfl 136 (.tmp 6) (.tmp 26) rfl _ rfl (u32s (wordsOf (tailP l))).toArray rfl 136 _ ((setRow_other _ _ _ _ NE.symm).trans F6) Hz16.out.1 Hz16.out.2 (all_one (u32s_one _)) rfl ?_
            refine hK.out _ _ (Below.setRow' hS' L6 _) (fun hS'' => ?_)
            clear hK K
            refine wpAnyH_done (by kernel_rfl) ?_ _
            go_wp2_with fail
            go_meet
            case rel => exact ⟨_, _, rfl, rfl, (setRow_other _ _ _ _ NE).trans (setRow_heap _ _ _ _ _ _ F5), setRow_heap _ _ _ _ _ _ ((setRow_other _ _ _ _ NE.symm).trans F6), NE, L5, L6, hS''⟩
        · go_simp
          have L5 := hS.size
          have F5 := heap_alloc_new (X.drew.alloc (row32 136 (zeros 16))) (row32 102 (zeros 8))
          refine hK.out _ _ (hS.alloc hS.size _) (fun hS' => ?_)
          have NE := Nat.ne_of_gt (lt_heap F6)
          replace F6 := (heap_alloc_old (X.drew.alloc (row32 136 (zeros 16))) (row32 102 (zeros 8)) (lt_heap F6)).trans F6
          replace hS := hS'
          clear hK K hS'
          try simp only [Act.put, List.setIfInBounds_toArray, List.set_cons_zero, List.set_cons_succ]
          refine wpAnyH_ready (rs := [7]) (by kernel_rfl) (by simp) ?_
          refine AllReadyH.cons (o := { dst := some 26, op := .call { callee := .value (.func 74), args := #[.tmp 25], argTypes := #[80] }, type := 136, pos := "sha.go:43", after := #[{ on := 6, ground := .data }], guard := none }) rfl (fun K hK => ?_) AllReadyH.nil
          · go_simp
            refine (HG.out _ hp64 hp64 (HBy.out _ hS) (tailP_lt Hl.out)).mono ?_
            rintro e w1 ⟨rfl, hb1⟩
            refine hK.out _ _ (hS.trans (hb1.mono hS.size)) (fun hS' => ?_)
            replace F5 := (hb1.block _ (lt_heap F5)).trans F5
            replace F6 := (hb1.block _ (lt_heap F6)).trans F6
            replace hS := hS'
            clear hK K hS' hb1
            try simp only [Act.put, List.setIfInBounds_toArray, List.set_cons_zero, List.set_cons_succ]
            try simp only [World.size_alloc, heap_drew] at F5
            try simp only [heap_drew] at F6
            try simp only [World.size_alloc, heap_drew] at NE
            try simp only [World.size_alloc, heap_drew] at L5
            try simp only [heap_drew] at L6
            refine wpAnyH_ready (rs := [10]) (by kernel_rfl) (by simp) ?_
            refine AllReadyH.cons rfl (fun K hK => ?_) AllReadyH.nil
            refine step_store_own rfl 102 (.tmp 5) (.tmp 22) rfl _ rfl (u32s (grownP l)).toArray rfl 102 _ F5 Hz8.out.1 Hz8.out.2 (all_one (u32s_one _)) rfl ?_
            refine hK.out _ _ (Below.setRow' hS L5 _) (fun hS' => ?_)
            clear hK K
            refine wpAnyH_ready (rs := [11]) (by kernel_rfl) (by simp) ?_
            refine AllReadyH.cons rfl (fun K hK => ?_) AllReadyH.nil
            refine step_store_own rfl 136 (.tmp 6) (.tmp 26) rfl _ rfl (u32s (wordsOf (tailP l))).toArray rfl 136 _ ((setRow_other _ _ _ _ NE.symm).trans F6) Hz16.out.1 Hz16.out.2 (all_one (u32s_one _)) rfl ?_
            refine hK.out _ _ (Below.setRow' hS' L6 _) (fun hS'' => ?_)
            clear hK K
            refine wpAnyH_done (by kernel_rfl) ?_ _
            go_wp2_with fail
            go_meet
            case rel => exact ⟨_, _, rfl, rfl, (setRow_other _ _ _ _ NE).trans (setRow_heap _ _ _ _ _ _ F5), setRow_heap _ _ _ _ _ _ ((setRow_other _ _ _ _ NE.symm).trans F6), NE, L5, L6, hS''⟩
    case rest =>
      obtain ⟨g5, g6, rfl, rfl, h5, h6, hne, hg5, hg6, hB2⟩ := hcut
      obtain ⟨B, hBn⟩ : ∃ B, B = l.length * 8 := ⟨_, rfl⟩
      have eB : (l.length : Int) * 8 = (B : Int) := by omega
      have lB : (B : Int) < 1152921504606846976 := by omega
      have wB : IntKind.u64.wrap (B : Int) = (B : Int) := by rw [IntKind.wrap_u64]; omega
      have HBn := hide1 hBn
      have HBl : Hid (B < 18446744073709551616) := by show B < _; omega
      have Hne := hide1 hne
      have Hg5 := hide1 hg5
      have Hg6 := hide1 hg6
      have sp : ∀ n : Nat, (B : Int) / 4294967296 = ((B / 4294967296 : Nat) : Int) := fun _ => by omega
      clear hBn hne hg5 hg6 sp hsl ep wp HG HBy Hz8 Hz16
      by_cases hq : r < 56
      · have hq' : ¬ (56 : Int) ≤ (r : Int) := by omega
        obtain ⟨G, hG⟩ : ∃ G, G = grownP l := ⟨_, rfl⟩
        obtain ⟨M, hM⟩ : ∃ M, M = wordsOf (tailP l) := ⟨_, rfl⟩
        have HE : Hid (sumP l = dig (addW FIRST (foldP G (withLen l.length M)))) := by
          show _ = _
          rw [sumP, if_pos (by rw [← Hr.out]; exact hq), hG, hM]
        rw [← hG] at h5
        rw [← hM] at h6
        have HGl : Hid (G.length = 8) := by rw [hG]; exact grownP_length l
        have HGt : Hid (Lt 4294967296 G) := by rw [hG]; exact grownP_lt l
        have HMl : Hid (M.length = 16) := by rw [hM]; exact wordsOf_length _
        have HMt : Hid (Lt 4294967296 M) := by rw [hM]; exact wordsOf_lt (tailP_lt Hl.out)
        have Y5 := hide1 h5
        have Y6 := hide1 h6
        have YB := hide1 hB2
        have y14 := cell32 h6 (j := 14) (by rw [HMl.out]; omega)
        have y15 := cell32 h6 (j := 15) (by rw [HMl.out]; omega)
        have yf14 := frozen_of_row wc g6 14 _ _ h6
        have yf15 := frozen_of_row wc g6 15 _ _ h6
        clear h5 h6 hB2 hG hM
        have hsb := XS.out.to (YB.out.block _ XS.out.lt)
        have ctk := hsb.taken
        have SB := hide1 hsb
        clear hsb
        go_upto_region 10 with (fail)
        generalize hZ : World.setCell _ _ _ = Z
        have z6 : Z.heap[g6]? = some (row32 136 (withLen l.length M)) := by
          rw [← hZ]
          have h1 := set32 (j := 14) (x := B / 4294967296) Y6.out
          have h2 := set32 (j := 15) (x := B % 4294967296) h1
          have e : (M.set 14 (B / 4294967296)).set 15 (B % 4294967296) = withLen l.length M := by
            rw [withLen, ← HBn.out, Nat.mod_eq_of_lt HBl.out]
          rw [e] at h2
          exact h2
        have z5 : Z.heap[g5]? = some (row32 102 G) := by
          rw [← hZ]
          exact (Below.heap_setCell _ _ _ _ Hne.out).trans ((Below.heap_setCell _ _ _ _ Hne.out).trans Y5.out)
        have zb : Below X.heap.size X Z := by
          rw [← hZ]
          exact (YB.out.setCell (p := ⟨g6, _, none⟩) Hg6.out _).setCell (p := ⟨g6, _, none⟩) Hg6.out _
        have Z6 := hide1 z6
        have Z5 := hide1 z5
        have ZB := hide1 zb
        have hwl : (withLen l.length M).length = 16 := by simp [withLen, HMl.out]
        have hwt : Lt 4294967296 (withLen l.length M) := (HMt.out.set (by have := HBl.out; rw [← HBn.out]; omega) _).set (Nat.mod_lt _ (by omega)) _
        have Hwl := hide1 hwl
        have Hwt := hide1 hwt
        clear hZ z6 z5 zb hwl hwt ctk
        have zl : Laid Z := HL.out.below (W2.out.trans (XB.out.trans (ZB.out.mono XB.out.size) |>.mono (by rw [W3.out]; omega))) HL.out.two
        have ZL := hide1 zl
        have hF := hide1 (fold_any G (withLen l.length M) Z HGl.out Hwl.out HGt.out Hwt.out zl)
        have hD := fun (w' : World) (h : Laid w') => hide1 (digest_any (foldP G (withLen l.length M)) w' (addW_length _ _) (addW_lt _ _) h)
        unfold arr32 at hF hD
        unfold arr8 at hD
        clear zl
        have e8 : (u32s G).toArray.size = 8 := by simp [u32s, HGl.out]
        have e16 : (u32s (withLen l.length M)).toArray.size = 16 := by simp [u32s, Hwl.out]
        have E8 := hide1 e8
        have E16 := hide1 e16
        clear e8 e16
        have hd32 : (dig (addW FIRST (foldP G (withLen l.length M)))).length = 32 := dig_length (addW_length _ _)
        have Hd := hide1 hd32
        clear hd32
        go_wp2_with (first
          | (refine wpList_load_row rfl 102 (.tmp 5) rfl g5 rfl 102 (u32s G).toArray (0, 0) _ Z5.out Tryd.underlying102 rfl (by rw [E8.out]; kernel_rfl) ?_)
          | (refine wpList_load_row rfl 136 (.tmp 6) rfl g6 rfl 136 (u32s (withLen l.length M)).toArray (0, 0) _ Z6.out Tryd.underlying136 rfl (by rw [E16.out]; kernel_rfl) ?_)
          | (go_at_call 75; refine hF.out.mono ?_; rintro e w5 ⟨rfl, hb5⟩)
          | (go_at_call 76; refine (hD _ (ZL.out.below hb5 (by have := ZL.out.two; omega))).out.mono ?_; rintro e w6 ⟨rfl, hb6⟩; have K6 : Hid (Below X.heap.size X w6) := ZB.out.trans ((hb5.mono ZB.out.size).trans (hb6.mono (Nat.le_trans ZB.out.size hb5.size))))
          | (refine wpList_store_own rfl 76 (.tmp 2) (.tmp 48) rfl w.heap.size rfl (u8s (dig (addW FIRST (foldP G (withLen l.length M))))).toArray rfl 76 _ ((K6.out.block _ (Nat.lt_of_lt_of_le (lt_heap W1.out) XB.out.size)).trans ((XB.out.block _ (lt_heap W1.out)).trans W1.out)) (by rw [show (u8s (dig (addW FIRST (foldP G (withLen l.length M))))).toArray.size = 32 by simp [u8s, Hd.out]]; kernel_rfl) (by simp [u8s, Hd.out, zeros]) (all_one (u8s_one _)) ?_)
          | fail)
        refine ret_row Tryd.results51 w.heap.size 76 (u8s (dig (addW FIRST (foldP G (withLen l.length M))))).toArray rfl (setRow_heap _ _ _ _ _ _ ((K6.out.block _ (Nat.lt_of_lt_of_le (lt_heap W1.out) XB.out.size)).trans ((XB.out.block _ (lt_heap W1.out)).trans W1.out))) Tryd.underlying76 (by rw [show (u8s (dig (addW FIRST (foldP G (withLen l.length M))))).toArray.size = 32 by simp [u8s, Hd.out]]; kernel_rfl) rfl ⟨by rw [HE.out]; rfl, ?_⟩
        exact Below.setRow' (W2.out.trans ((XB.out.trans (K6.out.mono XB.out.size)).mono (by rw [W3.out]; omega))) (Nat.le_refl _) _
      · have hq' : (56 : Int) ≤ (r : Int) := by omega
        obtain ⟨T, hT⟩ : ∃ T, T = wordsOf (tailP l) := ⟨_, rfl⟩
        rw [← hT] at h6
        have HTl : Hid (T.length = 16) := by rw [hT]; exact wordsOf_length _
        have HTt : Hid (Lt 4294967296 T) := by rw [hT]; exact wordsOf_lt (tailP_lt Hl.out)
        obtain ⟨G, hG⟩ : ∃ G, G = foldP (grownP l) T := ⟨_, rfl⟩
        obtain ⟨M, hM⟩ : ∃ M, M = zeros 16 := ⟨_, rfl⟩
        have HE : Hid (sumP l = dig (addW FIRST (foldP G (withLen l.length M)))) := by
          show _ = _
          rw [sumP, if_neg (by rw [← Hr.out]; exact hq), hG, hM, hT]
        have HGl : Hid (G.length = 8) := by rw [hG]; exact addW_length _ _
        have HGt : Hid (Lt 4294967296 G) := by rw [hG]; exact addW_lt _ _
        have HMl : Hid (M.length = 16) := by rw [hM]; exact zeros_length _
        have HMt : Hid (Lt 4294967296 M) := by rw [hM]; exact lt_replicate (by omega) _
        have H5 := hide1 h5
        have H6 := hide1 h6
        have HB2 := hide1 hB2
        have yl : Laid wc := HL.out.below (W2.out.trans (XB.out.trans (HB2.out.mono XB.out.size) |>.mono (by rw [W3.out]; omega))) HL.out.two
        have hF0 := hide1 (fold_any (grownP l) T wc (grownP_length l) HTl.out (grownP_lt l) HTt.out yl)
        rw [← hG] at hF0
        unfold arr32 at hF0
        have e0 : (u32s (grownP l)).toArray.size = 8 := by simp [u32s, grownP_length]
        have e1 : (u32s G).toArray.size = 8 := by simp [u32s, HGl.out]
        have e2 : (u32s T).toArray.size = 16 := by simp [u32s, HTl.out]
        have E0 := hide1 e0
        have E1 := hide1 e1
        have E2 := hide1 e2
        have HM := hide1 hM
        clear h5 h6 hB2 hG hM hT yl e0 e1 e2
        go_upto_region 8 with (first
          | (refine wpList_load_row rfl 102 (.tmp 5) rfl g5 rfl 102 (u32s (grownP l)).toArray (0, 0) _ H5.out Tryd.underlying102 rfl (by rw [E0.out]; kernel_rfl) ?_)
          | (refine wpList_load_row rfl 136 (.tmp 6) rfl g6 rfl 136 (u32s T).toArray (0, 0) _ H6.out Tryd.underlying136 rfl (by rw [E2.out]; kernel_rfl) ?_)
          | (go_at_call 75; refine hF0.out.mono ?_; rintro e w4 ⟨rfl, hb4⟩; have G5 := hide1 ((hb4.block _ (lt_heap H5.out)).trans H5.out); have G6 := hide1 ((hb4.block _ (lt_heap H6.out)).trans H6.out))
          | (refine wpList_store_own rfl 102 (.tmp 5) (.tmp 31) rfl g5 rfl (u32s G).toArray rfl 102 _ G5.out (by rw [E1.out]; kernel_rfl) (by rw [E1.out, E0.out]) (all_one (u32s_one _)) ?_)
          | (refine wpList_store_own rfl 136 (.tmp 6) (.tmp 32) rfl g6 rfl (u32s (zeros 16)).toArray rfl 136 _ ((setRow_other _ _ _ _ Hne.out.symm).trans G6.out) (by kernel_rfl) (by rw [E2.out]; rfl) (all_one (u32s_one _)) ?_)
          | fail)
        have y5 : ((w4.setRow g5 (u32s G).toArray).setRow g6 (u32s (zeros 16)).toArray).heap[g5]? = some (row32 102 G) := (setRow_other _ _ _ _ Hne.out).trans (setRow_heap _ _ _ _ _ _ G5.out)
        have y6 : ((w4.setRow g5 (u32s G).toArray).setRow g6 (u32s (zeros 16)).toArray).heap[g6]? = some (row32 136 M) := by
          rw [HM.out]
          exact setRow_heap _ _ _ _ _ _ ((setRow_other _ _ _ _ Hne.out.symm).trans G6.out)
        have yb : Below X.heap.size X ((w4.setRow g5 (u32s G).toArray).setRow g6 (u32s (zeros 16)).toArray) := Below.setRow' (Below.setRow' (HB2.out.trans (hb4.mono HB2.out.size)) Hg5.out _) Hg6.out _
        generalize hY : World.setRow _ _ _ = Y
        have y5' : Y.heap[g5]? = some (row32 102 G) := by rw [← hY]; exact y5
        have y6' : Y.heap[g6]? = some (row32 136 M) := by rw [← hY]; exact y6
        have yb' : Below X.heap.size X Y := by rw [← hY]; exact yb
        have Y5 := hide1 y5'
        have Y6 := hide1 y6'
        have YB := hide1 yb'
        have y14 := cell32 y6' (j := 14) (by rw [HMl.out]; omega)
        have y15 := cell32 y6' (j := 15) (by rw [HMl.out]; omega)
        have yf14 := frozen_of_row Y g6 14 _ _ y6'
        have yf15 := frozen_of_row Y g6 15 _ _ y6'
        clear y5 y6 yb hY y5' y6' yb' hF0 hb4 G5 G6 HM
        have hsb := XS.out.to (YB.out.block _ XS.out.lt)
        have ctk := hsb.taken
        have SB := hide1 hsb
        clear hsb
        go_upto_region 10 with (fail)
        generalize hZ : World.setCell _ _ _ = Z
        have z6 : Z.heap[g6]? = some (row32 136 (withLen l.length M)) := by
          rw [← hZ]
          have h1 := set32 (j := 14) (x := B / 4294967296) Y6.out
          have h2 := set32 (j := 15) (x := B % 4294967296) h1
          have e : (M.set 14 (B / 4294967296)).set 15 (B % 4294967296) = withLen l.length M := by
            rw [withLen, ← HBn.out, Nat.mod_eq_of_lt HBl.out]
          rw [e] at h2
          exact h2
        have z5 : Z.heap[g5]? = some (row32 102 G) := by
          rw [← hZ]
          exact (Below.heap_setCell _ _ _ _ Hne.out).trans ((Below.heap_setCell _ _ _ _ Hne.out).trans Y5.out)
        have zb : Below X.heap.size X Z := by
          rw [← hZ]
          exact (YB.out.setCell (p := ⟨g6, _, none⟩) Hg6.out _).setCell (p := ⟨g6, _, none⟩) Hg6.out _
        have Z6 := hide1 z6
        have Z5 := hide1 z5
        have ZB := hide1 zb
        have hwl : (withLen l.length M).length = 16 := by simp [withLen, HMl.out]
        have hwt : Lt 4294967296 (withLen l.length M) := (HMt.out.set (by have := HBl.out; rw [← HBn.out]; omega) _).set (Nat.mod_lt _ (by omega)) _
        have Hwl := hide1 hwl
        have Hwt := hide1 hwt
        clear hZ z6 z5 zb hwl hwt ctk
        have zl : Laid Z := HL.out.below (W2.out.trans (XB.out.trans (ZB.out.mono XB.out.size) |>.mono (by rw [W3.out]; omega))) HL.out.two
        have ZL := hide1 zl
        have hF := hide1 (fold_any G (withLen l.length M) Z HGl.out Hwl.out HGt.out Hwt.out zl)
        have hD := fun (w' : World) (h : Laid w') => hide1 (digest_any (foldP G (withLen l.length M)) w' (addW_length _ _) (addW_lt _ _) h)
        unfold arr32 at hF hD
        unfold arr8 at hD
        clear zl
        have e8 : (u32s G).toArray.size = 8 := by simp [u32s, HGl.out]
        have e16 : (u32s (withLen l.length M)).toArray.size = 16 := by simp [u32s, Hwl.out]
        have E8 := hide1 e8
        have E16 := hide1 e16
        clear e8 e16
        have hd32 : (dig (addW FIRST (foldP G (withLen l.length M)))).length = 32 := dig_length (addW_length _ _)
        have Hd := hide1 hd32
        clear hd32
        go_wp2_with (first
          | (refine wpList_load_row rfl 102 (.tmp 5) rfl g5 rfl 102 (u32s G).toArray (0, 0) _ Z5.out Tryd.underlying102 rfl (by rw [E8.out]; kernel_rfl) ?_)
          | (refine wpList_load_row rfl 136 (.tmp 6) rfl g6 rfl 136 (u32s (withLen l.length M)).toArray (0, 0) _ Z6.out Tryd.underlying136 rfl (by rw [E16.out]; kernel_rfl) ?_)
          | (go_at_call 75; refine hF.out.mono ?_; rintro e w5 ⟨rfl, hb5⟩)
          | (go_at_call 76; refine (hD _ (ZL.out.below hb5 (by have := ZL.out.two; omega))).out.mono ?_; rintro e w6 ⟨rfl, hb6⟩; have K6 : Hid (Below X.heap.size X w6) := ZB.out.trans ((hb5.mono ZB.out.size).trans (hb6.mono (Nat.le_trans ZB.out.size hb5.size))))
          | (refine wpList_store_own rfl 76 (.tmp 2) (.tmp 48) rfl w.heap.size rfl (u8s (dig (addW FIRST (foldP G (withLen l.length M))))).toArray rfl 76 _ ((K6.out.block _ (Nat.lt_of_lt_of_le (lt_heap W1.out) XB.out.size)).trans ((XB.out.block _ (lt_heap W1.out)).trans W1.out)) (by rw [show (u8s (dig (addW FIRST (foldP G (withLen l.length M))))).toArray.size = 32 by simp [u8s, Hd.out]]; kernel_rfl) (by simp [u8s, Hd.out, zeros]) (all_one (u8s_one _)) ?_)
          | fail)
        refine ret_row Tryd.results51 w.heap.size 76 (u8s (dig (addW FIRST (foldP G (withLen l.length M))))).toArray rfl (setRow_heap _ _ _ _ _ _ ((K6.out.block _ (Nat.lt_of_lt_of_le (lt_heap W1.out) XB.out.size)).trans ((XB.out.block _ (lt_heap W1.out)).trans W1.out))) Tryd.underlying76 (by rw [show (u8s (dig (addW FIRST (foldP G (withLen l.length M))))).toArray.size = 32 by simp [u8s, Hd.out]]; kernel_rfl) rfl ⟨by rw [HE.out]; rfl, ?_⟩
        exact Below.setRow' (W2.out.trans ((XB.out.trans (K6.out.mono XB.out.size)).mono (by rw [W3.out]; omega))) (Nat.le_refl _) _
end Go.Proofs.YtlkkninnfiaedaaDoor.Sh
