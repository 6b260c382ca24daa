/- The document's Filled, walked. -/
import Derived.Test.YtcadlcpccemkbaaGreatDoorMDqDrDt
namespace Go.Proofs.YtcadlcpccemkbaaGreatDoor
open Go.RowKit
set_option maxRecDepth 100000
attribute [local go_sem] not_any

set_option maxHeartbeats 8000000 in
theorem rfilled_any {N : Nat} (x : Ls) (LL : List ByteArray) (LLv hv lv : Value) (w : World) (h : Rf x LL LLv hv lv w) (hx : x.Ok N) (hN : N + 1000 < 4294967296) (hm : LL.length + x.Q.length ≤ 1000) :
    Calls Tryz.prog 53 #[rv x LLv hv lv] w fun e w' => ∃ L' l' z, e = .returned (.tuple #[rv x L' hv l', z]) ∧ Rfp x LL LLv hv lv w x.mv (LL ++ x.Q.take x.mvn) L' hv l' w' ∧ Nls 175 (w.heap.size + 2) w' z x.mvd := by
  obtain ⟨la, lc, hlv, _⟩ := h.ql
  obtain ⟨ba0, bc0, hbv, _⟩ := h.ll
  obtain ⟨ha, hac, hhv, _⟩ := h.hl
  subst hlv hbv hhv
  have HF := hide1 h
  have HX := hide1 hx
  have HMN : Shy (x.mvn = min (16 - x.A.length) x.Q.length) := ⟨rfl⟩
  obtain ⟨g, hg⟩ : ∃ g, g = w.heap.size := ⟨_, rfl⟩
  have HG := hide1 hg
  unfold rv
  have cE : ∀ L l, rcs x L (.slice ha x.l.length hac) l = #[.int .u32 (x.own : Int), .int .u32 (x.peer : Int), .bool x.sure, .int .i64 0, L, .int .i64 (x.k : Int), .int .i64 ((x.a : Int) + 1), (.slice ha x.l.length hac), l, .bool x.owed] := fun _ _ => rfl
  have CE := hide1 cE
  rw [cE]
  clear h hx cE
  go_enter Tryz.func53, Tryz.ntmps53
  go_upto_region 1 with (fail)
  generalize hW : World.alloc (World.alloc w _) _ = W0
  have x1 : W0.heap[w.heap.size]? = some (.cells (rcs x (.slice ba0 LL.length bc0) (.slice ha x.l.length hac) (.slice la x.Q.length lc)) 39 (0, 0)) := by rw [← hW]; exact heap_alloc2_old _ _ _
  have x2 := hW ▸ heap_alloc2_new w _ _
  have x3 : Below w.heap.size w W0 := by rw [← hW]; exact ((Below.refl _ _).alloc (Nat.le_refl _) _).alloc (by simp) _
  have F0 : Hid (Fst x LL (.slice ba0 LL.length bc0) (.slice ha x.l.length hac) (.slice la x.Q.length lc) g w W0 0 (.slice ba0 LL.length bc0) (.slice la x.Q.length lc) (.slice none 0 0)) := by
    rw [← hg] at x1 x2 x3
    refine ⟨x1, ⟨_, rfl, x2⟩, ?_, ?_, fun hn b e => ⟨e, ?_⟩, fun hn b e => .inl ⟨?_, e, ?_⟩, Nls.nil _ _ _, fun _ _ _ h => (by cases h), x3, HF.out.cp⟩
    · rw [List.take_zero, List.append_nil]; exact HF.out.ll.below x3 (by omega)
    · rw [List.drop_zero]; exact HF.out.ql.below x3 (by omega)
    · rw [List.drop_zero] at hn; have := HF.out.ql.lt hn e; omega
    · rw [List.take_zero, List.append_nil] at hn; exact hn
    · rw [List.take_zero, List.append_nil] at hn; have := HF.out.ll.lt hn e; omega
  rw [← hg]
  clear hW x1 x2 x3 hg
  go_wp2
  go_loopw [4] (fun p wr => ∃ (j : Nat) (L' l' z : Value), j ≤ x.mvn ∧ p = z ∧ Fst x LL (.slice ba0 LL.length bc0) (.slice ha x.l.length hac) (.slice la x.Q.length lc) g w wr j L' l' z) (fun p _ => 100 - (lenOf p))
  case atStart => exact ⟨0, _, _, _, Nat.zero_le _, rfl, F0.out⟩
  case round =>
    obtain ⟨j, L', l', zv, hj, hz, hS⟩ := hrel
    obtain rfl := hz.symm
    have HS := hide1 hS
    obtain ⟨ba, bc, hL', _⟩ := hS.ll
    obtain ⟨qa, qc, hl', hqc⟩ := hS.ql
    obtain ⟨bn, hbn⟩ : ∃ bn, bn = (LL ++ x.Q.take j).length := ⟨_, rfl⟩
    obtain ⟨qn, hqn⟩ : ∃ qn, qn = (x.Q.drop j).length := ⟨_, rfl⟩
    rw [← hbn] at hL'
    rw [← hqn] at hl' hqc
    subst hL' hl'
    have HBN := hide1 hbn
    have HQN := hide1 hqn
    have hsb := hS.box
    rw [CE.out] at hsb
    obtain ⟨⟨c0, c1, c2, c3, c4⟩, ⟨c5, c6, c7, c8, c9⟩, _, _⟩ := box10 hsb
    have CL : Hid (∀ W', Below wr.heap.size wr W' → W'.cell? ⟨g, 3, none⟩ = some (.int .i64 0) ∧ W'.cell? ⟨g, 4, none⟩ = some (.slice ba bn bc) ∧ W'.cell? ⟨g, 5, none⟩ = some (.int .i64 (x.k : Int)) ∧ W'.cell? ⟨g, 8, none⟩ = some (.slice qa qn qc)) := fun W' hb => by
      obtain ⟨⟨_, _, _, d3, d4⟩, ⟨d5, _, _, d8, _⟩, _, _⟩ := box10 ((hb.block _ (lt_heap hsb)).trans hsb)
      exact ⟨d3, d4, d5, d8⟩
    clear hS hbn hqn
    obtain ⟨c0r, hc0, hrt⟩ := HS.out.ret
    have HRT := hide1 hrt
    have HC0 := hide1 hc0
    clear hrt hc0
    by_cases hq0 : qn = 0
    · subst hq0
      have hjm : j = x.mvn := by
        have h1 := HQN.out
        rw [List.length_drop] at h1
        have h2 : x.mvn ≤ x.Q.length := Nat.min_le_right _ _
        omega
      have HE := hide1 (fst_end (cs := rcs x (.slice ba bn bc) (.slice ha x.l.length hac) (.slice qa 0 qc)) HG.out HF.out HX.out hm (hjm ▸ HS.out))
      have SZ : Hid (Option.map (fun x => x.size) (Tryz.prog.info? 39) = some (rcs x (.slice ba bn bc) (.slice ha x.l.length hac) (.slice qa 0 qc)).size) := sz10 rfl
      have A1 : Hid ((rcs x (.slice ba bn bc) (.slice ha x.l.length hac) (.slice qa 0 qc)).all (·.oneCell') = true) := by
        unfold Hid rcs
        simp [Value.oneCell']
      have HBX : Hid (wr.heap[g]? = some (.cells (rcs x (.slice ba bn bc) (.slice ha x.l.length hac) (.slice qa 0 qc)) 39 (0, 0))) := HS.out.box
      have HC1 : Hid (c0r.size = (rcs x (.slice ba bn bc) (.slice ha x.l.length hac) (.slice qa 0 qc)).size) := HC0.out
      clear hsb c0 c1 c2 c3 c4 c5 c6 c7 c9
      obtain ⟨RR, hRR⟩ : ∃ RR, RR = rcs x (.slice ba bn bc) (.slice ha x.l.length hac) (.slice qa 0 qc) := ⟨_, rfl⟩
      rw [← hRR] at HE SZ A1 HBX HC1
      have HRR := hide1 hRR
      clear hRR
      go_wp2_with (first | (refine wpList_load_row rfl 39 (.tmp 1) rfl g rfl 39 RR (0, 0) _ HBX.out Tryz.underlying39 rfl SZ.out ?_) | (refine wpList_store_row rfl 39 (.tmp 2) (.tmp 47) rfl (g + 1) RR rfl rfl 39 _ HRT.out SZ.out HC1.out A1.out ?_))
      refine ret_l2 Tryz.results53 (g + 1) RR _ (by rw [HRR.out]; rfl) rfl rfl (setRow_heap _ _ _ _ _ _ HRT.out) rfl ⟨_, _, _, by rw [HRR.out]; rfl, HE.out.1, HE.out.2⟩
    · obtain ⟨gq, oq, rfl, cq⟩ := hqc 0 (by omega)
      rw [Nat.add_zero] at cq
      obtain ⟨b, hb⟩ : ∃ b, b = (x.Q.drop j).getD 0 ByteArray.empty := ⟨_, rfl⟩
      rw [← hb] at cq
      have CQ : Hid (∀ W', Below wr.heap.size wr W' → W'.cell? ⟨gq, oq, none⟩ = some (.string b)) := fun W' h => (h.cell (p := ⟨gq, oq, none⟩) (block_lt_of_cell cq)).trans cq
      obtain ⟨LL', hLL'⟩ : ∃ LL', LL' = LL ++ x.Q.take j := ⟨_, rfl⟩
      have HLLP := hide1 hLL'
      have hlim : Lim 0 x.k LL' := by
        have e1 : (x.Q.take j).length ≤ 16 - x.A.length := by rw [List.length_take]; have := HMN.out; omega
        have e2 : LL.length - x.k = x.A.length := by rw [← HF.out.eq, List.length_drop]
        have e3 := HX.out.A16
        have e4 := HF.out.le
        refine ⟨by rw [hLL', List.length_append]; omega, by rw [hLL', List.length_append]; omega, by rw [hLL', List.length_append]; omega, fun t ht => ?_⟩
        rw [hLL'] at ht
        rcases List.mem_append.1 ht with h1 | h1
        · exact HF.out.sz t h1
        · have := HX.out.szQ t (List.mem_of_mem_take h1); omega
      have hn1 : LL'.length ≤ 1000 := by rw [hLL', List.length_append, List.length_take]; omega
      have hll := HS.out.ll
      rw [← hLL'] at hll
      obtain ⟨pn, hpn⟩ : ∃ pn, pn = ptN (0 + x.k) (LL'.drop x.k) := ⟨_, rfl⟩
      obtain ⟨pc, hpc⟩ : ∃ pc, pc = ptC (0 + x.k) (LL'.drop x.k) := ⟨_, rfl⟩
      obtain ⟨LN, hLN⟩ : ∃ LN, LN = poL 0 x.k LL' b := ⟨_, rfl⟩
      have kP : Hid (∀ W', Below wr.heap.size wr W' → Calls Tryz.prog 88 #[.agg #[.int .i64 0, .slice ba bn bc, .int .i64 (x.k : Int)], .string b] W' fun e w1 => ∃ ua un uc, e = .returned (.tuple #[.agg #[.int .i64 0, .slice ua un uc, .int .i64 (x.k : Int)], .int .i64 (pn : Int), .int .i64 (pc : Int)]) ∧ Rdl w1 (.slice ua un uc) LN ∧ (LN ≠ [] → ∀ c, (Value.slice ua un uc).ownBlock = some c → ((Value.slice ba bn bc).ownBlock = some c ∧ c < wr.heap.size ∧ LL' ≠ []) ∨ W'.heap.size ≤ c) ∧ Below W'.heap.size W' w1) := fun W' hW' => by
        refine (rput_any 0 bn x.k bc ba b (hll.below hW' (Nat.le_refl _)) hlim hn1).mono ?_
        rintro e w1 ⟨u, rfl, h1, h2, h3⟩
        obtain ⟨ua, uc, rfl, _⟩ := id h1
        refine ⟨ua, _, uc, by rw [hpn, hpc]; rfl, by rw [hLN]; exact h1, fun hn c hc => ?_, h2⟩
        rw [hLN] at hn
        rcases h3 hn c hc with ⟨k1, _, k3⟩ | k1
        · exact .inl ⟨k1, hll.lt k3 k1, k3⟩
        · exact .inr k1
      have hq1 : (0 : Int) < (qn : Int) := by omega
      have hq2 : 0 < qn := by omega
      obtain ⟨Z, hZ⟩ : ∃ Z, Z = wr := ⟨_, rfl⟩
      subst hZ
      have hsu : x.sure = true := by
        cases hs : x.sure
        · have := (HX.out.ns hs).2.1
          have h1 := HQN.out
          rw [this, List.drop_nil] at h1
          exact absurd h1 hq0
        · rfl
      rw [hsu] at c2
      have HSU := hide1 hsu
      have PC : Hid ((pc = 0 → j < x.mvn ∧ pn = x.k + x.A.length + 1 + j ∧ LN = LL ++ x.Q.take (j + 1)) ∧ (pc ≠ 0 → j = x.mvn)) := by
        have q1 : j < x.Q.length := by have := HQN.out; rw [List.length_drop] at this; omega
        have q2 : (LL'.drop x.k) = x.A ++ x.Q.take j := by rw [hLL', List.drop_append_of_le_length HF.out.le, HF.out.eq]
        have q3 : (LL'.drop x.k).length = x.A.length + j := by rw [q2, List.length_append, List.length_take]; omega
        have q4 := HX.out.kN
        have q5 := HMN.out
        refine ⟨fun h0 => ?_, fun h0 => ?_⟩
        · rw [hpc] at h0
          have h1 := h0
          unfold ptC at h1
          rw [q3] at h1
          refine ⟨?_, ?_, ?_⟩
          · by_cases h2 : 16 ≤ x.A.length + j
            · rw [if_pos h2] at h1; exact absurd h1 (by decide)
            · omega
          · rw [hpn, ptN, if_pos h0, q3]; omega
          · rw [hLN, poL, if_pos h0, hLL', List.append_assoc, hb, show (x.Q.drop j).getD 0 ByteArray.empty = x.Q.getD j ByteArray.empty by rw [List.getD_eq_getElem?_getD, List.getD_eq_getElem?_getD, List.getElem?_drop, Nat.add_zero], ← take_snoc x.Q j q1]
        · rw [hpc] at h0
          unfold ptC at h0
          rw [q3] at h0
          by_cases h2 : 16 ≤ x.A.length + j
          · omega
          · rw [if_neg h2, if_neg (by omega)] at h0
            exact absurd rfl h0
      have HB : Hid (b = x.Q.getD j ByteArray.empty) := by unfold Hid; rw [hb, List.getD_eq_getElem?_getD, List.getD_eq_getElem?_getD, List.getElem?_drop, Nat.add_zero]
      clear hpn hpc hLN hLL'
      clear hlim hn1 hll hb hqc hq0 hsu
      go_upto_region 3 with (fail)
      clear c0 c1 c2 c3 c4 c5 c6 c7 c8 c9 hsb
      refine region_f (F := []) (S := fun W' => Below Z.heap.size Z W') (by kernel_rfl) (Below.refl _ _).drew (fun hS => ?_)
      refine take_p 0 17 (.pointer (some ⟨g, 3, none⟩)) rfl rfl (by kernel_rfl) (by kernel_rfl) (by kernel_rfl) (fun _ _ _ h => h) rfl (fun w => by go_simp) ?_
      try simp only [List.setIfInBounds_toArray, List.set_cons_zero, List.set_cons_succ]
      refine take_f 1 18 (.agg #[.int .i64 0, .slice ba bn bc, .int .i64 (x.k : Int)]) [6, 7, 8, 9, 10, 12, 13, 14] rfl rfl (by kernel_rfl) (by kernel_rfl) (by kernel_rfl) (by kernel_rfl) (by kernel_rfl) (by kernel_rfl) (fun _ _ _ h => h) rfl (fun w hSw => by obtain ⟨h1, h2, h3, h4⟩ := CL.out _ hSw; go_simp) hS ?_
      try simp only [List.setIfInBounds_toArray, List.set_cons_zero, List.set_cons_succ]
      refine take_p 2 19 (.pointer (some ⟨g, 8, none⟩)) rfl rfl (by kernel_rfl) (by kernel_rfl) (by kernel_rfl) (fun _ _ _ h => h) rfl (fun w => by go_simp) ?_
      try simp only [List.setIfInBounds_toArray, List.set_cons_zero, List.set_cons_succ]
      refine take_f 3 20 (.slice (some ⟨gq, oq, none⟩) qn qc) [4, 5, 6, 7, 8, 9, 10, 12, 13, 14] rfl rfl (by kernel_rfl) (by kernel_rfl) (by kernel_rfl) (by kernel_rfl) (by kernel_rfl) (by kernel_rfl) (fun _ _ _ h => h) rfl (fun w hSw => by obtain ⟨h1, h2, h3, h4⟩ := CL.out _ hSw; go_simp) hS ?_
      try simp only [List.setIfInBounds_toArray, List.set_cons_zero, List.set_cons_succ]
      refine take_p 4 21 (.pointer (some ⟨gq, oq, none⟩)) rfl rfl (by kernel_rfl) (by kernel_rfl) (by kernel_rfl) (fun _ _ _ h => h) rfl (fun w => by go_simp) ?_
      try simp only [List.setIfInBounds_toArray, List.set_cons_zero, List.set_cons_succ]
      refine take_f 5 22 (.string b) [6, 7, 8, 9, 10, 12, 13, 14] rfl rfl (by kernel_rfl) (by kernel_rfl) (by kernel_rfl) (by kernel_rfl) (by kernel_rfl) (by kernel_rfl) (fun _ _ _ h => h) rfl (fun w hSw => by have h1 := CQ.out _ hSw; go_simp) hS ?_
      try simp only [List.setIfInBounds_toArray, List.set_cons_zero, List.set_cons_succ]
      refine ready2_f 6 11 (o := { dst := some 23, op := Op.call { callee := Callee.value (Operand.func 88), args := #[Operand.tmp 18, Operand.tmp 22], argTypes := #[34, 9] }, type := 173, pos := "ref.go:63", after := #[{ on := 1, ground := Ground.data }, { on := 5, ground := Ground.data }], guard := none }) (o' := { dst := some 5, op := Op.alloc 34, type := 0, pos := "ref.go:63", after := #[], guard := none }) (by kernel_rfl) rfl rfl (fun K hK => ?_) (fun K hK => ?_)
      · go_simp
        refine (kP.out _ hS).mono ?_
        rintro e w1 ⟨ua, un, uc, rfl, hu, hub, hbu⟩
        have hS1 : Below Z.heap.size Z w1 := hS.trans (hbu.mono hS.size)
        refine hK.out _ _ (fun _ _ => hS1) ?_
        clear hK K
        try simp only [Act.put, List.setIfInBounds_toArray, List.set_cons_zero, List.set_cons_succ]
        refine take_p 7 16 (.tuple #[.agg #[.int .i64 0, .slice ua un uc, .int .i64 (x.k : Int)], .int .i64 (pn : Int), .int .i64 (pc : Int)]) rfl rfl (by kernel_rfl) (by kernel_rfl) (by kernel_rfl) (fun _ _ _ h => h) rfl (fun w => by go_simp) ?_
        try simp only [List.setIfInBounds_toArray, List.set_cons_zero, List.set_cons_succ]
        refine take_p 8 24 (.agg #[.int .i64 0, .slice ua un uc, .int .i64 (x.k : Int)]) rfl rfl (by kernel_rfl) (by kernel_rfl) (by kernel_rfl) (fun _ _ _ h => h) rfl (fun w => by go_simp) ?_
        try simp only [List.setIfInBounds_toArray, List.set_cons_zero, List.set_cons_succ]
        refine take_p 9 25 (.int .i64 (pn : Int)) rfl rfl (by kernel_rfl) (by kernel_rfl) (by kernel_rfl) (fun _ _ _ h => h) rfl (fun w => by go_simp) ?_
        try simp only [List.setIfInBounds_toArray, List.set_cons_zero, List.set_cons_succ]
        refine take_p 10 26 (.int .i64 (pc : Int)) rfl rfl (by kernel_rfl) (by kernel_rfl) (by kernel_rfl) (fun _ _ _ h => h) rfl (fun w => by go_simp) ?_
        try simp only [List.setIfInBounds_toArray, List.set_cons_zero, List.set_cons_succ]
        refine ready_f 11 (o := { dst := some 5, op := Op.alloc 34, type := 0, pos := "ref.go:63", after := #[], guard := none }) (by kernel_rfl) rfl (fun K hK => ?_)
        go_simp
        have hS2 : Below Z.heap.size Z (w1.alloc (.cells #[.int .i64 0, .slice none 0 0, .int .i64 0] 34)) := hS1.alloc hS1.size _
        have row5 := heap_alloc_new w1 (.cells #[.int .i64 0, .slice none 0 0, .int .i64 0] 34)
        have le5 : Z.heap.size ≤ w1.heap.size := hS1.size
        refine hK.out _ _ (fun _ _ => hS2) ?_
        clear hK K
        try simp only [Act.put, List.setIfInBounds_toArray, List.set_cons_zero, List.set_cons_succ]
        refine ready_f 12 (o := { dst := none, op := Op.store 34 (Operand.tmp 5) (Operand.tmp 24), type := 0, pos := "ref.go:63", after := #[{ on := 11, ground := Ground.data }, { on := 8, ground := Ground.data }, { on := 6, ground := Ground.chain }, { on := 0, ground := Ground.phase }, { on := 1, ground := Ground.phase }, { on := 2, ground := Ground.phase }, { on := 3, ground := Ground.phase }, { on := 4, ground := Ground.phase }, { on := 5, ground := Ground.phase }, { on := 6, ground := Ground.phase }, { on := 7, ground := Ground.phase }, { on := 8, ground := Ground.phase }, { on := 9, ground := Ground.textOnly Departure.lateStores }, { on := 10, ground := Ground.textOnly Departure.lateStores }, { on := 11, ground := Ground.phase }], guard := none }) (by kernel_rfl) rfl (fun K hK => ?_)
        rw [if_pos (by rfl)]
        refine wp_store_row 34 _ _ rfl (w1.heap.size) _ rfl rfl 34 _ row5 (by kernel_rfl) (by simp) (by simp [Value.oneCell']) ?_
        refine hK.out _ _ (fun _ h => below_setRow h le5 _) ?_
        clear hK K
        refine take_p 13 6 (.int .i64 (pn : Int)) rfl rfl (by kernel_rfl) (by kernel_rfl) (by kernel_rfl) (fun _ _ _ h => h) rfl (fun w => by go_simp) ?_
        try simp only [List.setIfInBounds_toArray, List.set_cons_zero, List.set_cons_succ]
        refine take_p 14 7 (.int .i64 (pc : Int)) rfl rfl (by kernel_rfl) (by kernel_rfl) (by kernel_rfl) (fun _ _ _ h => h) rfl (fun w => by go_simp) ?_
        try simp only [List.setIfInBounds_toArray, List.set_cons_zero, List.set_cons_succ]
        refine done_f (by kernel_rfl) ?_ _
        have MD := hide1 (md_a (k := x.k) hS1 hu hub)
        obtain ⟨g5, hg5⟩ : ∃ g5, w1.heap.size = g5 := ⟨_, rfl⟩
        rw [hg5] at MD ⊢
        generalize hWF : World.setRow _ g5 _ = WF at MD ⊢
        clear hg5 hWF
        have HS2 := hide1 (HS.out.below MD.out.bel)
        have HZ2 := hide1 (lt_heap HS.out.box)
        obtain ⟨c0r2, hc2, hrt2⟩ := HS2.out.ret
        have HRT2 := hide1 hrt2
        have HC2 := hide1 hc2
        have hsb := HS2.out.box
        rw [CE.out] at hsb
        have RB := hide1 hsb
        have CQ2 := hide1 (CQ.out WF MD.out.bel)
        clear hrt2 hc2 hsb
        by_cases hpc0 : pc = 0
        · have g0 : ((pc : Int) != 0) = false := by simp; omega
          obtain ⟨hj1, hpn1, hLN1⟩ := PC.out.1 hpc0
          have HJ1 := hide1 hj1
          have hcq : qn ≤ qc := by obtain ⟨_, _, _, e, h9⟩ := HS.out.cp; cases e; exact h9
          obtain ⟨ac, hSL, hac', hRL⟩ := run_from1 gq oq qn qc (by omega) hcq
          have HSL := hide1 hSL
          have HRL := hide1 hRL
          have HAC := hide1 hac'
          have HCP : Hid (Cp (.slice ac (qn - 1) (qc - 1))) := ⟨_, _, _, rfl, by omega⟩
          have HMD := hide1 (HLLP.out ▸ hLN1 ▸ MD.out)
          have wr6 : IntKind.u32.wrap (pn : Int) = (pn : Int) := by rw [IntKind.wrap_u32]; have := HX.out.kN; have := HJ1.out; have := HMN.out; omega
          have LC := hide1 (HS2.out.zl.below (below1 (.cells #[.int .u32 (pn : Int), .string b] 175)) (Nat.le_refl _))
          have RC := hide1 (Rnl.one WF 175 pn b)
          have HLE : Hid ((pend (x.k + x.A.length + 1) (x.Q.take j)).length ≤ 1000000 ∧ g + 2 ≤ (WF.alloc (.cells #[.int .u32 (pn : Int), .string b] 175)).heap.size) := by
            have h1 := HX.out.Q64
            have h3 := (below1 (w := WF) (.cells #[.int .u32 (pn : Int), .string b] 175)).size
            have h4 := lt_heap HRT2.out
            refine ⟨?_, by omega⟩
            rw [pend_length, List.length_take]
            omega
          have HPN := hide1 hpn1
          clear hSL hRL hac' hj1 hpn1 hLN1 hcq
          have c8 := (box10 RB.out).2.1.2.2.2.1
          have cqq := CQ2.out
          go_upto_region 7 with (at_builtin; go_must (refine wpList_append_nls ntyR rfl _ _ rfl rfl rfl LC.out RC.out HLE.out.1 HLE.out.2 ?_); intro z2 WE ho hg hf; have HO := hide1 ho; have HGR := hide1 hg; have HFZ := hide1 hf; clear ho hg hf)
          have hk6 : Kp (fun b => zv.ownBlock = some b) WF WE := (Kp.ofBelow (below1 (.cells #[.int .u32 (pn : Int), .string b] 175))).trans (Kp.ofGrown HGR.out)
          have nz : ∀ b, zv.ownBlock = some b → g + 2 ≤ b ∧ b < Z.heap.size := fun b e => HS.out.zl.lt e
          have RG := hide1 ((hk6.block g (lt_heap RB.out) (fun e => by have := nz g e; omega)).trans RB.out)
          have R5 := hide1 ((hk6.block g5 (lt_heap MD.out.row) (fun e => by have := (nz g5 e).2; have := MD.out.le; omega)).trans MD.out.row)
          clear hk6 nz c8 cqq g0 wr6
          refine region_f (F := [5, 7]) (S := fun X => X.heap[g5]? = some (.cells #[.int .i64 0, .slice ua un uc, .int .i64 (x.k : Int)] 34 (0, 0)) ∧ X.heap[g]? = some (.cells #[.int .u32 (x.own : Int), .int .u32 (x.peer : Int), .bool x.sure, .int .i64 0, .slice ba bn bc, .int .i64 (x.k : Int), .int .i64 ((x.a : Int) + 1), .slice ha x.l.length hac, .slice (some ⟨gq, oq, none⟩) qn qc, .bool x.owed] 39 (0, 0))) (by kernel_rfl) ⟨R5.out, RG.out⟩ (fun hS => ?_)
          refine take_f 0 41 (.agg #[.int .i64 0, .slice ua un uc, .int .i64 (x.k : Int)]) [4, 5, 6, 7] rfl rfl (by kernel_rfl) (by kernel_rfl) (by kernel_rfl) (by kernel_rfl) (by kernel_rfl) (by kernel_rfl) (fun _ _ _ h => h) rfl (fun w hSw => by obtain ⟨h1, h2, h3⟩ := rowbox3 hSw.1; go_simp) hS ?_
          try simp only [List.setIfInBounds_toArray, List.set_cons_zero, List.set_cons_succ]
          refine take_p 1 42 (.pointer (some ⟨g, 8, none⟩)) rfl rfl (by kernel_rfl) (by kernel_rfl) (by kernel_rfl) (fun _ _ _ h => h) rfl (fun w => by go_simp) ?_
          try simp only [List.setIfInBounds_toArray, List.set_cons_zero, List.set_cons_succ]
          refine take_f 2 43 (.slice (some ⟨gq, oq, none⟩) qn qc) [3, 4, 5, 6, 7] rfl rfl (by kernel_rfl) (by kernel_rfl) (by kernel_rfl) (by kernel_rfl) (by kernel_rfl) (by kernel_rfl) (fun _ _ _ h => h) rfl (fun w hSw => by have h8 := (box10 hSw.2).2.1.2.2.2.1; go_simp) hS ?_
          try simp only [List.setIfInBounds_toArray, List.set_cons_zero, List.set_cons_succ]
          refine take_p 3 44 (.slice ac (qn - 1) (qc - 1)) rfl rfl (by kernel_rfl) (by kernel_rfl) (by kernel_rfl) (fun _ _ _ h => h) rfl (fun w => by have h9 := HSL.out w; go_simp) ?_
          try simp only [List.setIfInBounds_toArray, List.set_cons_zero, List.set_cons_succ]
          refine take_p 4 45 (.pointer (some ⟨g, 3, none⟩)) rfl rfl (by kernel_rfl) (by kernel_rfl) (by kernel_rfl) (fun _ _ _ h => h) rfl (fun w => by go_simp) ?_
          try simp only [List.setIfInBounds_toArray, List.set_cons_zero, List.set_cons_succ]
          have RGD : Hid ((World.drew WE).heap[g]? = some (.cells #[.int .u32 (x.own : Int), .int .u32 (x.peer : Int), .bool x.sure, .int .i64 0, .slice ba bn bc, .int .i64 (x.k : Int), .int .i64 ((x.a : Int) + 1), .slice ha x.l.length hac, .slice (some ⟨gq, oq, none⟩) qn qc, .bool x.owed] 39 (0, 0))) := RG.out
          refine ready_f 5 (o := { dst := none, op := Op.store 34 (Operand.tmp 45) (Operand.tmp 41), type := 0, pos := "ref.go:68", after := #[{ on := 4, ground := Ground.data }, { on := 0, ground := Ground.data }, { on := 0, ground := Ground.phase }, { on := 1, ground := Ground.phase }, { on := 2, ground := Ground.phase }, { on := 3, ground := Ground.textOnly Departure.lateStoresUnsure }], guard := none }) (by kernel_rfl) rfl (fun K hK => ?_)
          rw [if_pos (by rfl)]
          refine wp_store_mid 34 _ _ rfl g 3 #[.int .i64 0, .slice ua un uc, .int .i64 (x.k : Int)] rfl rfl (there3 RGD.out) (by kernel_rfl) (by simp [Value.oneCell']) ?_
          rw [show (#[.int .i64 0, .slice ua un uc, .int .i64 (x.k : Int)] : Array Value).toList = [.int .i64 0, .slice ua un uc, .int .i64 (x.k : Int)] from rfl, set_mid3 RGD.out]
          refine hK.out _ _ (fun h => absurd (by decide) h) ?_
          clear hK K
          have R1 : ((World.drew WE).setRow g #[.int .u32 (x.own : Int), .int .u32 (x.peer : Int), .bool x.sure, .int .i64 0, .slice ua un uc, .int .i64 (x.k : Int), .int .i64 ((x.a : Int) + 1), .slice ha x.l.length hac, .slice (some ⟨gq, oq, none⟩) qn qc, .bool x.owed]).heap[g]? = some (.cells #[.int .u32 (x.own : Int), .int .u32 (x.peer : Int), .bool x.sure, .int .i64 0, .slice ua un uc, .int .i64 (x.k : Int), .int .i64 ((x.a : Int) + 1), .slice ha x.l.length hac, .slice (some ⟨gq, oq, none⟩) qn qc, .bool x.owed] 39 (0, 0)) := setRow_heap _ _ _ _ _ _ RGD.out
          refine take_p 6 46 (.pointer (some ⟨g, 8, none⟩)) rfl rfl (by kernel_rfl) (by kernel_rfl) (by kernel_rfl) (fun _ _ _ h => h) rfl (fun w => by go_simp) ?_
          try simp only [List.setIfInBounds_toArray, List.set_cons_zero, List.set_cons_succ]
          have q8 := frozen_of_row _ g 8 _ _ R1
          have e8 := (box10 R1).2.1.2.2.2.1
          refine ready_f 7 (o := { dst := none, op := Op.store 32 (Operand.tmp 46) (Operand.tmp 44), type := 0, pos := "ref.go:68", after := #[{ on := 6, ground := Ground.data }, { on := 3, ground := Ground.data }, { on := 5, ground := Ground.chain }, { on := 0, ground := Ground.phase }, { on := 1, ground := Ground.phase }, { on := 2, ground := Ground.phase }, { on := 3, ground := Ground.phase }, { on := 4, ground := Ground.phase }, { on := 5, ground := Ground.phase }], guard := none }) (by kernel_rfl) rfl (fun K hK => ?_)
          go_simp
          refine hK.out _ _ (fun h => absurd (by decide) h) ?_
          clear hK K
          refine done_f (by kernel_rfl) ?_ _
          have HFS : Hid (Fst x LL (.slice ba0 LL.length bc0) (.slice ha x.l.length hac) (.slice la x.Q.length lc) g w (((World.drew WE).setRow g #[.int .u32 (x.own : Int), .int .u32 (x.peer : Int), .bool x.sure, .int .i64 0, .slice ua un uc, .int .i64 (x.k : Int), .int .i64 ((x.a : Int) + 1), .slice ha x.l.length hac, .slice (some ⟨gq, oq, none⟩) qn qc, .bool x.owed]).setCell ⟨g, 8, none⟩ (.slice ac (qn - 1) (qc - 1))) (j + 1) (.slice ua un uc) (.slice ac (qn - 1) (qc - 1)) z2) := by
            unfold Hid
            rw [setCell_eq_setRow _ g 8 _ _ (0, 0) _ R1, setRow_setRow]
            refine (Fst.step HS.out HMD.out ?_ HGR.out HFZ.out ?_ ?_ HCP.out).below (Below.refl _ _).drew
            · have h1 := HO.out
              rw [HPN.out, HB.out, pend_snoc _ _ _ (by have := HJ1.out; have := HMN.out; omega)] at h1
              exact h1
            · have h1 := HRL.out Z _ HS.out.ql
              rw [List.drop_drop] at h1
              exact h1
            · obtain ⟨o', h1⟩ := HAC.out
              rw [h1]
              rfl
          have MEAS : Hid (100 - lenOf z2 < 100 - lenOf zv) := by
            have h1 := nls_len HFS.out.zl
            have h2 := nls_len HS.out.zl
            rw [pend_length, List.length_take] at h1 h2
            have h3 := HJ1.out
            have h4 := HMN.out
            have h5 := HX.out.Q64
            unfold Hid
            rw [h1, h2]
            omega
          clear hS
          go_wp2
          exact ⟨⟨j + 1, _, _, _, HJ1.out, rfl, HFS.out⟩, MEAS.out⟩
        · have g0 : ((pc : Int) != 0) = true := by simp; omega
          have hjm := PC.out.2 hpc0
          have HE := hide1 (fst_end (cs := rcs x (.slice ba bn bc) (.slice ha x.l.length hac) (.slice (some ⟨gq, oq, none⟩) qn qc)) HG.out HF.out HX.out hm (hjm ▸ HS2.out))
          have SZ : Hid (Option.map (fun x => x.size) (Tryz.prog.info? 39) = some (rcs x (.slice ba bn bc) (.slice ha x.l.length hac) (.slice (some ⟨gq, oq, none⟩) qn qc)).size) := sz10 rfl
          have A1 : Hid ((rcs x (.slice ba bn bc) (.slice ha x.l.length hac) (.slice (some ⟨gq, oq, none⟩) qn qc)).all (·.oneCell') = true) := by
            unfold Hid rcs
            simp [Value.oneCell']
          have HBX : Hid (WF.heap[g]? = some (.cells (rcs x (.slice ba bn bc) (.slice ha x.l.length hac) (.slice (some ⟨gq, oq, none⟩) qn qc)) 39 (0, 0))) := HS2.out.box
          have HC1 : Hid (c0r2.size = (rcs x (.slice ba bn bc) (.slice ha x.l.length hac) (.slice (some ⟨gq, oq, none⟩) qn qc)).size) := HC2.out
          obtain ⟨RR, hRR⟩ : ∃ RR, RR = rcs x (.slice ba bn bc) (.slice ha x.l.length hac) (.slice (some ⟨gq, oq, none⟩) qn qc) := ⟨_, rfl⟩
          rw [← hRR] at HE SZ A1 HBX HC1
          have HRR := hide1 hRR
          clear hRR
          go_wp2_with (first | (refine wpList_load_row rfl 39 (.tmp 1) rfl g rfl 39 RR (0, 0) _ HBX.out Tryz.underlying39 rfl SZ.out ?_) | (refine wpList_store_row rfl 39 (.tmp 2) (.tmp 29) rfl (g + 1) RR rfl rfl 39 _ HRT2.out SZ.out HC1.out A1.out ?_))
          refine ret_l2 Tryz.results53 (g + 1) RR _ (by rw [HRR.out]; rfl) rfl rfl (setRow_heap _ _ _ _ _ _ HRT2.out) rfl ⟨_, _, _, by rw [HRR.out]; rfl, HE.out.1, HE.out.2⟩
      · go_simp
        have hS1 : Below Z.heap.size Z (Z.drew.alloc (.cells #[.int .i64 0, .slice none 0 0, .int .i64 0] 34)) := hS.alloc hS.size _
        have row5 := heap_alloc_new Z.drew (.cells #[.int .i64 0, .slice none 0 0, .int .i64 0] 34)
        have le5 : Z.heap.size ≤ Z.drew.heap.size := hS.size
        refine hK.out _ _ (fun _ _ => hS1) ?_
        clear hK K
        try simp only [Act.put, List.setIfInBounds_toArray, List.set_cons_zero, List.set_cons_succ]
        refine ready_f 6 (o := { dst := some 23, op := Op.call { callee := Callee.value (Operand.func 88), args := #[Operand.tmp 18, Operand.tmp 22], argTypes := #[34, 9] }, type := 173, pos := "ref.go:63", after := #[{ on := 1, ground := Ground.data }, { on := 5, ground := Ground.data }], guard := none }) (by kernel_rfl) rfl (fun K hK => ?_)
        go_simp
        refine (kP.out _ hS1).mono ?_
        rintro e w1 ⟨ua, un, uc, rfl, hu, hub, hbu⟩
        have hS2 : Below Z.heap.size Z w1 := hS1.trans (hbu.mono hS1.size)
        refine hK.out _ _ (fun _ _ => hS2) ?_
        clear hK K
        try simp only [Act.put, List.setIfInBounds_toArray, List.set_cons_zero, List.set_cons_succ]
        have row6 := (hbu.block _ (lt_heap row5)).trans row5
        refine take_p 7 16 (.tuple #[.agg #[.int .i64 0, .slice ua un uc, .int .i64 (x.k : Int)], .int .i64 (pn : Int), .int .i64 (pc : Int)]) rfl rfl (by kernel_rfl) (by kernel_rfl) (by kernel_rfl) (fun _ _ _ h => h) rfl (fun w => by go_simp) ?_
        try simp only [List.setIfInBounds_toArray, List.set_cons_zero, List.set_cons_succ]
        refine take_p 8 24 (.agg #[.int .i64 0, .slice ua un uc, .int .i64 (x.k : Int)]) rfl rfl (by kernel_rfl) (by kernel_rfl) (by kernel_rfl) (fun _ _ _ h => h) rfl (fun w => by go_simp) ?_
        try simp only [List.setIfInBounds_toArray, List.set_cons_zero, List.set_cons_succ]
        refine take_p 9 25 (.int .i64 (pn : Int)) rfl rfl (by kernel_rfl) (by kernel_rfl) (by kernel_rfl) (fun _ _ _ h => h) rfl (fun w => by go_simp) ?_
        try simp only [List.setIfInBounds_toArray, List.set_cons_zero, List.set_cons_succ]
        refine take_p 10 26 (.int .i64 (pc : Int)) rfl rfl (by kernel_rfl) (by kernel_rfl) (by kernel_rfl) (fun _ _ _ h => h) rfl (fun w => by go_simp) ?_
        try simp only [List.setIfInBounds_toArray, List.set_cons_zero, List.set_cons_succ]
        refine ready_f 12 (o := { dst := none, op := Op.store 34 (Operand.tmp 5) (Operand.tmp 24), type := 0, pos := "ref.go:63", after := #[{ on := 11, ground := Ground.data }, { on := 8, ground := Ground.data }, { on := 6, ground := Ground.chain }, { on := 0, ground := Ground.phase }, { on := 1, ground := Ground.phase }, { on := 2, ground := Ground.phase }, { on := 3, ground := Ground.phase }, { on := 4, ground := Ground.phase }, { on := 5, ground := Ground.phase }, { on := 6, ground := Ground.phase }, { on := 7, ground := Ground.phase }, { on := 8, ground := Ground.phase }, { on := 9, ground := Ground.textOnly Departure.lateStores }, { on := 10, ground := Ground.textOnly Departure.lateStores }, { on := 11, ground := Ground.phase }], guard := none }) (by kernel_rfl) rfl (fun K hK => ?_)
        rw [if_pos (by rfl)]
        refine wp_store_row 34 _ _ rfl (Z.heap.size) _ rfl rfl 34 _ row6 (by kernel_rfl) (by simp) (by simp [Value.oneCell']) ?_
        refine hK.out _ _ (fun _ h => below_setRow h (Nat.le_refl _) _) ?_
        clear hK K
        refine take_p 13 6 (.int .i64 (pn : Int)) rfl rfl (by kernel_rfl) (by kernel_rfl) (by kernel_rfl) (fun _ _ _ h => h) rfl (fun w => by go_simp) ?_
        try simp only [List.setIfInBounds_toArray, List.set_cons_zero, List.set_cons_succ]
        refine take_p 14 7 (.int .i64 (pc : Int)) rfl rfl (by kernel_rfl) (by kernel_rfl) (by kernel_rfl) (fun _ _ _ h => h) rfl (fun w => by go_simp) ?_
        try simp only [List.setIfInBounds_toArray, List.set_cons_zero, List.set_cons_succ]
        refine done_f (by kernel_rfl) ?_ _
        have MD := hide1 (md_b (k := x.k) hS2 row6 hu (fun h b e => (hub h b e).imp id (fun h => by simpa using h)))
        obtain ⟨g5, hg5⟩ : ∃ g5, Z.heap.size = g5 := ⟨_, rfl⟩
        rw [hg5] at MD ⊢
        generalize hWF : World.setRow _ g5 _ = WF at MD ⊢
        clear hg5 hWF
        have HS2 := hide1 (HS.out.below MD.out.bel)
        have HZ2 := hide1 (lt_heap HS.out.box)
        obtain ⟨c0r2, hc2, hrt2⟩ := HS2.out.ret
        have HRT2 := hide1 hrt2
        have HC2 := hide1 hc2
        have hsb := HS2.out.box
        rw [CE.out] at hsb
        have RB := hide1 hsb
        have CQ2 := hide1 (CQ.out WF MD.out.bel)
        clear hrt2 hc2 hsb
        by_cases hpc0 : pc = 0
        · have g0 : ((pc : Int) != 0) = false := by simp; omega
          obtain ⟨hj1, hpn1, hLN1⟩ := PC.out.1 hpc0
          have HJ1 := hide1 hj1
          have hcq : qn ≤ qc := by obtain ⟨_, _, _, e, h9⟩ := HS.out.cp; cases e; exact h9
          obtain ⟨ac, hSL, hac', hRL⟩ := run_from1 gq oq qn qc (by omega) hcq
          have HSL := hide1 hSL
          have HRL := hide1 hRL
          have HAC := hide1 hac'
          have HCP : Hid (Cp (.slice ac (qn - 1) (qc - 1))) := ⟨_, _, _, rfl, by omega⟩
          have HMD := hide1 (HLLP.out ▸ hLN1 ▸ MD.out)
          have wr6 : IntKind.u32.wrap (pn : Int) = (pn : Int) := by rw [IntKind.wrap_u32]; have := HX.out.kN; have := HJ1.out; have := HMN.out; omega
          have LC := hide1 (HS2.out.zl.below (below1 (.cells #[.int .u32 (pn : Int), .string b] 175)) (Nat.le_refl _))
          have RC := hide1 (Rnl.one WF 175 pn b)
          have HLE : Hid ((pend (x.k + x.A.length + 1) (x.Q.take j)).length ≤ 1000000 ∧ g + 2 ≤ (WF.alloc (.cells #[.int .u32 (pn : Int), .string b] 175)).heap.size) := by
            have h1 := HX.out.Q64
            have h3 := (below1 (w := WF) (.cells #[.int .u32 (pn : Int), .string b] 175)).size
            have h4 := lt_heap HRT2.out
            refine ⟨?_, by omega⟩
            rw [pend_length, List.length_take]
            omega
          have HPN := hide1 hpn1
          clear hSL hRL hac' hj1 hpn1 hLN1 hcq
          have c8 := (box10 RB.out).2.1.2.2.2.1
          have cqq := CQ2.out
          go_upto_region 7 with (at_builtin; go_must (refine wpList_append_nls ntyR rfl _ _ rfl rfl rfl LC.out RC.out HLE.out.1 HLE.out.2 ?_); intro z2 WE ho hg hf; have HO := hide1 ho; have HGR := hide1 hg; have HFZ := hide1 hf; clear ho hg hf)
          have hk6 : Kp (fun b => zv.ownBlock = some b) WF WE := (Kp.ofBelow (below1 (.cells #[.int .u32 (pn : Int), .string b] 175))).trans (Kp.ofGrown HGR.out)
          have nz : ∀ b, zv.ownBlock = some b → g + 2 ≤ b ∧ b < Z.heap.size := fun b e => HS.out.zl.lt e
          have RG := hide1 ((hk6.block g (lt_heap RB.out) (fun e => by have := nz g e; omega)).trans RB.out)
          have R5 := hide1 ((hk6.block g5 (lt_heap MD.out.row) (fun e => by have := (nz g5 e).2; have := MD.out.le; omega)).trans MD.out.row)
          clear hk6 nz c8 cqq g0 wr6
          refine region_f (F := [5, 7]) (S := fun X => X.heap[g5]? = some (.cells #[.int .i64 0, .slice ua un uc, .int .i64 (x.k : Int)] 34 (0, 0)) ∧ X.heap[g]? = some (.cells #[.int .u32 (x.own : Int), .int .u32 (x.peer : Int), .bool x.sure, .int .i64 0, .slice ba bn bc, .int .i64 (x.k : Int), .int .i64 ((x.a : Int) + 1), .slice ha x.l.length hac, .slice (some ⟨gq, oq, none⟩) qn qc, .bool x.owed] 39 (0, 0))) (by kernel_rfl) ⟨R5.out, RG.out⟩ (fun hS => ?_)
          refine take_f 0 41 (.agg #[.int .i64 0, .slice ua un uc, .int .i64 (x.k : Int)]) [4, 5, 6, 7] rfl rfl (by kernel_rfl) (by kernel_rfl) (by kernel_rfl) (by kernel_rfl) (by kernel_rfl) (by kernel_rfl) (fun _ _ _ h => h) rfl (fun w hSw => by obtain ⟨h1, h2, h3⟩ := rowbox3 hSw.1; go_simp) hS ?_
          try simp only [List.setIfInBounds_toArray, List.set_cons_zero, List.set_cons_succ]
          refine take_p 1 42 (.pointer (some ⟨g, 8, none⟩)) rfl rfl (by kernel_rfl) (by kernel_rfl) (by kernel_rfl) (fun _ _ _ h => h) rfl (fun w => by go_simp) ?_
          try simp only [List.setIfInBounds_toArray, List.set_cons_zero, List.set_cons_succ]
          refine take_f 2 43 (.slice (some ⟨gq, oq, none⟩) qn qc) [3, 4, 5, 6, 7] rfl rfl (by kernel_rfl) (by kernel_rfl) (by kernel_rfl) (by kernel_rfl) (by kernel_rfl) (by kernel_rfl) (fun _ _ _ h => h) rfl (fun w hSw => by have h8 := (box10 hSw.2).2.1.2.2.2.1; go_simp) hS ?_
          try simp only [List.setIfInBounds_toArray, List.set_cons_zero, List.set_cons_succ]
          refine take_p 3 44 (.slice ac (qn - 1) (qc - 1)) rfl rfl (by kernel_rfl) (by kernel_rfl) (by kernel_rfl) (fun _ _ _ h => h) rfl (fun w => by have h9 := HSL.out w; go_simp) ?_
          try simp only [List.setIfInBounds_toArray, List.set_cons_zero, List.set_cons_succ]
          refine take_p 4 45 (.pointer (some ⟨g, 3, none⟩)) rfl rfl (by kernel_rfl) (by kernel_rfl) (by kernel_rfl) (fun _ _ _ h => h) rfl (fun w => by go_simp) ?_
          try simp only [List.setIfInBounds_toArray, List.set_cons_zero, List.set_cons_succ]
          have RGD : Hid ((World.drew WE).heap[g]? = some (.cells #[.int .u32 (x.own : Int), .int .u32 (x.peer : Int), .bool x.sure, .int .i64 0, .slice ba bn bc, .int .i64 (x.k : Int), .int .i64 ((x.a : Int) + 1), .slice ha x.l.length hac, .slice (some ⟨gq, oq, none⟩) qn qc, .bool x.owed] 39 (0, 0))) := RG.out
          refine ready_f 5 (o := { dst := none, op := Op.store 34 (Operand.tmp 45) (Operand.tmp 41), type := 0, pos := "ref.go:68", after := #[{ on := 4, ground := Ground.data }, { on := 0, ground := Ground.data }, { on := 0, ground := Ground.phase }, { on := 1, ground := Ground.phase }, { on := 2, ground := Ground.phase }, { on := 3, ground := Ground.textOnly Departure.lateStoresUnsure }], guard := none }) (by kernel_rfl) rfl (fun K hK => ?_)
          rw [if_pos (by rfl)]
          refine wp_store_mid 34 _ _ rfl g 3 #[.int .i64 0, .slice ua un uc, .int .i64 (x.k : Int)] rfl rfl (there3 RGD.out) (by kernel_rfl) (by simp [Value.oneCell']) ?_
          rw [show (#[.int .i64 0, .slice ua un uc, .int .i64 (x.k : Int)] : Array Value).toList = [.int .i64 0, .slice ua un uc, .int .i64 (x.k : Int)] from rfl, set_mid3 RGD.out]
          refine hK.out _ _ (fun h => absurd (by decide) h) ?_
          clear hK K
          have R1 : ((World.drew WE).setRow g #[.int .u32 (x.own : Int), .int .u32 (x.peer : Int), .bool x.sure, .int .i64 0, .slice ua un uc, .int .i64 (x.k : Int), .int .i64 ((x.a : Int) + 1), .slice ha x.l.length hac, .slice (some ⟨gq, oq, none⟩) qn qc, .bool x.owed]).heap[g]? = some (.cells #[.int .u32 (x.own : Int), .int .u32 (x.peer : Int), .bool x.sure, .int .i64 0, .slice ua un uc, .int .i64 (x.k : Int), .int .i64 ((x.a : Int) + 1), .slice ha x.l.length hac, .slice (some ⟨gq, oq, none⟩) qn qc, .bool x.owed] 39 (0, 0)) := setRow_heap _ _ _ _ _ _ RGD.out
          refine take_p 6 46 (.pointer (some ⟨g, 8, none⟩)) rfl rfl (by kernel_rfl) (by kernel_rfl) (by kernel_rfl) (fun _ _ _ h => h) rfl (fun w => by go_simp) ?_
          try simp only [List.setIfInBounds_toArray, List.set_cons_zero, List.set_cons_succ]
          have q8 := frozen_of_row _ g 8 _ _ R1
          have e8 := (box10 R1).2.1.2.2.2.1
          refine ready_f 7 (o := { dst := none, op := Op.store 32 (Operand.tmp 46) (Operand.tmp 44), type := 0, pos := "ref.go:68", after := #[{ on := 6, ground := Ground.data }, { on := 3, ground := Ground.data }, { on := 5, ground := Ground.chain }, { on := 0, ground := Ground.phase }, { on := 1, ground := Ground.phase }, { on := 2, ground := Ground.phase }, { on := 3, ground := Ground.phase }, { on := 4, ground := Ground.phase }, { on := 5, ground := Ground.phase }], guard := none }) (by kernel_rfl) rfl (fun K hK => ?_)
          go_simp
          refine hK.out _ _ (fun h => absurd (by decide) h) ?_
          clear hK K
          refine done_f (by kernel_rfl) ?_ _
          have HFS : Hid (Fst x LL (.slice ba0 LL.length bc0) (.slice ha x.l.length hac) (.slice la x.Q.length lc) g w (((World.drew WE).setRow g #[.int .u32 (x.own : Int), .int .u32 (x.peer : Int), .bool x.sure, .int .i64 0, .slice ua un uc, .int .i64 (x.k : Int), .int .i64 ((x.a : Int) + 1), .slice ha x.l.length hac, .slice (some ⟨gq, oq, none⟩) qn qc, .bool x.owed]).setCell ⟨g, 8, none⟩ (.slice ac (qn - 1) (qc - 1))) (j + 1) (.slice ua un uc) (.slice ac (qn - 1) (qc - 1)) z2) := by
            unfold Hid
            rw [setCell_eq_setRow _ g 8 _ _ (0, 0) _ R1, setRow_setRow]
            refine (Fst.step HS.out HMD.out ?_ HGR.out HFZ.out ?_ ?_ HCP.out).below (Below.refl _ _).drew
            · have h1 := HO.out
              rw [HPN.out, HB.out, pend_snoc _ _ _ (by have := HJ1.out; have := HMN.out; omega)] at h1
              exact h1
            · have h1 := HRL.out Z _ HS.out.ql
              rw [List.drop_drop] at h1
              exact h1
            · obtain ⟨o', h1⟩ := HAC.out
              rw [h1]
              rfl
          have MEAS : Hid (100 - lenOf z2 < 100 - lenOf zv) := by
            have h1 := nls_len HFS.out.zl
            have h2 := nls_len HS.out.zl
            rw [pend_length, List.length_take] at h1 h2
            have h3 := HJ1.out
            have h4 := HMN.out
            have h5 := HX.out.Q64
            unfold Hid
            rw [h1, h2]
            omega
          clear hS
          go_wp2
          exact ⟨⟨j + 1, _, _, _, HJ1.out, rfl, HFS.out⟩, MEAS.out⟩
        · have g0 : ((pc : Int) != 0) = true := by simp; omega
          have hjm := PC.out.2 hpc0
          have HE := hide1 (fst_end (cs := rcs x (.slice ba bn bc) (.slice ha x.l.length hac) (.slice (some ⟨gq, oq, none⟩) qn qc)) HG.out HF.out HX.out hm (hjm ▸ HS2.out))
          have SZ : Hid (Option.map (fun x => x.size) (Tryz.prog.info? 39) = some (rcs x (.slice ba bn bc) (.slice ha x.l.length hac) (.slice (some ⟨gq, oq, none⟩) qn qc)).size) := sz10 rfl
          have A1 : Hid ((rcs x (.slice ba bn bc) (.slice ha x.l.length hac) (.slice (some ⟨gq, oq, none⟩) qn qc)).all (·.oneCell') = true) := by
            unfold Hid rcs
            simp [Value.oneCell']
          have HBX : Hid (WF.heap[g]? = some (.cells (rcs x (.slice ba bn bc) (.slice ha x.l.length hac) (.slice (some ⟨gq, oq, none⟩) qn qc)) 39 (0, 0))) := HS2.out.box
          have HC1 : Hid (c0r2.size = (rcs x (.slice ba bn bc) (.slice ha x.l.length hac) (.slice (some ⟨gq, oq, none⟩) qn qc)).size) := HC2.out
          obtain ⟨RR, hRR⟩ : ∃ RR, RR = rcs x (.slice ba bn bc) (.slice ha x.l.length hac) (.slice (some ⟨gq, oq, none⟩) qn qc) := ⟨_, rfl⟩
          rw [← hRR] at HE SZ A1 HBX HC1
          have HRR := hide1 hRR
          clear hRR
          go_wp2_with (first | (refine wpList_load_row rfl 39 (.tmp 1) rfl g rfl 39 RR (0, 0) _ HBX.out Tryz.underlying39 rfl SZ.out ?_) | (refine wpList_store_row rfl 39 (.tmp 2) (.tmp 29) rfl (g + 1) RR rfl rfl 39 _ HRT2.out SZ.out HC1.out A1.out ?_))
          refine ret_l2 Tryz.results53 (g + 1) RR _ (by rw [HRR.out]; rfl) rfl rfl (setRow_heap _ _ _ _ _ _ HRT2.out) rfl ⟨_, _, _, by rw [HRR.out]; rfl, HE.out.1, HE.out.2⟩
end Go.Proofs.YtcadlcpccemkbaaGreatDoor
