/- The document's Receive, of a frame that can be read. -/
import Derived.Test.YtcadlcpccemkbaaGreatDoorMDgDh
namespace Go.Proofs.YtcadlcpccemkbaaGreatDoor
open Go.RowKit
set_option maxRecDepth 100000
attribute [local go_sem] not_any

set_option maxHeartbeats 8000000 in
theorem rrecv_good {N : Nat} (x : Ls) (LL : List ByteArray) (LLv hv lv : Value) (w : World) (t : ByteArray) (k o p q a : Nat) (b : ByteArray) (hk : 1 ≤ k ∧ k ≤ 3) (ho0 : 0 < o) (ho : o < 4294967296) (hq : q < 4294967296) (ha : a < 4294967296) (h : Rf x LL LLv hv lv w) (hx : x.Ok N) (hN : N + 1000 < 4294967296)
    (kD : ∀ w, Hid (Calls Tryz.prog 59 #[.string t] w fun e w' => e = .returned (.tuple #[.agg (fraC k o p q a b), .int .i64 0]) ∧ Below w.heap.size w w')) :
    Calls Tryz.prog 31 #[rv x LLv hv lv, .string t] w fun e w' => Rcv x LL LLv hv lv w (x.takeX k o p q a b) (x.takeB k o p q a b) (x.takeA o) (x.takeC k o p q a : Int) e w' := by
  obtain ⟨Q, hQ⟩ : ∃ Q : Ending → World → Prop, Q = fun e w' => Rcv x LL LLv hv lv w (x.takeX k o p q a b) (x.takeB k o p q a b) (x.takeA o) (x.takeC k o p q a : Int) e w' := ⟨_, rfl⟩
  have HQ : Hid (∀ y Bs an c2 e w', y = x.takeX k o p q a b → Bs = x.takeB k o p q a b → an = x.takeA o → c2 = (x.takeC k o p q a : Int) → Rcv x LL LLv hv lv w y Bs an c2 e w' → Q e w') := fun y Bs an c2 e w' e1 e2 e3 e4 hh => by subst e1 e2 e3 e4; rw [hQ]; exact hh
  suffices hs : Calls Tryz.prog 31 #[rv x LLv hv lv, .string t] w fun e w' => Q e w' by rw [hQ] at hs; exact hs
  have HX := hide1 hx
  have HN := hide1 hN
  have HK := hide1 hk
  have HO := hide1 ho
  have HO0 := hide1 ho0
  have HLT := hide1 (And.intro hq ha)
  clear hQ hx hN hk ho ho0 hq ha
  obtain ⟨g, hg⟩ : ∃ g, w.heap.size = g := ⟨_, rfl⟩
  have HF := hide1 h
  unfold rv
  have cE : ∀ y L h l, rcs y L h l = #[.int .u32 (y.own : Int), .int .u32 (y.peer : Int), .bool y.sure, .int .i64 0, L, .int .i64 (y.k : Int), .int .i64 ((y.a : Int) + 1), h, l, .bool y.owed] := fun _ _ _ _ => rfl
  rw [cE]
  clear h cE
  go_enter Tryz.func31, Tryz.ntmps31
  go_upto_region 1 with (fail)
  generalize hW : World.alloc (World.alloc (World.alloc w _) _) _ = W0
  have G4 : Hid (w.heap.size + 1 = g + 1 ∧ g + 1 < g + 1 + 1) := ⟨by rw [hg], by omega⟩
  have bel0 : Below w.heap.size w W0 := by rw [← hW]; exact (((Below.refl _ _).alloc (Nat.le_refl _) _).alloc (by simp) _).alloc (by simp <;> omega) _
  have BG0 : Hid (W0.heap[g]? = some (.cells (rcs x LLv hv lv) 39 (0, 0))) := by
    unfold Hid
    rw [← hW, ← hg]
    exact ((below1 _).block _ (by simp <;> omega)).trans (heap_alloc2_old w _ _)
  have B40 : Hid (W0.heap[g + 1]? = some (.cells zeroLink 39 (0, 0))) := by
    unfold Hid
    rw [← hW, ← hg]
    exact ((below1 _).block _ (by simp <;> omega)).trans (heap_alloc2_new w _ _)
  have B50 : Hid (W0.heap[g + 1 + 1]? = some (.cells (gotC (.slice none 0 0) false 0) 85 (0, 0))) := by
    unfold Hid
    have e : ((w.alloc (.cells (rcs x LLv hv lv) 39)).alloc (.cells zeroLink 39)).heap.size = g + 1 + 1 := by simp [hg]
    rw [← hW, ← e]
    exact heap_alloc_new _ _
  have RW0 : Hid (Rw (fun b => b = g ∨ b = g + 1 ∨ b = g + 1 + 1) x LL LLv hv lv w x LL LLv hv lv W0) := by
    have h1 : ∀ b, b = g ∨ b = g + 1 ∨ b = g + 1 + 1 → w.heap.size ≤ b := fun b hb => by omega
    exact ⟨HF.out.below bel0, bel0, fun _ hb => .inl hb, fun b hb hF => by have h2 := HF.out.lt hb; have h3 := h1 b hF; omega, fun b hb => ⟨h1 b hb, by have := lt_heap B50.out; omega⟩⟩
  obtain ⟨g4, hg4⟩ : ∃ g4, g + 1 = g4 := ⟨_, rfl⟩
  obtain ⟨g5, hg5⟩ : ∃ g5, g4 + 1 = g5 := ⟨_, rfl⟩
  have G45 : Hid (g < g4 ∧ g4 < g5) := ⟨by omega, by omega⟩
  rw [hg4] at B40
  rw [hg4, hg5] at B50
  rw [hg4, hg5] at RW0
  rw [hg4, hg5]
  clear hW G4 hg hg4 hg5 bel0
  go_wp2_with (fail)
  refine (kD _).out.mono ?_
  rintro e W1 ⟨rfl, hb1⟩
  have RW1 := hide1 (RW0.out.below hb1)
  have BG1 := hide1 ((hb1.block _ (lt_heap BG0.out)).trans BG0.out)
  have B41 := hide1 ((hb1.block _ (lt_heap B40.out)).trans B40.out)
  have B51 := hide1 ((hb1.block _ (lt_heap B50.out)).trans B50.out)
  clear hb1 BG0 B40 B50 RW0 kD
  go_upto_region 2 with (first | (refine wpList_store_row rfl 42 (.tmp 6) (.tmp 16) rfl W1.heap.size (fraC k o p q a b) rfl rfl 42 _ (heap_alloc_new W1 _) (by kernel_rfl) rfl (by simp [fraC, Value.oneCell']) ?_) | fail)
  generalize hW : World.setRow (World.alloc W1 _) _ _ = W2
  have b12 : Below W1.heap.size W1 W2 := by rw [← hW]; exact below_setRow (below1 _) (Nat.le_refl _) _
  have B6 : Hid (W2.heap[W1.heap.size]? = some (.cells (fraC k o p q a b) 42 (0, 0))) := by unfold Hid; rw [← hW]; exact setRow_heap _ _ _ _ _ _ (heap_alloc_new W1 _)
  have RWP := RW1.out.below b12
  have BG2 := hide1 ((b12.block _ (lt_heap BG1.out)).trans BG1.out)
  have B42 := hide1 ((b12.block _ (lt_heap B41.out)).trans B41.out)
  have B52 := hide1 ((b12.block _ (lt_heap B51.out)).trans B51.out)
  obtain ⟨g6, hg6⟩ : ∃ g6, W1.heap.size = g6 := ⟨_, rfl⟩
  have G6 : Hid (g5 < g6 ∧ g6 < W2.heap.size ∧ w.heap.size ≤ g6) := ⟨by have := lt_heap B51.out; omega, by have := lt_heap B6.out; omega, by have := RW1.out.bel.size; omega⟩
  have HNF : ∀ b, Ro x LL LLv hv lv b → ¬ b = g6 := fun b hb e => by have h1 := RW1.out.rf.lt hb; omega
  have NE : Hid (g < g4 ∧ g4 < g5 ∧ g5 < g6 ∧ g6 < W2.heap.size) := ⟨G45.out.1, G45.out.2, G6.out.1, G6.out.2.1⟩
  have RW2 : Hid (Rw (F5 g g4 g5 g6 g6) x LL LLv hv lv w x LL LLv hv lv W2) := by
    refine ⟨RWP.rf, RWP.bel, RWP.ro, fun b hb hF => ?_, fun b hb => ?_⟩
    · rcases hF with e | e | e | e | e
      · exact RWP.nf b hb (.inl e)
      · exact RWP.nf b hb (.inr (.inl e))
      · exact RWP.nf b hb (.inr (.inr e))
      · exact HNF b hb e
      · exact HNF b hb e
    · rcases hb with e | e | e | e | e
      · exact RWP.fb b (.inl e)
      · exact RWP.fb b (.inr (.inl e))
      · exact RWP.fb b (.inr (.inr e))
      · subst e; exact ⟨G6.out.2.2, G6.out.2.1⟩
      · subst e; exact ⟨G6.out.2.2, G6.out.2.1⟩
  rw [hg6] at B6 ⊢
  clear hW b12 RWP HNF hg6 RW1 BG1 B41 B51

  obtain ⟨d0, d1, d2, d3, d4, d5, _⟩ := X.box6 B6.out
  obtain ⟨⟨c0, c1, c2, c3, c4⟩, ⟨c5, c6, c7, c8, c9⟩, fz, _⟩ := box10 BG2.out
  by_cases hpast : o < x.peer
  · have gp : (o : Int) < (x.peer : Int) := by omega
    have RES : Hid (({ x with owed := true } : Ls) = x.takeX k o p q a b ∧ [] = x.takeB k o p q a b ∧ false = x.takeA o ∧ (21 : Int) = (x.takeC k o p q a : Int)) := by
      unfold Hid Ls.takeX Ls.takeB Ls.takeA Ls.takeC
      rw [if_pos hpast, if_pos hpast, if_pos hpast, if_pos hpast]
      exact ⟨rfl, rfl, rfl, rfl⟩
    clear hpast
    have f9 := fz 9
    go_upto_region 6 with (fail)
    have BG3 : Hid ((W2.setCell ⟨g, 9, none⟩ (.bool true)).heap[g]? = some (.cells (rcs { x with owed := true } LLv hv lv) 39 (0, 0))) := by unfold Hid; rw [heap_setCell_same _ g 9 _ _ _ BG2.out]; rfl
    have B43 : Hid ((W2.setCell ⟨g, 9, none⟩ (.bool true)).heap[g4]? = some (.cells zeroLink 39 (0, 0))) := (heap_setCell_other _ _ _ _ (by show g4 ≠ g; have := NE.out.1; omega)).trans B42.out
    have B53 : Hid ((W2.setCell ⟨g, 9, none⟩ (.bool true)).heap[g5]? = some (.cells (gotC (.slice none 0 0) false 0) 85 (0, 0))) := (heap_setCell_other _ _ _ _ (by show g5 ≠ g; have := NE.out; omega)).trans B52.out
    have RW3 := hide1 ((RW2.out.cell (b := g) (.inl rfl) 9 (.bool true)).mark (x2 := { x with owed := true }) rfl rfl rfl rfl)
    generalize W2.setCell ⟨g, 9, none⟩ (.bool true) = W3 at BG3 B43 B53 RW3 ⊢
    clear c0 c1 c2 c3 c4 c5 c6 c7 c8 c9 fz f9 d0 d1 d2 d3 d4 d5
    have FN := hide1 (fin_of (bv := .slice none 0 0) (Bs := []) RW3.out (.inr (.inl rfl)) (.inr (.inr (.inl rfl))) NE.out.2.1 B43.out B53.out ⟨none, 0, rfl, fun j hj => by simp at hj⟩ (fun h => absurd rfl h) (fun h => absurd rfl h) (Nat.le_refl _) false 21)
    have BGF := hide1 BG3.out
    generalize rcs _ _ _ _ = RY at FN BGF
    go_wp2_with (first | (refine wpList_load_row rfl 39 (.tmp 2) rfl g rfl 39 RY (0, 0) _ BGF.out Tryz.underlying39 rfl FN.out.sz ?_) | (refine wpList_store_row rfl 39 (.tmp 4) (.tmp 29) rfl g4 RY rfl rfl 39 _ FN.out.b4 FN.out.sz FN.out.c4 FN.out.one ?_) | (refine wpList_store_row rfl 85 (.tmp 5) (.tmp 30) rfl g5 (gotC (.slice none 0 0) false 21) rfl rfl 85 _ FN.out.b5 FN.out.szg FN.out.c5 FN.out.oneg ?_) | fail)
    exact ret_lg Tryz.results31 g4 g5 RY (gotC (.slice none 0 0) false 21) FN.out.s10 FN.out.s3 rfl rfl FN.out.f4 FN.out.f5 rfl (HQ.out _ _ _ _ _ _ RES.out.1 RES.out.2.1 RES.out.2.2.1 RES.out.2.2.2 FN.out.rcv)
  · have gp : ¬ (o : Int) < (x.peer : Int) := by omega
    go_upto_region 8 with (fail)
    obtain ⟨g8, hg8⟩ : ∃ g8, W2.heap.size = g8 := ⟨_, rfl⟩
    have RB0 : Hid (Rbx x LL LLv hv lv w g g4 g5 g6 g8 (k : Int) (o : Int) (p : Int) (q : Int) (a : Int) b x LL LLv hv lv (.slice none 0 0) [] false 0 (W2.alloc (.cells (gotC (.slice none 0 0) false 0) 85))) := by
      have b1 : Below W2.heap.size W2 (W2.alloc (.cells (gotC (.slice none 0 0) false 0) 85)) := below1 _
      refine ⟨(RW2.out.more (.cells (gotC (.slice none 0 0) false 0) 85)).mono fun b hb => ?_, (b1.block _ (lt_heap BG2.out)).trans BG2.out, (b1.block _ (lt_heap B42.out)).trans B42.out, (b1.block _ (lt_heap B52.out)).trans B52.out, (b1.block _ (lt_heap B6.out)).trans B6.out, by rw [← hg8]; exact heap_alloc_new _ _, ⟨none, 0, rfl, fun j hj => by simp at hj⟩, fun h => absurd rfl h, fun h => absurd rfl h, hg8 ▸ NE.out, Nat.le_refl _⟩
      rcases hb with e | e | e | e | e
      · exact .inl (.inl e)
      · exact .inl (.inr (.inl e))
      · exact .inl (.inr (.inr (.inl e)))
      · exact .inl (.inr (.inr (.inr (.inl e))))
      · exact .inr (by rw [hg8]; exact e)
    rw [hg8]
    change Hid (Rbx x LL LLv hv lv w g g4 g5 g6 g8 (k : Int) (o : Int) (p : Int) (q : Int) (a : Int) b x LL LLv hv lv (.slice none 0 0) [] false 0 _) at RB0
    unfold gotC at RB0
    generalize hWA : World.alloc W2 _ = WA at RB0 ⊢
    clear hWA hg8 c0 c1 c2 c3 c4 c5 c6 c7 c8 c9 fz d0 d1 d2 d3 d4 d5 BG2 B42 B52 B6 RW2 NE G6
    obtain ⟨y, hy⟩ : ∃ y, y = x.meet o := ⟨_, rfl⟩
    have HY := hide1 hy
    have HPX := hide1 hpast
    clear hy hpast
    obtain ⟨⟨c0, c1, c2, c3, c4⟩, ⟨c5, c6, c7, c8, c9⟩, fz, _⟩ := box10 RB0.out.bg
    obtain ⟨d0, d1, d2, d3, d4, d5, _⟩ := X.box6 RB0.out.b6
    obtain ⟨e0, e1, e2⟩ := rowbox3 RB0.out.b8
    have fe := fun j => frozen_of_row _ g8 j _ _ RB0.out.b8
    go_upto_if 35 with (fail)
    go_cut [7] from 35 to 46 (fun x7 wx => x7 = .int .i64 0 ∧ ∃ LL1 L1 h1 l1, Rbx x LL LLv hv lv w g g4 g5 g6 g8 (k : Int) (o : Int) (p : Int) (q : Int) (a : Int) b y LL1 L1 h1 l1 (.slice none 0 0) [] (x.takeA o) 0 wx)
    case first =>
      by_cases hop : o = x.peer
      · have gq : decide (x.peer < o) = false := by simp; omega
        rw [gq]
        have HR : Hid (y = x ∧ false = x.takeA o) := by
          refine ⟨by rw [HY.out, Ls.meet, if_pos hop], ?_⟩
          unfold Ls.takeA Ls.anew
          rw [if_neg HPX.out]
          simp [hop]
        clear hop
        go_wp2_with fail
        go_meet
        refine ⟨rfl, LL, LLv, hv, lv, ?_⟩
        rw [HR.out.1, ← HR.out.2]
        exact RB0.out
      · have gq : decide (x.peer < o) = true := by have := HPX.out; simp; omega
        rw [gq]
        obtain ⟨an, han⟩ : ∃ an, an = x.takeA o := ⟨_, rfl⟩
        have HR : Hid ((⟨x.own, o, false, true, 0, [], 0, [], []⟩ : Ls) = y) := by unfold Hid; rw [HY.out, Ls.meet, if_neg hop]
        have hav : an = decide (0 < x.peer) := by
          rw [han]
          unfold Ls.takeA Ls.anew
          rw [if_neg HPX.out]
          by_cases h0 : x.peer = 0
          · simp [h0]
          · simp [h0, hop]
            omega
        have HAV := hide1 hav
        clear hop hav
        go_upto_region 9 with (fail)
        have f81 := fe 1
        go_upto_region 10 with (fail)
        rw [show decide (0 < x.peer) = an from HAV.out.symm]
        have RB1 := hide1 (RB0.out.gotA an)
        generalize WA.setCell ⟨g8, 1, none⟩ (.bool an) = WB at RB1 ⊢
        clear c0 c1 c2 c3 c4 c5 c6 c7 c8 c9 fz d0 d1 d2 d3 d4 d5 e0 e1 e2 fe
        clear f81 gq gp
        obtain ⟨⟨c0, c1, c2, c3, c4⟩, ⟨c5, c6, c7, c8, c9⟩, fz, _⟩ := box10 RB1.out.bg
        obtain ⟨d0, d1, d2, d3, d4, d5, _⟩ := X.box6 RB1.out.b6
        obtain ⟨e0, e1, e2⟩ := rowbox3 RB1.out.b8
        have fe := fun j => frozen_of_row _ g8 j _ _ RB1.out.b8
        have kW := hide1 (rnew_any x.own WB)
        go_wp2_with (fail)
        refine kW.out.mono ?_
        rintro e WC ⟨rfl, hbc⟩
        have RB2 := hide1 (RB1.out.below hbc)
        have RBN := hide1 (RB2.out.row (RB2.out.rw.newly (Ls.new x.own) rfl rfl rfl rfl) (Nat.zero_le _))
        have A1 := hide1 (rcs_one (Ls.new x.own) (RB2.out.rw.newly (Ls.new x.own) rfl rfl rfl rfl).rf)
        have SZN : Hid (Option.map (fun x => x.size) (Tryz.prog.info? 39) = some (rcs (Ls.new x.own) (.slice none 0 0) (.slice none 0 0) (.slice none 0 0)).size) := sz10 rfl
        clear hbc kW
        clear c0 c1 c2 c3 c4 c5 c6 c7 c8 c9 fz d0 d1 d2 d3 d4 d5 e0 e1 e2 fe
        go_upto_region 11 with (first | (refine wpList_store_row rfl 39 (.tmp 2) (.tmp 42) rfl g (rcs (Ls.new x.own) (.slice none 0 0) (.slice none 0 0) (.slice none 0 0)) rfl rfl 39 _ RB2.out.bg SZN.out rfl A1.out ?_) | fail)
        generalize WC.setRow g (rcs (Ls.new x.own) (.slice none 0 0) (.slice none 0 0) (.slice none 0 0)) = WD at RBN ⊢
        obtain ⟨⟨c0, c1, c2, c3, c4⟩, ⟨c5, c6, c7, c8, c9⟩, fz, _⟩ := box10 RBN.out.bg
        obtain ⟨d0, d1, d2, d3, d4, d5, _⟩ := X.box6 RBN.out.b6
        obtain ⟨e0, e1, e2⟩ := rowbox3 RBN.out.b8
        have fe := fun j => frozen_of_row _ g8 j _ _ RBN.out.b8
        have q1 := fz 1
        have RBP := hide1 (RBN.out.mark (y2 := ⟨x.own, o, false, false, 0, [], 0, [], []⟩) 1 (.int .u32 (o : Int)) rfl rfl rfl rfl rfl)
        have w9 := (box10 RBP.out.bg).2.1.2.2.2.2
        have q9 := (box10 RBP.out.bg).2.2.1 9
        go_wp2_with fail
        go_meet
        refine ⟨rfl, [], (.slice none 0 0), (.slice none 0 0), (.slice none 0 0), ?_⟩
        rw [← HR.out, ← han]
        exact RBP.out.mark (y2 := ⟨x.own, o, false, true, 0, [], 0, [], []⟩) 9 (.bool true) rfl rfl rfl rfl rfl
    case rest =>
      obtain ⟨rfl, LL1, L1, h1, l1, hRB⟩ := hcut
      have RB1 := hide1 hRB
      clear hRB RB0 gp c0 c1 c2 c3 c4 c5 c6 c7 c8 c9 fz d0 d1 d2 d3 d4 d5 e0 e1 e2 fe
      have HYO : Hid (y.own = x.own) := by unfold Hid; rw [HY.out]; exact Ls.meet_own x o
      have HOK : Hid (y.Ok N) := HY.out ▸ HX.out.meet HO.out
      obtain ⟨⟨c0, c1, c2, c3, c4⟩, ⟨c5, c6, c7, c8, c9⟩, fz, _⟩ := box10 RB1.out.bg
      obtain ⟨d0, d1, d2, d3, d4, d5, _⟩ := X.box6 RB1.out.b6
      obtain ⟨e0, e1, e2⟩ := rowbox3 RB1.out.b8
      have fe := fun j => frozen_of_row _ g8 j _ _ RB1.out.b8
      by_cases hpo : p = x.own
      · have g12 : ((p : Int) != (y.own : Int)) = false := by simp; have := HYO.out; omega
        have f2 := fz 2
        have HPO := hide1 hpo
        clear hpo
        go_upto_region 18 with (fail)
        have RBS := hide1 (RB1.out.mark (y2 := { y with sure := true }) 2 (.bool true) rfl rfl rfl rfl rfl)
        generalize wc.setCell ⟨g, 2, none⟩ (.bool true) = WS at RBS ⊢
        clear f2 g12
        clear c0 c1 c2 c3 c4 c5 c6 c7 c8 c9 fz d0 d1 d2 d3 d4 d5 e0 e1 e2 fe
        obtain ⟨y2, hy2⟩ : ∃ y2, y2 = y.sured k := ⟨_, rfl⟩
        have HY2 := hide1 hy2
        have HOK2 : Hid (y2.Ok N) := by unfold Hid; rw [hy2]; exact HOK.out.sured k (by rw [HY.out, Ls.meet_peer]; exact HO0.out)
        have HSU : Hid (y2.sure = true) := by unfold Hid; rw [hy2]; rfl
        clear hy2
        have RESK : Hid (k ≠ 1 → (akC y2.k y2.A a ≠ 0 ∨ k = 3) → y2.acked a = x.takeX k o p q a b ∧ [] = x.takeB k o p q a b ∧ (akC y2.k y2.A a : Int) = (x.takeC k o p q a : Int)) := fun hk hh => take_openK HPX.out HPO.out (by rw [HY2.out, HY.out]) hk hh
        have RESM : Hid (k = 2 → akC y2.k y2.A a = 0 → ∀ y4 B4 xc, y4 = { (y2.acked a) with a := tkA (y2.acked a).a (y2.acked a).l q b, l := tkR (y2.acked a).a (y2.acked a).l q b } → B4 = tkO y2.a y2.l q b → xc = chkC y2.a (lk y2.l) q → y4 = x.takeX k o p q a b ∧ B4 = x.takeB k o p q a b ∧ (xc : Int) = (x.takeC k o p q a : Int)) := fun hk hh y4 B4 xc k1 k2 k3 => take_openM HPX.out HPO.out (by rw [HY2.out, HY.out]) hk hh y4 B4 xc k1 k2 k3
        by_cases hk3 : k = 3
        · have g18 : ((k : Int) != 3) = false := by simp; omega
          have g20 : ((k : Int) == 1) = false := by simp; omega
          have RB2 : Hid (Rbx x LL LLv hv lv w g g4 g5 g6 g8 (k : Int) (o : Int) (p : Int) (q : Int) (a : Int) b y2 LL1 L1 h1 l1 (.slice none 0 0) [] (x.takeA o) 0 WS) := by
            have e : y2 = { y with sure := true } := by rw [HY2.out, Ls.sured, hk3]; simp
            rw [e]
            exact RBS.out
          have HKK : Hid (k = 3) := hk3
          clear hk3
          obtain ⟨⟨c0, c1, c2, c3, c4⟩, ⟨c5, c6, c7, c8, c9⟩, fz, _⟩ := box10 RB2.out.bg
          obtain ⟨d0, d1, d2, d3, d4, d5, _⟩ := X.box6 RB2.out.b6
          obtain ⟨e0, e1, e2⟩ := rowbox3 RB2.out.b8
          have fe := fun j => frozen_of_row _ g8 j _ _ RB2.out.b8
          go_upto_region 22 with (fail)
          clear g18 g20
          obtain ⟨W2, hW2⟩ : ∃ W2, WS = W2 := ⟨_, rfl⟩
          rw [hW2] at RB2 ⊢
          clear hW2 RBS
          clear c0 c1 c2 c3 c4 c5 c6 c7 c8 c9 fz d0 d1 d2 d3 d4 d5 e0 e1 e2 fe
          obtain ⟨y3, hy3⟩ : ∃ y3, y3 = y2.acked a := ⟨_, rfl⟩
          have HOK3 : Hid (y3.Ok N) := hy3 ▸ HOK2.out.acked HSU.out a
          obtain ⟨ac, hac⟩ : ∃ ac, ac = akC y2.k y2.A a := ⟨_, rfl⟩
          obtain ⟨la, lc, hL1, _⟩ := RB2.out.rw.rf.ll
          obtain ⟨ln, hln⟩ : ∃ n, LL1.length = n := ⟨_, rfl⟩
          rw [hln] at hL1
          subst hL1
          have hdrop : LL1.drop y2.k = y2.A := RB2.out.rw.rf.eq
          have hko := ko_drop (b := 0) (c := y2.k) (q := a) (LL := LL1)
          rw [Nat.zero_add, Nat.zero_add, hdrop] at hko
          have hk3 : y3.k = koC 0 y2.k LL1 a := by rw [hy3]; exact hko.2
          have kA : Hid (∀ W', Calls Tryz.prog 60 #[.agg #[.int .i64 0, .slice la ln lc, .int .i64 (y2.k : Int)], .int .i64 (a : Int)] W' fun e w1 => e = .returned (.tuple #[.agg #[.int .i64 0, .slice la ln lc, .int .i64 (y3.k : Int)], .int .i64 (ac : Int)]) ∧ Below W'.heap.size W' w1) := fun W' => by
            have hlm : Lim 0 y2.k LL1 := ⟨RB2.out.rw.rf.le, by have e1 : LL1.length - y2.k = y2.A.length := (by rw [← hdrop, List.length_drop]); have := HOK2.out.A16; omega, by have := RB2.out.rw.rf.mx; omega, RB2.out.rw.rf.sz⟩
            have k := rack_any 0 ln y2.k lc la a (w := W') hln hlm RB2.out.rw.rf.mx HLT.out.2
            rw [Nat.zero_add, hdrop, ← hk3, ← hac] at k
            exact k
          have RWA : Rw (F5 g g4 g5 g6 g8) x LL LLv hv lv w y3 LL1 (.slice la ln lc) h1 l1 W2 := RB2.out.rw.outs y3 (by rw [hk3]; exact (Lim.ack (q := a) (⟨RB2.out.rw.rf.le, by have e1 : LL1.length - y2.k = y2.A.length := (by rw [← hdrop, List.length_drop]); have := HOK2.out.A16; omega, by have := RB2.out.rw.rf.mx; omega, RB2.out.rw.rf.sz⟩ : Lim 0 y2.k LL1)).le) (by rw [hk3, ← hko.1, hy3]; rfl) (by rw [hy3]; rfl) (by rw [hy3]; rfl)
          have RWA1 := hide1 RWA
          have HY3 := hide1 hy3
          have HAC := hide1 hac
          have ROWE : Hid ((#[.int .u32 (y2.own : Int), .int .u32 (y2.peer : Int), .bool y2.sure, .int .i64 0, .slice la ln lc, .int .i64 (y3.k : Int), .int .i64 ((y2.a : Int) + 1), h1, l1, .bool y2.owed] : Array Value) = rcs y3 (.slice la ln lc) h1 l1) := by rw [hy3]; rfl
          clear hko hk3 hdrop hln RWA hy3 hac
          have wra : IntKind.i64.wrap (a : Int) = (a : Int) := by rw [IntKind.wrap_i64]; have := HLT.out.2; omega
          obtain ⟨⟨c0, c1, c2, c3, c4⟩, ⟨c5, c6, c7, c8, c9⟩, fz, _⟩ := box10 RB2.out.bg
          obtain ⟨d0, d1, d2, d3, d4, d5, _⟩ := X.box6 RB2.out.b6
          obtain ⟨e0, e1, e2⟩ := rowbox3 RB2.out.b8
          have fe := fun j => frozen_of_row _ g8 j _ _ RB2.out.b8
          go_wp2_with (fail)
          refine (kA.out _).mono ?_
          rintro e W3 ⟨rfl, hb3⟩
          go_upto_region 23 with (first | (refine wpList_store_row rfl 34 (.tmp 9) (.tmp 76) rfl W3.heap.size #[.int .i64 0, .slice la ln lc, .int .i64 (y3.k : Int)] rfl rfl 34 _ (heap_alloc_new W3 _) (by kernel_rfl) rfl (by simp [Value.oneCell']) ?_) | fail)
          generalize hW : World.setRow (World.alloc W3 _) _ _ = W4
          have b34 : Below W3.heap.size W3 W4 := by rw [← hW]; exact below_setRow (below1 _) (Nat.le_refl _) _
          have B9 : Hid (W4.heap[W3.heap.size]? = some (.cells #[.int .i64 0, .slice la ln lc, .int .i64 (y3.k : Int)] 34 (0, 0))) := by unfold Hid; rw [← hW]; exact setRow_heap _ _ _ _ _ _ (heap_alloc_new W3 _)
          have b24 := hb3.trans (b34.mono hb3.size)
          have RB4 := hide1 (RB2.out.below b24)
          have RWA4 := hide1 (RWA1.out.below b24)
          clear hW b34 b24 hb3
          clear c0 c1 c2 c3 c4 c5 c6 c7 c8 c9 fz d0 d1 d2 d3 d4 d5 e0 e1 e2 fe
          have hrow4 : W4.heap[g]? = some (.cells #[.int .u32 (y2.own : Int), .int .u32 (y2.peer : Int), .bool y2.sure, .int .i64 0, .slice la ln lc, .int .i64 (y2.k : Int), .int .i64 ((y2.a : Int) + 1), h1, l1, .bool y2.owed] 39 (0, 0)) := RB4.out.bg
          have HR4 := hide1 hrow4
          clear hrow4
          go_upto_region 24 with (first | (refine wpList_load_row rfl 34 (.tmp 9) rfl W3.heap.size rfl 34 #[.int .i64 0, .slice la ln lc, .int .i64 (y3.k : Int)] (0, 0) _ B9.out Tryz.underlying34 rfl (by kernel_rfl) ?_) | (refine wpList_store_mid rfl 34 (.tmp 79) (.tmp 78) rfl g 3 #[.int .i64 0, .slice la ln lc, .int .i64 (y3.k : Int)] rfl rfl (there3 HR4.out) (by kernel_rfl) (by simp [Value.oneCell']) ?_) | fail)
          rw [set_mid3 HR4.out, ROWE.out]
          have RB5 := hide1 (RB4.out.row RWA4.out RB4.out.ll)
          generalize W4.setRow g (rcs y3 (.slice la ln lc) h1 l1) = W5 at RB5 ⊢
          clear RB4 RWA4 B9 HR4 ROWE RWA1
          obtain ⟨⟨c0, c1, c2, c3, c4⟩, ⟨c5, c6, c7, c8, c9⟩, fz, _⟩ := box10 RB5.out.bg
          obtain ⟨d0, d1, d2, d3, d4, d5, _⟩ := X.box6 RB5.out.b6
          obtain ⟨e0, e1, e2⟩ := rowbox3 RB5.out.b8
          have fe := fun j => frozen_of_row _ g8 j _ _ RB5.out.b8
          have g24 : ((k : Int) == 2) = false := by have := HKK.out; simp; omega
          have RES : Hid (y3 = x.takeX k o p q a b ∧ [] = x.takeB k o p q a b ∧ (ac : Int) = (x.takeC k o p q a : Int)) := by unfold Hid; rw [HY3.out, HAC.out]; exact RESK.out (by have := HKK.out; omega) (.inr HKK.out)
          by_cases ha0 : ac = 0
          · have gA : ((ac : Int) == 0) = true := by simp; omega
            clear ha0
            go_upto_region 28 with (fail)
            have RB9 := hide1 (RB5.out.gotE (ac : Int))
            generalize W5.setCell ⟨g8, 2, none⟩ (.int .i64 (ac : Int)) = W9 at RB9 ⊢
            clear c0 c1 c2 c3 c4 c5 c6 c7 c8 c9 fz d0 d1 d2 d3 d4 d5 e0 e1 e2 fe
            have FN := hide1 (RB9.out.below (Below.refl _ _).drew).use
            have BG := hide1 RB9.out.bg
            have B8 := hide1 RB9.out.b8
            have NEF := hide1 RB9.out.ne
            go_upto_region 28 with (fail)
            generalize rcs _ _ _ _ = RY at FN BG
            generalize gotC _ _ _ = GY at FN B8
            refine region_f (F := [3]) (S := fun X => X.heap[g]? = some (.cells RY 39 (0, 0)) ∧ X.heap[g8]? = some (.cells GY 85 (0, 0))) (by kernel_rfl) ⟨BG.out, B8.out⟩ (fun hS => ?_)
            refine take_f 0 106 (.agg RY) [2, 3] rfl rfl (by kernel_rfl) (by kernel_rfl) (by kernel_rfl) (by kernel_rfl) (by kernel_rfl) (by kernel_rfl) (fun _ _ _ h => h) rfl (fun w hSw => by exact exec_load_box 39 (.tmp 2) rfl _ rfl 39 _ _ hSw.1 Tryz.underlying39 rfl FN.out.sz) hS ?_
            try simp only [List.setIfInBounds_toArray, List.set_cons_zero, List.set_cons_succ]
            refine take_f 1 107 (.agg GY) [3] rfl rfl (by kernel_rfl) (by kernel_rfl) (by kernel_rfl) (by kernel_rfl) (by kernel_rfl) (by kernel_rfl) (fun _ _ _ h => h) rfl (fun w hSw => by exact exec_load_box 85 (.tmp 8) rfl _ rfl 85 _ _ hSw.2 Tryz.underlying85 rfl FN.out.szg) hS ?_
            try simp only [List.setIfInBounds_toArray, List.set_cons_zero, List.set_cons_succ]
            refine ready_f 2 (o := { dst := none, op := Op.store 39 (Operand.tmp 4) (Operand.tmp 106), type := 0, pos := "ref.go:158", after := #[{ on := 0, ground := Ground.data }, { on := 0, ground := Ground.phase }, { on := 1, ground := Ground.textOnly Departure.lateStores }], guard := none }) (by kernel_rfl) rfl (fun K hK => ?_)
            rw [if_pos (by rfl)]
            refine wp_store_row 39 _ _ rfl g4 RY rfl rfl 39 _ FN.out.b4 FN.out.sz FN.out.c4 FN.out.one ?_
            refine hK.out _ _ (fun _ h => ⟨(setRow_other _ _ _ _ (by have := NEF.out; omega)).trans h.1, (setRow_other _ _ _ _ (by have := NEF.out; omega)).trans h.2⟩) ?_
            clear hK K
            refine ready_f 3 (o := { dst := none, op := Op.store 85 (Operand.tmp 5) (Operand.tmp 107), type := 0, pos := "ref.go:158", after := #[{ on := 1, ground := Ground.data }, { on := 2, ground := Ground.chain }, { on := 0, ground := Ground.phase }, { on := 1, ground := Ground.phase }, { on := 2, ground := Ground.phase }], guard := none }) (by kernel_rfl) rfl (fun K hK => ?_)
            rw [if_pos (by rfl)]
            refine wp_store_row 85 _ _ rfl g5 GY rfl rfl 85 _ FN.out.b5 FN.out.szg FN.out.c5 FN.out.oneg ?_
            refine hK.out _ _ (fun h => absurd (by decide) h) ?_
            clear hK K
            refine done_f (by kernel_rfl) ?_ _
            clear hS
            go_wp2
            exact ret_lg Tryz.results31 g4 g5 RY GY FN.out.s10 FN.out.s3 rfl rfl FN.out.f4 FN.out.f5 rfl (HQ.out _ _ _ _ _ _ RES.out.1 RES.out.2.1 rfl RES.out.2.2 FN.out.rcv)
          · have gA : ((ac : Int) == 0) = false := by simp; omega
            clear ha0
            go_upto_region 28 with (fail)
            have RB9 := hide1 (RB5.out.gotE (ac : Int))
            generalize W5.setCell ⟨g8, 2, none⟩ (.int .i64 (ac : Int)) = W9 at RB9 ⊢
            clear c0 c1 c2 c3 c4 c5 c6 c7 c8 c9 fz d0 d1 d2 d3 d4 d5 e0 e1 e2 fe
            have FN := hide1 (RB9.out.below (Below.refl _ _).drew).use
            have BG := hide1 RB9.out.bg
            have B8 := hide1 RB9.out.b8
            have NEF := hide1 RB9.out.ne
            go_upto_region 28 with (fail)
            generalize rcs _ _ _ _ = RY at FN BG
            generalize gotC _ _ _ = GY at FN B8
            refine region_f (F := [3]) (S := fun X => X.heap[g]? = some (.cells RY 39 (0, 0)) ∧ X.heap[g8]? = some (.cells GY 85 (0, 0))) (by kernel_rfl) ⟨BG.out, B8.out⟩ (fun hS => ?_)
            refine take_f 0 106 (.agg RY) [2, 3] rfl rfl (by kernel_rfl) (by kernel_rfl) (by kernel_rfl) (by kernel_rfl) (by kernel_rfl) (by kernel_rfl) (fun _ _ _ h => h) rfl (fun w hSw => by exact exec_load_box 39 (.tmp 2) rfl _ rfl 39 _ _ hSw.1 Tryz.underlying39 rfl FN.out.sz) hS ?_
            try simp only [List.setIfInBounds_toArray, List.set_cons_zero, List.set_cons_succ]
            refine take_f 1 107 (.agg GY) [3] rfl rfl (by kernel_rfl) (by kernel_rfl) (by kernel_rfl) (by kernel_rfl) (by kernel_rfl) (by kernel_rfl) (fun _ _ _ h => h) rfl (fun w hSw => by exact exec_load_box 85 (.tmp 8) rfl _ rfl 85 _ _ hSw.2 Tryz.underlying85 rfl FN.out.szg) hS ?_
            try simp only [List.setIfInBounds_toArray, List.set_cons_zero, List.set_cons_succ]
            refine ready_f 2 (o := { dst := none, op := Op.store 39 (Operand.tmp 4) (Operand.tmp 106), type := 0, pos := "ref.go:158", after := #[{ on := 0, ground := Ground.data }, { on := 0, ground := Ground.phase }, { on := 1, ground := Ground.textOnly Departure.lateStores }], guard := none }) (by kernel_rfl) rfl (fun K hK => ?_)
            rw [if_pos (by rfl)]
            refine wp_store_row 39 _ _ rfl g4 RY rfl rfl 39 _ FN.out.b4 FN.out.sz FN.out.c4 FN.out.one ?_
            refine hK.out _ _ (fun _ h => ⟨(setRow_other _ _ _ _ (by have := NEF.out; omega)).trans h.1, (setRow_other _ _ _ _ (by have := NEF.out; omega)).trans h.2⟩) ?_
            clear hK K
            refine ready_f 3 (o := { dst := none, op := Op.store 85 (Operand.tmp 5) (Operand.tmp 107), type := 0, pos := "ref.go:158", after := #[{ on := 1, ground := Ground.data }, { on := 2, ground := Ground.chain }, { on := 0, ground := Ground.phase }, { on := 1, ground := Ground.phase }, { on := 2, ground := Ground.phase }], guard := none }) (by kernel_rfl) rfl (fun K hK => ?_)
            rw [if_pos (by rfl)]
            refine wp_store_row 85 _ _ rfl g5 GY rfl rfl 85 _ FN.out.b5 FN.out.szg FN.out.c5 FN.out.oneg ?_
            refine hK.out _ _ (fun h => absurd (by decide) h) ?_
            clear hK K
            refine done_f (by kernel_rfl) ?_ _
            clear hS
            go_wp2
            exact ret_lg Tryz.results31 g4 g5 RY GY FN.out.s10 FN.out.s3 rfl rfl FN.out.f4 FN.out.f5 rfl (HQ.out _ _ _ _ _ _ RES.out.1 RES.out.2.1 rfl RES.out.2.2 FN.out.rcv)
        · have g18 : ((k : Int) != 3) = true := by simp; omega
          have f9 := (box10 RBS.out.bg).2.2.1 9
          have k9 := (box10 RBS.out.bg).2.1.2.2.2.2
          obtain ⟨d0, d1, d2, d3, d4, d5, _⟩ := X.box6 RBS.out.b6
          go_upto_region 20 with (fail)
          have RB2 : Hid (Rbx x LL LLv hv lv w g g4 g5 g6 g8 (k : Int) (o : Int) (p : Int) (q : Int) (a : Int) b y2 LL1 L1 h1 l1 (.slice none 0 0) [] (x.takeA o) 0 (WS.setCell ⟨g, 9, none⟩ (.bool true))) := by
            have e : y2 = { y with sure := true, owed := true } := by rw [HY2.out, Ls.sured]; simp [hk3]
            rw [e]
            exact RBS.out.mark (y2 := { y with sure := true, owed := true }) 9 (.bool true) rfl rfl rfl rfl rfl
          generalize WS.setCell ⟨g, 9, none⟩ (.bool true) = W2 at RB2 ⊢
          clear d0 d1 d2 d3 d4 d5 f9 k9 RBS g18
          by_cases hk1 : k = 1
          · have g20 : ((k : Int) == 1) = true := by simp; omega
            have RES1 : Hid (y2 = x.takeX k o p q a b ∧ [] = x.takeB k o p q a b ∧ (0 : Int) = (x.takeC k o p q a : Int)) := take_open1 HPX.out HPO.out (by rw [HY2.out, HY.out]) hk1
            clear hk3 hk1
            obtain ⟨⟨c0, c1, c2, c3, c4⟩, ⟨c5, c6, c7, c8, c9⟩, fz, _⟩ := box10 RB2.out.bg
            obtain ⟨d0, d1, d2, d3, d4, d5, _⟩ := X.box6 RB2.out.b6
            obtain ⟨e0, e1, e2⟩ := rowbox3 RB2.out.b8
            have fe := fun j => frozen_of_row _ g8 j _ _ RB2.out.b8
            have FN := hide1 (RB2.out.below (Below.refl _ _).drew).use
            have BG := hide1 RB2.out.bg
            have B8 := hide1 RB2.out.b8
            have NEF := hide1 RB2.out.ne
            go_upto_region 21 with (fail)
            generalize rcs _ _ _ _ = RY at FN BG
            generalize gotC _ _ _ = GY at FN B8
            refine region_f (F := [3]) (S := fun X => X.heap[g]? = some (.cells RY 39 (0, 0)) ∧ X.heap[g8]? = some (.cells GY 85 (0, 0))) (by kernel_rfl) ⟨BG.out, B8.out⟩ (fun hS => ?_)
            refine take_f 0 67 (.agg RY) [2, 3] rfl rfl (by kernel_rfl) (by kernel_rfl) (by kernel_rfl) (by kernel_rfl) (by kernel_rfl) (by kernel_rfl) (fun _ _ _ h => h) rfl (fun w hSw => by exact exec_load_box 39 (.tmp 2) rfl _ rfl 39 _ _ hSw.1 Tryz.underlying39 rfl FN.out.sz) hS ?_
            try simp only [List.setIfInBounds_toArray, List.set_cons_zero, List.set_cons_succ]
            refine take_f 1 68 (.agg GY) [3] rfl rfl (by kernel_rfl) (by kernel_rfl) (by kernel_rfl) (by kernel_rfl) (by kernel_rfl) (by kernel_rfl) (fun _ _ _ h => h) rfl (fun w hSw => by exact exec_load_box 85 (.tmp 8) rfl _ rfl 85 _ _ hSw.2 Tryz.underlying85 rfl FN.out.szg) hS ?_
            try simp only [List.setIfInBounds_toArray, List.set_cons_zero, List.set_cons_succ]
            refine ready_f 2 (o := { dst := none, op := Op.store 39 (Operand.tmp 4) (Operand.tmp 67), type := 0, pos := "ref.go:149", after := #[{ on := 0, ground := Ground.data }, { on := 0, ground := Ground.phase }, { on := 1, ground := Ground.textOnly Departure.lateStores }], guard := none }) (by kernel_rfl) rfl (fun K hK => ?_)
            rw [if_pos (by rfl)]
            refine wp_store_row 39 _ _ rfl g4 RY rfl rfl 39 _ FN.out.b4 FN.out.sz FN.out.c4 FN.out.one ?_
            refine hK.out _ _ (fun _ h => ⟨(setRow_other _ _ _ _ (by have := NEF.out; omega)).trans h.1, (setRow_other _ _ _ _ (by have := NEF.out; omega)).trans h.2⟩) ?_
            clear hK K
            refine ready_f 3 (o := { dst := none, op := Op.store 85 (Operand.tmp 5) (Operand.tmp 68), type := 0, pos := "ref.go:149", after := #[{ on := 1, ground := Ground.data }, { on := 2, ground := Ground.chain }, { on := 0, ground := Ground.phase }, { on := 1, ground := Ground.phase }, { on := 2, ground := Ground.phase }], guard := none }) (by kernel_rfl) rfl (fun K hK => ?_)
            rw [if_pos (by rfl)]
            refine wp_store_row 85 _ _ rfl g5 GY rfl rfl 85 _ FN.out.b5 FN.out.szg FN.out.c5 FN.out.oneg ?_
            refine hK.out _ _ (fun h => absurd (by decide) h) ?_
            clear hK K
            refine done_f (by kernel_rfl) ?_ _
            clear hS
            go_wp2
            exact ret_lg Tryz.results31 g4 g5 RY GY FN.out.s10 FN.out.s3 rfl rfl FN.out.f4 FN.out.f5 rfl (HQ.out _ _ _ _ _ _ RES1.out.1 RES1.out.2.1 rfl RES1.out.2.2 FN.out.rcv)
          · have g20 : ((k : Int) == 1) = false := by simp; omega
            have HKK : Hid (k = 2) := by have := HK.out; unfold Hid; omega
            clear hk3 hk1
            obtain ⟨⟨c0, c1, c2, c3, c4⟩, ⟨c5, c6, c7, c8, c9⟩, fz, _⟩ := box10 RB2.out.bg
            obtain ⟨d0, d1, d2, d3, d4, d5, _⟩ := X.box6 RB2.out.b6
            obtain ⟨e0, e1, e2⟩ := rowbox3 RB2.out.b8
            have fe := fun j => frozen_of_row _ g8 j _ _ RB2.out.b8
            go_upto_region 22 with (fail)
            clear g20
            clear c0 c1 c2 c3 c4 c5 c6 c7 c8 c9 fz d0 d1 d2 d3 d4 d5 e0 e1 e2 fe
            obtain ⟨y3, hy3⟩ : ∃ y3, y3 = y2.acked a := ⟨_, rfl⟩
            have HOK3 : Hid (y3.Ok N) := hy3 ▸ HOK2.out.acked HSU.out a
            obtain ⟨ac, hac⟩ : ∃ ac, ac = akC y2.k y2.A a := ⟨_, rfl⟩
            obtain ⟨la, lc, hL1, _⟩ := RB2.out.rw.rf.ll
            obtain ⟨ln, hln⟩ : ∃ n, LL1.length = n := ⟨_, rfl⟩
            rw [hln] at hL1
            subst hL1
            have hdrop : LL1.drop y2.k = y2.A := RB2.out.rw.rf.eq
            have hko := ko_drop (b := 0) (c := y2.k) (q := a) (LL := LL1)
            rw [Nat.zero_add, Nat.zero_add, hdrop] at hko
            have hk3 : y3.k = koC 0 y2.k LL1 a := by rw [hy3]; exact hko.2
            have kA : Hid (∀ W', Calls Tryz.prog 60 #[.agg #[.int .i64 0, .slice la ln lc, .int .i64 (y2.k : Int)], .int .i64 (a : Int)] W' fun e w1 => e = .returned (.tuple #[.agg #[.int .i64 0, .slice la ln lc, .int .i64 (y3.k : Int)], .int .i64 (ac : Int)]) ∧ Below W'.heap.size W' w1) := fun W' => by
              have hlm : Lim 0 y2.k LL1 := ⟨RB2.out.rw.rf.le, by have e1 : LL1.length - y2.k = y2.A.length := (by rw [← hdrop, List.length_drop]); have := HOK2.out.A16; omega, by have := RB2.out.rw.rf.mx; omega, RB2.out.rw.rf.sz⟩
              have k := rack_any 0 ln y2.k lc la a (w := W') hln hlm RB2.out.rw.rf.mx HLT.out.2
              rw [Nat.zero_add, hdrop, ← hk3, ← hac] at k
              exact k
            have RWA : Rw (F5 g g4 g5 g6 g8) x LL LLv hv lv w y3 LL1 (.slice la ln lc) h1 l1 W2 := RB2.out.rw.outs y3 (by rw [hk3]; exact (Lim.ack (q := a) (⟨RB2.out.rw.rf.le, by have e1 : LL1.length - y2.k = y2.A.length := (by rw [← hdrop, List.length_drop]); have := HOK2.out.A16; omega, by have := RB2.out.rw.rf.mx; omega, RB2.out.rw.rf.sz⟩ : Lim 0 y2.k LL1)).le) (by rw [hk3, ← hko.1, hy3]; rfl) (by rw [hy3]; rfl) (by rw [hy3]; rfl)
            have RWA1 := hide1 RWA
            have HY3 := hide1 hy3
            have HAC := hide1 hac
            have ROWE : Hid ((#[.int .u32 (y2.own : Int), .int .u32 (y2.peer : Int), .bool y2.sure, .int .i64 0, .slice la ln lc, .int .i64 (y3.k : Int), .int .i64 ((y2.a : Int) + 1), h1, l1, .bool y2.owed] : Array Value) = rcs y3 (.slice la ln lc) h1 l1) := by rw [hy3]; rfl
            clear hko hk3 hdrop hln RWA hy3 hac
            have wra : IntKind.i64.wrap (a : Int) = (a : Int) := by rw [IntKind.wrap_i64]; have := HLT.out.2; omega
            obtain ⟨⟨c0, c1, c2, c3, c4⟩, ⟨c5, c6, c7, c8, c9⟩, fz, _⟩ := box10 RB2.out.bg
            obtain ⟨d0, d1, d2, d3, d4, d5, _⟩ := X.box6 RB2.out.b6
            obtain ⟨e0, e1, e2⟩ := rowbox3 RB2.out.b8
            have fe := fun j => frozen_of_row _ g8 j _ _ RB2.out.b8
            go_wp2_with (fail)
            refine (kA.out _).mono ?_
            rintro e W3 ⟨rfl, hb3⟩
            go_upto_region 23 with (first | (refine wpList_store_row rfl 34 (.tmp 9) (.tmp 76) rfl W3.heap.size #[.int .i64 0, .slice la ln lc, .int .i64 (y3.k : Int)] rfl rfl 34 _ (heap_alloc_new W3 _) (by kernel_rfl) rfl (by simp [Value.oneCell']) ?_) | fail)
            generalize hW : World.setRow (World.alloc W3 _) _ _ = W4
            have b34 : Below W3.heap.size W3 W4 := by rw [← hW]; exact below_setRow (below1 _) (Nat.le_refl _) _
            have B9 : Hid (W4.heap[W3.heap.size]? = some (.cells #[.int .i64 0, .slice la ln lc, .int .i64 (y3.k : Int)] 34 (0, 0))) := by unfold Hid; rw [← hW]; exact setRow_heap _ _ _ _ _ _ (heap_alloc_new W3 _)
            have b24 := hb3.trans (b34.mono hb3.size)
            have RB4 := hide1 (RB2.out.below b24)
            have RWA4 := hide1 (RWA1.out.below b24)
            clear hW b34 b24 hb3
            clear c0 c1 c2 c3 c4 c5 c6 c7 c8 c9 fz d0 d1 d2 d3 d4 d5 e0 e1 e2 fe
            have hrow4 : W4.heap[g]? = some (.cells #[.int .u32 (y2.own : Int), .int .u32 (y2.peer : Int), .bool y2.sure, .int .i64 0, .slice la ln lc, .int .i64 (y2.k : Int), .int .i64 ((y2.a : Int) + 1), h1, l1, .bool y2.owed] 39 (0, 0)) := RB4.out.bg
            have HR4 := hide1 hrow4
            clear hrow4
            go_upto_region 24 with (first | (refine wpList_load_row rfl 34 (.tmp 9) rfl W3.heap.size rfl 34 #[.int .i64 0, .slice la ln lc, .int .i64 (y3.k : Int)] (0, 0) _ B9.out Tryz.underlying34 rfl (by kernel_rfl) ?_) | (refine wpList_store_mid rfl 34 (.tmp 79) (.tmp 78) rfl g 3 #[.int .i64 0, .slice la ln lc, .int .i64 (y3.k : Int)] rfl rfl (there3 HR4.out) (by kernel_rfl) (by simp [Value.oneCell']) ?_) | fail)
            rw [set_mid3 HR4.out, ROWE.out]
            have RB5 := hide1 (RB4.out.row RWA4.out RB4.out.ll)
            generalize W4.setRow g (rcs y3 (.slice la ln lc) h1 l1) = W5 at RB5 ⊢
            clear RB4 RWA4 B9 HR4 ROWE RWA1
            obtain ⟨⟨c0, c1, c2, c3, c4⟩, ⟨c5, c6, c7, c8, c9⟩, fz, _⟩ := box10 RB5.out.bg
            obtain ⟨d0, d1, d2, d3, d4, d5, _⟩ := X.box6 RB5.out.b6
            obtain ⟨e0, e1, e2⟩ := rowbox3 RB5.out.b8
            have fe := fun j => frozen_of_row _ g8 j _ _ RB5.out.b8
            have g24 : ((k : Int) == 2) = true := by have := HKK.out; simp; omega
            by_cases ha0 : ac = 0
            · have gA : ((ac : Int) == 0) = true := by simp; omega
              obtain ⟨y4, hy4⟩ : ∃ y4 : Ls, y4 = { y3 with a := tkA y3.a y3.l q b, l := tkR y3.a y3.l q b } := ⟨_, rfl⟩
              obtain ⟨xc, hxc⟩ : ∃ xc, xc = chkC y3.a (lk y3.l) q := ⟨_, rfl⟩
              obtain ⟨B4, hB4⟩ : ∃ B4, B4 = tkO y3.a y3.l q b := ⟨_, rfl⟩
              have kT : Hid (∀ W', Below W5.heap.size W5 W' → Calls Tryz.prog 61 #[.agg #[.int .i64 ((y3.a : Int) + 1), h1], .int .i64 (q : Int), .string b] W' fun e w1 => ∃ ua un uc va vn vc, e = .returned (.tuple #[.agg #[.int .i64 ((y4.a : Int) + 1), .slice ua un uc], .slice va vn vc, .int .i64 (xc : Int)]) ∧ Rnl w1 (.slice ua un uc) y4.l ∧ Lst W'.heap.size w1 (.slice va vn vc) B4 ∧ Below W'.heap.size W' w1 ∧ (y4.l ≠ [] → ∀ c, (Value.slice ua un uc).ownBlock = some c → (h1.ownBlock = some c ∧ c < W'.heap.size ∧ y3.l ≠ []) ∨ W'.heap.size ≤ c)) := fun W' hb => by
                have k := rtake_any (a := y3.a) (q := q) (u := h1) (l := y3.l) (b := b) (w := W') (RB5.out.rw.below hb).rf.hl HOK3.out.hd (by have := HOK3.out.aN; have := HN.out; omega) HLT.out.1
                rw [show ((y3.a + 1 : Nat) : Int) = (y3.a : Int) + 1 by omega] at k
                refine k.mono ?_
                rintro e w1 ⟨u, v, rfl, k1, k2, k3, k4⟩
                obtain ⟨ua, uc, rfl, _⟩ := id k1
                obtain ⟨va, vc, rfl⟩ := id k2.form
                refine ⟨ua, (tkR y3.a y3.l q b).length, uc, va, (tkO y3.a y3.l q b).length, vc, ?_, ?_, ?_, k3, ?_⟩
                · rw [hy4, hxc]
                  rw [show ((tkA y3.a y3.l q b + 1 : Nat) : Int) = (tkA y3.a y3.l q b : Int) + 1 by omega]
                · rw [hy4]; exact k1
                · rw [hB4]; exact k2
                · rw [hy4]; exact k4
              have RES := hide1 (RESM.out HKK.out (HAC.out ▸ ha0) y4 B4 xc (by rw [hy4, HY3.out]) (by rw [hB4, HY3.out]; rfl) (by rw [hxc, HY3.out]; rfl))
              have HY4 : Hid (y4.k = y3.k ∧ y4.A = y3.A ∧ y4.Q = y3.Q ∧ y4.own = y3.own ∧ y4.peer = y3.peer ∧ y4.sure = y3.sure ∧ y4.owed = y3.owed) := by rw [hy4]; exact ⟨rfl, rfl, rfl, rfl, rfl, rfl, rfl⟩
              have wrq : IntKind.i64.wrap (q : Int) = (q : Int) := by rw [IntKind.wrap_i64]; have := HLT.out.1; omega
              clear hy4 hxc hB4 ha0
              go_upto_region 25 with (fail)
              go_wp2_with (fail)
              refine (kT.out _ (Below.refl _ _)).mono ?_
              rintro e W6 ⟨ua, un, uc, va, vn, vc, rfl, hu, hv6, hb6, hub⟩
              go_upto_region 26 with (first | (refine wpList_store_row rfl 37 (.tmp 10) (.tmp 96) rfl W6.heap.size #[.int .i64 ((y4.a : Int) + 1), .slice ua un uc] rfl rfl 37 _ (heap_alloc_new W6 _) (by kernel_rfl) rfl (by simp [Value.oneCell']) ?_) | fail)
              generalize hW : World.setRow (World.alloc W6 _) _ _ = W7
              have b67 : Below W6.heap.size W6 W7 := by rw [← hW]; exact below_setRow (below1 _) (Nat.le_refl _) _
              have B10 : Hid (W7.heap[W6.heap.size]? = some (.cells #[.int .i64 ((y4.a : Int) + 1), .slice ua un uc] 37 (0, 0))) := by unfold Hid; rw [← hW]; exact setRow_heap _ _ _ _ _ _ (heap_alloc_new W6 _)
              have b57 := hb6.trans (b67.mono hb6.size)
              have RB7 := hide1 (RB5.out.below b57)
              have HV7 := hide1 (hv6.below b67 (Nat.le_refl _))
              have HFB : ∀ c, W5.heap.size ≤ c → ¬ F5 g g4 g5 g6 g8 c := fun c hc hF => by have := (RB5.out.rw.fb c hF).2; omega
              have RW7 : Hid (Rw (F5 g g4 g5 g6 g8) x LL LLv hv lv w y4 LL1 (.slice la ln lc) (.slice ua un uc) l1 W7) := by
                refine RB7.out.rw.held y4 (hu.below b67 (Nat.le_refl _)) (fun hn c e => ?_) HY4.out.1 HY4.out.2.1 HY4.out.2.2.1
                rcases hub hn c e with ⟨k1, _, k3⟩ | k1
                · exact .inl ⟨k1, k3⟩
                · have := RB5.out.rw.bel.size
                  exact .inr ⟨by omega, HFB c k1⟩
              have HVN : Hid (B4 ≠ [] → ∀ c, (Value.slice va vn vc).ownBlock = some c → ¬ F5 g g4 g5 g6 g8 c) := fun _ c e => HFB c (hv6.lt e).1
              have HVB : Hid (B4 ≠ [] → ∀ c, (Value.slice va vn vc).ownBlock = some c → w.heap.size ≤ c) := fun _ c e => by have h1 := (hv6.lt e).1; have h2 := RB5.out.rw.bel.size; omega
              have ROWE : Hid ((#[.int .u32 (y3.own : Int), .int .u32 (y3.peer : Int), .bool y3.sure, .int .i64 0, .slice la ln lc, .int .i64 (y3.k : Int), .int .i64 ((y4.a : Int) + 1), .slice ua un uc, l1, .bool y3.owed] : Array Value) = rcs y4 (.slice la ln lc) (.slice ua un uc) l1) := by
                obtain ⟨q1, q2, q3, q4, q5, q6, q7⟩ := HY4.out
                unfold Hid rcs
                rw [q1, q4, q5, q6, q7]
              clear hW b67 b57 hb6 hu hv6 hub HFB
              clear c0 c1 c2 c3 c4 c5 c6 c7 c8 c9 fz d0 d1 d2 d3 d4 d5 e0 e1 e2 fe
              have hrow7 : W7.heap[g]? = some (.cells #[.int .u32 (y3.own : Int), .int .u32 (y3.peer : Int), .bool y3.sure, .int .i64 0, .slice la ln lc, .int .i64 (y3.k : Int), .int .i64 ((y3.a : Int) + 1), h1, l1, .bool y3.owed] 39 (0, 0)) := RB7.out.bg
              have HR7 := hide1 hrow7
              clear hrow7
              have RB8 := hide1 (RB7.out.row RW7.out RB7.out.ll)
              have RB8g := hide1 (RB8.out.got (bv2 := .slice va vn vc) (Bs2 := B4) (an2 := x.takeA o) (c2 := 0) 0 (.slice va vn vc) rfl ((HV7.out.rd).kp2 (kp_setRow _ _ _) fun hn c e e2 => HVN.out hn c e (.inl e2)) HVN.out HVB.out)
              obtain ⟨e0, e1, e2⟩ := rowbox3 RB8.out.b8
              have fe := fun j => frozen_of_row _ g8 j _ _ RB8.out.b8
              go_upto_region 27 with (first | (refine wpList_load_row rfl 37 (.tmp 10) rfl W6.heap.size rfl 37 #[.int .i64 ((y4.a : Int) + 1), .slice ua un uc] (0, 0) _ B10.out Tryz.underlying37 rfl (by kernel_rfl) ?_) | (refine wpList_store_mid rfl 37 (.tmp 102) (.tmp 99) rfl g 6 #[.int .i64 ((y4.a : Int) + 1), .slice ua un uc] rfl rfl (there2 HR7.out) (by kernel_rfl) (by simp [Value.oneCell']) ?_; rw [show (#[.int .i64 ((y4.a : Int) + 1), .slice ua un uc] : Array Value).toList = [.int .i64 ((y4.a : Int) + 1), .slice ua un uc] from rfl, set_mid2 HR7.out, ROWE.out]) | fail)
              clear e0 e1 e2 fe RB8
              generalize (W7.setRow g (rcs y4 (.slice la ln lc) (.slice ua un uc) l1)).setCell ⟨g8, 0, none⟩ (.slice va vn vc) = W8 at RB8g ⊢
              obtain ⟨⟨c0, c1, c2, c3, c4⟩, ⟨c5, c6, c7, c8, c9⟩, fz, _⟩ := box10 RB8g.out.bg
              obtain ⟨d0, d1, d2, d3, d4, d5, _⟩ := X.box6 RB8g.out.b6
              obtain ⟨e0, e1, e2⟩ := rowbox3 RB8g.out.b8
              have fe := fun j => frozen_of_row _ g8 j _ _ RB8g.out.b8
              go_upto_region 28 with (fail)
              have RB9 := hide1 (RB8g.out.gotE (xc : Int))
              generalize W8.setCell ⟨g8, 2, none⟩ (.int .i64 (xc : Int)) = W9 at RB9 ⊢
              clear c0 c1 c2 c3 c4 c5 c6 c7 c8 c9 fz d0 d1 d2 d3 d4 d5 e0 e1 e2 fe
              have FN := hide1 (RB9.out.below (Below.refl _ _).drew).use
              have BG := hide1 RB9.out.bg
              have B8 := hide1 RB9.out.b8
              have NEF := hide1 RB9.out.ne
              go_upto_region 28 with (fail)
              generalize rcs _ _ _ _ = RY at FN BG
              generalize gotC _ _ _ = GY at FN B8
              refine region_f (F := [3]) (S := fun X => X.heap[g]? = some (.cells RY 39 (0, 0)) ∧ X.heap[g8]? = some (.cells GY 85 (0, 0))) (by kernel_rfl) ⟨BG.out, B8.out⟩ (fun hS => ?_)
              refine take_f 0 106 (.agg RY) [2, 3] rfl rfl (by kernel_rfl) (by kernel_rfl) (by kernel_rfl) (by kernel_rfl) (by kernel_rfl) (by kernel_rfl) (fun _ _ _ h => h) rfl (fun w hSw => by exact exec_load_box 39 (.tmp 2) rfl _ rfl 39 _ _ hSw.1 Tryz.underlying39 rfl FN.out.sz) hS ?_
              try simp only [List.setIfInBounds_toArray, List.set_cons_zero, List.set_cons_succ]
              refine take_f 1 107 (.agg GY) [3] rfl rfl (by kernel_rfl) (by kernel_rfl) (by kernel_rfl) (by kernel_rfl) (by kernel_rfl) (by kernel_rfl) (fun _ _ _ h => h) rfl (fun w hSw => by exact exec_load_box 85 (.tmp 8) rfl _ rfl 85 _ _ hSw.2 Tryz.underlying85 rfl FN.out.szg) hS ?_
              try simp only [List.setIfInBounds_toArray, List.set_cons_zero, List.set_cons_succ]
              refine ready_f 2 (o := { dst := none, op := Op.store 39 (Operand.tmp 4) (Operand.tmp 106), type := 0, pos := "ref.go:158", after := #[{ on := 0, ground := Ground.data }, { on := 0, ground := Ground.phase }, { on := 1, ground := Ground.textOnly Departure.lateStores }], guard := none }) (by kernel_rfl) rfl (fun K hK => ?_)
              rw [if_pos (by rfl)]
              refine wp_store_row 39 _ _ rfl g4 RY rfl rfl 39 _ FN.out.b4 FN.out.sz FN.out.c4 FN.out.one ?_
              refine hK.out _ _ (fun _ h => ⟨(setRow_other _ _ _ _ (by have := NEF.out; omega)).trans h.1, (setRow_other _ _ _ _ (by have := NEF.out; omega)).trans h.2⟩) ?_
              clear hK K
              refine ready_f 3 (o := { dst := none, op := Op.store 85 (Operand.tmp 5) (Operand.tmp 107), type := 0, pos := "ref.go:158", after := #[{ on := 1, ground := Ground.data }, { on := 2, ground := Ground.chain }, { on := 0, ground := Ground.phase }, { on := 1, ground := Ground.phase }, { on := 2, ground := Ground.phase }], guard := none }) (by kernel_rfl) rfl (fun K hK => ?_)
              rw [if_pos (by rfl)]
              refine wp_store_row 85 _ _ rfl g5 GY rfl rfl 85 _ FN.out.b5 FN.out.szg FN.out.c5 FN.out.oneg ?_
              refine hK.out _ _ (fun h => absurd (by decide) h) ?_
              clear hK K
              refine done_f (by kernel_rfl) ?_ _
              clear hS
              go_wp2
              exact ret_lg Tryz.results31 g4 g5 RY GY FN.out.s10 FN.out.s3 rfl rfl FN.out.f4 FN.out.f5 rfl (HQ.out _ _ _ _ _ _ RES.out.1 RES.out.2.1 rfl RES.out.2.2 FN.out.rcv)
            · have gA : ((ac : Int) == 0) = false := by simp; omega
              have RES : Hid (y3 = x.takeX k o p q a b ∧ [] = x.takeB k o p q a b ∧ (ac : Int) = (x.takeC k o p q a : Int)) := by unfold Hid; rw [HY3.out, HAC.out]; exact RESK.out (by have := HKK.out; omega) (.inl (HAC.out ▸ ha0))
              clear ha0
              go_upto_region 28 with (fail)
              have RB9 := hide1 (RB5.out.gotE (ac : Int))
              generalize W5.setCell ⟨g8, 2, none⟩ (.int .i64 (ac : Int)) = W9 at RB9 ⊢
              clear c0 c1 c2 c3 c4 c5 c6 c7 c8 c9 fz d0 d1 d2 d3 d4 d5 e0 e1 e2 fe
              have FN := hide1 (RB9.out.below (Below.refl _ _).drew).use
              have BG := hide1 RB9.out.bg
              have B8 := hide1 RB9.out.b8
              have NEF := hide1 RB9.out.ne
              go_upto_region 28 with (fail)
              generalize rcs _ _ _ _ = RY at FN BG
              generalize gotC _ _ _ = GY at FN B8
              refine region_f (F := [3]) (S := fun X => X.heap[g]? = some (.cells RY 39 (0, 0)) ∧ X.heap[g8]? = some (.cells GY 85 (0, 0))) (by kernel_rfl) ⟨BG.out, B8.out⟩ (fun hS => ?_)
              refine take_f 0 106 (.agg RY) [2, 3] rfl rfl (by kernel_rfl) (by kernel_rfl) (by kernel_rfl) (by kernel_rfl) (by kernel_rfl) (by kernel_rfl) (fun _ _ _ h => h) rfl (fun w hSw => by exact exec_load_box 39 (.tmp 2) rfl _ rfl 39 _ _ hSw.1 Tryz.underlying39 rfl FN.out.sz) hS ?_
              try simp only [List.setIfInBounds_toArray, List.set_cons_zero, List.set_cons_succ]
              refine take_f 1 107 (.agg GY) [3] rfl rfl (by kernel_rfl) (by kernel_rfl) (by kernel_rfl) (by kernel_rfl) (by kernel_rfl) (by kernel_rfl) (fun _ _ _ h => h) rfl (fun w hSw => by exact exec_load_box 85 (.tmp 8) rfl _ rfl 85 _ _ hSw.2 Tryz.underlying85 rfl FN.out.szg) hS ?_
              try simp only [List.setIfInBounds_toArray, List.set_cons_zero, List.set_cons_succ]
              refine ready_f 2 (o := { dst := none, op := Op.store 39 (Operand.tmp 4) (Operand.tmp 106), type := 0, pos := "ref.go:158", after := #[{ on := 0, ground := Ground.data }, { on := 0, ground := Ground.phase }, { on := 1, ground := Ground.textOnly Departure.lateStores }], guard := none }) (by kernel_rfl) rfl (fun K hK => ?_)
              rw [if_pos (by rfl)]
              refine wp_store_row 39 _ _ rfl g4 RY rfl rfl 39 _ FN.out.b4 FN.out.sz FN.out.c4 FN.out.one ?_
              refine hK.out _ _ (fun _ h => ⟨(setRow_other _ _ _ _ (by have := NEF.out; omega)).trans h.1, (setRow_other _ _ _ _ (by have := NEF.out; omega)).trans h.2⟩) ?_
              clear hK K
              refine ready_f 3 (o := { dst := none, op := Op.store 85 (Operand.tmp 5) (Operand.tmp 107), type := 0, pos := "ref.go:158", after := #[{ on := 1, ground := Ground.data }, { on := 2, ground := Ground.chain }, { on := 0, ground := Ground.phase }, { on := 1, ground := Ground.phase }, { on := 2, ground := Ground.phase }], guard := none }) (by kernel_rfl) rfl (fun K hK => ?_)
              rw [if_pos (by rfl)]
              refine wp_store_row 85 _ _ rfl g5 GY rfl rfl 85 _ FN.out.b5 FN.out.szg FN.out.c5 FN.out.oneg ?_
              refine hK.out _ _ (fun h => absurd (by decide) h) ?_
              clear hK K
              refine done_f (by kernel_rfl) ?_ _
              clear hS
              go_wp2
              exact ret_lg Tryz.results31 g4 g5 RY GY FN.out.s10 FN.out.s3 rfl rfl FN.out.f4 FN.out.f5 rfl (HQ.out _ _ _ _ _ _ RES.out.1 RES.out.2.1 rfl RES.out.2.2 FN.out.rcv)
      · have g12 : ((p : Int) != (y.own : Int)) = true := by simp; have := HYO.out; omega
        have f9 := fz 9
        go_upto_region 14 with (fail)
        have RBO := hide1 (RB1.out.mark (y2 := { y with owed := true }) 9 (.bool true) rfl rfl rfl rfl rfl)
        generalize wc.setCell ⟨g, 9, none⟩ (.bool true) = WO at RBO ⊢
        clear f9 g12
        clear c0 c1 c2 c3 c4 c5 c6 c7 c8 c9 fz d0 d1 d2 d3 d4 d5 e0 e1 e2 fe
        obtain ⟨⟨c0, c1, c2, c3, c4⟩, ⟨c5, c6, c7, c8, c9⟩, fz, _⟩ := box10 RBO.out.bg
        obtain ⟨d0, d1, d2, d3, d4, d5, _⟩ := X.box6 RBO.out.b6
        obtain ⟨e0, e1, e2⟩ := rowbox3 RBO.out.b8
        have fe := fun j => frozen_of_row _ g8 j _ _ RBO.out.b8
        by_cases hk1 : k = 1
        · have g14 : ((k : Int) != 1) = false := by simp; omega
          have RES1 : Hid (({ y with owed := true } : Ls) = x.takeX k o p q a b ∧ [] = x.takeB k o p q a b ∧ (0 : Int) = (x.takeC k o p q a : Int)) := by
            unfold Hid Ls.takeX Ls.takeB Ls.takeC
            rw [if_neg HPX.out, if_neg HPX.out, if_neg HPX.out, if_pos hpo, if_pos hpo, if_pos hpo, if_pos hk1, HY.out]
            exact ⟨rfl, rfl, rfl⟩
          clear hk1 hpo
          have FN := hide1 (RBO.out.below (Below.refl _ _).drew).use
          have BG := hide1 RBO.out.bg
          have B8 := hide1 RBO.out.b8
          have NEF := hide1 RBO.out.ne
          go_upto_region 16 with (fail)
          generalize rcs _ _ _ _ = RY at FN BG
          generalize gotC _ _ _ = GY at FN B8
          refine region_f (F := [3]) (S := fun X => X.heap[g]? = some (.cells RY 39 (0, 0)) ∧ X.heap[g8]? = some (.cells GY 85 (0, 0))) (by kernel_rfl) ⟨BG.out, B8.out⟩ (fun hS => ?_)
          refine take_f 0 57 (.agg RY) [2, 3] rfl rfl (by kernel_rfl) (by kernel_rfl) (by kernel_rfl) (by kernel_rfl) (by kernel_rfl) (by kernel_rfl) (fun _ _ _ h => h) rfl (fun w hSw => by exact exec_load_box 39 (.tmp 2) rfl _ rfl 39 _ _ hSw.1 Tryz.underlying39 rfl FN.out.sz) hS ?_
          try simp only [List.setIfInBounds_toArray, List.set_cons_zero, List.set_cons_succ]
          refine take_f 1 58 (.agg GY) [3] rfl rfl (by kernel_rfl) (by kernel_rfl) (by kernel_rfl) (by kernel_rfl) (by kernel_rfl) (by kernel_rfl) (fun _ _ _ h => h) rfl (fun w hSw => by exact exec_load_box 85 (.tmp 8) rfl _ rfl 85 _ _ hSw.2 Tryz.underlying85 rfl FN.out.szg) hS ?_
          try simp only [List.setIfInBounds_toArray, List.set_cons_zero, List.set_cons_succ]
          refine ready_f 2 (o := { dst := none, op := Op.store 39 (Operand.tmp 4) (Operand.tmp 57), type := 0, pos := "ref.go:142", after := #[{ on := 0, ground := Ground.data }, { on := 0, ground := Ground.phase }, { on := 1, ground := Ground.textOnly Departure.lateStores }], guard := none }) (by kernel_rfl) rfl (fun K hK => ?_)
          rw [if_pos (by rfl)]
          refine wp_store_row 39 _ _ rfl g4 RY rfl rfl 39 _ FN.out.b4 FN.out.sz FN.out.c4 FN.out.one ?_
          refine hK.out _ _ (fun _ h => ⟨(setRow_other _ _ _ _ (by have := NEF.out; omega)).trans h.1, (setRow_other _ _ _ _ (by have := NEF.out; omega)).trans h.2⟩) ?_
          clear hK K
          refine ready_f 3 (o := { dst := none, op := Op.store 85 (Operand.tmp 5) (Operand.tmp 58), type := 0, pos := "ref.go:142", after := #[{ on := 1, ground := Ground.data }, { on := 2, ground := Ground.chain }, { on := 0, ground := Ground.phase }, { on := 1, ground := Ground.phase }, { on := 2, ground := Ground.phase }], guard := none }) (by kernel_rfl) rfl (fun K hK => ?_)
          rw [if_pos (by rfl)]
          refine wp_store_row 85 _ _ rfl g5 GY rfl rfl 85 _ FN.out.b5 FN.out.szg FN.out.c5 FN.out.oneg ?_
          refine hK.out _ _ (fun h => absurd (by decide) h) ?_
          clear hK K
          refine done_f (by kernel_rfl) ?_ _
          clear hS
          go_wp2
          exact ret_lg Tryz.results31 g4 g5 RY GY FN.out.s10 FN.out.s3 rfl rfl FN.out.f4 FN.out.f5 rfl (HQ.out _ _ _ _ _ _ RES1.out.1 RES1.out.2.1 rfl RES1.out.2.2 FN.out.rcv)
        · have g14 : ((k : Int) != 1) = true := by simp; omega
          have RES1 : Hid (({ y with owed := true } : Ls) = x.takeX k o p q a b ∧ [] = x.takeB k o p q a b ∧ (21 : Int) = (x.takeC k o p q a : Int)) := by
            unfold Hid Ls.takeX Ls.takeB Ls.takeC
            rw [if_neg HPX.out, if_neg HPX.out, if_neg HPX.out, if_pos hpo, if_pos hpo, if_pos hpo, if_neg hk1, HY.out]
            exact ⟨rfl, rfl, rfl⟩
          clear hk1 hpo
          have f82 := fe 2
          go_upto_region 16 with (fail)
          have RB9 := hide1 (RBO.out.gotE 21)
          generalize WO.setCell ⟨g8, 2, none⟩ (.int .i64 21) = W9 at RB9 ⊢
          clear f82
          clear c0 c1 c2 c3 c4 c5 c6 c7 c8 c9 fz d0 d1 d2 d3 d4 d5 e0 e1 e2 fe
          have FN := hide1 (RB9.out.below (Below.refl _ _).drew).use
          have BG := hide1 RB9.out.bg
          have B8 := hide1 RB9.out.b8
          have NEF := hide1 RB9.out.ne
          go_upto_region 16 with (fail)
          generalize rcs _ _ _ _ = RY at FN BG
          generalize gotC _ _ _ = GY at FN B8
          refine region_f (F := [3]) (S := fun X => X.heap[g]? = some (.cells RY 39 (0, 0)) ∧ X.heap[g8]? = some (.cells GY 85 (0, 0))) (by kernel_rfl) ⟨BG.out, B8.out⟩ (fun hS => ?_)
          refine take_f 0 57 (.agg RY) [2, 3] rfl rfl (by kernel_rfl) (by kernel_rfl) (by kernel_rfl) (by kernel_rfl) (by kernel_rfl) (by kernel_rfl) (fun _ _ _ h => h) rfl (fun w hSw => by exact exec_load_box 39 (.tmp 2) rfl _ rfl 39 _ _ hSw.1 Tryz.underlying39 rfl FN.out.sz) hS ?_
          try simp only [List.setIfInBounds_toArray, List.set_cons_zero, List.set_cons_succ]
          refine take_f 1 58 (.agg GY) [3] rfl rfl (by kernel_rfl) (by kernel_rfl) (by kernel_rfl) (by kernel_rfl) (by kernel_rfl) (by kernel_rfl) (fun _ _ _ h => h) rfl (fun w hSw => by exact exec_load_box 85 (.tmp 8) rfl _ rfl 85 _ _ hSw.2 Tryz.underlying85 rfl FN.out.szg) hS ?_
          try simp only [List.setIfInBounds_toArray, List.set_cons_zero, List.set_cons_succ]
          refine ready_f 2 (o := { dst := none, op := Op.store 39 (Operand.tmp 4) (Operand.tmp 57), type := 0, pos := "ref.go:142", after := #[{ on := 0, ground := Ground.data }, { on := 0, ground := Ground.phase }, { on := 1, ground := Ground.textOnly Departure.lateStores }], guard := none }) (by kernel_rfl) rfl (fun K hK => ?_)
          rw [if_pos (by rfl)]
          refine wp_store_row 39 _ _ rfl g4 RY rfl rfl 39 _ FN.out.b4 FN.out.sz FN.out.c4 FN.out.one ?_
          refine hK.out _ _ (fun _ h => ⟨(setRow_other _ _ _ _ (by have := NEF.out; omega)).trans h.1, (setRow_other _ _ _ _ (by have := NEF.out; omega)).trans h.2⟩) ?_
          clear hK K
          refine ready_f 3 (o := { dst := none, op := Op.store 85 (Operand.tmp 5) (Operand.tmp 58), type := 0, pos := "ref.go:142", after := #[{ on := 1, ground := Ground.data }, { on := 2, ground := Ground.chain }, { on := 0, ground := Ground.phase }, { on := 1, ground := Ground.phase }, { on := 2, ground := Ground.phase }], guard := none }) (by kernel_rfl) rfl (fun K hK => ?_)
          rw [if_pos (by rfl)]
          refine wp_store_row 85 _ _ rfl g5 GY rfl rfl 85 _ FN.out.b5 FN.out.szg FN.out.c5 FN.out.oneg ?_
          refine hK.out _ _ (fun h => absurd (by decide) h) ?_
          clear hK K
          refine done_f (by kernel_rfl) ?_ _
          clear hS
          go_wp2
          exact ret_lg Tryz.results31 g4 g5 RY GY FN.out.s10 FN.out.s3 rfl rfl FN.out.f4 FN.out.f5 rfl (HQ.out _ _ _ _ _ _ RES1.out.1 RES1.out.2.1 rfl RES1.out.2.2 FN.out.rcv)

end Go.Proofs.YtcadlcpccemkbaaGreatDoor
