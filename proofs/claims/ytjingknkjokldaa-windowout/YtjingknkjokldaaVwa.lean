/- WindowOut: both Outs alike, call by call. -/
import Derived.Test.YtjingknkjokldaaVw
import Derived.Test.YtjingknkjokldaaVx
namespace Go.Proofs.Ytjingknkjokldaa
open Go.RowKit
set_option maxRecDepth 100000
attribute [local go_sem] not_any

set_option maxHeartbeats 4000000 in
theorem out_all (w : World) (b : Nat) (hb : b < 4294967296) (m cap : Nat) (aa : Option Addr) (hA : Ac w m aa) :
    Calls Try.prog 3 #[.int .u32 (b : Int), .slice aa m cap] w fun e w' => e = .returned (.bool true) ∧ Below w.heap.size w w' := by
  have HA := hide1 hA
  clear hA
  by_cases hbig : 4294967294 < b
  · have hbi : (4294967294 : Int) < (b : Int) := by omega
    have kA := hide1 (awake_any w)
    clear hb hbig
    go_enter Try.func3, Try.ntmps3
    go_wp2_with fail
    refine kA.out.mono ?_
    rintro e w2 ⟨rfl, hb2⟩
    have HB2 := hide1 hb2
    clear hb2
    go_wp2
    go_ret
    exact ⟨rfl, HB2.out⟩
  have hbi : ¬ (4294967294 : Int) < (b : Int) := by omega
  have kF := hide1 (from_any b (by omega) w)
  have HBL : Hid (b ≤ 4294967294) := by unfold Hid; omega
  have hcv : IntKind.i64.wrap (b : Int) = (b : Int) := by rw [IntKind.wrap_i64]; omega
  clear hb hbig
  go_enter Try.func3, Try.ntmps3
  go_wp2_with fail
  refine kF.out.mono ?_
  rintro e w1 ⟨rfl, rfl⟩
  have hw1 : (w.alloc (.cells #[.int .u32 (b : Int), .slice none 0 0] 63)).heap.size = w.heap.size + 1 := by simp
  have ST : Hid (Bp w.heap.size w.heap.size (w.heap.size + 1) (.slice none 0 0) (.slice none 0 0) (b + 0) ([].drop 0) b 0 [] ((w.alloc (.cells #[.int .u32 (b : Int), .slice none 0 0] 63)).alloc (.cells #[.int .i64 (b : Int), .slice none 0 0, .int .i64 0] 29))) := by
    have h0 : Otm w.heap.size w.heap.size (.slice none 0 0) (b + 0) ([].drop 0) (w.alloc (.cells #[.int .u32 (b : Int), .slice none 0 0] 63)) := ⟨heap_alloc_new _ _, Lst.nil _ _, fun h => by cases h⟩
    exact ⟨h0.below (below1 _) (Nat.le_refl _), by rw [← hw1]; exact heap_alloc_new _ _, ⟨none, 0, rfl, fun j hj => by simp at hj⟩, Nat.le_refl _, by omega, by omega, fun h => (by cases h), fun h => absurd rfl h⟩
  have SB : Hid (Below w.heap.size w ((w.alloc (.cells #[.int .u32 (b : Int), .slice none 0 0] 63)).alloc (.cells #[.int .i64 (b : Int), .slice none 0 0, .int .i64 0] 29))) := (below1 _).alloc (by simp) _
  clear hw1
  go_wp2_with fail
  generalize World.alloc _ _ = X at ST SB ⊢
  obtain ⟨B, hB0⟩ : ∃ B, w.heap.size = B := ⟨_, rfl⟩
  obtain ⟨r, hr0⟩ : ∃ r, w.heap.size + 1 = r := ⟨_, rfl⟩
  rw [hr0, hB0] at ST
  rw [hB0] at SB
  have HB0 := hide1 hB0
  rw [hr0, hB0]
  clear hB0 hr0 hcv hbi kF
  go_loopw [7] (fun i wr => ∃ (j : Nat) (v u : Value) (c : Nat) (LL : List ByteArray), j ≤ m ∧ j ≤ 60 ∧ i = .int .i64 (j : Int) ∧ LL.length ≤ j ∧ Bp B B r v u (b + c) (LL.drop c) b c LL wr ∧ Lim b c LL ∧ Below B w wr) (fun v _ => 60 - (intOf v).toNat)
  case atStart => exact ⟨0, _, _, 0, [], Nat.zero_le _, Nat.zero_le _, rfl, Nat.le_refl _, ST.out, ⟨Nat.le_refl _, by simp, HBL.out, fun s hs => (by simp at hs)⟩, SB.out⟩
  case round =>
    obtain ⟨j, v, u, c, LL, hjm, hj60, rfl, hlj, hBp, hLim, hB⟩ := hrel
    have BP := hide1 hBp
    have LM := hide1 hLim
    have LJ := hide1 hlj
    have B0 := hide1 hB
    have BS : Hid (B ≤ wr.heap.size) := by have := HB0.out; have := hB.size; unfold Hid; omega
    by_cases hend : j < m ∧ j < 60
    · obtain ⟨hjm', hj60'⟩ := hend
      have hj60i : (j : Int) < 60 := by omega
      have hjmi : (j : Int) < (m : Int) := by omega
      obtain ⟨g, o, kd, q, x, rfl, hq, hxs, h3⟩ := HA.out j hjm'
      obtain ⟨p0, hp0⟩ : ∃ p, o + j * 3 = p := ⟨_, rfl⟩
      rw [hp0] at h3
      have HC : Hid (∀ W, Below B w W → W.cell? ⟨g, p0, none⟩ = some (.int .i64 kd) ∧ W.cell? ⟨g, p0 + 1, none⟩ = some (.int .u32 (q : Int)) ∧ W.cell? ⟨g, p0 + 2, none⟩ = some (.string x)) := fun W hW => by
        have := h3.same (hW.block g (by have := block_lt_of_cell h3.c0; have := HB0.out; simp only at *; omega))
        exact ⟨this.c0, this.c1, this.c2⟩
      obtain ⟨c0, c1, c2⟩ := HC.out wr hB
      obtain ⟨ua, un, hu⟩ : ∃ a cp, u = .slice a LL.length cp := by obtain ⟨a, cp, e, _⟩ := hBp.rd; exact ⟨a, cp, e⟩
      obtain ⟨n, hn⟩ : ∃ n, LL.length = n := ⟨_, rfl⟩
      rw [hn] at hu
      subst hu
      have HN := hide1 hn
      have RLT : Hid (r < wr.heap.size) := lt_heap hBp.row
      have HKA : Hid (b + c + (LL.drop c).length + 1 < 4294967296 ∧ (LL.drop c).length ≤ 16 ∧ LL.length ≤ 1000) := by
        obtain ⟨e1, e2, e3, _⟩ := hLim
        rw [List.length_drop]
        exact ⟨by omega, by omega, by omega⟩
      have HQ := hide1 hq
      by_cases hkd : kd = 0
      · subst hkd
        have kT := hide1 (put_any hBp.ot BS.out HKA.out.1 HKA.out.2.1 x hxs)
        have kR : Hid (∀ W, Rdl W (.slice ua n un) LL → Calls Try.prog 10 #[.agg #[.int .i64 (b : Int), .slice ua n un, .int .i64 (c : Int)], .string x] W fun e w' => ∃ u, e = .returned (.tuple #[.agg #[.int .i64 (b : Int), u, .int .i64 (c : Int)], .int .i64 (ptN (b + c) (LL.drop c) : Int), .int .i64 (ptC (b + c) (LL.drop c) : Int)]) ∧ Rdl w' u (poL b c LL x) ∧ Below W.heap.size W w' ∧ (poL b c LL x ≠ [] → ∀ g, u.ownBlock = some g → ((Value.slice ua n un).ownBlock = some g ∧ g < W.heap.size ∧ LL ≠ []) ∨ W.heap.size ≤ g)) := fun W hW => rput_any b n c un ua x hW hLim HKA.out.2.2
        have LM2 := hide1 (hLim.put (x := x) hxs)
        have HNB : Hid (ptN (b + c) (LL.drop c) < 4294967296) := by have := HKA.out.1; unfold Hid ptN; split <;> omega
        rw [po_drop hLim.le] at kT
        generalize ptN (b + c) (LL.drop c) = N1 at kT kR HNB
        generalize ptC (b + c) (LL.drop c) = C1 at kT kR
        generalize poL b c LL x = L2 at kT kR LM2
        obtain ⟨n2, hn2⟩ : ∃ n, L2.length = n := ⟨_, rfl⟩
        have HN2 := hide1 hn2
        have hcv : IntKind.i64.wrap (N1 : Int) = (N1 : Int) := by have := HNB.out; rw [IntKind.wrap_i64]; omega
        have hN0 : (0 : Int) ≤ (N1 : Int) := by omega
        clear hBp hLim hB hlj hq hxs hn hn2 h3
        go_wp2_with fail
        refine kT.out.mono ?_
        rintro e W1 ⟨v1, rfl, hO1, hK1, hF1⟩
        have TK := hide1 (BP.out.called BS.out hO1 hK1 hF1)
        have B1 : Hid (Below B w W1) := B0.out.trans TK.out.2
        have BJ := hide1 TK.out.1
        have D1 := HC.out W1 B1.out
        have BS1 : Hid (B ≤ W1.heap.size) := by
          have h2 := hK1.size
          have h3 := BS.out
          unfold Hid
          omega
        clear hO1 hK1 hF1 TK kT c0 c1 c2 BP B0
        go_upto_region 9 with (fail)
        refine region_f (F := [12]) (S := fun W => Below W1.heap.size W1 W) (by kernel_rfl) ((Below.refl _ _).drew) (fun hS => ?_)
        generalize World.drew W1 = X1 at hS ⊢
        have BJU := hide1 (BJ.out.below hS)
        have hr1 := lt_heap BJ.out.row
        have hg1 := block_lt_of_cell D1.1
        simp only at hg1
        obtain ⟨x0, x1, x2, _, _, _⟩ := box3 BJ.out.row
        refine take_f 0 51 (.agg #[.int .i64 (b : Int), .slice ua n un, .int .i64 (c : Int)]) [6, 7, 8, 9, 10, 12, 13, 14] rfl rfl (by kernel_rfl) (by kernel_rfl) (by kernel_rfl) (by kernel_rfl) (by kernel_rfl) (by kernel_rfl) (fun _ _ _ h => h) rfl (fun w hSw => by have e0 := (hSw.cell (p := ⟨r, 0, none⟩) hr1).trans x0; have e1 := (hSw.cell (p := ⟨r, 1, none⟩) hr1).trans x1; have e1b := (hSw.cell (p := ⟨r, 2, none⟩) hr1).trans x2; have e2 := (hSw.cell (p := ⟨g, p0 + 1, none⟩) hg1).trans D1.2.1; have e3 := (hSw.cell (p := ⟨g, p0 + 2, none⟩) hg1).trans D1.2.2; go_simp) hS ?_
        try simp only [List.setIfInBounds_toArray, List.set_cons_zero, List.set_cons_succ]
        refine take_p 1 52 (.slice (some ⟨g, o, none⟩) m cap) rfl rfl (by kernel_rfl) (by kernel_rfl) (by kernel_rfl) (fun _ _ _ h => h) rfl (fun w => by go_simp) ?_
        try simp only [List.setIfInBounds_toArray, List.set_cons_zero, List.set_cons_succ]
        refine take_p 2 53 (.int .i64 (j : Int)) rfl rfl (by kernel_rfl) (by kernel_rfl) (by kernel_rfl) (fun _ _ _ h => h) rfl (fun w => by go_simp) ?_
        try simp only [List.setIfInBounds_toArray, List.set_cons_zero, List.set_cons_succ]
        refine take_p 3 54 (.pointer (some ⟨g, p0, none⟩)) rfl rfl (by kernel_rfl) (by kernel_rfl) (by kernel_rfl) (fun _ _ _ h => h) rfl (fun w => by go_simp) ?_
        try simp only [List.setIfInBounds_toArray, List.set_cons_zero, List.set_cons_succ]
        refine take_p 4 55 (.pointer (some ⟨g, p0 + 2, none⟩)) rfl rfl (by kernel_rfl) (by kernel_rfl) (by kernel_rfl) (fun _ _ _ h => h) rfl (fun w => by go_simp) ?_
        try simp only [List.setIfInBounds_toArray, List.set_cons_zero, List.set_cons_succ]
        refine take_f 5 56 (.string x) [6, 7, 8, 9, 10, 12, 13, 14] rfl rfl (by kernel_rfl) (by kernel_rfl) (by kernel_rfl) (by kernel_rfl) (by kernel_rfl) (by kernel_rfl) (fun _ _ _ h => h) rfl (fun w hSw => by have e0 := (hSw.cell (p := ⟨r, 0, none⟩) hr1).trans x0; have e1 := (hSw.cell (p := ⟨r, 1, none⟩) hr1).trans x1; have e1b := (hSw.cell (p := ⟨r, 2, none⟩) hr1).trans x2; have e2 := (hSw.cell (p := ⟨g, p0 + 1, none⟩) hg1).trans D1.2.1; have e3 := (hSw.cell (p := ⟨g, p0 + 2, none⟩) hg1).trans D1.2.2; go_simp) hS ?_
        try simp only [List.setIfInBounds_toArray, List.set_cons_zero, List.set_cons_succ]
        refine ready2_f 6 11 (o := { dst := some 57, op := Op.call { callee := Callee.value (Operand.func 10), args := #[Operand.tmp 51, Operand.tmp 56], argTypes := #[29, 9] }, type := 35, pos := "law.go:45", after := #[{ on := 0, ground := Ground.data }, { on := 5, ground := Ground.data }], guard := none }) (o' := { dst := some 10, op := Op.alloc 29, type := 0, pos := "law.go:45", after := #[], guard := none }) (by kernel_rfl) rfl rfl (fun K hK => ?oap) (fun K hK => ?obp)
        case' oap =>
          go_simp
          refine (kR.out _ BJU.out.rd).mono ?_
          rintro e W2 ⟨u2, rfl, hR2, hB2, hO2⟩
          obtain ⟨u2a, u2c, hu2, _⟩ := id hR2
          rw [HN2.out] at hu2
          subst hu2
          refine hK.out _ _ (fun _ h => h.trans (hB2.mono h.size)) ?_
          clear hK K
          try simp only [Act.put, List.setIfInBounds_toArray, List.set_cons_zero, List.set_cons_succ]
          refine take_p 7 50 (.tuple #[.agg #[.int .i64 (b : Int), .slice u2a n2 u2c, .int .i64 (c : Int)], .int .i64 (N1 : Int), .int .i64 (C1 : Int)]) rfl rfl (by kernel_rfl) (by kernel_rfl) (by kernel_rfl) (fun _ _ _ h => h) rfl (fun w => by go_simp) ?_
          try simp only [List.setIfInBounds_toArray, List.set_cons_zero, List.set_cons_succ]
          refine take_p 8 58 (.agg #[.int .i64 (b : Int), .slice u2a n2 u2c, .int .i64 (c : Int)]) rfl rfl (by kernel_rfl) (by kernel_rfl) (by kernel_rfl) (fun _ _ _ h => h) rfl (fun w => by go_simp) ?_
          try simp only [List.setIfInBounds_toArray, List.set_cons_zero, List.set_cons_succ]
          refine take_p 9 59 (.int .i64 (N1 : Int)) rfl rfl (by kernel_rfl) (by kernel_rfl) (by kernel_rfl) (fun _ _ _ h => h) rfl (fun w => by go_simp) ?_
          try simp only [List.setIfInBounds_toArray, List.set_cons_zero, List.set_cons_succ]
          refine take_p 10 60 (.int .i64 (C1 : Int)) rfl rfl (by kernel_rfl) (by kernel_rfl) (by kernel_rfl) (fun _ _ _ h => h) rfl (fun w => by go_simp) ?_
          try simp only [List.setIfInBounds_toArray, List.set_cons_zero, List.set_cons_succ]
          refine ready_f 11 (o := { dst := some 10, op := Op.alloc 29, type := 0, pos := "law.go:45", after := #[], guard := none }) (by kernel_rfl) rfl (fun K hK => ?_)
          go_simp
          refine hK.out _ _ (fun _ h => h.alloc h.size _) ?_
          clear hK K
          try simp only [Act.put, List.setIfInBounds_toArray, List.set_cons_zero, List.set_cons_succ]
          have MD := hide1 (mo_call b c hR2 hB2 hO2 (.int .i64 0) (.slice none 0 0) (.int .i64 0))
          obtain ⟨k0, _, _, f0, _, _⟩ := box3 (heap_alloc_new W2 (.cells #[.int .i64 0, .slice none 0 0, .int .i64 0] 29))
          obtain ⟨f1, k1, f2, k2⟩ := free3 (x' := .int .i64 (b : Int)) (y' := .slice u2a n2 u2c) (heap_alloc_new W2 (.cells #[.int .i64 0, .slice none 0 0, .int .i64 0] 29))
          generalize hg9 : W2.heap.size = g9 at MD f0 f1 f2 k0 k1 k2 ⊢
          generalize W2.alloc (.cells #[.int .i64 0, .slice none 0 0, .int .i64 0] 29) = W3 at MD f0 f1 f2 k0 k1 k2 ⊢
          clear hR2 hB2 hO2
          refine ready_f 12 (o := { dst := none, op := Op.store 29 (Operand.tmp 10) (Operand.tmp 58), type := 0, pos := "law.go:45", after := #[{ on := 11, ground := Ground.data }, { on := 8, ground := Ground.data }, { on := 6, ground := Ground.chain }, { on := 0, ground := Ground.phase }, { on := 1, ground := Ground.phase }, { on := 2, ground := Ground.phase }, { on := 3, ground := Ground.phase }, { on := 4, ground := Ground.phase }, { on := 5, ground := Ground.phase }, { on := 6, ground := Ground.phase }, { on := 7, ground := Ground.phase }, { on := 8, ground := Ground.phase }, { on := 9, ground := Ground.textOnly Departure.lateStores }, { on := 10, ground := Ground.textOnly Departure.lateStores }, { on := 11, ground := Ground.phase }], guard := none }) (by kernel_rfl) rfl (fun K hK => ?_)
          go_simp
          refine hK.out _ _ (fun h => absurd (by decide) h) ?_
          clear hK K
          refine take_p 13 11 (.int .i64 (N1 : Int)) rfl rfl (by kernel_rfl) (by kernel_rfl) (by kernel_rfl) (fun _ _ _ h => h) rfl (fun w => by go_simp) ?_
          try simp only [List.setIfInBounds_toArray, List.set_cons_zero, List.set_cons_succ]
          refine take_p 14 12 (.int .i64 (C1 : Int)) rfl rfl (by kernel_rfl) (by kernel_rfl) (by kernel_rfl) (fun _ _ _ h => h) rfl (fun w => by go_simp) ?_
          try simp only [List.setIfInBounds_toArray, List.set_cons_zero, List.set_cons_succ]
          refine done_f (by kernel_rfl) ?_ _
          generalize ((W3.setCell ⟨g9, 0, none⟩ (.int .i64 (b : Int))).setCell ⟨g9, 1, none⟩ (.slice u2a n2 u2c)).setCell ⟨g9, 2, none⟩ (.int .i64 (c : Int)) = W5 at MD ⊢
          clear k0 k1 k2 f0 f1 f2
        case' obp =>
          go_simp
          refine hK.out _ _ (fun _ h => h.alloc h.size _) ?_
          clear hK K
          try simp only [Act.put, List.setIfInBounds_toArray, List.set_cons_zero, List.set_cons_succ]
          have RB := BJU.out.rd.below (below1 (.cells #[.int .i64 0, .slice none 0 0, .int .i64 0] 29)) (Nat.le_refl _)
          refine ready_f 6 (o := { dst := some 57, op := Op.call { callee := Callee.value (Operand.func 10), args := #[Operand.tmp 51, Operand.tmp 56], argTypes := #[29, 9] }, type := 35, pos := "law.go:45", after := #[{ on := 0, ground := Ground.data }, { on := 5, ground := Ground.data }], guard := none }) (by kernel_rfl) rfl (fun K hK => ?_)
          go_simp
          refine (kR.out _ RB).mono ?_
          rintro e W2 ⟨u2, rfl, hR2, hB2, hO2⟩
          obtain ⟨u2a, u2c, hu2, _⟩ := id hR2
          rw [HN2.out] at hu2
          subst hu2
          refine hK.out _ _ (fun _ h => h.trans (hB2.mono h.size)) ?_
          clear hK K
          try simp only [Act.put, List.setIfInBounds_toArray, List.set_cons_zero, List.set_cons_succ]
          have MD := hide1 (mo_box b c hR2 hB2 BJU.out.rd hO2)
          have r9 := (hB2.block _ (by simp)).trans (heap_alloc_new X1 (.cells #[.int .i64 0, .slice none 0 0, .int .i64 0] 29))
          obtain ⟨k0, _, _, f0, _, _⟩ := box3 r9
          obtain ⟨f1, k1, f2, k2⟩ := free3 (x' := .int .i64 (b : Int)) (y' := .slice u2a n2 u2c) r9
          clear r9 RB hR2 hB2 hO2
          generalize hg9 : X1.heap.size = g9 at MD f0 f1 f2 k0 k1 k2 ⊢
          refine take_p 7 50 (.tuple #[.agg #[.int .i64 (b : Int), .slice u2a n2 u2c, .int .i64 (c : Int)], .int .i64 (N1 : Int), .int .i64 (C1 : Int)]) rfl rfl (by kernel_rfl) (by kernel_rfl) (by kernel_rfl) (fun _ _ _ h => h) rfl (fun w => by go_simp) ?_
          try simp only [List.setIfInBounds_toArray, List.set_cons_zero, List.set_cons_succ]
          refine take_p 8 58 (.agg #[.int .i64 (b : Int), .slice u2a n2 u2c, .int .i64 (c : Int)]) rfl rfl (by kernel_rfl) (by kernel_rfl) (by kernel_rfl) (fun _ _ _ h => h) rfl (fun w => by go_simp) ?_
          try simp only [List.setIfInBounds_toArray, List.set_cons_zero, List.set_cons_succ]
          refine take_p 9 59 (.int .i64 (N1 : Int)) rfl rfl (by kernel_rfl) (by kernel_rfl) (by kernel_rfl) (fun _ _ _ h => h) rfl (fun w => by go_simp) ?_
          try simp only [List.setIfInBounds_toArray, List.set_cons_zero, List.set_cons_succ]
          refine take_p 10 60 (.int .i64 (C1 : Int)) rfl rfl (by kernel_rfl) (by kernel_rfl) (by kernel_rfl) (fun _ _ _ h => h) rfl (fun w => by go_simp) ?_
          try simp only [List.setIfInBounds_toArray, List.set_cons_zero, List.set_cons_succ]
          refine ready_f 12 (o := { dst := none, op := Op.store 29 (Operand.tmp 10) (Operand.tmp 58), type := 0, pos := "law.go:45", after := #[{ on := 11, ground := Ground.data }, { on := 8, ground := Ground.data }, { on := 6, ground := Ground.chain }, { on := 0, ground := Ground.phase }, { on := 1, ground := Ground.phase }, { on := 2, ground := Ground.phase }, { on := 3, ground := Ground.phase }, { on := 4, ground := Ground.phase }, { on := 5, ground := Ground.phase }, { on := 6, ground := Ground.phase }, { on := 7, ground := Ground.phase }, { on := 8, ground := Ground.phase }, { on := 9, ground := Ground.textOnly Departure.lateStores }, { on := 10, ground := Ground.textOnly Departure.lateStores }, { on := 11, ground := Ground.phase }], guard := none }) (by kernel_rfl) rfl (fun K hK => ?_)
          go_simp
          refine hK.out _ _ (fun h => absurd (by decide) h) ?_
          clear hK K
          refine take_p 13 11 (.int .i64 (N1 : Int)) rfl rfl (by kernel_rfl) (by kernel_rfl) (by kernel_rfl) (fun _ _ _ h => h) rfl (fun w => by go_simp) ?_
          try simp only [List.setIfInBounds_toArray, List.set_cons_zero, List.set_cons_succ]
          refine take_p 14 12 (.int .i64 (C1 : Int)) rfl rfl (by kernel_rfl) (by kernel_rfl) (by kernel_rfl) (fun _ _ _ h => h) rfl (fun w => by go_simp) ?_
          try simp only [List.setIfInBounds_toArray, List.set_cons_zero, List.set_cons_succ]
          refine done_f (by kernel_rfl) ?_ _
          generalize ((W2.setCell ⟨g9, 0, none⟩ (.int .i64 (b : Int))).setCell ⟨g9, 1, none⟩ (.slice u2a n2 u2c)).setCell ⟨g9, 2, none⟩ (.int .i64 (c : Int)) = W5 at MD ⊢
          clear k0 k1 k2 f0 f1 f2
        all_goals
          have BJ5 := hide1 (BJU.out.below MD.out.bel)
          have hr5 := BJ5.out.row
          obtain ⟨e0, e1, e2, f0, _, _⟩ := box3 hr5
          obtain ⟨f1, e1', f2, e2'⟩ := free3 (x' := .int .i64 (b : Int)) (y' := .slice u2a n2 u2c) hr5
          obtain ⟨d0, d1, d2, _, _, _⟩ := box3 MD.out.row
          have B5 : Hid (Below B w W5) := (B1.out.trans (hS.mono BS1.out)).trans (MD.out.bel.mono (by have := hS.size; have := BS1.out; omega))
          have B6 : Hid (Below B w (((W5.setCell ⟨r, 0, none⟩ (.int .i64 (b : Int))).setCell ⟨r, 1, none⟩ (.slice u2a n2 u2c)).setCell ⟨r, 2, none⟩ (.int .i64 (c : Int)))) := below_set3 B5.out BJ.out.br
          have BI6 : Hid (Bp B B r v1 (.slice u2a n2 u2c) (b + c) (L2.drop c) b c L2 (((W5.setCell ⟨r, 0, none⟩ (.int .i64 (b : Int))).setCell ⟨r, 1, none⟩ (.slice u2a n2 u2c)).setCell ⟨r, 2, none⟩ (.int .i64 (c : Int)))) := BJU.out.stored MD.out.bel MD.out.rd MD.out.own
          clear BJ BJ5 BJU MD B5 hS hr5 x0 x1 x2 hg1 D1
          go_upto_region 18 with (fail)
          generalize ((W5.setCell ⟨r, 0, none⟩ (.int .i64 (b : Int))).setCell ⟨r, 1, none⟩ (.slice u2a n2 u2c)).setCell ⟨r, 2, none⟩ (.int .i64 (c : Int)) = W6 at BI6 B6 ⊢
          clear e0 e1 e2 e1' e2' d0 d1 d2 f0 f1 f2
          have S6 : Hid (W6.cell? ⟨r, 0, none⟩ = some (.int .i64 (b : Int)) ∧ W6.cell? ⟨r, 1, none⟩ = some (.slice u2a n2 u2c) ∧ W6.cell? ⟨r, 2, none⟩ = some (.int .i64 (c : Int)) ∧ r < W6.heap.size) := by
            obtain ⟨y0, y1, y2, _, _, _⟩ := box3 BI6.out.row
            exact ⟨y0, y1, y2, lt_heap BI6.out.row⟩
          have LX : Hid (b + c + (L2.drop c).length + 1 = b + n2 + 1 ∧ b + n2 + 1 < 4294967296 ∧ (L2.drop c).length ≤ 16 ∧ n2 ≤ 1000 ∧ c ≤ n2 ∧ Szl (L2.drop c)) := by
            obtain ⟨⟨z1, z2, z3, z4⟩, z5⟩ := LM2.out
            have z6 := HN2.out
            have z7 := LJ.out
            have z8 := HN.out
            rw [List.length_drop]
            exact ⟨by omega, by omega, by omega, by omega, by omega, fun s hs => z4 s (List.mem_of_mem_drop hs)⟩
          obtain ⟨mm, hmm⟩ : ∃ k, b + n2 + 1 = k := ⟨_, rfl⟩
          obtain ⟨n5, hn5⟩ : ∃ k, (L2.drop c).length = k := ⟨_, rfl⟩
          obtain ⟨rm, hrm⟩ : ∃ k, 16 - n5 = k := ⟨_, rfl⟩
          have HX : Hid (mm < 4294967296 ∧ n5 ≤ 16 ∧ 16 - n5 = rm) := by have := LX.out; exact ⟨by omega, by omega, hrm⟩
          have kP : Hid (∀ W, Otm B B v1 (b + c) (L2.drop c) W → Calls Try.prog 15 #[.pointer (some ⟨B, 0, none⟩)] W fun e w' => ∃ z, e = .returned z ∧ Nls 65 W.heap.size w' z (pend (b + c + 1) (L2.drop c)) ∧ Below W.heap.size W w') := fun W hW => pending_any hW (by have := LX.out; omega) (by have := LX.out; omega) LX.out.2.2.2.2.2
          have kQ : Hid (∀ W, Rdl W (.slice u2a n2 u2c) L2 → Calls Try.prog 16 #[.agg #[.int .i64 (b : Int), .slice u2a n2 u2c, .int .i64 (c : Int)]] W fun e w' => ∃ z, e = .returned z ∧ Nls 71 W.heap.size w' z (pend (b + c + 1) (L2.drop c)) ∧ Below W.heap.size W w') := fun W hW => rpending_any b n2 c _ _ hW (by have := LX.out; omega) (by have := LX.out; omega) (by have := LX.out; omega)
          have kX : Hid (∀ W, Otm B B v1 (b + c) (L2.drop c) W → Calls Try.prog 17 #[.pointer (some ⟨B, 0, none⟩)] W fun e w' => e = .returned (.int .u32 (mm : Int)) ∧ w' = W.drew) := fun W hW => by
            have := next_any hW (by have := LX.out; omega)
            rw [LX.out.1, hmm] at this
            exact this
          have kY : Hid (∀ W, Calls Try.prog 18 #[.agg #[.int .i64 (b : Int), .slice u2a n2 u2c, .int .i64 (c : Int)]] W fun e w' => e = .returned (.int .i64 (mm : Int)) ∧ Below W.heap.size W w') := fun W => by
            have := rnext_any b n2 c u2c u2a W (by have := LX.out; omega) (by have := LX.out; omega)
            rw [hmm] at this
            exact this
          have kO : Hid (∀ W, Otm B B v1 (b + c) (L2.drop c) W → Calls Try.prog 19 #[.pointer (some ⟨B, 0, none⟩)] W fun e w' => e = .returned (.int .i64 (rm : Int)) ∧ w' = W) := fun W hW => by
            have := room_any hW (by have := LX.out; omega)
            rw [hn5, hrm] at this
            exact this
          have PL : Hid ((pend (b + c + 1) (L2.drop c)).length = n5) := by unfold Hid; rw [pend_length]; exact hn5
          clear hmm hn5 hrm
          refine region_f (F := []) (S := fun W => W.cell? ⟨r, 0, none⟩ = some (.int .i64 (b : Int)) ∧ W.cell? ⟨r, 1, none⟩ = some (.slice u2a n2 u2c) ∧ W.cell? ⟨r, 2, none⟩ = some (.int .i64 (c : Int)) ∧ r < W.heap.size) (by kernel_rfl) S6.out (fun hS => ?_)
          have bU6 : Hid (Below W6.heap.size W6 (World.drew W6)) := (Below.refl _ _).drew
          generalize World.drew W6 = X2 at hS bU6 ⊢
          refine take_p 0 93 (.pointer (some ⟨B, 0, none⟩)) rfl rfl (by kernel_rfl) (by kernel_rfl) (by kernel_rfl) (fun _ _ _ h => h) rfl (fun w => by go_simp) ?_
          try simp only [List.setIfInBounds_toArray, List.set_cons_zero, List.set_cons_succ]
          refine take_f 3 96 (.agg #[.int .i64 (b : Int), .slice u2a n2 u2c, .int .i64 (c : Int)]) [4, 5, 6, 7, 8, 9, 10, 11, 12, 13, 14, 15, 16, 17, 18, 19, 20, 21, 22, 23] rfl rfl (by kernel_rfl) (by kernel_rfl) (by kernel_rfl) (by kernel_rfl) (by kernel_rfl) (by kernel_rfl) (fun _ _ _ h => h) rfl (fun w hSw => by obtain ⟨g0, g1, g2, g3⟩ := hSw; go_simp) hS ?_
          try simp only [List.setIfInBounds_toArray, List.set_cons_zero, List.set_cons_succ]
          refine ready_f 1 (o := { dst := some 94, op := Op.call { callee := Callee.value (Operand.func 15), args := #[Operand.tmp 93], argTypes := #[25] }, type := 43, pos := "law.go:58", after := #[{ on := 0, ground := Ground.data }], guard := none }) (by kernel_rfl) rfl (fun K hK => ?_)
          go_simp
          refine (kP.out _ (BI6.out.below bU6.out).ot).mono ?_
          rintro e X3 ⟨z1, rfl, hz1, hb⟩
          refine hK.out _ _ (fun _ h => ⟨(hb.cell (p := ⟨r, 0, none⟩) h.2.2.2).trans h.1, (hb.cell (p := ⟨r, 1, none⟩) h.2.2.2).trans h.2.1, (hb.cell (p := ⟨r, 2, none⟩) h.2.2.2).trans h.2.2.1, Nat.lt_of_lt_of_le h.2.2.2 hb.size⟩) ?_
          clear hK K
          try simp only [Act.put, List.setIfInBounds_toArray, List.set_cons_zero, List.set_cons_succ]
          replace hS : X3.cell? ⟨r, 0, none⟩ = some (.int .i64 (b : Int)) ∧ X3.cell? ⟨r, 1, none⟩ = some (.slice u2a n2 u2c) ∧ X3.cell? ⟨r, 2, none⟩ = some (.int .i64 (c : Int)) ∧ r < X3.heap.size := ⟨(hb.cell (p := ⟨r, 0, none⟩) hS.2.2.2).trans hS.1, (hb.cell (p := ⟨r, 1, none⟩) hS.2.2.2).trans hS.2.1, (hb.cell (p := ⟨r, 2, none⟩) hS.2.2.2).trans hS.2.2.1, Nat.lt_of_lt_of_le hS.2.2.2 hb.size⟩
          replace bU6 : Hid (Below W6.heap.size W6 X3) := bU6.out.trans (hb.mono bU6.out.size)
          clear hb
          refine ready_f 2 (o := { dst := some 95, op := Op.call { callee := Callee.value (Operand.func 14), args := #[Operand.tmp 94], argTypes := #[43] }, type := 41, pos := "law.go:58", after := #[{ on := 1, ground := Ground.data }, { on := 1, ground := Ground.chain }], guard := none }) (by kernel_rfl) rfl (fun K hK => ?_)
          go_simp
          refine (told_any hz1.rd (by rw [PL.out]; have := HX.out; omega)).mono ?_
          rintro e X4 ⟨z2, rfl, hz2, hb⟩
          refine hK.out _ _ (fun _ h => ⟨(hb.cell (p := ⟨r, 0, none⟩) h.2.2.2).trans h.1, (hb.cell (p := ⟨r, 1, none⟩) h.2.2.2).trans h.2.1, (hb.cell (p := ⟨r, 2, none⟩) h.2.2.2).trans h.2.2.1, Nat.lt_of_lt_of_le h.2.2.2 hb.size⟩) ?_
          clear hK K
          try simp only [Act.put, List.setIfInBounds_toArray, List.set_cons_zero, List.set_cons_succ]
          replace hS : X4.cell? ⟨r, 0, none⟩ = some (.int .i64 (b : Int)) ∧ X4.cell? ⟨r, 1, none⟩ = some (.slice u2a n2 u2c) ∧ X4.cell? ⟨r, 2, none⟩ = some (.int .i64 (c : Int)) ∧ r < X4.heap.size := ⟨(hb.cell (p := ⟨r, 0, none⟩) hS.2.2.2).trans hS.1, (hb.cell (p := ⟨r, 1, none⟩) hS.2.2.2).trans hS.2.1, (hb.cell (p := ⟨r, 2, none⟩) hS.2.2.2).trans hS.2.2.1, Nat.lt_of_lt_of_le hS.2.2.2 hb.size⟩
          replace bU6 : Hid (Below W6.heap.size W6 X4) := bU6.out.trans (hb.mono bU6.out.size)
          clear hb
          refine ready_f 4 (o := { dst := some 97, op := Op.call { callee := Callee.value (Operand.func 16), args := #[Operand.tmp 96], argTypes := #[29] }, type := 41, pos := "law.go:58", after := #[{ on := 3, ground := Ground.data }, { on := 2, ground := Ground.chain }], guard := none }) (by kernel_rfl) rfl (fun K hK => ?_)
          go_simp
          refine (kQ.out _ (BI6.out.below bU6.out).rd).mono ?_
          rintro e X5 ⟨z3, rfl, hz3, hb⟩
          refine hK.out _ _ (fun _ h => ⟨(hb.cell (p := ⟨r, 0, none⟩) h.2.2.2).trans h.1, (hb.cell (p := ⟨r, 1, none⟩) h.2.2.2).trans h.2.1, (hb.cell (p := ⟨r, 2, none⟩) h.2.2.2).trans h.2.2.1, Nat.lt_of_lt_of_le h.2.2.2 hb.size⟩) ?_
          clear hK K
          try simp only [Act.put, List.setIfInBounds_toArray, List.set_cons_zero, List.set_cons_succ]
          have hz2' := hz2.rd.below hb (Nat.le_refl _)
          replace hS : X5.cell? ⟨r, 0, none⟩ = some (.int .i64 (b : Int)) ∧ X5.cell? ⟨r, 1, none⟩ = some (.slice u2a n2 u2c) ∧ X5.cell? ⟨r, 2, none⟩ = some (.int .i64 (c : Int)) ∧ r < X5.heap.size := ⟨(hb.cell (p := ⟨r, 0, none⟩) hS.2.2.2).trans hS.1, (hb.cell (p := ⟨r, 1, none⟩) hS.2.2.2).trans hS.2.1, (hb.cell (p := ⟨r, 2, none⟩) hS.2.2.2).trans hS.2.2.1, Nat.lt_of_lt_of_le hS.2.2.2 hb.size⟩
          replace bU6 : Hid (Below W6.heap.size W6 X5) := bU6.out.trans (hb.mono bU6.out.size)
          clear hb
          refine ready_f 5 (o := { dst := some 98, op := Op.call { callee := Callee.value (Operand.func 13), args := #[Operand.tmp 95, Operand.tmp 97], argTypes := #[41, 41] }, type := 4, pos := "law.go:58", after := #[{ on := 2, ground := Ground.data }, { on := 4, ground := Ground.data }, { on := 4, ground := Ground.chain }], guard := none }) (by kernel_rfl) rfl (fun K hK => ?_)
          go_simp
          refine (same_any hz2' hz3.rd (by rw [PL.out]; have := HX.out; omega)).mono ?_
          rintro e X6 ⟨rfl, hb⟩
          refine hK.out _ _ (fun _ h => ⟨(hb.cell (p := ⟨r, 0, none⟩) h.2.2.2).trans h.1, (hb.cell (p := ⟨r, 1, none⟩) h.2.2.2).trans h.2.1, (hb.cell (p := ⟨r, 2, none⟩) h.2.2.2).trans h.2.2.1, Nat.lt_of_lt_of_le h.2.2.2 hb.size⟩) ?_
          clear hK K
          try simp only [Act.put, List.setIfInBounds_toArray, List.set_cons_zero, List.set_cons_succ]
          clear hz1 hz2 hz3 hz2'
          replace hS : X6.cell? ⟨r, 0, none⟩ = some (.int .i64 (b : Int)) ∧ X6.cell? ⟨r, 1, none⟩ = some (.slice u2a n2 u2c) ∧ X6.cell? ⟨r, 2, none⟩ = some (.int .i64 (c : Int)) ∧ r < X6.heap.size := ⟨(hb.cell (p := ⟨r, 0, none⟩) hS.2.2.2).trans hS.1, (hb.cell (p := ⟨r, 1, none⟩) hS.2.2.2).trans hS.2.1, (hb.cell (p := ⟨r, 2, none⟩) hS.2.2.2).trans hS.2.2.1, Nat.lt_of_lt_of_le hS.2.2.2 hb.size⟩
          replace bU6 : Hid (Below W6.heap.size W6 X6) := bU6.out.trans (hb.mono bU6.out.size)
          clear hb
          refine take_p 6 99 (.bool false) rfl rfl (by kernel_rfl) (by kernel_rfl) (by kernel_rfl) (fun _ _ _ h => h) rfl (fun w => by go_simp) ?_
          try simp only [List.setIfInBounds_toArray, List.set_cons_zero, List.set_cons_succ]
          refine take_p 7 100 (.bool false) rfl rfl (by kernel_rfl) (by kernel_rfl) (by kernel_rfl) (fun _ _ _ h => h) rfl (fun w => by go_simp) ?_
          try simp only [List.setIfInBounds_toArray, List.set_cons_zero, List.set_cons_succ]
          refine take_p 8 101 (.pointer (some ⟨B, 0, none⟩)) rfl rfl (by kernel_rfl) (by kernel_rfl) (by kernel_rfl) (fun _ _ _ h => h) rfl (fun w => by go_simp) ?_
          try simp only [List.setIfInBounds_toArray, List.set_cons_zero, List.set_cons_succ]
          refine take_f 11 104 (.agg #[.int .i64 (b : Int), .slice u2a n2 u2c, .int .i64 (c : Int)]) [12, 13, 14, 15, 16, 17, 18, 19, 20, 21, 22, 23] rfl rfl (by kernel_rfl) (by kernel_rfl) (by kernel_rfl) (by kernel_rfl) (by kernel_rfl) (by kernel_rfl) (fun _ _ _ h => h) rfl (fun w hSw => by obtain ⟨g0, g1, g2, g3⟩ := hSw; go_simp) hS ?_
          try simp only [List.setIfInBounds_toArray, List.set_cons_zero, List.set_cons_succ]
          refine ready_f 9 (o := { dst := some 102, op := Op.call { callee := Callee.value (Operand.func 17), args := #[Operand.tmp 101], argTypes := #[25] }, type := 22, pos := "law.go:58", after := #[{ on := 8, ground := Ground.data }, { on := 7, ground := Ground.chain }, { on := 7, ground := Ground.guard }], guard := some (7, false) }) (by kernel_rfl) rfl (fun K hK => ?_)
          go_simp
          refine (kX.out _ (BI6.out.below bU6.out).ot).mono ?_
          rintro e X7 ⟨rfl, hX7⟩
          have hb : Below X6.heap.size X6 X7 := by rw [hX7]; exact (Below.refl _ _).drew
          refine hK.out _ _ (fun _ h => ⟨(hb.cell (p := ⟨r, 0, none⟩) h.2.2.2).trans h.1, (hb.cell (p := ⟨r, 1, none⟩) h.2.2.2).trans h.2.1, (hb.cell (p := ⟨r, 2, none⟩) h.2.2.2).trans h.2.2.1, Nat.lt_of_lt_of_le h.2.2.2 hb.size⟩) ?_
          clear hK K
          try simp only [Act.put, List.setIfInBounds_toArray, List.set_cons_zero, List.set_cons_succ]
          clear hX7
          replace hS : X7.cell? ⟨r, 0, none⟩ = some (.int .i64 (b : Int)) ∧ X7.cell? ⟨r, 1, none⟩ = some (.slice u2a n2 u2c) ∧ X7.cell? ⟨r, 2, none⟩ = some (.int .i64 (c : Int)) ∧ r < X7.heap.size := ⟨(hb.cell (p := ⟨r, 0, none⟩) hS.2.2.2).trans hS.1, (hb.cell (p := ⟨r, 1, none⟩) hS.2.2.2).trans hS.2.1, (hb.cell (p := ⟨r, 2, none⟩) hS.2.2.2).trans hS.2.2.1, Nat.lt_of_lt_of_le hS.2.2.2 hb.size⟩
          replace bU6 : Hid (Below W6.heap.size W6 X7) := bU6.out.trans (hb.mono bU6.out.size)
          clear hb
          refine take_p 10 103 (.int .i64 (mm : Int)) rfl rfl (by kernel_rfl) (by kernel_rfl) (by kernel_rfl) (fun _ _ _ h => h) rfl (fun w => by have h1 := HX.out; go_simp; rw [IntKind.wrap_i64]; omega) ?_
          try simp only [List.setIfInBounds_toArray, List.set_cons_zero, List.set_cons_succ]
          refine ready_f 12 (o := { dst := some 105, op := Op.call { callee := Callee.value (Operand.func 18), args := #[Operand.tmp 104], argTypes := #[29] }, type := 3, pos := "law.go:58", after := #[{ on := 11, ground := Ground.data }, { on := 9, ground := Ground.chain }, { on := 7, ground := Ground.guard }], guard := some (7, false) }) (by kernel_rfl) rfl (fun K hK => ?_)
          go_simp
          refine (kY.out _).mono ?_
          rintro e X8 ⟨rfl, hb⟩
          refine hK.out _ _ (fun _ h => ⟨(hb.cell (p := ⟨r, 0, none⟩) h.2.2.2).trans h.1, (hb.cell (p := ⟨r, 1, none⟩) h.2.2.2).trans h.2.1, (hb.cell (p := ⟨r, 2, none⟩) h.2.2.2).trans h.2.2.1, Nat.lt_of_lt_of_le h.2.2.2 hb.size⟩) ?_
          clear hK K
          try simp only [Act.put, List.setIfInBounds_toArray, List.set_cons_zero, List.set_cons_succ]
          replace hS : X8.cell? ⟨r, 0, none⟩ = some (.int .i64 (b : Int)) ∧ X8.cell? ⟨r, 1, none⟩ = some (.slice u2a n2 u2c) ∧ X8.cell? ⟨r, 2, none⟩ = some (.int .i64 (c : Int)) ∧ r < X8.heap.size := ⟨(hb.cell (p := ⟨r, 0, none⟩) hS.2.2.2).trans hS.1, (hb.cell (p := ⟨r, 1, none⟩) hS.2.2.2).trans hS.2.1, (hb.cell (p := ⟨r, 2, none⟩) hS.2.2.2).trans hS.2.2.1, Nat.lt_of_lt_of_le hS.2.2.2 hb.size⟩
          replace bU6 : Hid (Below W6.heap.size W6 X8) := bU6.out.trans (hb.mono bU6.out.size)
          clear hb
          refine take_p 13 106 (.bool false) rfl rfl (by kernel_rfl) (by kernel_rfl) (by kernel_rfl) (fun _ _ _ h => h) rfl (fun w => by go_simp) ?_
          try simp only [List.setIfInBounds_toArray, List.set_cons_zero, List.set_cons_succ]
          refine take_p 14 107 (.bool false) rfl rfl (by kernel_rfl) (by kernel_rfl) (by kernel_rfl) (fun _ _ _ h => h) rfl (fun w => by go_simp) ?_
          try simp only [List.setIfInBounds_toArray, List.set_cons_zero, List.set_cons_succ]
          refine take_p 15 108 (.bool false) rfl rfl (by kernel_rfl) (by kernel_rfl) (by kernel_rfl) (fun _ _ _ h => h) rfl (fun w => by go_simp) ?_
          try simp only [List.setIfInBounds_toArray, List.set_cons_zero, List.set_cons_succ]
          refine take_p 16 109 (.pointer (some ⟨B, 0, none⟩)) rfl rfl (by kernel_rfl) (by kernel_rfl) (by kernel_rfl) (fun _ _ _ h => h) rfl (fun w => by go_simp) ?_
          try simp only [List.setIfInBounds_toArray, List.set_cons_zero, List.set_cons_succ]
          refine take_f 18 111 (.agg #[.int .i64 (b : Int), .slice u2a n2 u2c, .int .i64 (c : Int)]) [19, 20, 21, 22, 23] rfl rfl (by kernel_rfl) (by kernel_rfl) (by kernel_rfl) (by kernel_rfl) (by kernel_rfl) (by kernel_rfl) (fun _ _ _ h => h) rfl (fun w hSw => by obtain ⟨g0, g1, g2, g3⟩ := hSw; go_simp) hS ?_
          try simp only [List.setIfInBounds_toArray, List.set_cons_zero, List.set_cons_succ]
          refine ready_f 17 (o := { dst := some 110, op := Op.call { callee := Callee.value (Operand.func 19), args := #[Operand.tmp 109], argTypes := #[25] }, type := 3, pos := "law.go:58", after := #[{ on := 16, ground := Ground.data }, { on := 15, ground := Ground.chain }, { on := 15, ground := Ground.guard }], guard := some (15, false) }) (by kernel_rfl) rfl (fun K hK => ?_)
          go_simp
          refine (kO.out _ (BI6.out.below bU6.out).ot).mono ?_
          rintro e X9 ⟨rfl, hX9⟩
          obtain rfl := hX9.symm
          refine hK.out _ _ (fun _ h => h) ?_
          clear hK K
          try simp only [Act.put, List.setIfInBounds_toArray, List.set_cons_zero, List.set_cons_succ]
          refine ready_f 19 (o := { dst := some 112, op := Op.call { callee := Callee.value (Operand.func 16), args := #[Operand.tmp 111], argTypes := #[29] }, type := 41, pos := "law.go:58", after := #[{ on := 18, ground := Ground.data }, { on := 17, ground := Ground.chain }, { on := 15, ground := Ground.guard }], guard := some (15, false) }) (by kernel_rfl) rfl (fun K hK => ?_)
          go_simp
          refine (kQ.out _ (BI6.out.below bU6.out).rd).mono ?_
          rintro e XA ⟨z3, rfl, hz3, hb⟩
          refine hK.out _ _ (fun _ h => ⟨(hb.cell (p := ⟨r, 0, none⟩) h.2.2.2).trans h.1, (hb.cell (p := ⟨r, 1, none⟩) h.2.2.2).trans h.2.1, (hb.cell (p := ⟨r, 2, none⟩) h.2.2.2).trans h.2.2.1, Nat.lt_of_lt_of_le h.2.2.2 hb.size⟩) ?_
          clear hK K
          try simp only [Act.put, List.setIfInBounds_toArray, List.set_cons_zero, List.set_cons_succ]
          obtain ⟨za, zc, hz9⟩ := hz3.form
          rw [PL.out] at hz9
          subst hz9
          replace hS : XA.cell? ⟨r, 0, none⟩ = some (.int .i64 (b : Int)) ∧ XA.cell? ⟨r, 1, none⟩ = some (.slice u2a n2 u2c) ∧ XA.cell? ⟨r, 2, none⟩ = some (.int .i64 (c : Int)) ∧ r < XA.heap.size := ⟨(hb.cell (p := ⟨r, 0, none⟩) hS.2.2.2).trans hS.1, (hb.cell (p := ⟨r, 1, none⟩) hS.2.2.2).trans hS.2.1, (hb.cell (p := ⟨r, 2, none⟩) hS.2.2.2).trans hS.2.2.1, Nat.lt_of_lt_of_le hS.2.2.2 hb.size⟩
          replace bU6 : Hid (Below W6.heap.size W6 XA) := bU6.out.trans (hb.mono bU6.out.size)
          clear hb
          refine take_p 20 113 (.int .i64 (n5 : Int)) rfl rfl (by kernel_rfl) (by kernel_rfl) (by kernel_rfl) (fun _ _ _ h => h) rfl (fun w => by go_simp) ?_
          try simp only [List.setIfInBounds_toArray, List.set_cons_zero, List.set_cons_succ]
          refine take_p 21 114 (.int .i64 (rm : Int)) rfl rfl (by kernel_rfl) (by kernel_rfl) (by kernel_rfl) (fun _ _ _ h => h) rfl (fun w => by have h1 := HX.out; go_simp; rw [IntKind.wrap_i64]; omega) ?_
          try simp only [List.setIfInBounds_toArray, List.set_cons_zero, List.set_cons_succ]
          refine take_p 22 115 (.bool false) rfl rfl (by kernel_rfl) (by kernel_rfl) (by kernel_rfl) (fun _ _ _ h => h) rfl (fun w => by go_simp) ?_
          try simp only [List.setIfInBounds_toArray, List.set_cons_zero, List.set_cons_succ]
          refine take_p 23 116 (.bool false) rfl rfl (by kernel_rfl) (by kernel_rfl) (by kernel_rfl) (fun _ _ _ h => h) rfl (fun w => by go_simp) ?_
          try simp only [List.setIfInBounds_toArray, List.set_cons_zero, List.set_cons_succ]
          refine done_f (by kernel_rfl) ?_ _
          have FIN : Hid (∃ (j' : Nat) (v u : Value) (c : Nat) (LL : List ByteArray), j' ≤ m ∧ j' ≤ 60 ∧ Value.int .i64 ((j : Int) + 1) = .int .i64 (j' : Int) ∧ LL.length ≤ j' ∧ Bp B B r v u (b + c) (LL.drop c) b c LL XA ∧ Lim b c LL ∧ Below B w XA) := ⟨j + 1, v1, _, c, L2, by omega, by omega, by go_num, by have z5 := LM2.out.2; have z7 := LJ.out; omega, BI6.out.below bU6.out, LM2.out.1, B6.out.trans (bU6.out.mono (by have := B6.out.size; have := HB0.out; omega))⟩
          clear hS hz3
          go_wp2
          exact ⟨FIN.out, by simp [intOf]; omega⟩
      · have hkb : (kd == 0) = false := by simp [hkd]
        have kT := hide1 (ack_any hBp.ot HKA.out.1 q)
        have kR : Hid (∀ W, Calls Try.prog 12 #[.agg #[.int .i64 (b : Int), .slice ua n un, .int .i64 (c : Int)], .int .i64 (q : Int)] W fun e w' => e = .returned (.tuple #[.agg #[.int .i64 (b : Int), .slice ua n un, .int .i64 (koC b c LL q : Int)], .int .i64 (akC (b + c) (LL.drop c) q : Int)]) ∧ Below W.heap.size W w') := fun W => rack_any b n c un ua q hn hLim HKA.out.2.2 hq
        have LM2 := hide1 (And.intro (hLim.ack (q := q)) (show LL.length ≤ LL.length + 1 by omega))
        rw [ko_drop.1, ko_drop.2] at kT
        generalize akC (b + c) (LL.drop c) q = C1 at kT kR
        generalize koC b c LL q = c3 at kT kR LM2
        have HN2 : Hid (LL.length = n) := hn
        clear hBp hLim hB hlj hq hxs hn h3
        go_wp2_with fail
        refine kT.out.mono ?_
        rintro e W1 ⟨v1, rfl, hO1, hK1, hF1⟩
        have TK := hide1 (BP.out.called BS.out hO1 hK1 hF1)
        have B1 : Hid (Below B w W1) := B0.out.trans TK.out.2
        have BJ := hide1 TK.out.1
        have D1 := HC.out W1 B1.out
        have BS1 : Hid (B ≤ W1.heap.size) := by
          have h2 := hK1.size
          have h3 := BS.out
          unfold Hid
          omega
        clear hO1 hK1 hF1 TK kT c0 c1 c2 BP B0
        go_upto_region 14 with (fail)
        refine region_f (F := [12]) (S := fun W => Below W1.heap.size W1 W) (by kernel_rfl) ((Below.refl _ _).drew) (fun hS => ?_)
        generalize World.drew W1 = X1 at hS ⊢
        have BJU := hide1 (BJ.out.below hS)
        have hr1 := lt_heap BJ.out.row
        have hg1 := block_lt_of_cell D1.1
        simp only at hg1
        obtain ⟨x0, x1, x2, _, _, _⟩ := box3 BJ.out.row
        refine take_f 0 79 (.agg #[.int .i64 (b : Int), .slice ua n un, .int .i64 (c : Int)]) [7, 8, 9, 10, 12, 13] rfl rfl (by kernel_rfl) (by kernel_rfl) (by kernel_rfl) (by kernel_rfl) (by kernel_rfl) (by kernel_rfl) (fun _ _ _ h => h) rfl (fun w hSw => by have e0 := (hSw.cell (p := ⟨r, 0, none⟩) hr1).trans x0; have e1 := (hSw.cell (p := ⟨r, 1, none⟩) hr1).trans x1; have e1b := (hSw.cell (p := ⟨r, 2, none⟩) hr1).trans x2; have e2 := (hSw.cell (p := ⟨g, p0 + 1, none⟩) hg1).trans D1.2.1; have e3 := (hSw.cell (p := ⟨g, p0 + 2, none⟩) hg1).trans D1.2.2; go_simp) hS ?_
        try simp only [List.setIfInBounds_toArray, List.set_cons_zero, List.set_cons_succ]
        refine take_p 1 80 (.slice (some ⟨g, o, none⟩) m cap) rfl rfl (by kernel_rfl) (by kernel_rfl) (by kernel_rfl) (fun _ _ _ h => h) rfl (fun w => by go_simp) ?_
        try simp only [List.setIfInBounds_toArray, List.set_cons_zero, List.set_cons_succ]
        refine take_p 2 81 (.int .i64 (j : Int)) rfl rfl (by kernel_rfl) (by kernel_rfl) (by kernel_rfl) (fun _ _ _ h => h) rfl (fun w => by go_simp) ?_
        try simp only [List.setIfInBounds_toArray, List.set_cons_zero, List.set_cons_succ]
        refine take_p 3 82 (.pointer (some ⟨g, p0, none⟩)) rfl rfl (by kernel_rfl) (by kernel_rfl) (by kernel_rfl) (fun _ _ _ h => h) rfl (fun w => by go_simp) ?_
        try simp only [List.setIfInBounds_toArray, List.set_cons_zero, List.set_cons_succ]
        refine take_p 4 83 (.pointer (some ⟨g, p0 + 1, none⟩)) rfl rfl (by kernel_rfl) (by kernel_rfl) (by kernel_rfl) (fun _ _ _ h => h) rfl (fun w => by go_simp) ?_
        try simp only [List.setIfInBounds_toArray, List.set_cons_zero, List.set_cons_succ]
        refine take_f 5 84 (.int .u32 (q : Int)) [6, 7, 8, 9, 10, 12, 13] rfl rfl (by kernel_rfl) (by kernel_rfl) (by kernel_rfl) (by kernel_rfl) (by kernel_rfl) (by kernel_rfl) (fun _ _ _ h => h) rfl (fun w hSw => by have e0 := (hSw.cell (p := ⟨r, 0, none⟩) hr1).trans x0; have e1 := (hSw.cell (p := ⟨r, 1, none⟩) hr1).trans x1; have e1b := (hSw.cell (p := ⟨r, 2, none⟩) hr1).trans x2; have e2 := (hSw.cell (p := ⟨g, p0 + 1, none⟩) hg1).trans D1.2.1; have e3 := (hSw.cell (p := ⟨g, p0 + 2, none⟩) hg1).trans D1.2.2; go_simp) hS ?_
        try simp only [List.setIfInBounds_toArray, List.set_cons_zero, List.set_cons_succ]
        refine take_p 6 85 (.int .i64 (q : Int)) rfl rfl (by kernel_rfl) (by kernel_rfl) (by kernel_rfl) (fun _ _ _ h => h) rfl (fun w => by have e9 := HQ.out; go_simp; rw [IntKind.wrap_i64]; omega) ?_
        try simp only [List.setIfInBounds_toArray, List.set_cons_zero, List.set_cons_succ]
        refine ready2_f 7 11 (o := { dst := some 86, op := Op.call { callee := Callee.value (Operand.func 12), args := #[Operand.tmp 79, Operand.tmp 85], argTypes := #[29, 3] }, type := 38, pos := "law.go:52", after := #[{ on := 0, ground := Ground.data }, { on := 6, ground := Ground.data }], guard := none }) (o' := { dst := some 14, op := Op.alloc 29, type := 0, pos := "law.go:52", after := #[], guard := none }) (by kernel_rfl) rfl rfl (fun K hK => ?oak) (fun K hK => ?obk)
        case' oak =>
          go_simp
          refine (kR.out _).mono ?_
          rintro e W2 ⟨rfl, hB2⟩
          refine hK.out _ _ (fun _ h => h.trans (hB2.mono h.size)) ?_
          clear hK K
          try simp only [Act.put, List.setIfInBounds_toArray, List.set_cons_zero, List.set_cons_succ]
          refine take_p 8 78 (.tuple #[.agg #[.int .i64 (b : Int), .slice ua n un, .int .i64 (c3 : Int)], .int .i64 (C1 : Int)]) rfl rfl (by kernel_rfl) (by kernel_rfl) (by kernel_rfl) (fun _ _ _ h => h) rfl (fun w => by go_simp) ?_
          try simp only [List.setIfInBounds_toArray, List.set_cons_zero, List.set_cons_succ]
          refine take_p 9 87 (.agg #[.int .i64 (b : Int), .slice ua n un, .int .i64 (c3 : Int)]) rfl rfl (by kernel_rfl) (by kernel_rfl) (by kernel_rfl) (fun _ _ _ h => h) rfl (fun w => by go_simp) ?_
          try simp only [List.setIfInBounds_toArray, List.set_cons_zero, List.set_cons_succ]
          refine take_p 10 88 (.int .i64 (C1 : Int)) rfl rfl (by kernel_rfl) (by kernel_rfl) (by kernel_rfl) (fun _ _ _ h => h) rfl (fun w => by go_simp) ?_
          try simp only [List.setIfInBounds_toArray, List.set_cons_zero, List.set_cons_succ]
          refine ready_f 11 (o := { dst := some 14, op := Op.alloc 29, type := 0, pos := "law.go:52", after := #[], guard := none }) (by kernel_rfl) rfl (fun K hK => ?_)
          go_simp
          refine hK.out _ _ (fun _ h => h.alloc h.size _) ?_
          clear hK K
          try simp only [Act.put, List.setIfInBounds_toArray, List.set_cons_zero, List.set_cons_succ]
          have hR2 := BJU.out.rd.below hB2 (Nat.le_refl _)
          have hO2 : LL ≠ [] → ∀ g, (Value.slice ua n un).ownBlock = some g → ((Value.slice ua n un).ownBlock = some g ∧ g < X1.heap.size ∧ LL ≠ []) ∨ X1.heap.size ≤ g := fun hl g hg => .inl ⟨hg, BJU.out.rd.lt hl hg, hl⟩
          have MD := hide1 (mo_call b c3 hR2 hB2 hO2 (.int .i64 0) (.slice none 0 0) (.int .i64 0))
          obtain ⟨k0, _, _, f0, _, _⟩ := box3 (heap_alloc_new W2 (.cells #[.int .i64 0, .slice none 0 0, .int .i64 0] 29))
          obtain ⟨f1, k1, f2, k2⟩ := free3 (x' := .int .i64 (b : Int)) (y' := .slice ua n un) (heap_alloc_new W2 (.cells #[.int .i64 0, .slice none 0 0, .int .i64 0] 29))
          generalize hg9 : W2.heap.size = g9 at MD f0 f1 f2 k0 k1 k2 ⊢
          generalize W2.alloc (.cells #[.int .i64 0, .slice none 0 0, .int .i64 0] 29) = W3 at MD f0 f1 f2 k0 k1 k2 ⊢
          clear hR2 hB2 hO2
          refine ready_f 12 (o := { dst := none, op := Op.store 29 (Operand.tmp 14) (Operand.tmp 87), type := 0, pos := "law.go:52", after := #[{ on := 11, ground := Ground.data }, { on := 9, ground := Ground.data }, { on := 7, ground := Ground.chain }, { on := 0, ground := Ground.phase }, { on := 1, ground := Ground.phase }, { on := 2, ground := Ground.phase }, { on := 3, ground := Ground.phase }, { on := 4, ground := Ground.phase }, { on := 5, ground := Ground.phase }, { on := 6, ground := Ground.phase }, { on := 7, ground := Ground.phase }, { on := 8, ground := Ground.phase }, { on := 9, ground := Ground.phase }, { on := 10, ground := Ground.textOnly Departure.lateStores }, { on := 11, ground := Ground.phase }], guard := none }) (by kernel_rfl) rfl (fun K hK => ?_)
          go_simp
          refine hK.out _ _ (fun h => absurd (by decide) h) ?_
          clear hK K
          refine take_p 13 15 (.int .i64 (C1 : Int)) rfl rfl (by kernel_rfl) (by kernel_rfl) (by kernel_rfl) (fun _ _ _ h => h) rfl (fun w => by go_simp) ?_
          try simp only [List.setIfInBounds_toArray, List.set_cons_zero, List.set_cons_succ]
          refine done_f (by kernel_rfl) ?_ _
          generalize ((W3.setCell ⟨g9, 0, none⟩ (.int .i64 (b : Int))).setCell ⟨g9, 1, none⟩ (.slice ua n un)).setCell ⟨g9, 2, none⟩ (.int .i64 (c3 : Int)) = W5 at MD ⊢
          clear k0 k1 k2 f0 f1 f2
        case' obk =>
          go_simp
          refine hK.out _ _ (fun _ h => h.alloc h.size _) ?_
          clear hK K
          try simp only [Act.put, List.setIfInBounds_toArray, List.set_cons_zero, List.set_cons_succ]
          have RB := BJU.out.rd.below (below1 (.cells #[.int .i64 0, .slice none 0 0, .int .i64 0] 29)) (Nat.le_refl _)
          refine ready_f 7 (o := { dst := some 86, op := Op.call { callee := Callee.value (Operand.func 12), args := #[Operand.tmp 79, Operand.tmp 85], argTypes := #[29, 3] }, type := 38, pos := "law.go:52", after := #[{ on := 0, ground := Ground.data }, { on := 6, ground := Ground.data }], guard := none }) (by kernel_rfl) rfl (fun K hK => ?_)
          go_simp
          refine (kR.out _).mono ?_
          rintro e W2 ⟨rfl, hB2⟩
          refine hK.out _ _ (fun _ h => h.trans (hB2.mono h.size)) ?_
          clear hK K
          try simp only [Act.put, List.setIfInBounds_toArray, List.set_cons_zero, List.set_cons_succ]
          have hR2 := RB.below hB2 (Nat.le_refl _)
          have hO2 : LL ≠ [] → ∀ g, (Value.slice ua n un).ownBlock = some g → ((Value.slice ua n un).ownBlock = some g ∧ g < (X1.alloc (.cells #[.int .i64 0, .slice none 0 0, .int .i64 0] 29)).heap.size ∧ LL ≠ []) ∨ (X1.alloc (.cells #[.int .i64 0, .slice none 0 0, .int .i64 0] 29)).heap.size ≤ g := fun hl g hg => .inl ⟨hg, RB.lt hl hg, hl⟩
          have MD := hide1 (mo_box b c3 hR2 hB2 BJU.out.rd hO2)
          have r9 := (hB2.block _ (by simp)).trans (heap_alloc_new X1 (.cells #[.int .i64 0, .slice none 0 0, .int .i64 0] 29))
          obtain ⟨k0, _, _, f0, _, _⟩ := box3 r9
          obtain ⟨f1, k1, f2, k2⟩ := free3 (x' := .int .i64 (b : Int)) (y' := .slice ua n un) r9
          clear r9 RB hR2 hB2 hO2
          generalize hg9 : X1.heap.size = g9 at MD f0 f1 f2 k0 k1 k2 ⊢
          refine take_p 8 78 (.tuple #[.agg #[.int .i64 (b : Int), .slice ua n un, .int .i64 (c3 : Int)], .int .i64 (C1 : Int)]) rfl rfl (by kernel_rfl) (by kernel_rfl) (by kernel_rfl) (fun _ _ _ h => h) rfl (fun w => by go_simp) ?_
          try simp only [List.setIfInBounds_toArray, List.set_cons_zero, List.set_cons_succ]
          refine take_p 9 87 (.agg #[.int .i64 (b : Int), .slice ua n un, .int .i64 (c3 : Int)]) rfl rfl (by kernel_rfl) (by kernel_rfl) (by kernel_rfl) (fun _ _ _ h => h) rfl (fun w => by go_simp) ?_
          try simp only [List.setIfInBounds_toArray, List.set_cons_zero, List.set_cons_succ]
          refine take_p 10 88 (.int .i64 (C1 : Int)) rfl rfl (by kernel_rfl) (by kernel_rfl) (by kernel_rfl) (fun _ _ _ h => h) rfl (fun w => by go_simp) ?_
          try simp only [List.setIfInBounds_toArray, List.set_cons_zero, List.set_cons_succ]
          refine ready_f 12 (o := { dst := none, op := Op.store 29 (Operand.tmp 14) (Operand.tmp 87), type := 0, pos := "law.go:52", after := #[{ on := 11, ground := Ground.data }, { on := 9, ground := Ground.data }, { on := 7, ground := Ground.chain }, { on := 0, ground := Ground.phase }, { on := 1, ground := Ground.phase }, { on := 2, ground := Ground.phase }, { on := 3, ground := Ground.phase }, { on := 4, ground := Ground.phase }, { on := 5, ground := Ground.phase }, { on := 6, ground := Ground.phase }, { on := 7, ground := Ground.phase }, { on := 8, ground := Ground.phase }, { on := 9, ground := Ground.phase }, { on := 10, ground := Ground.textOnly Departure.lateStores }, { on := 11, ground := Ground.phase }], guard := none }) (by kernel_rfl) rfl (fun K hK => ?_)
          go_simp
          refine hK.out _ _ (fun h => absurd (by decide) h) ?_
          clear hK K
          refine take_p 13 15 (.int .i64 (C1 : Int)) rfl rfl (by kernel_rfl) (by kernel_rfl) (by kernel_rfl) (fun _ _ _ h => h) rfl (fun w => by go_simp) ?_
          try simp only [List.setIfInBounds_toArray, List.set_cons_zero, List.set_cons_succ]
          refine done_f (by kernel_rfl) ?_ _
          generalize ((W2.setCell ⟨g9, 0, none⟩ (.int .i64 (b : Int))).setCell ⟨g9, 1, none⟩ (.slice ua n un)).setCell ⟨g9, 2, none⟩ (.int .i64 (c3 : Int)) = W5 at MD ⊢
          clear k0 k1 k2 f0 f1 f2
        all_goals
          have BJ5 := hide1 (BJU.out.below MD.out.bel)
          have hr5 := BJ5.out.row
          obtain ⟨e0, e1, e2, f0, _, _⟩ := box3 hr5
          obtain ⟨f1, e1', f2, e2'⟩ := free3 (x' := .int .i64 (b : Int)) (y' := .slice ua n un) hr5
          obtain ⟨d0, d1, d2, _, _, _⟩ := box3 MD.out.row
          have B5 : Hid (Below B w W5) := (B1.out.trans (hS.mono BS1.out)).trans (MD.out.bel.mono (by have := hS.size; have := BS1.out; omega))
          have B6 : Hid (Below B w (((W5.setCell ⟨r, 0, none⟩ (.int .i64 (b : Int))).setCell ⟨r, 1, none⟩ (.slice ua n un)).setCell ⟨r, 2, none⟩ (.int .i64 (c3 : Int)))) := below_set3 B5.out BJ.out.br
          have BI6 : Hid (Bp B B r v1 (.slice ua n un) (b + c3) (LL.drop c3) b c3 LL (((W5.setCell ⟨r, 0, none⟩ (.int .i64 (b : Int))).setCell ⟨r, 1, none⟩ (.slice ua n un)).setCell ⟨r, 2, none⟩ (.int .i64 (c3 : Int)))) := BJU.out.stored MD.out.bel MD.out.rd MD.out.own
          clear BJ BJ5 BJU MD B5 hS hr5 x0 x1 x2 hg1 D1
          go_upto_region 18 with (fail)
          generalize ((W5.setCell ⟨r, 0, none⟩ (.int .i64 (b : Int))).setCell ⟨r, 1, none⟩ (.slice ua n un)).setCell ⟨r, 2, none⟩ (.int .i64 (c3 : Int)) = W6 at BI6 B6 ⊢
          clear e0 e1 e2 e1' e2' d0 d1 d2 f0 f1 f2
          have S6 : Hid (W6.cell? ⟨r, 0, none⟩ = some (.int .i64 (b : Int)) ∧ W6.cell? ⟨r, 1, none⟩ = some (.slice ua n un) ∧ W6.cell? ⟨r, 2, none⟩ = some (.int .i64 (c3 : Int)) ∧ r < W6.heap.size) := by
            obtain ⟨y0, y1, y2, _, _, _⟩ := box3 BI6.out.row
            exact ⟨y0, y1, y2, lt_heap BI6.out.row⟩
          have LX : Hid (b + c3 + (LL.drop c3).length + 1 = b + n + 1 ∧ b + n + 1 < 4294967296 ∧ (LL.drop c3).length ≤ 16 ∧ n ≤ 1000 ∧ c3 ≤ n ∧ Szl (LL.drop c3)) := by
            obtain ⟨⟨z1, z2, z3, z4⟩, z5⟩ := LM2.out
            have z6 := HN2.out
            have z7 := LJ.out
            have z8 := HN.out
            rw [List.length_drop]
            exact ⟨by omega, by omega, by omega, by omega, by omega, fun s hs => z4 s (List.mem_of_mem_drop hs)⟩
          obtain ⟨mm, hmm⟩ : ∃ k, b + n + 1 = k := ⟨_, rfl⟩
          obtain ⟨n5, hn5⟩ : ∃ k, (LL.drop c3).length = k := ⟨_, rfl⟩
          obtain ⟨rm, hrm⟩ : ∃ k, 16 - n5 = k := ⟨_, rfl⟩
          have HX : Hid (mm < 4294967296 ∧ n5 ≤ 16 ∧ 16 - n5 = rm) := by have := LX.out; exact ⟨by omega, by omega, hrm⟩
          have kP : Hid (∀ W, Otm B B v1 (b + c3) (LL.drop c3) W → Calls Try.prog 15 #[.pointer (some ⟨B, 0, none⟩)] W fun e w' => ∃ z, e = .returned z ∧ Nls 65 W.heap.size w' z (pend (b + c3 + 1) (LL.drop c3)) ∧ Below W.heap.size W w') := fun W hW => pending_any hW (by have := LX.out; omega) (by have := LX.out; omega) LX.out.2.2.2.2.2
          have kQ : Hid (∀ W, Rdl W (.slice ua n un) LL → Calls Try.prog 16 #[.agg #[.int .i64 (b : Int), .slice ua n un, .int .i64 (c3 : Int)]] W fun e w' => ∃ z, e = .returned z ∧ Nls 71 W.heap.size w' z (pend (b + c3 + 1) (LL.drop c3)) ∧ Below W.heap.size W w') := fun W hW => rpending_any b n c3 _ _ hW (by have := LX.out; omega) (by have := LX.out; omega) (by have := LX.out; omega)
          have kX : Hid (∀ W, Otm B B v1 (b + c3) (LL.drop c3) W → Calls Try.prog 17 #[.pointer (some ⟨B, 0, none⟩)] W fun e w' => e = .returned (.int .u32 (mm : Int)) ∧ w' = W.drew) := fun W hW => by
            have := next_any hW (by have := LX.out; omega)
            rw [LX.out.1, hmm] at this
            exact this
          have kY : Hid (∀ W, Calls Try.prog 18 #[.agg #[.int .i64 (b : Int), .slice ua n un, .int .i64 (c3 : Int)]] W fun e w' => e = .returned (.int .i64 (mm : Int)) ∧ Below W.heap.size W w') := fun W => by
            have := rnext_any b n c3 un ua W (by have := LX.out; omega) (by have := LX.out; omega)
            rw [hmm] at this
            exact this
          have kO : Hid (∀ W, Otm B B v1 (b + c3) (LL.drop c3) W → Calls Try.prog 19 #[.pointer (some ⟨B, 0, none⟩)] W fun e w' => e = .returned (.int .i64 (rm : Int)) ∧ w' = W) := fun W hW => by
            have := room_any hW (by have := LX.out; omega)
            rw [hn5, hrm] at this
            exact this
          have PL : Hid ((pend (b + c3 + 1) (LL.drop c3)).length = n5) := by unfold Hid; rw [pend_length]; exact hn5
          clear hmm hn5 hrm
          refine region_f (F := []) (S := fun W => W.cell? ⟨r, 0, none⟩ = some (.int .i64 (b : Int)) ∧ W.cell? ⟨r, 1, none⟩ = some (.slice ua n un) ∧ W.cell? ⟨r, 2, none⟩ = some (.int .i64 (c3 : Int)) ∧ r < W.heap.size) (by kernel_rfl) S6.out (fun hS => ?_)
          have bU6 : Hid (Below W6.heap.size W6 (World.drew W6)) := (Below.refl _ _).drew
          generalize World.drew W6 = X2 at hS bU6 ⊢
          refine take_p 0 93 (.pointer (some ⟨B, 0, none⟩)) rfl rfl (by kernel_rfl) (by kernel_rfl) (by kernel_rfl) (fun _ _ _ h => h) rfl (fun w => by go_simp) ?_
          try simp only [List.setIfInBounds_toArray, List.set_cons_zero, List.set_cons_succ]
          refine take_f 3 96 (.agg #[.int .i64 (b : Int), .slice ua n un, .int .i64 (c3 : Int)]) [4, 5, 6, 7, 8, 9, 10, 11, 12, 13, 14, 15, 16, 17, 18, 19, 20, 21, 22, 23] rfl rfl (by kernel_rfl) (by kernel_rfl) (by kernel_rfl) (by kernel_rfl) (by kernel_rfl) (by kernel_rfl) (fun _ _ _ h => h) rfl (fun w hSw => by obtain ⟨g0, g1, g2, g3⟩ := hSw; go_simp) hS ?_
          try simp only [List.setIfInBounds_toArray, List.set_cons_zero, List.set_cons_succ]
          refine ready_f 1 (o := { dst := some 94, op := Op.call { callee := Callee.value (Operand.func 15), args := #[Operand.tmp 93], argTypes := #[25] }, type := 43, pos := "law.go:58", after := #[{ on := 0, ground := Ground.data }], guard := none }) (by kernel_rfl) rfl (fun K hK => ?_)
          go_simp
          refine (kP.out _ (BI6.out.below bU6.out).ot).mono ?_
          rintro e X3 ⟨z1, rfl, hz1, hb⟩
          refine hK.out _ _ (fun _ h => ⟨(hb.cell (p := ⟨r, 0, none⟩) h.2.2.2).trans h.1, (hb.cell (p := ⟨r, 1, none⟩) h.2.2.2).trans h.2.1, (hb.cell (p := ⟨r, 2, none⟩) h.2.2.2).trans h.2.2.1, Nat.lt_of_lt_of_le h.2.2.2 hb.size⟩) ?_
          clear hK K
          try simp only [Act.put, List.setIfInBounds_toArray, List.set_cons_zero, List.set_cons_succ]
          replace hS : X3.cell? ⟨r, 0, none⟩ = some (.int .i64 (b : Int)) ∧ X3.cell? ⟨r, 1, none⟩ = some (.slice ua n un) ∧ X3.cell? ⟨r, 2, none⟩ = some (.int .i64 (c3 : Int)) ∧ r < X3.heap.size := ⟨(hb.cell (p := ⟨r, 0, none⟩) hS.2.2.2).trans hS.1, (hb.cell (p := ⟨r, 1, none⟩) hS.2.2.2).trans hS.2.1, (hb.cell (p := ⟨r, 2, none⟩) hS.2.2.2).trans hS.2.2.1, Nat.lt_of_lt_of_le hS.2.2.2 hb.size⟩
          replace bU6 : Hid (Below W6.heap.size W6 X3) := bU6.out.trans (hb.mono bU6.out.size)
          clear hb
          refine ready_f 2 (o := { dst := some 95, op := Op.call { callee := Callee.value (Operand.func 14), args := #[Operand.tmp 94], argTypes := #[43] }, type := 41, pos := "law.go:58", after := #[{ on := 1, ground := Ground.data }, { on := 1, ground := Ground.chain }], guard := none }) (by kernel_rfl) rfl (fun K hK => ?_)
          go_simp
          refine (told_any hz1.rd (by rw [PL.out]; have := HX.out; omega)).mono ?_
          rintro e X4 ⟨z2, rfl, hz2, hb⟩
          refine hK.out _ _ (fun _ h => ⟨(hb.cell (p := ⟨r, 0, none⟩) h.2.2.2).trans h.1, (hb.cell (p := ⟨r, 1, none⟩) h.2.2.2).trans h.2.1, (hb.cell (p := ⟨r, 2, none⟩) h.2.2.2).trans h.2.2.1, Nat.lt_of_lt_of_le h.2.2.2 hb.size⟩) ?_
          clear hK K
          try simp only [Act.put, List.setIfInBounds_toArray, List.set_cons_zero, List.set_cons_succ]
          replace hS : X4.cell? ⟨r, 0, none⟩ = some (.int .i64 (b : Int)) ∧ X4.cell? ⟨r, 1, none⟩ = some (.slice ua n un) ∧ X4.cell? ⟨r, 2, none⟩ = some (.int .i64 (c3 : Int)) ∧ r < X4.heap.size := ⟨(hb.cell (p := ⟨r, 0, none⟩) hS.2.2.2).trans hS.1, (hb.cell (p := ⟨r, 1, none⟩) hS.2.2.2).trans hS.2.1, (hb.cell (p := ⟨r, 2, none⟩) hS.2.2.2).trans hS.2.2.1, Nat.lt_of_lt_of_le hS.2.2.2 hb.size⟩
          replace bU6 : Hid (Below W6.heap.size W6 X4) := bU6.out.trans (hb.mono bU6.out.size)
          clear hb
          refine ready_f 4 (o := { dst := some 97, op := Op.call { callee := Callee.value (Operand.func 16), args := #[Operand.tmp 96], argTypes := #[29] }, type := 41, pos := "law.go:58", after := #[{ on := 3, ground := Ground.data }, { on := 2, ground := Ground.chain }], guard := none }) (by kernel_rfl) rfl (fun K hK => ?_)
          go_simp
          refine (kQ.out _ (BI6.out.below bU6.out).rd).mono ?_
          rintro e X5 ⟨z3, rfl, hz3, hb⟩
          refine hK.out _ _ (fun _ h => ⟨(hb.cell (p := ⟨r, 0, none⟩) h.2.2.2).trans h.1, (hb.cell (p := ⟨r, 1, none⟩) h.2.2.2).trans h.2.1, (hb.cell (p := ⟨r, 2, none⟩) h.2.2.2).trans h.2.2.1, Nat.lt_of_lt_of_le h.2.2.2 hb.size⟩) ?_
          clear hK K
          try simp only [Act.put, List.setIfInBounds_toArray, List.set_cons_zero, List.set_cons_succ]
          have hz2' := hz2.rd.below hb (Nat.le_refl _)
          replace hS : X5.cell? ⟨r, 0, none⟩ = some (.int .i64 (b : Int)) ∧ X5.cell? ⟨r, 1, none⟩ = some (.slice ua n un) ∧ X5.cell? ⟨r, 2, none⟩ = some (.int .i64 (c3 : Int)) ∧ r < X5.heap.size := ⟨(hb.cell (p := ⟨r, 0, none⟩) hS.2.2.2).trans hS.1, (hb.cell (p := ⟨r, 1, none⟩) hS.2.2.2).trans hS.2.1, (hb.cell (p := ⟨r, 2, none⟩) hS.2.2.2).trans hS.2.2.1, Nat.lt_of_lt_of_le hS.2.2.2 hb.size⟩
          replace bU6 : Hid (Below W6.heap.size W6 X5) := bU6.out.trans (hb.mono bU6.out.size)
          clear hb
          refine ready_f 5 (o := { dst := some 98, op := Op.call { callee := Callee.value (Operand.func 13), args := #[Operand.tmp 95, Operand.tmp 97], argTypes := #[41, 41] }, type := 4, pos := "law.go:58", after := #[{ on := 2, ground := Ground.data }, { on := 4, ground := Ground.data }, { on := 4, ground := Ground.chain }], guard := none }) (by kernel_rfl) rfl (fun K hK => ?_)
          go_simp
          refine (same_any hz2' hz3.rd (by rw [PL.out]; have := HX.out; omega)).mono ?_
          rintro e X6 ⟨rfl, hb⟩
          refine hK.out _ _ (fun _ h => ⟨(hb.cell (p := ⟨r, 0, none⟩) h.2.2.2).trans h.1, (hb.cell (p := ⟨r, 1, none⟩) h.2.2.2).trans h.2.1, (hb.cell (p := ⟨r, 2, none⟩) h.2.2.2).trans h.2.2.1, Nat.lt_of_lt_of_le h.2.2.2 hb.size⟩) ?_
          clear hK K
          try simp only [Act.put, List.setIfInBounds_toArray, List.set_cons_zero, List.set_cons_succ]
          clear hz1 hz2 hz3 hz2'
          replace hS : X6.cell? ⟨r, 0, none⟩ = some (.int .i64 (b : Int)) ∧ X6.cell? ⟨r, 1, none⟩ = some (.slice ua n un) ∧ X6.cell? ⟨r, 2, none⟩ = some (.int .i64 (c3 : Int)) ∧ r < X6.heap.size := ⟨(hb.cell (p := ⟨r, 0, none⟩) hS.2.2.2).trans hS.1, (hb.cell (p := ⟨r, 1, none⟩) hS.2.2.2).trans hS.2.1, (hb.cell (p := ⟨r, 2, none⟩) hS.2.2.2).trans hS.2.2.1, Nat.lt_of_lt_of_le hS.2.2.2 hb.size⟩
          replace bU6 : Hid (Below W6.heap.size W6 X6) := bU6.out.trans (hb.mono bU6.out.size)
          clear hb
          refine take_p 6 99 (.bool false) rfl rfl (by kernel_rfl) (by kernel_rfl) (by kernel_rfl) (fun _ _ _ h => h) rfl (fun w => by go_simp) ?_
          try simp only [List.setIfInBounds_toArray, List.set_cons_zero, List.set_cons_succ]
          refine take_p 7 100 (.bool false) rfl rfl (by kernel_rfl) (by kernel_rfl) (by kernel_rfl) (fun _ _ _ h => h) rfl (fun w => by go_simp) ?_
          try simp only [List.setIfInBounds_toArray, List.set_cons_zero, List.set_cons_succ]
          refine take_p 8 101 (.pointer (some ⟨B, 0, none⟩)) rfl rfl (by kernel_rfl) (by kernel_rfl) (by kernel_rfl) (fun _ _ _ h => h) rfl (fun w => by go_simp) ?_
          try simp only [List.setIfInBounds_toArray, List.set_cons_zero, List.set_cons_succ]
          refine take_f 11 104 (.agg #[.int .i64 (b : Int), .slice ua n un, .int .i64 (c3 : Int)]) [12, 13, 14, 15, 16, 17, 18, 19, 20, 21, 22, 23] rfl rfl (by kernel_rfl) (by kernel_rfl) (by kernel_rfl) (by kernel_rfl) (by kernel_rfl) (by kernel_rfl) (fun _ _ _ h => h) rfl (fun w hSw => by obtain ⟨g0, g1, g2, g3⟩ := hSw; go_simp) hS ?_
          try simp only [List.setIfInBounds_toArray, List.set_cons_zero, List.set_cons_succ]
          refine ready_f 9 (o := { dst := some 102, op := Op.call { callee := Callee.value (Operand.func 17), args := #[Operand.tmp 101], argTypes := #[25] }, type := 22, pos := "law.go:58", after := #[{ on := 8, ground := Ground.data }, { on := 7, ground := Ground.chain }, { on := 7, ground := Ground.guard }], guard := some (7, false) }) (by kernel_rfl) rfl (fun K hK => ?_)
          go_simp
          refine (kX.out _ (BI6.out.below bU6.out).ot).mono ?_
          rintro e X7 ⟨rfl, hX7⟩
          have hb : Below X6.heap.size X6 X7 := by rw [hX7]; exact (Below.refl _ _).drew
          refine hK.out _ _ (fun _ h => ⟨(hb.cell (p := ⟨r, 0, none⟩) h.2.2.2).trans h.1, (hb.cell (p := ⟨r, 1, none⟩) h.2.2.2).trans h.2.1, (hb.cell (p := ⟨r, 2, none⟩) h.2.2.2).trans h.2.2.1, Nat.lt_of_lt_of_le h.2.2.2 hb.size⟩) ?_
          clear hK K
          try simp only [Act.put, List.setIfInBounds_toArray, List.set_cons_zero, List.set_cons_succ]
          clear hX7
          replace hS : X7.cell? ⟨r, 0, none⟩ = some (.int .i64 (b : Int)) ∧ X7.cell? ⟨r, 1, none⟩ = some (.slice ua n un) ∧ X7.cell? ⟨r, 2, none⟩ = some (.int .i64 (c3 : Int)) ∧ r < X7.heap.size := ⟨(hb.cell (p := ⟨r, 0, none⟩) hS.2.2.2).trans hS.1, (hb.cell (p := ⟨r, 1, none⟩) hS.2.2.2).trans hS.2.1, (hb.cell (p := ⟨r, 2, none⟩) hS.2.2.2).trans hS.2.2.1, Nat.lt_of_lt_of_le hS.2.2.2 hb.size⟩
          replace bU6 : Hid (Below W6.heap.size W6 X7) := bU6.out.trans (hb.mono bU6.out.size)
          clear hb
          refine take_p 10 103 (.int .i64 (mm : Int)) rfl rfl (by kernel_rfl) (by kernel_rfl) (by kernel_rfl) (fun _ _ _ h => h) rfl (fun w => by have h1 := HX.out; go_simp; rw [IntKind.wrap_i64]; omega) ?_
          try simp only [List.setIfInBounds_toArray, List.set_cons_zero, List.set_cons_succ]
          refine ready_f 12 (o := { dst := some 105, op := Op.call { callee := Callee.value (Operand.func 18), args := #[Operand.tmp 104], argTypes := #[29] }, type := 3, pos := "law.go:58", after := #[{ on := 11, ground := Ground.data }, { on := 9, ground := Ground.chain }, { on := 7, ground := Ground.guard }], guard := some (7, false) }) (by kernel_rfl) rfl (fun K hK => ?_)
          go_simp
          refine (kY.out _).mono ?_
          rintro e X8 ⟨rfl, hb⟩
          refine hK.out _ _ (fun _ h => ⟨(hb.cell (p := ⟨r, 0, none⟩) h.2.2.2).trans h.1, (hb.cell (p := ⟨r, 1, none⟩) h.2.2.2).trans h.2.1, (hb.cell (p := ⟨r, 2, none⟩) h.2.2.2).trans h.2.2.1, Nat.lt_of_lt_of_le h.2.2.2 hb.size⟩) ?_
          clear hK K
          try simp only [Act.put, List.setIfInBounds_toArray, List.set_cons_zero, List.set_cons_succ]
          replace hS : X8.cell? ⟨r, 0, none⟩ = some (.int .i64 (b : Int)) ∧ X8.cell? ⟨r, 1, none⟩ = some (.slice ua n un) ∧ X8.cell? ⟨r, 2, none⟩ = some (.int .i64 (c3 : Int)) ∧ r < X8.heap.size := ⟨(hb.cell (p := ⟨r, 0, none⟩) hS.2.2.2).trans hS.1, (hb.cell (p := ⟨r, 1, none⟩) hS.2.2.2).trans hS.2.1, (hb.cell (p := ⟨r, 2, none⟩) hS.2.2.2).trans hS.2.2.1, Nat.lt_of_lt_of_le hS.2.2.2 hb.size⟩
          replace bU6 : Hid (Below W6.heap.size W6 X8) := bU6.out.trans (hb.mono bU6.out.size)
          clear hb
          refine take_p 13 106 (.bool false) rfl rfl (by kernel_rfl) (by kernel_rfl) (by kernel_rfl) (fun _ _ _ h => h) rfl (fun w => by go_simp) ?_
          try simp only [List.setIfInBounds_toArray, List.set_cons_zero, List.set_cons_succ]
          refine take_p 14 107 (.bool false) rfl rfl (by kernel_rfl) (by kernel_rfl) (by kernel_rfl) (fun _ _ _ h => h) rfl (fun w => by go_simp) ?_
          try simp only [List.setIfInBounds_toArray, List.set_cons_zero, List.set_cons_succ]
          refine take_p 15 108 (.bool false) rfl rfl (by kernel_rfl) (by kernel_rfl) (by kernel_rfl) (fun _ _ _ h => h) rfl (fun w => by go_simp) ?_
          try simp only [List.setIfInBounds_toArray, List.set_cons_zero, List.set_cons_succ]
          refine take_p 16 109 (.pointer (some ⟨B, 0, none⟩)) rfl rfl (by kernel_rfl) (by kernel_rfl) (by kernel_rfl) (fun _ _ _ h => h) rfl (fun w => by go_simp) ?_
          try simp only [List.setIfInBounds_toArray, List.set_cons_zero, List.set_cons_succ]
          refine take_f 18 111 (.agg #[.int .i64 (b : Int), .slice ua n un, .int .i64 (c3 : Int)]) [19, 20, 21, 22, 23] rfl rfl (by kernel_rfl) (by kernel_rfl) (by kernel_rfl) (by kernel_rfl) (by kernel_rfl) (by kernel_rfl) (fun _ _ _ h => h) rfl (fun w hSw => by obtain ⟨g0, g1, g2, g3⟩ := hSw; go_simp) hS ?_
          try simp only [List.setIfInBounds_toArray, List.set_cons_zero, List.set_cons_succ]
          refine ready_f 17 (o := { dst := some 110, op := Op.call { callee := Callee.value (Operand.func 19), args := #[Operand.tmp 109], argTypes := #[25] }, type := 3, pos := "law.go:58", after := #[{ on := 16, ground := Ground.data }, { on := 15, ground := Ground.chain }, { on := 15, ground := Ground.guard }], guard := some (15, false) }) (by kernel_rfl) rfl (fun K hK => ?_)
          go_simp
          refine (kO.out _ (BI6.out.below bU6.out).ot).mono ?_
          rintro e X9 ⟨rfl, hX9⟩
          obtain rfl := hX9.symm
          refine hK.out _ _ (fun _ h => h) ?_
          clear hK K
          try simp only [Act.put, List.setIfInBounds_toArray, List.set_cons_zero, List.set_cons_succ]
          refine ready_f 19 (o := { dst := some 112, op := Op.call { callee := Callee.value (Operand.func 16), args := #[Operand.tmp 111], argTypes := #[29] }, type := 41, pos := "law.go:58", after := #[{ on := 18, ground := Ground.data }, { on := 17, ground := Ground.chain }, { on := 15, ground := Ground.guard }], guard := some (15, false) }) (by kernel_rfl) rfl (fun K hK => ?_)
          go_simp
          refine (kQ.out _ (BI6.out.below bU6.out).rd).mono ?_
          rintro e XA ⟨z3, rfl, hz3, hb⟩
          refine hK.out _ _ (fun _ h => ⟨(hb.cell (p := ⟨r, 0, none⟩) h.2.2.2).trans h.1, (hb.cell (p := ⟨r, 1, none⟩) h.2.2.2).trans h.2.1, (hb.cell (p := ⟨r, 2, none⟩) h.2.2.2).trans h.2.2.1, Nat.lt_of_lt_of_le h.2.2.2 hb.size⟩) ?_
          clear hK K
          try simp only [Act.put, List.setIfInBounds_toArray, List.set_cons_zero, List.set_cons_succ]
          obtain ⟨za, zc, hz9⟩ := hz3.form
          rw [PL.out] at hz9
          subst hz9
          replace hS : XA.cell? ⟨r, 0, none⟩ = some (.int .i64 (b : Int)) ∧ XA.cell? ⟨r, 1, none⟩ = some (.slice ua n un) ∧ XA.cell? ⟨r, 2, none⟩ = some (.int .i64 (c3 : Int)) ∧ r < XA.heap.size := ⟨(hb.cell (p := ⟨r, 0, none⟩) hS.2.2.2).trans hS.1, (hb.cell (p := ⟨r, 1, none⟩) hS.2.2.2).trans hS.2.1, (hb.cell (p := ⟨r, 2, none⟩) hS.2.2.2).trans hS.2.2.1, Nat.lt_of_lt_of_le hS.2.2.2 hb.size⟩
          replace bU6 : Hid (Below W6.heap.size W6 XA) := bU6.out.trans (hb.mono bU6.out.size)
          clear hb
          refine take_p 20 113 (.int .i64 (n5 : Int)) rfl rfl (by kernel_rfl) (by kernel_rfl) (by kernel_rfl) (fun _ _ _ h => h) rfl (fun w => by go_simp) ?_
          try simp only [List.setIfInBounds_toArray, List.set_cons_zero, List.set_cons_succ]
          refine take_p 21 114 (.int .i64 (rm : Int)) rfl rfl (by kernel_rfl) (by kernel_rfl) (by kernel_rfl) (fun _ _ _ h => h) rfl (fun w => by have h1 := HX.out; go_simp; rw [IntKind.wrap_i64]; omega) ?_
          try simp only [List.setIfInBounds_toArray, List.set_cons_zero, List.set_cons_succ]
          refine take_p 22 115 (.bool false) rfl rfl (by kernel_rfl) (by kernel_rfl) (by kernel_rfl) (fun _ _ _ h => h) rfl (fun w => by go_simp) ?_
          try simp only [List.setIfInBounds_toArray, List.set_cons_zero, List.set_cons_succ]
          refine take_p 23 116 (.bool false) rfl rfl (by kernel_rfl) (by kernel_rfl) (by kernel_rfl) (fun _ _ _ h => h) rfl (fun w => by go_simp) ?_
          try simp only [List.setIfInBounds_toArray, List.set_cons_zero, List.set_cons_succ]
          refine done_f (by kernel_rfl) ?_ _
          have FIN : Hid (∃ (j' : Nat) (v u : Value) (c : Nat) (LL : List ByteArray), j' ≤ m ∧ j' ≤ 60 ∧ Value.int .i64 ((j : Int) + 1) = .int .i64 (j' : Int) ∧ LL.length ≤ j' ∧ Bp B B r v u (b + c) (LL.drop c) b c LL XA ∧ Lim b c LL ∧ Below B w XA) := ⟨j + 1, v1, _, c3, LL, by omega, by omega, by go_num, by have z5 := LM2.out.2; have z7 := LJ.out; omega, BI6.out.below bU6.out, LM2.out.1, B6.out.trans (bU6.out.mono (by have := B6.out.size; have := HB0.out; omega))⟩
          clear hS hz3
          go_wp2
          exact ⟨FIN.out, by simp [intOf]; omega⟩
    · clear hBp hLim hB hlj
      by_cases h60 : j < 60
      · have hjm0 : j = m := by omega
        subst hjm0
        have h60i : (j : Int) < 60 := by omega
        have kA := hide1 (awake_any wr)
        go_wp2_with fail
        refine kA.out.mono ?_
        rintro e w2 ⟨rfl, hb2⟩
        have HB2 := hide1 hb2
        clear hb2
        go_wp2
        go_ret
        exact ⟨rfl, HB0.out ▸ B0.out.trans (HB2.out.mono BS.out)⟩
      · have h60i : ¬ (j : Int) < 60 := by omega
        by_cases hjm2 : j < m
        · have hjmi : (j : Int) < (m : Int) := by omega
          have kA := hide1 (awake_any wr)
          go_wp2_with fail
          refine kA.out.mono ?_
          rintro e w2 ⟨rfl, hb2⟩
          have HB2 := hide1 hb2
          clear hb2
          go_wp2
          go_ret
          exact ⟨rfl, HB0.out ▸ B0.out.trans (HB2.out.mono BS.out)⟩
        · have hjmi : ¬ (j : Int) < (m : Int) := by omega
          have kA := hide1 (awake_any wr)
          go_wp2_with fail
          refine kA.out.mono ?_
          rintro e w2 ⟨rfl, hb2⟩
          have HB2 := hide1 hb2
          clear hb2
          go_wp2
          go_ret
          exact ⟨rfl, HB0.out ▸ B0.out.trans (HB2.out.mono BS.out)⟩

end Go.Proofs.Ytjingknkjokldaa
