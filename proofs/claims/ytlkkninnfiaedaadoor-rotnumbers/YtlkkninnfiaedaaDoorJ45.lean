/- Receive. The document's Numbers; Coins. -/
import Derived.Test.YtlkkninnfiaedaaDoorJ44
import Derived.Test.YtlkkninnfiaedaaDoorJ14
import Derived.Test.YtlkkninnfiaedaaDoorJ33
namespace Go.Proofs.YtlkkninnfiaedaaDoor.I
open Go.RowKit Pg
set_option maxRecDepth 100000
attribute [local go_sem] not_any T.mf_any

/- lists of Vecs built -/
theorem run_build1 (n : Nat) (a : Option Addr) (w : World) : (Instr.buildSlice 69 1 #[(0, .agg #[.int .i64 (n : Int), .slice a (T.need n 64) (T.need n 64)])]).run Tryd.prog w = .ok (.slice (some ⟨w.heap.size, 0, none⟩) 1 1) (w.alloc (.cells #[.int .i64 (n : Int), .slice a (T.need n 64) (T.need n 64)] 41)) := by kernel_rfl
theorem run_build2 (n m : Nat) (a b : Option Addr) (w : World) : (Instr.buildSlice 69 2 #[(0, .agg #[.int .i64 (n : Int), .slice a (T.need n 64) (T.need n 64)]), (1, .agg #[.int .i64 (m : Int), .slice b (T.need m 64) (T.need m 64)])]).run Tryd.prog w = .ok (.slice (some ⟨w.heap.size, 0, none⟩) 2 2) (w.alloc (.cells #[.int .i64 (n : Int), .slice a (T.need n 64) (T.need n 64), .int .i64 (m : Int), .slice b (T.need m 64) (T.need m 64)] 41)) := by kernel_rfl
theorem exec_build1 {n : Nat} {a : Option Addr} {o : Oper} {ac : Act} {w : World} (x : Operand) (ho : o.op = .buildSlice 69 1 #[(0, x)]) (hx : ac.eval x = .agg #[.int .i64 (n : Int), .slice a (T.need n 64) (T.need n 64)]) :
    (execOp ac.eval o).run Tryd.prog w = .ok (.value (.slice (some ⟨w.heap.size, 0, none⟩) 1 1)) (w.alloc (.cells #[.int .i64 (n : Int), .slice a (T.need n 64) (T.need n 64)] 41)) := by
  unfold execOp
  simp [ho, hx, run_build1 n a]
theorem exec_build2 {n m : Nat} {a b : Option Addr} {o : Oper} {ac : Act} {w : World} (x y : Operand) (ho : o.op = .buildSlice 69 2 #[(0, x), (1, y)]) (hx : ac.eval x = .agg #[.int .i64 (n : Int), .slice a (T.need n 64) (T.need n 64)]) (hy : ac.eval y = .agg #[.int .i64 (m : Int), .slice b (T.need m 64) (T.need m 64)]) :
    (execOp ac.eval o).run Tryd.prog w = .ok (.value (.slice (some ⟨w.heap.size, 0, none⟩) 2 2)) (w.alloc (.cells #[.int .i64 (n : Int), .slice a (T.need n 64) (T.need n 64), .int .i64 (m : Int), .slice b (T.need m 64) (T.need m 64)] 41)) := by
  unfold execOp
  simp [ho, hx, hy, run_build2 n m a b]
theorem vcs1 {w : World} {g n : Nat} {a : Option Addr} {l : List Bool} (h : w.heap[g]? = some (.cells #[.int .i64 (n : Int), .slice a (T.need n 64) (T.need n 64)] 41 (0, 0))) (hv : T.Vc 0 w n a l) (hn : n ≤ 4194304) :
    T.Vcs w 1 (some ⟨g, 0, none⟩) (fun _ => n) (fun _ => a) (fun _ => l) := by
  refine ⟨fun i hi => ⟨g, 0, rfl, ?_, ?_⟩, fun _ _ => hv, fun _ _ => hn⟩
  · obtain rfl : i = 0 := by omega
    rw [cell_of_row w g _ _ _ _ h]; rfl
  · obtain rfl : i = 0 := by omega
    rw [cell_of_row w g _ _ _ _ h]; rfl
def two {α : Type} (x y : α) (i : Nat) : α := if i = 0 then x else y
theorem vcs2 {w : World} {g n : Nat} {a b : Option Addr} {l m : List Bool} (h : w.heap[g]? = some (.cells #[.int .i64 (n : Int), .slice a (T.need n 64) (T.need n 64), .int .i64 (n : Int), .slice b (T.need n 64) (T.need n 64)] 41 (0, 0))) (hv : T.Vc 0 w n a l) (hv2 : T.Vc 0 w n b m) (hn : n ≤ 4194304) :
    T.Vcs w 2 (some ⟨g, 0, none⟩) (fun _ => n) (two a b) (two l m) := by
  refine ⟨fun i hi => ⟨g, 0, rfl, ?_, ?_⟩, fun i hi => ?_, fun _ _ => hn⟩
  · rcases (by omega : i = 0 ∨ i = 1) with rfl | rfl <;> (rw [cell_of_row w g _ _ _ _ h]; rfl)
  · rcases (by omega : i = 0 ∨ i = 1) with rfl | rfl <;> (rw [cell_of_row w g _ _ _ _ h]; rfl)
  · rcases (by omega : i = 0 ∨ i = 1) with rfl | rfl
    · exact hv
    · exact hv2
theorem hV3 {w : World} {g k n : Nat} {aa : Nat → Option Addr} (L : Nat → List Bool) (h : T.Vrow w g k n aa L) : ∃ o, w.heap[g]? = some o := by
  obtain ⟨cs, _, h2, _⟩ := h.row
  exact ⟨_, h2⟩

theorem Vc_oth {w w' : World} {b n g3 : Nat} {a : Option Addr} {l : List Bool} {cs : Array Value} (h : T.Vc b w n a l) (ho : w.heap[g3]? = some (.cells cs 41 (0, 0))) (hk : ∀ q, q ≠ g3 → w'.heap[q]? = w.heap[q]?) : T.Vc b w' n a l := by
  refine ⟨h.len, ?_⟩
  rcases h.at' with h0 | ⟨q, e, hq, hw⟩
  · exact .inl h0
  · refine .inr ⟨q, e, hq, (hk q (fun e => ?_)).trans hw⟩
    rw [e, ho] at hw
    injection hw with hw
    injection hw with _ hw _
    exact absurd hw (by decide)
theorem Vrow_oth {w w' : World} {g k n g3 : Nat} {aa : Nat → Option Addr} {L : Nat → List Bool} {cs : Array Value} (h : T.Vrow w g k n aa L) (ho : w.heap[g3]? = some (.cells cs 41 (0, 0))) (hk : ∀ q, q ≠ g3 → w'.heap[q]? = w.heap[q]?) (hne : g ≠ g3) : T.Vrow w' g k n aa L := by
  obtain ⟨c, h1, h2, h3⟩ := h.row
  exact ⟨⟨c, h1, (hk g hne).trans h2, h3⟩, fun i hi => Vc_oth (h.vc i hi) ho hk⟩
theorem results_tmp3 {fn : Func} {t u v : Tmp} (h : fn.results = #[.tmp t, .tmp u, .tmp v]) (tmps : Array Value) (P : Program) (w : World) :
    (results fn tmps).run P w = .ok (.tuple #[tmps.getD t undef, tmps.getD u undef, tmps.getD v undef]) w := by
  simp [results, h]

/- two boxes of a call on its way -/
structure At (w V : World) (o1 o2 : Obj) : Prop where
  bel : Below w.heap.size w V
  h1 : V.heap[w.heap.size]? = some o1
  h2 : V.heap[w.heap.size + 1]? = some o2
theorem At.start (w : World) (o1 o2 : Obj) : At w ((w.alloc o1).alloc o2) o1 o2 := ⟨((Below.refl _ _).alloc (Nat.le_refl _) _).alloc (by rw [size_alloc]; omega) _, heap_alloc2_old _ _ _, heap_alloc2_new _ _ _⟩
theorem At.to {w V V' : World} {o1 o2 : Obj} (h : At w V o1 o2) (hb : Below V.heap.size V V') : At w V' o1 o2 :=
  ⟨h.bel.trans (hb.mono h.bel.size), (hb.block _ (T.lt_heap h.h1)).trans h.h1, (hb.block _ (T.lt_heap h.h2)).trans h.h2⟩
theorem At.set {w V : World} {o1 o2 : Obj} (h : At w V o1 o2) {g o : Nat} (v : Value) (hg : w.heap.size + 1 < g) : At w (V.setCell ⟨g, o, none⟩ v) o1 o2 :=
  ⟨h.bel.setCell (by simp; omega) v, (heap_setCell_other _ _ _ _ (by simp; omega)).trans h.h1, (heap_setCell_other _ _ _ _ (by simp; omega)).trans h.h2⟩
theorem At.lt {w V : World} {o1 o2 : Obj} (h : At w V o1 o2) : w.heap.size + 1 < V.heap.size := T.lt_heap h.h2

/- Receive: the numbers may not be taken -/
theorem receive_no (Z O : Value) (F N c : Nat) (a : Option Addr) (w : World) (_hZ : Z.oneCell' = true) (_hO : O.oneCell' = true) (hF : F < 18446744073709551616) (hN : N ≤ 4194304) (hc : nC F N = c) (hc0 : c ≠ 0) :
    Calls Tryd.prog 27 #[.agg #[Z, O], .int .u64 (F : Int), .agg #[.int .i64 (N : Int), .slice a (T.need N 64) (T.need N 64)]] w fun e w' => e = .returned (.tuple #[.slice none 0 0, .slice none 0 0, .int .i64 (c : Int)]) ∧ Below w.heap.size w w' := by
  have kL := fun w => hide1 (T.len_any (N : Int) (.slice a (T.need N 64) (T.need N 64)) w rfl)
  have kn := fun w => hide1 (numbered_any F N w hF hN)
  rw [hc] at kn
  obtain ⟨W0, hW0⟩ : ∃ W0, W0 = (w.alloc (.cells #[Z, O] 64)).alloc (.cells #[.int .i64 (N : Int), .slice a (T.need N 64) (T.need N 64)] 41) := ⟨_, rfl⟩
  have A0 : Hid (At w W0 (.cells #[Z, O] 64) (.cells #[.int .i64 (N : Int), .slice a (T.need N 64) (T.need N 64)] 41)) := by rw [hW0]; exact At.start _ _ _
  have tc : ((c : Int) != 0) = true := by rw [bne_iff_ne]; omega
  clear hc
  go_enter Tryd.func27, Tryd.ntmps27
  go_upto_region 1 with (fail)
  rw [← hW0]
  clear hW0
  obtain ⟨q0, q1, q2, q3, q4⟩ := T.box2 A0.out.h2
  go_wp2_with fail
  go_at_call 17
  refine (kL _).out.mono ?_
  rintro e w1 ⟨rfl, rfl⟩
  have B1 : Hid (Below w.heap.size w (W0.alloc (.cells #[.int .i64 (N : Int), .slice a (T.need N 64) (T.need N 64)] 41))) := (A0.out.to (T.below_alloc1 _ _)).bel
  generalize W0.alloc (.cells #[.int .i64 (N : Int), .slice a (T.need N 64) (T.need N 64)] 41) = W1 at *
  clear q0 q1 q2 q3 q4
  go_wp2_with fail
  go_at_call 44
  refine (kn _).out.mono ?_
  rintro e w1 ⟨rfl, rfl⟩
  go_wp2
  refine bodyPost_ret (results_tmp3 rfl _ _ _) rfl ?_
  exact ⟨rfl, B1.out⟩

/- Receive: there are not 128 seeds -/
theorem receive_shape (az ao : Option Addr) (mz mo cz co F N : Nat) (a : Option Addr) (w : World) (hF : F < 18446744073709551616) (hN : N ≤ 4194304) (hc : nC F N = 0) (hm : ¬ (mz = 128 ∧ mo = 128)) :
    Calls Tryd.prog 27 #[.agg #[.slice az mz cz, .slice ao mo co], .int .u64 (F : Int), .agg #[.int .i64 (N : Int), .slice a (T.need N 64) (T.need N 64)]] w fun e w' => e = .returned (.tuple #[.slice none 0 0, .slice none 0 0, .int .i64 11]) ∧ Below w.heap.size w w' := by
  have kL := fun w => hide1 (T.len_any (N : Int) (.slice a (T.need N 64) (T.need N 64)) w rfl)
  have kn := fun w => hide1 (numbered_any F N w hF hN)
  rw [hc] at kn
  obtain ⟨W0, hW0⟩ : ∃ W0, W0 = (w.alloc (.cells #[.slice az mz cz, .slice ao mo co] 64)).alloc (.cells #[.int .i64 (N : Int), .slice a (T.need N 64) (T.need N 64)] 41) := ⟨_, rfl⟩
  have A0 : Hid (At w W0 (.cells #[.slice az mz cz, .slice ao mo co] 64) (.cells #[.int .i64 (N : Int), .slice a (T.need N 64) (T.need N 64)] 41)) := by rw [hW0]; exact At.start _ _ _
  clear hc
  go_enter Tryd.func27, Tryd.ntmps27
  go_upto_region 1 with (fail)
  rw [← hW0]
  clear hW0
  obtain ⟨q0, q1, q2, q3, q4⟩ := T.box2 A0.out.h2
  go_wp2_with fail
  go_at_call 17
  refine (kL _).out.mono ?_
  rintro e w1 ⟨rfl, rfl⟩
  have A1 := hide1 (A0.out.to (T.below_alloc1 W0 (.cells #[.int .i64 (N : Int), .slice a (T.need N 64) (T.need N 64)] 41)))
  generalize W0.alloc (.cells #[.int .i64 (N : Int), .slice a (T.need N 64) (T.need N 64)] 41) = W1 at *
  clear q0 q1 q2 q3 q4
  obtain ⟨p0, p1, p2, p3, p4⟩ := T.box2 A1.out.h1
  go_wp2_with fail
  go_at_call 44
  refine (kn _).out.mono ?_
  rintro e w1 ⟨rfl, rfl⟩
  by_cases hz : mz = 128
  · subst hz
    have t1 : ((128 : Int) != 128) = false := by decide
    have t2 : ((mo : Int) != 128) = true := by rw [bne_iff_ne]; omega
    go_wp2
    refine bodyPost_ret (results_tmp3 rfl _ _ _) rfl ?_
    exact ⟨rfl, A1.out.bel⟩
  · have t2 : ((mz : Int) != 128) = true := by rw [bne_iff_ne]; omega
    go_wp2
    refine bodyPost_ret (results_tmp3 rfl _ _ _) rfl ?_
    exact ⟨rfl, A1.out.bel⟩

/- the columns that are sent -/
def sentC (fz fo : Nat → List Nat) (F N : Nat) (ch : List Bool) (i : Nat) : List Bool := xk (cl (fz i) F N) (two (cl (fo i) F N) ch) 2

set_option maxHeartbeats 8000000 in
theorem receive_yes (Z O : Value) (fz fo : Nat → List Nat) (F N b : Nat) (a : Option Addr) (ch : List Bool) (w : World) (hZ : Sds w Z fz 128) (hO : Sds w O fo 128) (hfz : ∀ i, (fz i).length = 32 ∧ Lt 256 (fz i)) (hfo : ∀ i, (fo i).length = 32 ∧ Lt 256 (fo i))
    (hv : T.Vc b w N a ch) (hc : nC F N = 0) (hF : F ≤ 67108864) (hN : N ≤ 4096) :
    Calls Tryd.prog 27 #[.agg #[Z, O], .int .u64 (F : Int), .agg #[.int .i64 (N : Int), .slice a (T.need N 64) (T.need N 64)]] w fun e w' => ∃ gs gr aa, e = .returned (.tuple #[.slice (some ⟨gs, 0, none⟩) 128 128, .slice (some ⟨gr, 0, none⟩) N N, .int .i64 0]) ∧ T.Vrow w' gs 128 N aa (sentC fz fo F N ch) ∧ w'.heap[gr]? = some (T.rrow (T.rowV (fun i => cl (fz i) F N)) N) ∧ Below w.heap.size w w' := by
  have HSZ := hide1 hZ
  have HSO := hide1 hO
  obtain ⟨gz, cz, rfl, hgz, _⟩ := hZ.at'
  obtain ⟨go, co, rfl, hgo, _⟩ := hO.at'
  have HV := hide1 hv
  have kL := fun w => hide1 (T.len_any (N : Int) (.slice a (T.need N 64) (T.need N 64)) w rfl)
  have kn := fun w => hide1 (numbered_any F N w (by omega) (by omega))
  have kc := fun S f w h1 h2 => hide1 (columns_any S f F N w h1 h2 (by omega) (by omega))
  have kr := fun w c a aa L h1 h2 => hide1 (T.rows_yes w N c a (fun _ => N) aa L h1 h2 (fun _ _ => rfl) (by omega))
  have hN' : N ≤ 4194304 := by omega
  rw [hc] at kn
  obtain ⟨W0, hW0⟩ : ∃ W0, W0 = (w.alloc (.cells #[.slice (some ⟨gz, 0, none⟩) 128 cz, .slice (some ⟨go, 0, none⟩) 128 co] 64)).alloc (.cells #[.int .i64 (N : Int), .slice a (T.need N 64) (T.need N 64)] 41) := ⟨_, rfl⟩
  have A0 : Hid (At w W0 (.cells #[.slice (some ⟨gz, 0, none⟩) 128 cz, .slice (some ⟨go, 0, none⟩) 128 co] 64) (.cells #[.int .i64 (N : Int), .slice a (T.need N 64) (T.need N 64)] 41)) := by rw [hW0]; exact At.start _ _ _
  have HFZ := hide1 hfz
  have HFO := hide1 hfo
  clear hc hZ hO hv hfz hfo
  have t1 : ((128 : Int) != 128) = false := by decide
  go_enter Tryd.func27, Tryd.ntmps27
  go_upto_region 1 with (fail)
  rw [← hW0]
  clear hW0
  obtain ⟨q0, q1, q2, q3, q4⟩ := T.box2 A0.out.h2
  go_wp2_with fail
  go_at_call 17
  refine (kL _).out.mono ?_
  rintro e w1 ⟨rfl, rfl⟩
  have A1 := hide1 (A0.out.to (T.below_alloc1 W0 (.cells #[.int .i64 (N : Int), .slice a (T.need N 64) (T.need N 64)] 41)))
  generalize W0.alloc (.cells #[.int .i64 (N : Int), .slice a (T.need N 64) (T.need N 64)] 41) = W1 at *
  clear q0 q1 q2 q3 q4
  obtain ⟨p0, p1, p2, p3, p4⟩ := T.box2 A1.out.h1
  go_wp2_with fail
  go_at_call 44
  refine (kn _).out.mono ?_
  rintro e w1 ⟨rfl, rfl⟩
  go_wp2_with fail
  go_at_call 45
  refine (kc _ fz _ (HSZ.out.below A1.out.bel (Nat.le_refl _)) HFZ.out).out.mono ?_
  rintro e w2 ⟨a1, rfl, hr1, hb1⟩
  have A2 := hide1 (A1.out.to hb1)
  obtain ⟨g1, hg1⟩ : ∃ g, g = w1.heap.size := ⟨_, rfl⟩
  rw [← hg1] at hr1 ⊢
  have G1 : Shy (w.heap.size + 1 < g1) := ⟨by rw [hg1]; exact A1.out.lt⟩
  have V1 := hide1 hr1
  clear p0 p1 p2 p3 p4 hb1 hr1 hg1 A1 A0
  obtain ⟨p0, p1, p2, p3, p4⟩ := T.box2 A2.out.h1
  go_wp2_with fail
  go_at_call 45
  refine (kc _ fo _ (HSO.out.below A2.out.bel (Nat.le_refl _)) HFO.out).out.mono ?_
  rintro e w3 ⟨a2, rfl, hr2, hb2⟩
  have A3 := hide1 (A2.out.to hb2)
  have V13 := hide1 (V1.out.below hb2)
  obtain ⟨g2, hg2⟩ : ∃ g, g = w2.heap.size := ⟨_, rfl⟩
  rw [← hg2] at hr2 ⊢
  have G2 : Shy (w.heap.size + 1 < g2) := ⟨by rw [hg2]; exact A2.out.lt⟩
  have V2 := hide1 hr2
  clear p0 p1 p2 p3 p4 hb2 hr2 hg2 A2 V1 kc
  obtain ⟨cs3, hmk, hv0⟩ := make_vrow N (sentC fz fo F N ch) w3
  obtain ⟨W4, hW4⟩ : ∃ W4, W4 = w3.alloc (.cells cs3 41 (0, 0)) := ⟨_, rfl⟩
  rw [← hW4] at hmk hv0
  have hb4 : Below w3.heap.size w3 W4 := by rw [hW4]; exact T.below_alloc1 _ _
  have A4 := hide1 (A3.out.to hb4)
  have V14 := hide1 (V13.out.below hb4)
  have V24 := hide1 (V2.out.below hb4)
  obtain ⟨g3, hg3⟩ : ∃ g, g = w3.heap.size := ⟨_, rfl⟩
  rw [← hg3] at hmk hv0
  have G3 : Shy (w.heap.size + 1 < g3 ∧ g1 < g3 ∧ g2 < g3) := ⟨by rw [hg3]; obtain ⟨_, h1⟩ := hV3 _ V13.out; obtain ⟨_, h2⟩ := hV3 _ V2.out; exact ⟨A3.out.lt, T.lt_heap h1, T.lt_heap h2⟩⟩
  have V34 := hide1 hv0
  clear hb4 hW4 hg3 hv0 A3 V13 V2
  go_upto_region 14 with (fail)
  clear hmk
  go_wp2
  go_loopw [60] (fun iv wr => ∃ (k : Nat) (aa : Nat → Option Addr), k ≤ 128 ∧ iv = .int .i64 k ∧ T.Vrow wr g1 128 N a1 (fun i => cl (fz i) F N) ∧ T.Vrow wr g2 128 N a2 (fun i => cl (fo i) F N) ∧ T.Vrow wr g3 k N aa (sentC fz fo F N ch) ∧ At w wr (.cells #[.slice (some ⟨gz, 0, none⟩) 128 cz, .slice (some ⟨go, 0, none⟩) 128 co] 64) (.cells #[.int .i64 (N : Int), .slice a (T.need N 64) (T.need N 64)] 41)) (fun iv _ => 128 - (intOf iv).toNat)
  case atStart => exact ⟨0, _, Nat.zero_le _, rfl, V14.out, V24.out, V34.out, A4.out⟩
  case round =>
    obtain ⟨k, aa, hk, rfl, hv1, hv2, hv3, hA⟩ := hrel
    clear V14 V24 V34 A4
    have VA := hide1 hv1
    have VB := hide1 hv2
    have V3 := hide1 hv3
    have HA := hide1 hA
    clear hv1 hv2 hv3 hA
    by_cases hlt : k < 128
    · have hlt' : (k : Int) < 128 := by omega
      clear kr
      have hN'' := hN'
      obtain ⟨ak, hak⟩ : ∃ x, x = a1 k := ⟨_, rfl⟩
      obtain ⟨bk, hbk⟩ : ∃ x, x = a2 k := ⟨_, rfl⟩
      obtain ⟨cs1, _, hcs1, hd1⟩ := VA.out.row
      obtain ⟨cs2, _, hcs2, hd2⟩ := VB.out.row
      have VCA : Hid (T.Vc (g1 + 1) wr N ak (cl (fz k) F N)) := by rw [hak]; exact VA.out.vc k hlt
      have VCB : Hid (T.Vc (g2 + 1) wr N bk (cl (fo k) F N)) := by rw [hbk]; exact VB.out.vc k hlt
      have VCC : Hid (T.Vc 0 wr N a ch) := (HV.out.below HA.out.bel (Nat.le_refl _)).mono (Nat.zero_le _)
      have CA : Hid (∀ W, Below wr.heap.size wr W → W.cell? ⟨g1, k * 2, none⟩ = some (.int .i64 (N : Int)) ∧ W.cell? ⟨g1, k * 2 + 1, none⟩ = some (.slice ak (T.need N 64) (T.need N 64))) := fun W hW => by
        have h := (hW.block _ (T.lt_heap hcs1)).trans hcs1
        rw [cell_of_row W g1 _ _ _ _ h, cell_of_row W g1 _ _ _ _ h, hak]
        exact hd1 k hlt
      have CB : Hid (∀ W, Below wr.heap.size wr W → W.cell? ⟨g2, k * 2, none⟩ = some (.int .i64 (N : Int)) ∧ W.cell? ⟨g2, k * 2 + 1, none⟩ = some (.slice bk (T.need N 64) (T.need N 64))) := fun W hW => by
        have h := (hW.block _ (T.lt_heap hcs2)).trans hcs2
        rw [cell_of_row W g2 _ _ _ _ h, cell_of_row W g2 _ _ _ _ h, hbk]
        exact hd2 k hlt
      have CC : Hid (∀ W, Below wr.heap.size wr W → W.cell? ⟨w.heap.size + 1, 0, none⟩ = some (.int .i64 (N : Int)) ∧ W.cell? ⟨w.heap.size + 1, 1, none⟩ = some (.slice a (T.need N 64) (T.need N 64))) := fun W hW => by
        have h := T.box2 ((hW.block _ (T.lt_heap HA.out.h2)).trans HA.out.h2)
        exact ⟨h.1, h.2.1⟩
      clear hak hbk hcs1 hcs2 hd1 hd2
      go_upto_region 17 with (fail)
      refine region_f (F := [17]) (S := fun W' => Below wr.heap.size wr W') (by kernel_rfl) (Below.refl _ _).drew (fun hS => ?_)
      refine take_p 0 64 (.slice (some ⟨g3, 0, none⟩) 128 128) rfl rfl (by kernel_rfl) (by kernel_rfl) (by kernel_rfl) (fun _ _ _ h => h) rfl (fun w => by go_simp) ?_
      try simp only [List.setIfInBounds_toArray, List.set_cons_zero, List.set_cons_succ]
      refine take_p 1 65 (.int .i64 (k : Int)) rfl rfl (by kernel_rfl) (by kernel_rfl) (by kernel_rfl) (fun _ _ _ h => h) rfl (fun w => by go_simp) ?_
      try simp only [List.setIfInBounds_toArray, List.set_cons_zero, List.set_cons_succ]
      refine take_p 2 66 (.slice (some ⟨g1, 0, none⟩) 128 128) rfl rfl (by kernel_rfl) (by kernel_rfl) (by kernel_rfl) (fun _ _ _ h => h) rfl (fun w => by go_simp) ?_
      try simp only [List.setIfInBounds_toArray, List.set_cons_zero, List.set_cons_succ]
      refine take_p 3 67 (.int .i64 (k : Int)) rfl rfl (by kernel_rfl) (by kernel_rfl) (by kernel_rfl) (fun _ _ _ h => h) rfl (fun w => by go_simp) ?_
      try simp only [List.setIfInBounds_toArray, List.set_cons_zero, List.set_cons_succ]
      refine take_p 4 68 (.pointer (some ⟨g1, k * 2, none⟩)) rfl rfl (by kernel_rfl) (by kernel_rfl) (by kernel_rfl) (fun _ _ _ h => h) rfl (fun w => by go_simp) ?_
      try simp only [List.setIfInBounds_toArray, List.set_cons_zero, List.set_cons_succ]
      refine take_f 5 69 (.agg #[.int .i64 (N : Int), .slice ak (T.need N 64) (T.need N 64)]) [12, 13, 14, 15, 16, 17, 18] rfl rfl (by kernel_rfl) (by kernel_rfl) (by kernel_rfl) (by kernel_rfl) (by kernel_rfl) (by kernel_rfl) (fun _ _ _ h => h) rfl (fun w hSw => by have h1 := (CA.out w hSw).1; have h2 := (CA.out w hSw).2; go_simp) hS ?_
      try simp only [List.setIfInBounds_toArray, List.set_cons_zero, List.set_cons_succ]
      refine take_p 6 70 (.slice (some ⟨g2, 0, none⟩) 128 128) rfl rfl (by kernel_rfl) (by kernel_rfl) (by kernel_rfl) (fun _ _ _ h => h) rfl (fun w => by go_simp) ?_
      try simp only [List.setIfInBounds_toArray, List.set_cons_zero, List.set_cons_succ]
      refine take_p 7 71 (.int .i64 (k : Int)) rfl rfl (by kernel_rfl) (by kernel_rfl) (by kernel_rfl) (fun _ _ _ h => h) rfl (fun w => by go_simp) ?_
      try simp only [List.setIfInBounds_toArray, List.set_cons_zero, List.set_cons_succ]
      refine take_p 8 72 (.pointer (some ⟨g2, k * 2, none⟩)) rfl rfl (by kernel_rfl) (by kernel_rfl) (by kernel_rfl) (fun _ _ _ h => h) rfl (fun w => by go_simp) ?_
      try simp only [List.setIfInBounds_toArray, List.set_cons_zero, List.set_cons_succ]
      refine take_f 9 73 (.agg #[.int .i64 (N : Int), .slice bk (T.need N 64) (T.need N 64)]) [11, 12, 13, 14, 15, 16, 17, 18] rfl rfl (by kernel_rfl) (by kernel_rfl) (by kernel_rfl) (by kernel_rfl) (by kernel_rfl) (by kernel_rfl) (fun _ _ _ h => h) rfl (fun w hSw => by have h1 := (CB.out w hSw).1; have h2 := (CB.out w hSw).2; go_simp) hS ?_
      try simp only [List.setIfInBounds_toArray, List.set_cons_zero, List.set_cons_succ]
      refine take_f 10 74 (.agg #[.int .i64 (N : Int), .slice a (T.need N 64) (T.need N 64)]) [11, 12, 13, 14, 15, 16, 17, 18] rfl rfl (by kernel_rfl) (by kernel_rfl) (by kernel_rfl) (by kernel_rfl) (by kernel_rfl) (by kernel_rfl) (fun _ _ _ h => h) rfl (fun w hSw => by have h1 := (CC.out w hSw).1; have h2 := (CC.out w hSw).2; go_simp) hS ?_
      try simp only [List.setIfInBounds_toArray, List.set_cons_zero, List.set_cons_succ]
      refine ready_f 11 (o := { dst := some 75, op := Op.buildSlice 69 2 #[(0, Operand.tmp 73), (1, Operand.tmp 74)], type := 69, pos := "iknp.go:30", after := #[{ on := 9, ground := Ground.data }, { on := 10, ground := Ground.data }], guard := none }) (by kernel_rfl) rfl (fun K hK => ?_)
      rw [if_pos (by rfl)]
      unfold Oper.wp
      rw [exec_build2 (n := N) (m := N) (a := bk) (b := a) _ _ rfl rfl rfl]
      generalize hU : World.alloc _ _ = U
      have hSU : Below wr.heap.size wr U := by rw [← hU]; exact hS.alloc (Nat.le_refl _) _
      have hUB : U.heap[wr.heap.size]? = some (.cells #[.int .i64 (N : Int), .slice bk (T.need N 64) (T.need N 64), .int .i64 (N : Int), .slice a (T.need N 64) (T.need N 64)] 41 (0, 0)) := by rw [← hU]; exact heap_alloc_new _ _
      refine hK.out _ _ (fun _ _ => hSU) ?_
      clear hK K
      try simp only [Act.put, List.setIfInBounds_toArray, List.set_cons_zero, List.set_cons_succ]
      clear hU
      have kX := hide1 (xor_any U 2 2 N 0 ak (some ⟨wr.heap.size, 0, none⟩) _ _ _ ((VCA.out.below hSU (Nat.le_refl _)).mono (Nat.zero_le _)) (vcs2 hUB ((VCB.out.below hSU (Nat.le_refl _)).mono (Nat.zero_le _)) ((VCC.out.below hSU (Nat.le_refl _)).mono (Nat.zero_le _)) hN') (by omega) (by omega) hN')
      refine ready_f 12 (o := { dst := some 76, op := Op.call { callee := Callee.value (Operand.func 46), args := #[Operand.tmp 69, Operand.tmp 75], argTypes := #[41, 69] }, type := 43, pos := "iknp.go:30", after := #[{ on := 5, ground := Ground.data }, { on := 11, ground := Ground.data }], guard := none }) (by kernel_rfl) rfl (fun K hK => ?_)
      go_simp
      refine kX.out.mono ?_
      rintro e w1 ⟨an, rfl, hvn, hbn⟩
      have hS1 := hSU.trans (hbn.mono hSU.size)
      refine hK.out _ _ (fun _ _ => hS1) ?_
      clear hK K
      try simp only [Act.put, List.setIfInBounds_toArray, List.set_cons_zero, List.set_cons_succ]
      refine take_p 13 63 (.tuple #[.agg #[.int .i64 (N : Int), .slice an (T.need N 64) (T.need N 64)], .int .i64 0]) rfl rfl (by kernel_rfl) (by kernel_rfl) (by kernel_rfl) (fun _ _ _ h => h) rfl (fun w => by go_simp) ?_
      try simp only [List.setIfInBounds_toArray, List.set_cons_zero, List.set_cons_succ]
      refine take_p 14 77 (.agg #[.int .i64 (N : Int), .slice an (T.need N 64) (T.need N 64)]) rfl rfl (by kernel_rfl) (by kernel_rfl) (by kernel_rfl) (fun _ _ _ h => h) rfl (fun w => by go_simp) ?_
      try simp only [List.setIfInBounds_toArray, List.set_cons_zero, List.set_cons_succ]
      refine take_p 15 78 (.int .i64 0) rfl rfl (by kernel_rfl) (by kernel_rfl) (by kernel_rfl) (fun _ _ _ h => h) rfl (fun w => by go_simp) ?_
      try simp only [List.setIfInBounds_toArray, List.set_cons_zero, List.set_cons_succ]
      refine take_p 16 79 (.pointer (some ⟨g3, k * 2, none⟩)) rfl rfl (by kernel_rfl) (by kernel_rfl) (by kernel_rfl) (fun _ _ _ h => h) rfl (fun w => by go_simp) ?_
      try simp only [List.setIfInBounds_toArray, List.set_cons_zero, List.set_cons_succ]
      have V1 := hide1 (V3.out.below hS1)
      have C1 : Hid (T.Vc (g3 + 1) w1 N an _) := hvn.mono (by have := hSU.size; have := T.lt_heap (hV3 _ V3.out).choose_spec; omega)
      obtain ⟨⟨y0, e0⟩, e1, e2⟩ := V1.out.cells (j := k * 2) (by omega)
      obtain ⟨⟨y1, e3⟩, e4, _⟩ := V1.out.cells (j := k * 2 + 1) (by omega)
      refine ready_f 17 (o := { dst := none, op := Op.store 41 (Operand.tmp 79) (Operand.tmp 77), type := 0, pos := "iknp.go:30", after := #[{ on := 16, ground := Ground.data }, { on := 14, ground := Ground.data }, { on := 12, ground := Ground.chain }, { on := 0, ground := Ground.phase }, { on := 1, ground := Ground.phase }, { on := 2, ground := Ground.phase }, { on := 3, ground := Ground.phase }, { on := 4, ground := Ground.phase }, { on := 5, ground := Ground.phase }, { on := 6, ground := Ground.phase }, { on := 7, ground := Ground.phase }, { on := 8, ground := Ground.phase }, { on := 9, ground := Ground.phase }, { on := 10, ground := Ground.phase }, { on := 11, ground := Ground.phase }, { on := 12, ground := Ground.phase }, { on := 13, ground := Ground.phase }, { on := 14, ground := Ground.phase }, { on := 15, ground := Ground.textOnly Departure.lateStores }], guard := none }) (by kernel_rfl) rfl (fun K hK => ?_)
      rw [if_pos (by rfl)]
      go_simp
      refine hK.out _ _ (fun h => absurd (by decide) h) ?_
      clear hK K
      refine take_p 18 12 (.int .i64 0) rfl rfl (by kernel_rfl) (by kernel_rfl) (by kernel_rfl) (fun _ _ _ h => h) rfl (fun w => by go_simp) ?_
      try simp only [List.setIfInBounds_toArray, List.set_cons_zero, List.set_cons_succ]
      refine done_f (by kernel_rfl) ?_ _
      have W1 := hide1 (VA.out.below hS1)
      have W2 := hide1 (VB.out.below hS1)
      have A1 := hide1 (HA.out.to hS1)
      obtain ⟨cs5, _, hcs5, _⟩ := V1.out.row
      have O5 : Hid (∀ q, q ≠ g3 → ((w1.setCell ⟨g3, k * 2, none⟩ (.int .i64 (N : Int))).setCell ⟨g3, k * 2 + 1, none⟩ (.slice an (T.need N 64) (T.need N 64))).heap[q]? = w1.heap[q]?) := fun q hq => (heap_setCell_other _ _ _ _ hq).trans (heap_setCell_other _ _ _ _ hq)
      have V9 := hide1 (V1.out.add hlt C1.out)
      have V7 := hide1 (Vrow_oth W1.out hcs5 O5.out (by have := G3.out; omega))
      have V8 := hide1 (Vrow_oth W2.out hcs5 O5.out (by have := G3.out; omega))
      have A9 := hide1 ((A1.out.set (o := k * 2) (.int .i64 (N : Int)) G3.out.1).set (o := k * 2 + 1) (.slice an (T.need N 64) (T.need N 64)) G3.out.1)
      clear hS1 hSU hUB kX hvn hbn e0 e1 e2 e3 e4 V1 C1 W1 W2 A1 hcs5 O5 CA CB CC
      generalize World.setCell _ _ _ = W9 at *
      go_wp2
      go_roundw
      case rel => exact ⟨k + 1, _, by omega, by go_num, V7.out, V8.out, V9.out, A9.out⟩
      case measure => simp [intOf]; omega
    · obtain rfl : k = 128 := by omega
      have hvs := (VA.out.vcs hN')
      go_wp2_with fail
      go_at_call 47
      refine (kr _ 128 _ _ _ hvs (by omega)).out.mono ?_
      rintro e w5 ⟨gr, rfl, hrr, hb5⟩
      have V5 := hide1 (V3.out.below hb5)
      have A5 := hide1 (HA.out.to hb5)
      have RR := hide1 hrr
      clear hrr hb5 hvs
      go_wp2
      refine bodyPost_ret (results_tmp3 rfl _ _ _) rfl ?_
      exact ⟨g3, gr, aa, rfl, V5.out, RR.out, A5.out.bel⟩
end Go.Proofs.YtlkkninnfiaedaaDoor.I

namespace Go.Proofs.YtlkkninnfiaedaaDoor.Ro
open Go.RowKit Pg
set_option maxRecDepth 100000
attribute [local go_sem] not_any T.mf_any

/- numbers in a row of the call's own -/
structure Mn (w : World) (g : Nat) (l : List Nat) : Prop where
  at' : ∃ cur, w.heap[g]? = some (.cells cur 22 (0, 0)) ∧ cur.toList.take l.length = V.u64s l
theorem Mn.lt {w : World} {g : Nat} {l : List Nat} (h : Mn w g l) : g < w.heap.size := by
  obtain ⟨cur, hh, _⟩ := h.at'
  exact lt_heap hh
theorem Mn.cell {w : World} {g j : Nat} {l : List Nat} (h : Mn w g l) (hj : j < l.length) : w.cell? ⟨g, j, none⟩ = some (.int .u64 (at0 l j : Nat)) := by
  obtain ⟨cur, hh, ht⟩ := h.at'
  rw [cell_of_row w g j _ _ _ hh, ← Array.getElem?_toList, ← List.getElem?_take_of_lt hj, ht, V.u64s, List.getElem?_map, get_at0 hj]
  rfl
theorem Mn.frozen {w : World} {g : Nat} {l : List Nat} (h : Mn w g l) (j : Nat) : w.frozen? ⟨g, j, none⟩ = false := by
  obtain ⟨cur, hh, _⟩ := h.at'
  exact frozen_of_row w g j _ _ hh
theorem Mn.set {w : World} {g : Nat} {l : List Nat} (h : Mn w g l) (j x : Nat) : Mn (w.setCell ⟨g, j, none⟩ (.int .u64 (x : Int))) g (l.set j x) := by
  obtain ⟨cur, hh, ht⟩ := h.at'
  refine ⟨_, heap_setCell_same w g j _ _ _ hh, ?_⟩
  rw [Array.toList_setIfInBounds, List.length_set, List.take_set, ht, V.u64s, V.u64s, List.map_set]
theorem Mn.below {w w' : World} {g B : Nat} {l : List Nat} (h : Mn w g l) (hb : Below B w w') (hg : g < B) : Mn w' g l := by
  obtain ⟨cur, hh, ht⟩ := h.at'
  exact ⟨cur, (hb.block g hg).trans hh, ht⟩
theorem mn_own {w : World} {base n c : Nat} {a : Option Addr} {l : List Nat} (hl : l.length = n) (h : w.ownsRow base 22 1 (.slice a n c) n (V.u64s l)) : n = 0 ∨ ∃ g, a = some ⟨g, 0, none⟩ ∧ base ≤ g ∧ Mn w g l := by
  rcases h.2 with ⟨_, h0⟩ | ⟨g, cap, cur, hv, hg, hh, _, _, ht⟩
  · exact .inl h0
  · cases hv
    refine .inr ⟨g, rfl, hg, cur, hh, ?_⟩
    rw [hl]
    simpa using ht.2
theorem Mn.nl {w : World} {g : Nat} {l : List Nat} {n : Nat} (hl : l.length = n) (h : Mn w g l) : T.Nl w n (some ⟨g, 0, none⟩) l :=
  ⟨hl, fun j x hj => ⟨g, 0, rfl, by
    have hj' := (List.getElem?_eq_some_iff.1 hj).1
    rw [Nat.zero_add, h.cell hj', at0, hj]
    rfl⟩⟩

set_option maxHeartbeats 4000000 in
theorem rnumbers_good (kl : List Nat) (W N : Nat) (w : World) (hk : kl.length = 32) (bk : Lt 256 kl) (h1 : 1 ≤ W) (h2 : W ≤ 64) (h3 : N ≤ 36) :
    Calls Tryd.prog 19 #[arr8 kl, .int .i64 (W : Int), .int .i64 (N : Int)] w (NPost w ((wrd kl 1 0 N).map (cutN W)) 0) := by
  have kw : Hid (∀ W, Calls Tryd.prog 36 #[arr8 kl, .int .u32 1, .int .i64 0, .int .i64 (N : Int)] W (fun e w' => ∃ a c, e = .returned (.tuple #[.slice a N c, .int .i64 0]) ∧ w'.ownsRow W.heap.size 22 1 (.slice a N c) N (V.u64s (wrd kl 1 0 N)) ∧ Below W.heap.size W w')) := fun w => rwords_own kl 1 0 N w hk bk (by omega) (by omega) (by omega)
  have HLn : Shy ((wrd kl 1 0 N).length = N) := ⟨wrd_length _ _ _ _⟩
  have HLt : Shy (∀ i, i < N → at0 (wrd kl 1 0 N) i < 18446744073709551616) := ⟨fun i h => wrd_lt h⟩
  have hi := hi23 hk
  have g1 : decide ((W : Int) < 1) = false := by rw [decide_eq_false_iff_not]; omega
  have g2 : decide ((64 : Int) < (W : Int)) = false := by rw [decide_eq_false_iff_not]; omega
  have g3 : decide ((N : Int) < 0) = false := by rw [decide_eq_false_iff_not]; omega
  have g4 : decide ((36 : Int) < (N : Int)) = false := by rw [decide_eq_false_iff_not]; omega
  have kc : Hid (∀ x : Nat, x < 18446744073709551616 → ∀ w, Calls Tryd.prog 37 #[.int .u64 (x : Int), .int .i64 (W : Int)] w fun e w' => e = .returned (.int .u64 ((cutN W x : Nat) : Int)) ∧ w' = w) := fun x hx w => rcut_any x W w hx h2
  generalize wrd kl 1 0 N = ws at *
  unfold arr8 at kw ⊢
  clear hk bk
  go_enter Tryd.func19, Tryd.ntmps19
  go_upto_region 1 with (fail)
  generalize hX : World.alloc w _ = X
  have x0 : X.heap[w.heap.size]? = some (row8 28 kl) := by rw [← hX]; exact heap_alloc_new _ _
  have xb : Below w.heap.size w X := by rw [← hX]; exact (Below.refl _ _).alloc (Nat.le_refl _) _
  have X0 := hide1 x0
  have XB := hide1 xb
  clear hX x0 xb
  go_wp2_with (first | (refine wpList_load_row rfl 28 (.tmp 3) rfl w.heap.size rfl 28 (u8s kl).toArray (0, 0) _ X0.out Tryd.underlying28 rfl hi ?_) | fail)
  go_at_call 36
  refine (kw.out _).mono ?_
  rintro e w1 ⟨a, c, rfl, hw, hb⟩
  have HW := hide1 (mn_own HLn.out hw)
  have HB := hide1 (XB.out.trans (hb.mono XB.out.size))
  have HXS := hide1 XB.out.size
  clear hw hb kw X0 XB
  go_wp2
  go_loopw [10] (fun v wr => ∃ k : Nat, k ≤ N ∧ v = .int .i64 k ∧ (N = 0 ∨ ∃ g, a = some ⟨g, 0, none⟩ ∧ X.heap.size ≤ g ∧ Mn wr g (cutTo W k ws)) ∧ Below w.heap.size w wr) (fun v _ => N - (intOf v).toNat)
  case atStart => exact ⟨0, Nat.zero_le _, rfl, by rw [cutTo_zero]; exact HW.out, HB.out⟩
  case round =>
    obtain ⟨k, hkN, rfl, hrow, hbe⟩ := hrel
    by_cases hlt : k < N
    · have bk : (k : Int) < (N : Int) := by omega
      have bk2 : (k : Int) < 36 := by omega
      obtain ⟨g, rfl, hg, hm⟩ : ∃ g, a = some ⟨g, 0, none⟩ ∧ X.heap.size ≤ g ∧ Mn wr g (cutTo W k ws) := hrow.resolve_left (by omega)
      have bx := HLt.out k hlt
      have cu := hm.cell (j := k) (by rw [cutTo_length, HLn.out]; exact hlt)
      rw [cutTo_at (by rw [HLn.out]; exact hlt)] at cu
      have fu := hm.frozen k
      have HS : Shy ((cutTo W k ws).set k (cutN W (at0 ws k)) = cutTo W (k + 1) ws) := ⟨cutTo_step (by rw [HLn.out]; exact hlt)⟩
      have kx := fun w => hide1 (kc.out _ bx w)
      have by' := cutN_lt (B := W) bx
      generalize at0 ws k = x at *
      generalize cutN W x = y at *
      have HM := hide1 hm
      have HG := hide1 hg
      have HE := hide1 hbe
      clear hrow hbe hm hg HW
      go_wp2_with (first | (go_at_call 37; refine (kx _).out.mono ?_; rintro e w' ⟨rfl, rfl⟩))
      go_roundw
      case rel => exact ⟨k + 1, by omega, by go_num, .inr ⟨g, rfl, HG.out, by rw [← HS.out]; exact HM.out.set k y⟩, HE.out.setCell (Nat.le_trans HXS.out HG.out) _⟩
      case measure => simp [intOf]; omega
    · obtain rfl : k = N := by omega
      have HF : Hid (k = 0 ∨ ∃ g, a = some ⟨g, 0, none⟩ ∧ Mn wr g (ws.map (cutN W))) := by
        rcases hrow with h | ⟨g, e, _, hm⟩
        · exact .inl h
        · refine .inr ⟨g, e, ?_⟩
          rw [← cutTo_all, HLn.out]
          exact hm
      have HE := hide1 hbe
      clear hrow hbe HW
      go_wp2
      go_ret2
      refine ⟨_, _, _, rfl, ?_, h3, HE.out⟩
      have hl : (ws.map (cutN W)).length = k := by rw [List.length_map, HLn.out]
      rcases HF.out with h | ⟨g, rfl, hm⟩
      · exact ⟨hl, fun j x hj => absurd (List.getElem?_eq_some_iff.1 hj).1 (by omega)⟩
      · exact hm.nl hl

theorem rnumbers_bad (kl : List Nat) (W n : Int) (w : World) (_hk : kl.length = 32) (h : numC W n ≠ 0) :
    Calls Tryd.prog 19 #[arr8 kl, .int .i64 W, .int .i64 n] w (NPost w [] (numC W n)) := by
  have hb : Below w.heap.size w (w.alloc (row8 28 kl)) := (Below.refl _ _).alloc (Nat.le_refl _) _
  unfold row8 at hb
  have HB := hide1 hb
  clear hb
  unfold arr8
  by_cases hW : 1 ≤ W ∧ W ≤ 64
  · have hn : ¬ (0 ≤ n ∧ n ≤ 36) := fun hh => h (by rw [numC, if_pos hW, if_pos hh])
    have hc : numC W n = 2 := by rw [numC, if_pos hW, if_neg hn]
    have g1 : decide (W < 1) = false := by rw [decide_eq_false_iff_not]; omega
    have g2 : decide ((64 : Int) < W) = false := by rw [decide_eq_false_iff_not]; omega
    rw [hc]
    by_cases hn0 : n < 0
    · have g3 : decide (n < 0) = true := decide_eq_true hn0
      clear hn h hc _hk
      go_enter Tryd.func19, Tryd.ntmps19
      go_wp2
      go_ret2
      exact ⟨_, _, _, rfl, nl_none _, by omega, HB.out⟩
    · have g3 : decide (n < 0) = false := decide_eq_false hn0
      have g4 : decide ((36 : Int) < n) = true := decide_eq_true (by omega)
      clear hn h hc _hk
      go_enter Tryd.func19, Tryd.ntmps19
      go_wp2
      go_ret2
      exact ⟨_, _, _, rfl, nl_none _, by omega, HB.out⟩
  · have hc : numC W n = 11 := by rw [numC, if_neg hW]
    rw [hc]
    by_cases hW1 : W < 1
    · have g1 : decide (W < 1) = true := decide_eq_true hW1
      clear hW h hc _hk
      go_enter Tryd.func19, Tryd.ntmps19
      go_wp2
      go_ret2
      exact ⟨_, _, _, rfl, nl_none _, by omega, HB.out⟩
    · have g1 : decide (W < 1) = false := decide_eq_false hW1
      have g2 : decide ((64 : Int) < W) = true := decide_eq_true (by omega)
      clear hW h hc _hk
      go_enter Tryd.func19, Tryd.ntmps19
      go_wp2
      go_ret2
      exact ⟨_, _, _, rfl, nl_none _, by omega, HB.out⟩

theorem rnumbers_any (kl : List Nat) (W n : Int) (w : World) (hk : kl.length = 32) (bk : Lt 256 kl) :
    Calls Tryd.prog 19 #[arr8 kl, .int .i64 W, .int .i64 n] w (NPost w (numL kl W n) (numC W n)) := by
  by_cases h : numC W n = 0
  · have h1 : (1 ≤ W ∧ W ≤ 64) ∧ 0 ≤ n ∧ n ≤ 36 := by
      unfold numC at h
      split at h
      · split at h
        · exact ⟨‹_›, ‹_›⟩
        · cases h
      · cases h
    obtain ⟨V, rfl⟩ := Int.eq_ofNat_of_zero_le (show 0 ≤ W by omega)
    obtain ⟨N, rfl⟩ := Int.eq_ofNat_of_zero_le (show 0 ≤ n by omega)
    rw [h, numL_yes (by omega) (by omega) (by omega)]
    exact rnumbers_good kl V N w hk bk (by omega) (by omega) (by omega)
  · rw [numL_no h]
    exact rnumbers_bad kl W n w hk h

/- the coins of seeds -/
def coin (s : List Nat) : Bool := at0 s 0 % 2 == 1
def coins (f : Nat → List Nat) (n : Nat) : List Bool := (List.range n).map fun j => coin (f j)
theorem coins_length (f : Nat → List Nat) (n : Nat) : (coins f n).length = n := by simp [coins]
theorem coins_get {f : Nat → List Nat} {n j : Nat} (h : j < n) : (coins f n)[j]? = some (coin (f j)) := by simp [coins, h]
theorem and_u8 : ∀ n : Nat, n < 256 → (bits .and .u8 (n : Int) 1 == 1) = (n % 2 == 1) := by decide +kernel

set_option maxHeartbeats 4000000 in
theorem coins_any (n c : Nat) (a : Option Addr) (f : Nat → List Nat) (w : World) (hs : Sd w n a f) (hn : n ≤ 4096) :
    Calls Tryd.prog 16 #[.slice a n c] w fun e w' => ∃ av, e = .returned (.tuple #[.agg #[.int .i64 (n : Int), .slice av (T.need n 64) (T.need n 64)], .int .i64 0]) ∧ T.Vc 0 w' n av (coins f n) ∧ Below w.heap.size w w' := by
  have hmk := fun w => T.make_bools n (by omega) w
  have HS := hide1 hs
  have HG := hide1 hs.good
  have HL : Shy (∀ k, k < n → (coins f n)[k]? = some (coin (f k))) := ⟨fun k h => coins_get h⟩
  have HLn : Shy ((coins f n).length = n) := ⟨coins_length f n⟩
  have H0 : Shy (T.firsts (coins f n) 0 = List.replicate n false) := ⟨by rw [T.firsts_zero, coins_length]⟩
  have HSt : Shy (∀ k, k < n → T.firsts (coins f n) (k + 1) = (T.firsts (coins f n) k).set k (coin (f k))) := ⟨fun k h => T.firsts_succ (coins_get h)⟩
  have HA : Shy (T.firsts (coins f n) n = coins f n) := ⟨T.firsts_all (by rw [coins_length]; exact Nat.le_refl _)⟩
  have HFL : Shy (∀ k, (T.firsts (coins f n) k).length = n) := ⟨fun k => by rw [T.firsts_length, coins_length]⟩
  generalize coins f n = L at *
  clear hs
  go_enter Tryd.func16, Tryd.ntmps16
  go_upto_region 2 with (fail)
  generalize hX : World.alloc (World.alloc w _) _ = X
  have x0 : X.heap[w.heap.size]? = some (.cells #[.int .i64 0, .slice none 0 0] 41 (0, 0)) := by rw [← hX]; exact heap_alloc2_old _ _ _
  have x1 : X.heap[w.heap.size + 1]? = some (T.brow (T.firsts L 0)) := by rw [← hX, H0.out]; exact heap_alloc2_new _ _ _
  have xb : Below w.heap.size w X := by rw [← hX]; exact ((Below.refl _ _).alloc (Nat.le_refl _) _).alloc (by simp) _
  have X0 := hide1 x0
  have X1 := hide1 x1
  have XB := hide1 xb
  clear hX x0 x1 xb
  go_wp2
  go_loopw [12] (fun v wr => ∃ k : Nat, k ≤ n ∧ v = .int .i64 k ∧ wr.heap[w.heap.size]? = some (.cells #[.int .i64 0, .slice none 0 0] 41 (0, 0)) ∧ wr.heap[w.heap.size + 1]? = some (T.brow (T.firsts L k)) ∧ Below w.heap.size w wr) (fun v _ => n - (intOf v).toNat)
  case atStart => exact ⟨0, Nat.zero_le _, rfl, X0.out, X1.out, XB.out⟩
  case round =>
    obtain ⟨k, hk, rfl, hr0, hr1, hbe⟩ := hrel
    by_cases hlt : k < n
    · have bk : (k : Int) < (n : Int) := by omega
      have bk2 : (k : Int) < 4096 := by omega
      obtain ⟨ga, oa, rfl, hga, ra⟩ := HS.out.at0 hlt
      have hra := ra wr hbe k hlt
      have hsl := (HG.out k).1
      have hst := HSt.out k hlt
      have hx := (HG.out k).2.at (by omega : 0 < 256) 0
      have hand := and_u8 _ hx
      have hcn : coin (f k) = (at0 (f k) 0 % 2 == 1) := rfl
      obtain ⟨s, hs⟩ : ∃ s, s = f k := ⟨_, rfl⟩
      rw [← hs] at hra hsl hst hx hand hcn
      rw [← hcn] at hand
      have HST : Shy ((T.firsts L k).set k (coin s) = T.firsts L (k + 1)) := ⟨hst.symm⟩
      have cu := T.brow_cell hr1 (j := k) (List.getElem?_eq_getElem (by rw [HFL.out]; exact hlt))
      have fu := frozen_of_row wr (w.heap.size + 1) k _ _ hr1
      have hi := hi23 hsl
      have hi' := hi23' hsl
      have HZ : Shy ((u8s (zeros 32)).toArray.size = (u8s s).toArray.size) := ⟨by simp [u8s, zeros, hsl]⟩
      have hs0 : (u8s s)[0]? = some (.int .u8 (at0 s 0 : Nat)) := by rw [u8s, List.getElem?_map, get_at0 (by omega)]; rfl
      generalize coin s = b at *
      generalize at0 s 0 = x at *
      obtain ⟨ja, hja⟩ : ∃ j, j = oa + k * 32 := ⟨_, rfl⟩
      rw [← hja] at hra
      have eja : oa + k * 32 = ja := hja.symm
      have R0 := hide1 hr0
      have R1 := hide1 hr1
      have HE := hide1 hbe
      have HRA := hide1 hra
      have HS0 := hide1 hs0
      clear hr0 hr1 hbe hra ra hs0 hcn hst hja hs hga cu fu
      go_upto_region 5 with (first
        | (refine wpList_load_mid rfl 28 (.tmp 15) rfl ga ja rfl (u8s s) _ HRA.out Tryd.underlying28 rfl hi' ?_)
        | (refine wpList_store_own rfl 28 (.tmp 6) (.tmp 16) rfl wr.heap.size rfl (u8s s).toArray rfl 28 _ (heap_alloc_new wr (row8 28 (zeros 32))) hi HZ.out (all_one (u8s_one _)) ?_)
        | fail)
      generalize hZ : World.setRow _ _ _ = Z
      have z0 : Z.heap[wr.heap.size]? = some (.cells (u8s s).toArray 28 (0, 0)) := by rw [← hZ]; exact setRow_heap _ _ _ _ _ _ (heap_alloc_new _ _)
      have zb : Below wr.heap.size wr Z := by rw [← hZ]; exact Below.setRow' ((Below.refl _ _).alloc (Nat.le_refl _) _) (Nat.le_refl _) _
      clear hZ
      have c0 : Z.cell? ⟨wr.heap.size, 0, none⟩ = some (.int .u8 (x : Int)) := by rw [cell_of_row Z _ 0 _ _ _ z0]; simp only [List.getElem?_toArray]; exact HS0.out
      have Z0 := hide1 ((zb.block _ (lt_heap R0.out)).trans R0.out)
      have Z1 := hide1 ((zb.block _ (lt_heap R1.out)).trans R1.out)
      have ZB := hide1 (HE.out.trans (zb.mono HE.out.size))
      have cu := T.brow_cell Z1.out (j := k) (List.getElem?_eq_getElem (by rw [HFL.out]; exact hlt))
      have fu := frozen_of_row Z (w.heap.size + 1) k _ _ Z1.out
      clear z0 zb R0 R1 HE HRA HS0 HZ hi hi'
      obtain ⟨gz, hgz⟩ : ∃ g, g = wr.heap.size := ⟨_, rfl⟩
      rw [← hgz] at c0 ⊢
      clear hgz
      go_wp2
      go_roundw
      case rel =>
        refine ⟨k + 1, by omega, by go_num, ?_, ?_, ZB.out.setCell (show w.heap.size ≤ w.heap.size + 1 by omega) _⟩
        · exact (heap_setCell_other _ _ _ _ (by simp)).trans Z0.out
        · rw [← HST.out]; exact T.bset Z1.out
      case measure => simp [intOf]; omega
    · obtain rfl : k = n := by omega
      rw [HA.out] at hr1
      have hbl := T.bl_of_row hr1
      rw [HLn.out] at hbl
      have ko := fun cap => hide1 (T.of_any wr k cap (some ⟨w.heap.size + 1, 0, none⟩) L hbl (by omega))
      have R0 := hide1 hr0
      have HE := hide1 hbe
      clear hr0 hr1 hbe hbl
      go_wp2_with fail
      go_at_call 22
      refine (ko _).out.mono ?_
      rintro e w1 ⟨av, rfl, hv, hb1⟩
      have q0 := (hb1.block _ (lt_heap R0.out)).trans R0.out
      have HQ := hide1 q0
      have HV := hide1 hv
      have HB := hide1 (HE.out.trans (hb1.mono HE.out.size))
      have HSz := hide1 HE.out.size
      obtain ⟨q1, q2, q3, q4, q5⟩ := T.box2 q0
      clear hv hb1 q0 ko
      go_wp2
      refine T.ret_vec2 Tryd.results16 w.heap.size _ _ _ rfl rfl (T.set_box2 HQ.out) rfl ⟨_, rfl, ?_, ?_⟩
      · exact (I.Vc_oth HV.out HQ.out (fun q hq => (heap_setCell_other _ _ _ _ hq).trans (heap_setCell_other _ _ _ _ hq))).mono (Nat.zero_le _)
      · exact (HB.out.setCell (Nat.le_refl _) _).setCell (Nat.le_refl _) _
end Go.Proofs.YtlkkninnfiaedaaDoor.Ro
