/- Blocks of rows, squares of rows; lists of words that are 0. -/
import Derived.Test.YtaghcbmipihpmaaUb
import Derived.Deep.MidRow
import Derived.Deep.Cut
import Derived.Deep.CutBlock
import Derived.Deep.DeepCutAuto
namespace Go.Proofs.Ytaghcbmipihpmaa
open Go.RowKit
set_option maxRecDepth 100000
attribute [local go_sem] not_any

theorem tneeded_any (n s : Nat) (w : World) (hn : n ≤ 4194304) (hs : s = 8 ∨ s = 64) :
    Calls Try.prog 19 #[.int .i64 n, .int .i64 s] w fun e w' => e = .returned (.int .i64 (need n s : Nat)) ∧ w' = w := by
  rcases hs with rfl | rfl
  · rw [need8]
    go_enter Try.func19, Try.ntmps19
    go_wp2
    go_ret
    refine ⟨?_, rfl⟩
    show Ending.returned (.int .i64 (((n : Int) + 8 - 1) / 8)) = _
    rw [show ((n : Int) + 8 - 1) / 8 = (((n + 7) / 8 : Nat) : Int) by omega]
  · rw [need64]
    go_enter Try.func19, Try.ntmps19
    go_wp2
    go_ret
    refine ⟨?_, rfl⟩
    show Ending.returned (.int .i64 (((n : Int) + 64 - 1) / 64)) = _
    rw [show ((n : Int) + 64 - 1) / 64 = (((n + 63) / 64 : Nat) : Int) by omega]

theorem ret_sl {a : Option Addr} {n m c : Nat} (h : n = m) : Ending.returned (.slice a n c) = .returned (.slice a m c) := by rw [h]
theorem inBlock_any (w : World) (g o n c b : Nat) (h1 : b * 64 < n) (h2 : n ≤ 4194304) (hc : n ≤ c) :
    Calls Try.prog 42 #[.slice (some ⟨g, o, none⟩) n c, .int .i64 b] w fun e w' => e = .returned (.slice (some ⟨g, o + b * 64 * 2, none⟩) (min 64 (n - b * 64)) (c - b * 64)) ∧ w' = w := by
  obtain ⟨f, hf⟩ : ∃ f, f = b * 64 := ⟨_, rfl⟩
  obtain ⟨t, ht⟩ : ∃ t, t = min (f + 64) n := ⟨_, rfl⟩
  rw [show min 64 (n - b * 64) = t - f by omega, ← hf]
  have q1 : IntKind.i64.wrap ((b : Int) * 64) = (f : Int) := by rw [IntKind.wrap_i64]; omega
  have q2 : IntKind.i64.wrap ((f : Int) + 64) = (f : Int) + 64 := by rw [IntKind.wrap_i64]; omega
  have q3 : min ((f : Int) + 64) (n : Int) = (t : Int) := by omega
  have q4 : f ≤ t := by omega
  have q5 : t ≤ c := by omega
  have q6 : ¬ c = f := by omega
  have HT := hide1 ht
  clear ht hf q3
  go_enter Try.func42, Try.ntmps42
  go_wp2
  all_goals first
    | (go_ret; refine ⟨ret_sl ?_, rfl⟩; have := HT.out; omega)
    | (exfalso; have := HT.out; omega)

/- rows that are read: word p of row j is R j p -/
structure Rws (w : World) (n : Nat) (a : Option Addr) (R : Nat → Nat → Nat) : Prop where
  at' : ∀ j, j < n → ∃ g o, a = some ⟨g, o, none⟩ ∧ w.cell? ⟨g, o + j * 2, none⟩ = some (.int .u64 (R j 0 : Nat)) ∧ w.cell? ⟨g, o + j * 2 + 1, none⟩ = some (.int .u64 (R j 1 : Nat))
  lt : ∀ j p, R j p < 18446744073709551616
theorem Rws.below {B : Nat} {w w' : World} {n : Nat} {a : Option Addr} {R : Nat → Nat → Nat} (h : Rws w n a R) (hB : Below B w w') (hs : w.heap.size ≤ B) : Rws w' n a R :=
  ⟨fun j hj => by
    obtain ⟨g, o, e, c0, c1⟩ := h.at' j hj
    have l0 := lt_cell c0
    exact ⟨g, o, e, (hB.cell (p := ⟨g, o + j * 2, none⟩) (by simp; omega)).trans c0, (hB.cell (p := ⟨g, o + j * 2 + 1, none⟩) (by simp; omega)).trans c1⟩, h.lt⟩
theorem Rws.first {w : World} {n : Nat} {a : Option Addr} {R : Nat → Nat → Nat} (h : Rws w n a R) (hn : 0 < n) : ∃ g o, a = some ⟨g, o, none⟩ ∧ g < w.heap.size ∧ ∀ j, j < n → w.cell? ⟨g, o + j * 2, none⟩ = some (.int .u64 (R j 0 : Nat)) ∧ w.cell? ⟨g, o + j * 2 + 1, none⟩ = some (.int .u64 (R j 1 : Nat)) := by
  obtain ⟨g, o, rfl, c0, _⟩ := h.at' 0 hn
  refine ⟨g, o, rfl, lt_cell c0, fun j hj => ?_⟩
  obtain ⟨g', o', e, d⟩ := h.at' j hj
  cases e
  exact d

theorem wpList_store_own {P : Program} {ops : Array Oper} {rest : List Oper} {o : Oper} {a : Act} {w : World} {Q : Exit → Act → World → Prop} (hgd : o.guard = none) (ty : TypeId) (x y : Operand) (ho : o.op = .store ty x y)
    (g : Nat) (hx : a.eval x = .pointer (some ⟨g, 0, none⟩)) (cs' : Array Value) (hy : a.eval y = .agg cs') (t : TypeId) (cs : Array Value) (hg : w.heap[g]? = some (.cells cs t (0, 0)))
    (hi : (P.info? ty).map (·.size) = some cs'.size) (hs : cs.size = cs'.size) (h1 : cs'.all (·.oneCell') = true)
    (h : wpList P ops Q rest (a.put o.dst undef) (w.setRow g cs')) : wpList P ops Q (o :: rest) a w :=
  wpList_plain hgd fun K hK => by
    have e := run_storeVar_row (P := P) w g t ty cs cs' hg hi hs h1
    unfold Oper.wp execOp
    simp only [ho, hx, hy, Instr.storeAt, Instr.sureAddr, Sem.run_bind, Sem.run_pure, Result.andThen_ok, e]
    exact hK _ _ h
theorem ret_row {fn : Func} {p : Tmp} {ty : TypeId} (h : fn.results = #[.cell p ty]) {R : Ending → World → Prop} {a : Act} {w : World} (g : Nat) (t : TypeId) (cs : Array Value) {n : Nat} {el : TypeId} (hp : a.tmps.getD p undef = .pointer (some ⟨g, 0, none⟩))
    (hg : w.heap[g]? = some (.cells cs t (0, 0))) (hu : Try.prog.underlying ty = some (.array n el)) (hi : (Try.prog.info? ty).map (·.size) = some cs.size)
    (hd : a.defers = []) (hR : R (.returned (.agg cs)) w) : bodyPost Try.prog fn R .ret a w :=
  bodyPost_ret_by (results_cell_row (P := Try.prog) h _ w g t cs (0, 0) _ hp hg hu rfl hi) hd hR
theorem below_setRow {B g : Nat} {w0 w : World} (hb : Below B w0 w) (hBg : B ≤ g) (cs : Array Value) : Below B w0 (w.setRow g cs) :=
  hb.trans ⟨rfl, rfl, rfl, by simp [World.setRow], fun k hk => setRow_other w g k cs (by omega)⟩
theorem all_one {cs : List Value} (h : ∀ v ∈ cs, v.oneCell' = true) : cs.toArray.all (·.oneCell') = true :=
  Array.all_eq_true_iff_forall_mem.2 (fun v hv => h v (by simpa using hv))
theorem size57 (f : Nat → Nat) : (Try.prog.info? 57).map (·.size) = some (u64s (sq f)).toArray.size := by
  rw [show (u64s (sq f)).toArray.size = 64 by simp [u64s, sq]]
  kernel_rfl

/- a block of rows, of each the one word; what is behind is 0 -/
def blkF (R : Nat → Nat → Nat) (n p b j : Nat) : Nat := if b * 64 + j < n then R (b * 64 + j) p else 0
def upTo (F : Nat → Nat) (k j : Nat) : Nat := if j < k then F j else 0
theorem blkF_lt {w : World} {n : Nat} {a : Option Addr} {R : Nat → Nat → Nat} (h : Rws w n a R) (p b j : Nat) : blkF R n p b j < 18446744073709551616 := by
  unfold blkF
  by_cases h1 : b * 64 + j < n
  · rw [if_pos h1]; exact h.lt _ _
  · rw [if_neg h1]; omega
theorem sq_upTo {F : Nat → Nat} {k : Nat} : sq (upTo F (k + 1)) = (sq (upTo F k)).set k (F k) := by
  rw [sq_set]
  refine sq_congr fun i hi => ?_
  unfold upTo
  by_cases h : i = k
  · rw [if_pos h, if_pos (by omega), h]
  · rw [if_neg h]
    by_cases h1 : i < k
    · rw [if_pos h1, if_pos (by omega)]
    · rw [if_neg h1, if_neg (by omega)]
theorem sq_zero (F : Nat → Nat) : sq (fun _ => 0) = sq (upTo F 0) := sq_congr fun i _ => (if_neg (Nat.not_lt_zero i)).symm

set_option maxHeartbeats 2000000 in
theorem ofRows_any (w : World) (n c p b : Nat) (a : Option Addr) (R : Nat → Nat → Nat) (hR : Rws w n a R) (h1 : b * 64 < n) (h2 : n ≤ 4194304) (hc : n ≤ c) (hp : p = 0 ∨ p = 1) :
    Calls Try.prog 21 #[.slice a n c, .int .i64 p, .int .i64 b] w fun e w' => e = .returned (.agg (u64s (sq (blkF R n p b))).toArray) ∧ Below w.heap.size w w' := by
  obtain ⟨g, o, rfl, hgl, hcs⟩ := hR.first (by omega)
  have HC := hide1 hcs
  have HI := fun w => hide1 (inBlock_any w g o n c b h1 h2 hc)
  obtain ⟨m, hm⟩ : ∃ m, m = min 64 (n - b * 64) := ⟨_, rfl⟩
  obtain ⟨O, hO⟩ : ∃ O, O = o + b * 64 * 2 := ⟨_, rfl⟩
  obtain ⟨c', hc'⟩ : ∃ c', c' = c - b * 64 := ⟨_, rfl⟩
  rw [← hm, ← hO, ← hc'] at HI
  have m64 : m ≤ 64 := by omega
  have HM := hide1 hm
  have HO := hide1 hO
  have HLT := hide1 hR.lt
  clear hR hcs hm hO hc' hc
  have HP := hide1 hp
  clear hp
  go_enter Try.func21, Try.ntmps21
  go_wp2_with fail
  generalize hW : World.alloc (World.alloc w _) _ = W
  have w1 : W.heap[w.heap.size]? = some (row64 57 (sq (fun _ => 0))) := by rw [← hW]; exact heap_alloc2_old _ _ _
  have w2 : W.heap[w.heap.size + 1]? = some (row64 57 (sq (fun _ => 0))) := by rw [← hW]; exact heap_alloc2_new _ _ _
  have w3 : Below w.heap.size w W := by rw [← hW]; exact ((Below.refl _ _).alloc (Nat.le_refl _) _).alloc (by simp) _
  have W1 := hide1 w1
  have W2 := hide1 w2
  have W3 := hide1 w3
  clear hW w1 w2 w3
  go_at_call 42
  refine (HI _).out.mono ?_
  rintro e w' ⟨rfl, rfl⟩
  go_wp2
  go_loopw [14] (fun i wr => ∃ k : Nat, k ≤ m ∧ i = .int .i64 k ∧ wr.heap[w.heap.size + 1]? = some (row64 57 (sq (upTo (blkF R n p b) k))) ∧ Below (w.heap.size + 1) w' wr) (fun i _ => m - (intOf i).toNat)
  case atStart =>
    refine ⟨0, Nat.zero_le _, rfl, ?_, Below.refl _ _⟩
    rw [← sq_zero]
    exact W2.out
  case round =>
    obtain ⟨k, hk, rfl, hrow, hbe⟩ := hrel
    by_cases hlt : k < m
    · have hk64 : k < 64 := by omega
      have hbn : b * 64 + k < n := by have := HM.out; omega
      have d := HC.out (b * 64 + k) hbn
      have hbw : Below w.heap.size w wr := W3.out.trans (hbe.mono (by omega))
      rw [show o + (b * 64 + k) * 2 = O + k * 2 by have := HO.out; omega] at d
      have d0 := (hbw.cell (p := ⟨g, O + k * 2, none⟩) (by simp; omega)).trans d.1
      have d1 := (hbw.cell (p := ⟨g, O + k * 2 + 1, none⟩) (by simp; omega)).trans d.2
      have HX : Hid (blkF R n p b k = R (b * 64 + k) p) := if_pos hbn
      have hf := frozen_of_row wr (w.heap.size + 1) k _ _ hrow
      have HR := hide1 hrow
      have HB := hide1 hbe
      have HS := hide1 hbe.size
      have HS2 := hide1 (lt_heap hrow)
      clear hrow hbe hbw d
      obtain ⟨x0, hx0⟩ : ∃ x0, x0 = R (b * 64 + k) 0 := ⟨_, rfl⟩
      obtain ⟨x1, hx1⟩ : ∃ x1, x1 = R (b * 64 + k) 1 := ⟨_, rfl⟩
      rw [← hx0] at d0
      rw [← hx1] at d1
      have HX0 := hide1 hx0
      have HX1 := hide1 hx1
      clear hx0 hx1
      go_upto_region 5 with (fail)
      have s1 : wr.heap.size ≠ w.heap.size + 1 := by have := HS2.out; omega
      have n0 := (box2 (heap_alloc_new wr (.cells #[.int .u64 (x0 : Int), .int .u64 (x1 : Int)] 39))).1
      have n1 := (box2 (heap_alloc_new wr (.cells #[.int .u64 (x0 : Int), .int .u64 (x1 : Int)] 39))).2.1
      have R1 : Hid ((wr.alloc (.cells #[.int .u64 (x0 : Int), .int .u64 (x1 : Int)] 39)).heap[w.heap.size + 1]? = some (row64 57 (sq (upTo (blkF R n p b) k)))) := (Below.heap_alloc _ _ _ HS2.out).trans HR.out
      have B1 : Hid (Below (w.heap.size + 1) w' (wr.alloc (.cells #[.int .u64 (x0 : Int), .int .u64 (x1 : Int)] 39))) := HB.out.alloc (by have := HS2.out; omega) _
      obtain ⟨b9, hb9⟩ : ∃ b9, b9 = wr.heap.size := ⟨_, rfl⟩
      rw [← hb9] at n0 n1 s1 ⊢
      generalize wr.alloc (.cells #[.int .u64 (x0 : Int), .int .u64 (x1 : Int)] 39) = W4 at *
      have hc4 := cell64 R1.out (sq_get hk64)
      have hf4 := frozen_of_row W4 (w.heap.size + 1) k _ _ R1.out
      obtain ⟨x, hx⟩ : ∃ x, x = R (b * 64 + k) p := ⟨_, rfl⟩
      have np : W4.cell? ⟨b9, p, none⟩ = some (.int .u64 (x : Int)) := by
        rcases HP.out with rfl | rfl
        · rw [hx, ← HX0.out]; exact n0
        · rw [hx, ← HX1.out]; exact n1
      rw [← hx] at HX
      have hpp : p < 2 := by have := HP.out; omega
      clear hf d0 d1 hb9 n0 n1 hx HX0 HX1
      go_wp2
      go_roundw
      case rel =>
        refine ⟨k + 1, by omega, by go_num, ?_, B1.out.setCell (Nat.le_refl _) _⟩
        rw [sq_upTo, HX.out]
        exact set64 R1.out
      case measure => simp [intOf]; omega
    · obtain rfl : k = m := by omega
      have HZ : Hid (sq (upTo (blkF R n p b) k) = sq (blkF R n p b)) := sq_congr fun i hi => by
        unfold upTo
        by_cases h : i < k
        · rw [if_pos h]
        · rw [if_neg h, blkF, if_neg (by have := HM.out; omega)]
      rw [HZ.out] at hrow
      have HR := hide1 hrow
      have HB := hide1 hbe
      have HO1 : Hid (wr.heap[w.heap.size]? = some (row64 57 (sq (fun _ => 0)))) := (hbe.block _ (by omega)).trans W1.out
      have HU := hide1 (size57 (blkF R n p b))
      have Hz : Hid ((u64s (sq (fun _ => 0))).toArray.size = (u64s (sq (blkF R n p b))).toArray.size) := by simp [Hid, u64s, sq]
      have H1 : Hid ((u64s (sq (blkF R n p b))).toArray.all (·.oneCell') = true) := all_one (u64s_one _)
      clear hrow hbe HZ
      go_wp2_with (first | (refine wpList_load_row rfl 57 (.tmp 7) rfl (w.heap.size + 1) rfl 57 (u64s (sq (blkF R n p b))).toArray (0, 0) _ HR.out Try.underlying57 rfl HU.out ?_) | (refine wpList_store_own rfl 57 (.tmp 6) (.tmp 25) rfl w.heap.size rfl (u64s (sq (blkF R n p b))).toArray rfl 57 _ HO1.out HU.out Hz.out H1.out ?_))
      refine ret_row Try.results21 w.heap.size 57 (u64s (sq (blkF R n p b))).toArray rfl ?_ Try.underlying57 HU.out rfl ⟨rfl, ?_⟩
      · exact setRow_heap wr w.heap.size _ _ 57 _ HO1.out
      · exact below_setRow (W3.out.trans (HB.out.mono (by omega))) (Nat.le_refl _) _
end Go.Proofs.Ytaghcbmipihpmaa
