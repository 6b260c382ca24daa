/- Two parties' parts held against each other; BaseotDeals. -/
import Derived.Test.YtpigbhmamaghgaaOm
import Derived.Test.YtpigbhmamaghgaaOd
import Derived.Laws.StructEq
namespace Go.Proofs.Ytpigbhmamaghgaa
open Go.RowKit Pg
set_option maxRecDepth 100000
attribute [local go_sem] not_any

theorem run_equalIn_u64s {P : Program} (w : World) (d : Nat) (t e : TypeId) (n : Nat) (ht : P.underlying t = some (.array n e)) (he : P.underlying e = some (.int .u64)) (hsz : ∀ w, (sizeOf e).run P w = .ok 1 w)
    (xs : List Nat) (hx : xs.length = n) : (Op.equalIn (d + 2) t (.agg (u64s xs).toArray) (.agg (u64s xs).toArray)).run P w = .ok true w := by
  rw [Op.equalIn]
  simp only [Sem.run_bind, run_underlying ht, Result.andThen_ok, hsz, Std.Legacy.Range.forIn_eq_forIn_range', Std.Legacy.Range.size, Nat.sub_zero, Nat.add_sub_cancel, Nat.div_one]
  have hl : ∀ i ∈ List.range' 0 n 1, i < n := fun i hi => by simpa using (List.mem_range'_1.1 hi).2
  generalize List.range' 0 n 1 = l at hl ⊢
  induction l with
  | nil => simp
  | cons i l ih =>
    have hi : i < n := hl i (by simp)
    have px : (part e (u64s xs).toArray (i * 1)).run P w = .ok (.int .u64 (xs.getD i 0 : Nat)) w := by
      simp [part, isAgg, run_underlying he, u64s, List.getD, List.getElem?_eq_getElem (show i < xs.length by omega)]
    have pe : (Op.equalIn (d + 1) e (.int .u64 (xs.getD i 0 : Nat)) (.int .u64 (xs.getD i 0 : Nat))).run P w = .ok true w := by
      rw [run_equalIn_int w d e .u64 .u64 _ _ he]
      congr 1
      simp
    simp only [List.forIn_cons, Sem.run_bind, px, pe, Result.andThen_ok]
    simp only [Bool.not_true, Bool.false_eq_true, if_false, Sem.run_pure, Result.andThen_ok]
    exact ih fun j hj => hl j (by simp [hj])
theorem eq_row (a b : Nat) (w : World) : (Op.equalIn 10000 26 (.agg #[.int .u64 (a : Int), .int .u64 (b : Int)]) (.agg #[.int .u64 (a : Int), .int .u64 (b : Int)])).run Try.prog w = .ok true w :=
  run_equalIn_u64s w 9998 26 24 2 Try.underlying26 Try.underlying24 (fun w => by kernel_rfl) [a, b] rfl
theorem guard26 : Try.prog.eqGuardType Try.prog.depth 26 = false := by kernel_rfl

set_option maxHeartbeats 2000000 in
theorem same_any (d0 d1 : Nat) (w : World) (K Z O Kd Zd Od : Value) (fk fz fo : Nat → List Nat) (hK : Sds w K fk 128) (hZ : Sds w Z fz 128) (hO : Sds w O fo 128) (hKd : Sds w Kd fk 128) (hZd : Sds w Zd fz 128) (hOd : Sds w Od fo 128)
    (lk : ∀ i, (fk i).length = 32) (lz : ∀ i, (fz i).length = 32) (lo : ∀ i, (fo i).length = 32) (tk : ∀ i, Lt 256 (fk i)) (tz : ∀ i, Lt 256 (fz i)) (tq : ∀ i, Lt 256 (fo i)) :
    Calls Try.prog 8 #[.agg #[.int .u64 (d0 : Int), .int .u64 (d1 : Int), K], .agg #[Z, O], .agg #[.int .u64 (d0 : Int), .int .u64 (d1 : Int), Zd, Od, Kd]] w fun e w' => e = .returned (.bool true) ∧ Below w.heap.size w w' := by
  obtain ⟨gK, cK, rfl, _, _⟩ := hK.at'
  obtain ⟨gZ, cZ, rfl, _, _⟩ := hZ.at'
  obtain ⟨gO, cO, rfl, _, _⟩ := hO.at'
  obtain ⟨gk, ck, rfl, _, _⟩ := hKd.at'
  obtain ⟨gz, cz, rfl, _, _⟩ := hZd.at'
  obtain ⟨go', co, rfl, _, _⟩ := hOd.at'
  have heq := eq_row d0 d1
  have heg := guard26
  have kK := fun W (hb : Below w.heap.size w W) => hide1 (seeds_any W (by omega) (hK.below hb (Nat.le_refl _)) (hKd.below hb (Nat.le_refl _)) lk tk)
  have kZ := fun W (hb : Below w.heap.size w W) => hide1 (seeds_any W (by omega) (hZ.below hb (Nat.le_refl _)) (hZd.below hb (Nat.le_refl _)) lz tz)
  have kO := fun W (hb : Below w.heap.size w W) => hide1 (seeds_any W (by omega) (hO.below hb (Nat.le_refl _)) (hOd.below hb (Nat.le_refl _)) lo tq)
  clear hK hZ hO hKd hZd hOd lk lz lo tk tz tq
  go_enter Try.func8, Try.ntmps8
  go_upto_region 1 with (fail)
  generalize hW : World.alloc (World.alloc (World.alloc w _) _) _ = W
  obtain ⟨x1, x2, x3, x4⟩ : W.heap[w.heap.size]? = some (.cells #[.int .u64 (d0 : Int), .int .u64 (d1 : Int), .slice (some ⟨gK, 0, none⟩) 128 cK] 29 (0, 0)) ∧ W.heap[w.heap.size + 1]? = some (.cells #[.slice (some ⟨gZ, 0, none⟩) 128 cZ, .slice (some ⟨gO, 0, none⟩) 128 cO] 31 (0, 0)) ∧ W.heap[w.heap.size + 1 + 1]? = some (.cells #[.int .u64 (d0 : Int), .int .u64 (d1 : Int), .slice (some ⟨gz, 0, none⟩) 128 cz, .slice (some ⟨go', 0, none⟩) 128 co, .slice (some ⟨gk, 0, none⟩) 128 ck] 37 (0, 0)) ∧ Below w.heap.size w W := by
    rw [← hW]
    exact ⟨(three_at rfl).1, (three_at rfl).2.1, (three_at rfl).2.2.1, (three_at rfl).2.2.2.1⟩
  have C1 : Hid (∀ W', Below W.heap.size W W' → W'.cell? ⟨w.heap.size, 0, none⟩ = some (.int .u64 (d0 : Int)) ∧ W'.cell? ⟨w.heap.size, 1, none⟩ = some (.int .u64 (d1 : Int)) ∧ W'.cell? ⟨w.heap.size, 2, none⟩ = some (.slice (some ⟨gK, 0, none⟩) 128 cK)) := fun W' h => by
    have e := (h.block _ (lt_heap x1)).trans x1
    refine ⟨?_, ?_, ?_⟩ <;> (rw [cell_of_row W' _ _ _ _ _ e]; rfl)
  have C2 : Hid (∀ W', Below W.heap.size W W' → W'.cell? ⟨w.heap.size + 1, 0, none⟩ = some (.slice (some ⟨gZ, 0, none⟩) 128 cZ) ∧ W'.cell? ⟨w.heap.size + 1, 1, none⟩ = some (.slice (some ⟨gO, 0, none⟩) 128 cO)) := fun W' h => by
    have e := (h.block _ (lt_heap x2)).trans x2
    refine ⟨?_, ?_⟩ <;> (rw [cell_of_row W' _ _ _ _ _ e]; rfl)
  have C3 : Hid (∀ W', Below W.heap.size W W' → W'.cell? ⟨w.heap.size + 1 + 1, 0, none⟩ = some (.int .u64 (d0 : Int)) ∧ W'.cell? ⟨w.heap.size + 1 + 1, 1, none⟩ = some (.int .u64 (d1 : Int)) ∧ W'.cell? ⟨w.heap.size + 1 + 1, 2, none⟩ = some (.slice (some ⟨gz, 0, none⟩) 128 cz) ∧ W'.cell? ⟨w.heap.size + 1 + 1, 3, none⟩ = some (.slice (some ⟨go', 0, none⟩) 128 co) ∧ W'.cell? ⟨w.heap.size + 1 + 1, 4, none⟩ = some (.slice (some ⟨gk, 0, none⟩) 128 ck)) := fun W' h => by
    have e := (h.block _ (lt_heap x3)).trans x3
    refine ⟨?_, ?_, ?_, ?_, ?_⟩ <;> (rw [cell_of_row W' _ _ _ _ _ e]; rfl)
  have X4 := hide1 x4
  clear hW x1 x2 x3 x4
  obtain ⟨a0, a1, a2⟩ := C1.out W (Below.refl _ _)
  obtain ⟨f0, f1, _, _, f4⟩ := C3.out W (Below.refl _ _)
  have kk := kK W X4.out
  go_wp2_with fail
  go_at_call 23
  refine kk.out.mono ?_
  rintro e w1 ⟨rfl, hb1⟩
  have B1 := hide1 hb1
  clear a0 a1 a2 f0 f1 f4 kk hb1 kK heq
  obtain ⟨a0, _⟩ := C2.out w1 B1.out
  obtain ⟨_, _, f2, _, _⟩ := C3.out w1 B1.out
  have kk := kZ w1 (X4.out.trans (B1.out.mono X4.out.size))
  go_wp2_with fail
  go_at_call 23
  refine kk.out.mono ?_
  rintro e w2 ⟨rfl, hb2⟩
  have B2 := hide1 (B1.out.trans (hb2.mono B1.out.size))
  clear a0 f2 kk hb2 kZ B1
  obtain ⟨_, a1⟩ := C2.out w2 B2.out
  obtain ⟨_, _, _, f3, _⟩ := C3.out w2 B2.out
  have kk := kO w2 (X4.out.trans (B2.out.mono X4.out.size))
  go_wp2_with fail
  go_at_call 23
  refine kk.out.mono ?_
  rintro e w3 ⟨rfl, hb3⟩
  have B3 := hide1 (B2.out.trans (hb3.mono B2.out.size))
  clear a1 f3 kk hb3 kO B2
  go_wp2
  go_ret
  exact ⟨rfl, X4.out.trans (B3.out.mono X4.out.size)⟩

theorem dk_lt (kl : List Nat) (i : Nat) : Lt 256 (dk kl i) := by
  unfold dk
  split
  · exact childP_lt _ _
  · exact childP_lt _ _

set_option maxHeartbeats 4000000 in
theorem deals_all (w : World) (kl : List Nat) (y : Nat) (hk : kl.length = 32) (bk : Lt 256 kl) (hy : y < 18446744073709551616) :
    Calls Try.prog 3 #[arr8 kl, .int .u64 (y : Int)] w fun e w' => e = .returned (.bool true) ∧ Below w.heap.size w w' := by
  have kA := fun w => hide1 (awake_any w)
  have kD := fun w => hide1 (deal_any kl y w hk bk hy)
  have kR := fun w => hide1 (rdeal_any kl y w hk bk hy)
  have hu := Try.underlying23
  have hi : (Try.prog.info? 23).map (·.size) = some (u8s kl).toArray.size := by
    rw [show (u8s kl).toArray.size = 32 by simp [u8s_length, hk]]
    kernel_rfl
  unfold arr8 at kD kR ⊢
  go_enter Try.func3, Try.ntmps3
  go_upto_region 1 with (fail)
  have X0 : Hid ((w.alloc (.cells (u8s kl).toArray 23)).heap[w.heap.size]? = some (.cells (u8s kl).toArray 23 (0, 0))) := heap_alloc_new _ _
  have B0 : Hid (Below w.heap.size w (w.alloc (.cells (u8s kl).toArray 23))) := (Below.refl _ _).alloc (Nat.le_refl _) _
  obtain ⟨b0, hb0⟩ : ∃ b0, b0 = w.heap.size := ⟨_, rfl⟩
  have HB0 := hide1 hb0
  rw [← hb0] at X0 B0 ⊢
  generalize w.alloc (.cells (u8s kl).toArray 23) = W0 at *
  clear hb0
  go_wp2_with (first | (refine wpList_load_row rfl 23 (.tmp 2) rfl b0 rfl 23 (u8s kl).toArray (0, 0) _ X0.out hu rfl hi ?_) | fail)
  go_at_call 6
  refine (kD _).out.mono ?_
  rintro e w1 ⟨K0, Z0, O0, K1, Z1, O1, rfl, sK0, sZ0, sO0, sK1, sZ1, sO1, hb1⟩
  obtain ⟨gK0, cK0, rfl, _, _⟩ := sK0.at'
  obtain ⟨gZ0, cZ0, rfl, _, _⟩ := sZ0.at'
  obtain ⟨gO0, cO0, rfl, _, _⟩ := sO0.at'
  obtain ⟨gK1, cK1, rfl, _, _⟩ := sK1.at'
  obtain ⟨gZ1, cZ1, rfl, _, _⟩ := sZ1.at'
  obtain ⟨gO1, cO1, rfl, _, _⟩ := sO1.at'
  have SS := hide1 (And.intro sK0 (And.intro sZ0 (And.intro sO0 (And.intro sK1 (And.intro sZ1 sO1)))))
  have X1 : Hid (w1.heap[b0]? = some (.cells (u8s kl).toArray 23 (0, 0))) := (hb1.block _ (lt_heap X0.out)).trans X0.out
  have l01 := lt_heap X0.out
  have B1 : Hid (Below b0 w w1) := B0.out.trans (hb1.mono (by omega))
  have l1 : b0 < w1.heap.size := lt_heap X1.out
  have HF : Hid (wd (rt0 kl y) 9 0 < 18446744073709551616) := wd_lt _ _ _
  clear sK0 sZ0 sO0 sK1 sZ1 sO1 hb1 kD X0 B0 l01
  generalize hd0 : wd (rt0 kl y) 9 0 = d0 at *
  generalize hd1 : wd (rt0 kl y) 9 1 = d1 at *
  generalize hd2 : wd (rt1 kl y) 9 0 = d2 at *
  generalize hd3 : wd (rt1 kl y) 9 1 = d3 at *
  clear hd0 hd1 hd2 hd3
  go_upto_region 2 with (fail)
  generalize hW2 : World.alloc (World.alloc w1 _) _ = W2
  have a1 : W2.heap[w1.heap.size]? = some (.cells #[.int .u64 (d0 : Int), .int .u64 (d1 : Int), .slice (some ⟨gK0, 0, none⟩) 128 cK0, .slice (some ⟨gZ1, 0, none⟩) 128 cZ1, .slice (some ⟨gO1, 0, none⟩) 128 cO1] 33 (0, 0)) := by rw [← hW2]; exact heap_alloc2_old _ _ _
  have a2 : W2.heap[w1.heap.size + 1]? = some (.cells #[.int .u64 (d2 : Int), .int .u64 (d3 : Int), .slice (some ⟨gK1, 0, none⟩) 128 cK1, .slice (some ⟨gZ0, 0, none⟩) 128 cZ0, .slice (some ⟨gO0, 0, none⟩) 128 cO0] 33 (0, 0)) := by rw [← hW2]; exact heap_alloc2_new _ _ _
  have a3 : Below w1.heap.size w1 W2 := by rw [← hW2]; exact ((Below.refl _ _).alloc (Nat.le_refl _) _).alloc (by simp) _
  have a4 : W2.heap[b0]? = some (.cells (u8s kl).toArray 23 (0, 0)) := (a3.block _ l1).trans X1.out
  have X2 := hide1 a4
  have A1 := hide1 a1
  have A2 := hide1 a2
  have A3 := hide1 a3
  have l1' := Nat.le_of_lt l1
  obtain ⟨bA, hbA⟩ : ∃ bA, bA = w1.heap.size := ⟨_, rfl⟩
  rw [← hbA] at A1 A2 l1 ⊢
  clear hW2 a1 a2 a3 a4 X1 hbA
  go_wp2_with (first | (refine wpList_load_row rfl 23 (.tmp 2) rfl b0 rfl 23 (u8s kl).toArray (0, 0) _ X2.out hu rfl hi ?_) | fail)
  go_at_call 7
  refine (kR _).out.mono ?_
  rintro e w3 ⟨Z0', O0', K0', Z1', O1', K1', rfl, sZ0, sO0, sK0, sZ1, sO1, sK1, hb3⟩
  obtain ⟨gKa, cKa, rfl, _, _⟩ := sK0.at'
  obtain ⟨gZa, cZa, rfl, _, _⟩ := sZ0.at'
  obtain ⟨gOa, cOa, rfl, _, _⟩ := sO0.at'
  obtain ⟨gKb, cKb, rfl, _, _⟩ := sK1.at'
  obtain ⟨gZb, cZb, rfl, _, _⟩ := sZ1.at'
  obtain ⟨gOb, cOb, rfl, _, _⟩ := sO1.at'
  have TT := hide1 (And.intro sK0 (And.intro sZ0 (And.intro sO0 (And.intro sK1 (And.intro sZ1 sO1)))))
  have B3 := hide1 hb3
  clear sK0 sZ0 sO0 sK1 sZ1 sO1 hb3 kR X2 hi
  go_upto_region 3 with (fail)
  generalize hW5 : World.alloc (World.alloc w3 _) _ = W5
  have a1 : W5.heap[w3.heap.size]? = some (.cells #[.int .u64 (d0 : Int), .int .u64 (d1 : Int), .slice (some ⟨gZa, 0, none⟩) 128 cZa, .slice (some ⟨gOa, 0, none⟩) 128 cOa, .slice (some ⟨gKa, 0, none⟩) 128 cKa] 37 (0, 0)) := by rw [← hW5]; exact heap_alloc2_old _ _ _
  have a2 : W5.heap[w3.heap.size + 1]? = some (.cells #[.int .u64 (d2 : Int), .int .u64 (d3 : Int), .slice (some ⟨gZb, 0, none⟩) 128 cZb, .slice (some ⟨gOb, 0, none⟩) 128 cOb, .slice (some ⟨gKb, 0, none⟩) 128 cKb] 37 (0, 0)) := by rw [← hW5]; exact heap_alloc2_new _ _ _
  have a3 : Below w3.heap.size w3 W5 := by rw [← hW5]; exact ((Below.refl _ _).alloc (Nat.le_refl _) _).alloc (by simp) _
  have a4 : Below W2.heap.size W2 W5 := B3.out.trans (a3.mono B3.out.size)
  have a5 := (a4.block _ (lt_heap A1.out)).trans A1.out
  have a6 := (a4.block _ (lt_heap A2.out)).trans A2.out
  obtain ⟨bX, hbX⟩ : ∃ bX, bX = w3.heap.size := ⟨_, rfl⟩
  rw [← hbX] at a1 a2 ⊢
  have CA : Hid (∀ W', Below W5.heap.size W5 W' → W'.cell? ⟨bA, 0, none⟩ = some (.int .u64 (d0 : Int)) ∧ W'.cell? ⟨bA, 1, none⟩ = some (.int .u64 (d1 : Int)) ∧ W'.cell? ⟨bA, 2, none⟩ = some (.slice (some ⟨gK0, 0, none⟩) 128 cK0) ∧ W'.cell? ⟨bA, 3, none⟩ = some (.slice (some ⟨gZ1, 0, none⟩) 128 cZ1) ∧ W'.cell? ⟨bA, 4, none⟩ = some (.slice (some ⟨gO1, 0, none⟩) 128 cO1)) := fun W' h => by
    have e := (h.block _ (lt_heap a5)).trans a5
    refine ⟨?_, ?_, ?_, ?_, ?_⟩ <;> (rw [cell_of_row W' _ _ _ _ _ e]; rfl)
  have CB : Hid (∀ W', Below W5.heap.size W5 W' → W'.cell? ⟨bA + 1, 0, none⟩ = some (.int .u64 (d2 : Int)) ∧ W'.cell? ⟨bA + 1, 1, none⟩ = some (.int .u64 (d3 : Int)) ∧ W'.cell? ⟨bA + 1, 2, none⟩ = some (.slice (some ⟨gK1, 0, none⟩) 128 cK1) ∧ W'.cell? ⟨bA + 1, 3, none⟩ = some (.slice (some ⟨gZ0, 0, none⟩) 128 cZ0) ∧ W'.cell? ⟨bA + 1, 4, none⟩ = some (.slice (some ⟨gO0, 0, none⟩) 128 cO0)) := fun W' h => by
    have e := (h.block _ (lt_heap a6)).trans a6
    refine ⟨?_, ?_, ?_, ?_, ?_⟩ <;> (rw [cell_of_row W' _ _ _ _ _ e]; rfl)
  have CX : Hid (∀ W', Below W5.heap.size W5 W' → W'.cell? ⟨bX, 0, none⟩ = some (.int .u64 (d0 : Int)) ∧ W'.cell? ⟨bX, 1, none⟩ = some (.int .u64 (d1 : Int)) ∧ W'.cell? ⟨bX, 2, none⟩ = some (.slice (some ⟨gZa, 0, none⟩) 128 cZa) ∧ W'.cell? ⟨bX, 3, none⟩ = some (.slice (some ⟨gOa, 0, none⟩) 128 cOa) ∧ W'.cell? ⟨bX, 4, none⟩ = some (.slice (some ⟨gKa, 0, none⟩) 128 cKa)) := fun W' h => by
    have e := (h.block _ (lt_heap a1)).trans a1
    refine ⟨?_, ?_, ?_, ?_, ?_⟩ <;> (rw [cell_of_row W' _ _ _ _ _ e]; rfl)
  have CY : Hid (∀ W', Below W5.heap.size W5 W' → W'.cell? ⟨bX + 1, 0, none⟩ = some (.int .u64 (d2 : Int)) ∧ W'.cell? ⟨bX + 1, 1, none⟩ = some (.int .u64 (d3 : Int)) ∧ W'.cell? ⟨bX + 1, 2, none⟩ = some (.slice (some ⟨gZb, 0, none⟩) 128 cZb) ∧ W'.cell? ⟨bX + 1, 3, none⟩ = some (.slice (some ⟨gOb, 0, none⟩) 128 cOb) ∧ W'.cell? ⟨bX + 1, 4, none⟩ = some (.slice (some ⟨gKb, 0, none⟩) 128 cKb)) := fun W' h => by
    have e := (h.block _ (lt_heap a2)).trans a2
    refine ⟨?_, ?_, ?_, ?_, ?_⟩ <;> (rw [cell_of_row W' _ _ _ _ _ e]; rfl)
  have B5 : Hid (Below b0 w W5) := B1.out.trans ((A3.out.trans (a4.mono A3.out.size)).mono l1')
  have T5 := hide1 (And.intro (TT.out.1.below a3 (Nat.le_refl _)) (And.intro (TT.out.2.1.below a3 (Nat.le_refl _)) (And.intro (TT.out.2.2.1.below a3 (Nat.le_refl _)) (And.intro (TT.out.2.2.2.1.below a3 (Nat.le_refl _)) (And.intro (TT.out.2.2.2.2.1.below a3 (Nat.le_refl _)) (TT.out.2.2.2.2.2.below a3 (Nat.le_refl _)))))))
  have a7 : Below w1.heap.size w1 W5 := A3.out.trans (a4.mono A3.out.size)
  have S5 := hide1 (And.intro (SS.out.1.below a7 (Nat.le_refl _)) (And.intro (SS.out.2.1.below a7 (Nat.le_refl _)) (And.intro (SS.out.2.2.1.below a7 (Nat.le_refl _)) (And.intro (SS.out.2.2.2.1.below a7 (Nat.le_refl _)) (And.intro (SS.out.2.2.2.2.1.below a7 (Nat.le_refl _)) (SS.out.2.2.2.2.2.below a7 (Nat.le_refl _)))))))
  clear hW5 a1 a2 a3 a4 a5 a6 a7 hbX A1 A2 A3 B1 B3 TT SS l1 l1'
  have ks1 := hide1 (same_any d0 d1 W5 _ _ _ _ _ _ _ _ _ S5.out.1 S5.out.2.1 S5.out.2.2.1 T5.out.1 T5.out.2.1 T5.out.2.2.1 (dk_len _) (dz_len _) (dn_len _) (dk_lt _) (fun i => childP_lt _ _) (fun i => childP_lt _ _))
  obtain ⟨p0, p1, p2, _, _⟩ := CA.out W5 (Below.refl _ _)
  obtain ⟨_, _, _, r3, r4⟩ := CB.out W5 (Below.refl _ _)
  obtain ⟨x0, x1, x2, x3, x4⟩ := CX.out W5 (Below.refl _ _)
  go_wp2_with fail
  go_at_call 8
  refine ks1.out.mono ?_
  rintro e w6 ⟨rfl, hb6⟩
  have B6 := hide1 hb6
  clear ks1 p0 p1 p2 r3 r4 x0 x1 x2 x3 x4 hb6 CX
  have ks2 := hide1 (same_any d2 d3 w6 _ _ _ _ _ _ _ _ _ (S5.out.2.2.2.1.below B6.out (Nat.le_refl _)) (S5.out.2.2.2.2.1.below B6.out (Nat.le_refl _)) (S5.out.2.2.2.2.2.below B6.out (Nat.le_refl _)) (T5.out.2.2.2.1.below B6.out (Nat.le_refl _)) (T5.out.2.2.2.2.1.below B6.out (Nat.le_refl _)) (T5.out.2.2.2.2.2.below B6.out (Nat.le_refl _)) (dk_len _) (dz_len _) (dn_len _) (dk_lt _) (fun i => childP_lt _ _) (fun i => childP_lt _ _))
  obtain ⟨p0, p1, p2, _, _⟩ := CB.out w6 B6.out
  obtain ⟨_, _, _, r3, r4⟩ := CA.out w6 B6.out
  obtain ⟨x0, x1, x2, x3, x4⟩ := CY.out w6 B6.out
  go_wp2_with fail
  go_at_call 8
  refine ks2.out.mono ?_
  rintro e w7 ⟨rfl, hb7⟩
  have B7 := hide1 (B6.out.trans (hb7.mono B6.out.size))
  clear ks2 p0 p1 p2 r3 r4 x0 x1 x2 x3 x4 hb7 CY CB B6
  obtain ⟨p0, p1, _, _, _⟩ := CA.out w7 B7.out
  have kb : Hid (Calls Try.prog 9 #[.agg #[.int .u64 (d0 : Int), .int .u64 (d1 : Int)]] w7 fun e w' => e = .returned (.string (txt (bysP d0 d1 16))) ∧ Below w7.heap.size w7 w') := bytes16_any d0 d1 w7 HF.out
  have hsz : (txt (bysP d0 d1 16)).size = 16 := by
    have h1 := bysP_length d0 d1 16
    have h2 : (txt (bysP d0 d1 16)).size = (bysP d0 d1 16).length := txt_size (bysP_lt _ _ _)
    omega
  generalize txt (bysP d0 d1 16) = tb at *
  go_wp2_with fail
  go_at_call 9
  refine kb.out.mono ?_
  rintro e w8 ⟨rfl, hb8⟩
  have B8 := hide1 (B7.out.trans (hb8.mono B7.out.size))
  clear kb p0 p1 hb8 B7 CA
  go_wp2_with fail
  go_at_call 10
  refine (kA _).out.mono ?_
  rintro e w9 ⟨rfl, hb9⟩
  have B9 := hide1 (B8.out.trans (hb9.mono B8.out.size))
  have l5 := B5.out.size
  clear hb9 B8
  go_wp2
  go_ret
  rw [← HB0.out] at l5 ⊢
  exact ⟨rfl, B5.out.trans (B9.out.mono l5)⟩
end Go.Proofs.Ytpigbhmamaghgaa
