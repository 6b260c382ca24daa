/- Joined. The document's Joined. Rows differ by the choice; the chapter's example. The walk of IknpJoins. -/
import Derived.Test.YtlkkninnfiaedaaDoorJ46
import Derived.Laws.StructEq
namespace Go.Proofs.YtlkkninnfiaedaaDoor.I
open Go.RowKit Pg
set_option maxRecDepth 100000
attribute [local go_sem] not_any T.mf_any

theorem run_equalIn_u64s {P : Program} (w : World) (d : Nat) (t e : TypeId) (n : Nat) (ht : P.underlying t = some (.array n e)) (he : P.underlying e = some (.int .u64)) (hsz : ∀ w, (sizeOf e).run P w = .ok 1 w)
    (xs ys : List Nat) (hx : xs.length = n) (hy : ys.length = n) : (Op.equalIn (d + 2) t (.agg (T.u64s xs).toArray) (.agg (T.u64s ys).toArray)).run P w = .ok ((List.range n).all fun i => xs.getD i 0 == ys.getD i 0) w := by
  rw [List.range_eq_range', Op.equalIn]
  simp only [Sem.run_bind, run_underlying ht, Result.andThen_ok, hsz, Std.Legacy.Range.forIn_eq_forIn_range', Std.Legacy.Range.size, Nat.sub_zero, Nat.add_sub_cancel, Nat.div_one]
  have hl : ∀ i ∈ List.range' 0 n 1, i < n := fun i hi => by simpa using (List.mem_range'_1.1 hi).2
  generalize List.range' 0 n 1 = l at hl ⊢
  induction l with
  | nil => simp
  | cons i l ih =>
    have hi : i < n := hl i (by simp)
    have px : (part e (T.u64s xs).toArray (i * 1)).run P w = .ok (.int .u64 (xs.getD i 0 : Nat)) w := by
      simp [part, isAgg, run_underlying he, T.u64s, List.getD, List.getElem?_eq_getElem (show i < xs.length by omega)]
    have py : (part e (T.u64s ys).toArray (i * 1)).run P w = .ok (.int .u64 (ys.getD i 0 : Nat)) w := by
      simp [part, isAgg, run_underlying he, T.u64s, List.getD, List.getElem?_eq_getElem (show i < ys.length by omega)]
    have pe : (Op.equalIn (d + 1) e (.int .u64 (xs.getD i 0 : Nat)) (.int .u64 (ys.getD i 0 : Nat))).run P w = .ok (xs.getD i 0 == ys.getD i 0) w := by
      rw [run_equalIn_int w d e .u64 .u64 _ _ he]
      congr 1
      rw [Bool.eq_iff_iff]
      simp
      omega
    simp only [List.forIn_cons, Sem.run_bind, px, py, pe, Result.andThen_ok, List.all_cons]
    cases hb : (xs.getD i 0 == ys.getD i 0)
    · simp
    · simp only [Bool.not_true, Bool.false_eq_true, if_false, Sem.run_pure, Result.andThen_ok, Bool.true_and]
      exact ih fun j hj => hl j (by simp [hj])
theorem eq_rows (a b c d : Nat) (w : World) : (Op.equalIn 10000 24 (.agg #[.int .u64 (a : Int), .int .u64 (b : Int)]) (.agg #[.int .u64 (c : Int), .int .u64 (d : Int)])).run Tryd.prog w = .ok (decide (a = c ∧ b = d)) w := by
  have h := run_equalIn_u64s w 9998 24 22 2 Tryd.underlying24 Tryd.underlying22 (fun w => by kernel_rfl) [a, b] [c, d] rfl rfl
  have e : ((List.range 2).all fun i => [a, b].getD i 0 == [c, d].getD i 0) = decide (a = c ∧ b = d) := by
    rw [Bool.eq_iff_iff]
    simp [List.range_succ]
  rw [e] at h
  exact h
theorem guardR : Tryd.prog.eqGuardType Tryd.prog.depth 24 = false := by kernel_rfl
theorem exec_neq_row {o : Oper} {tmps : Array Value} {ds : List Deferred} {w : World} {a b c d : Nat} (x y : Operand) (t : TypeId) (ho : o.op = .binOp .neq 24 x y t) (hx : Act.eval ⟨tmps, ds⟩ x = .agg #[.int .u64 (a : Int), .int .u64 (b : Int)]) (hy : Act.eval ⟨tmps, ds⟩ y = .agg #[.int .u64 (c : Int), .int .u64 (d : Int)]) :
    (execOp (Act.eval ⟨tmps, ds⟩) o).run Tryd.prog w = .ok (.value (.bool (!decide (a = c ∧ b = d)))) w := by
  have hg := guardR
  have h2 := eq_rows a b c d w
  unfold execOp
  simp only [ho, hx, hy]
  go_simp

/- Joined, in numbers -/
def tm (t : Bool) (x : Nat) : Nat := if t then x else 0
def rowOk (d0 d1 : Nat) (S R : Nat → Nat → Nat) (ch : List Bool) (j : Nat) : Prop := S j 0 = R j 0 ^^^ tm (ch.getD j false) d0 ∧ S j 1 = R j 1 ^^^ tm (ch.getD j false) d1
instance (d0 d1 : Nat) (S R : Nat → Nat → Nat) (ch : List Bool) (j : Nat) : Decidable (rowOk d0 d1 S R ch j) := by unfold rowOk; infer_instance
def jn (d0 d1 : Nat) (S R : Nat → Nat → Nat) (m mr N : Nat) (ch : List Bool) : Bool := decide (m = mr ∧ m = N ∧ ∀ j, j < m → rowOk d0 d1 S R ch j)

end Go.Proofs.YtlkkninnfiaedaaDoor.I

namespace Go.Proofs.YtlkkninnfiaedaaDoor.I
open Go.RowKit Pg
set_option maxRecDepth 100000
attribute [local go_sem] not_any T.mf_any

/- a row bit by bit -/
def bitOk (d0 d1 : Nat) (S R : Nat → Nat → Nat) (ch : List Bool) (j i : Nat) : Prop := bt (S j 0) (S j 1) (i : Int) = (bt (R j 0) (R j 1) (i : Int) != (ch.getD j false && bt d0 d1 (i : Int)))
theorem bt_low (a b : Nat) {i : Nat} (h : i < 64) : bt a b (i : Int) = a.testBit i := by
  unfold bt
  rw [if_pos (by omega), if_pos (by omega)]
  simp
theorem bt_high (a b : Nat) {i : Nat} (h : i < 64) : bt a b ((64 + i : Nat) : Int) = b.testBit i := by
  unfold bt
  rw [if_pos (by omega), if_neg (by omega)]
  congr 1
  omega
theorem tm_bit (t : Bool) (d i : Nat) : (tm t d).testBit i = (t && d.testBit i) := by
  unfold tm
  cases t <;> simp
theorem high_bit {x i : Nat} (h : x < 18446744073709551616) (hi : ¬ i < 64) : x.testBit i = false := Nat.testBit_lt_two_pow (Nat.lt_of_lt_of_le (show x < 2 ^ 64 from h) (Nat.pow_le_pow_right (by omega) (by omega)))
theorem word_eq {x y d : Nat} {t : Bool} (hx : x < 18446744073709551616) (hy : y < 18446744073709551616) (hd : d < 18446744073709551616) : x = y ^^^ tm t d ↔ ∀ i, i < 64 → x.testBit i = (y.testBit i != (t && d.testBit i)) := by
  constructor
  · rintro rfl i _
    rw [Nat.testBit_xor, tm_bit]
  · intro h
    apply Nat.eq_of_testBit_eq
    intro i
    rw [Nat.testBit_xor, tm_bit]
    by_cases hi : i < 64
    · rw [h i hi]
    · rw [high_bit hx hi, high_bit hy hi, high_bit hd hi]
      simp
theorem rowOk_bits {d0 d1 : Nat} {S R : Nat → Nat → Nat} {ch : List Bool} {j : Nat} (hS : ∀ j p, S j p < 18446744073709551616) (hR : ∀ j p, R j p < 18446744073709551616) (h0 : d0 < 18446744073709551616) (h1 : d1 < 18446744073709551616) :
    rowOk d0 d1 S R ch j ↔ ∀ i, i < 128 → bitOk d0 d1 S R ch j i := by
  unfold rowOk
  rw [word_eq (hS j 0) (hR j 0) h0, word_eq (hS j 1) (hR j 1) h1]
  constructor
  · rintro ⟨ha, hb⟩ i hi
    unfold bitOk
    by_cases h : i < 64
    · rw [bt_low _ _ h, bt_low _ _ h, bt_low _ _ h]
      exact ha i h
    · obtain ⟨k, rfl⟩ : ∃ k, i = 64 + k := ⟨i - 64, by omega⟩
      rw [bt_high _ _ (by omega), bt_high _ _ (by omega), bt_high _ _ (by omega)]
      exact hb k (by omega)
  · intro h
    refine ⟨fun i hi => ?_, fun i hi => ?_⟩
    · have := h i (by omega)
      unfold bitOk at this
      rwa [bt_low _ _ hi, bt_low _ _ hi, bt_low _ _ hi] at this
    · have := h (64 + i) (by omega)
      unfold bitOk at this
      rwa [bt_high _ _ hi, bt_high _ _ hi, bt_high _ _ hi] at this

end Go.Proofs.YtlkkninnfiaedaaDoor.I

namespace Go.Proofs.YtlkkninnfiaedaaDoor.I
open Go.RowKit Pg
set_option maxRecDepth 100000
attribute [local go_sem] not_any T.mf_any

/- rows differ by the choice -/
theorem zip_get {l m : List Bool} {n j : Nat} (hl : l.length = n) (hm : m.length = n) (hj : j < n) : (List.zipWith (fun x y => x ^^ y) l m).getD j false = (l.getD j false ^^ m.getD j false) := by
  rw [List.getD_eq_getElem?_getD, List.getD_eq_getElem?_getD, List.getD_eq_getElem?_getD, List.getElem?_zipWith, List.getElem?_eq_getElem (by omega : j < l.length), List.getElem?_eq_getElem (by omega : j < m.length)]
  rfl
theorem zip_len {l m : List Bool} {n : Nat} (hl : l.length = n) (hm : m.length = n) : (List.zipWith (fun x y => x ^^ y) l m).length = n := by rw [List.length_zipWith, hl, hm, Nat.min_self]
theorem sentC_len (fz fo : Nat → List Nat) (F : Nat) {N : Nat} {ch : List Bool} (hc : ch.length = N) (i : Nat) : (sentC fz fo F N ch i).length = N :=
  zip_len (zip_len (cl_length _ _ _) (cl_length _ _ _)) hc
theorem sentC_get (fz fo : Nat → List Nat) (F : Nat) {N j : Nat} {ch : List Bool} (hc : ch.length = N) (i : Nat) (hj : j < N) :
    (sentC fz fo F N ch i).getD j false = (((cl (fz i) F N).getD j false ^^ (cl (fo i) F N).getD j false) ^^ ch.getD j false) :=
  (zip_get (zip_len (cl_length (fz i) F N) (cl_length (fo i) F N)) hc hj).trans (by rw [zip_get (cl_length (fz i) F N) (cl_length (fo i) F N) hj])
theorem keyC_get (fk : Nat → List Nat) (d0 d1 F : Nat) {N j : Nat} {L : Nat → List Bool} (i : Nat) (hL : (L i).length = N) (hj : j < N) :
    (keyC fk d0 d1 F N L i).getD j false = ((cl (fk i) F N).getD j false ^^ (bt d0 d1 (i : Int) && (L i).getD j false)) := by
  unfold keyC
  cases hb : bt d0 d1 (i : Int) with
  | false => rw [if_neg (by decide)]; simp
  | true =>
    rw [if_pos rfl, show xk (cl (fk i) F N) (fun _ => L i) 1 = List.zipWith (fun x y => x ^^ y) (cl (fk i) F N) (L i) from rfl, zip_get (cl_length (fk i) F N) hL hj]
    simp
theorem joins (fk fz fo : Nat → List Nat) (d0 d1 F : Nat) {N j : Nat} {ch : List Bool} (hk : ∀ i, fk i = if bt d0 d1 (i : Int) then fo i else fz i) (h0 : d0 < 18446744073709551616) (h1 : d1 < 18446744073709551616) (hc : ch.length = N) (hj : j < N) :
    rowOk d0 d1 (T.rowV (keyC fk d0 d1 F N (sentC fz fo F N ch))) (T.rowV (fun i => cl (fz i) F N)) ch j := by
  rw [rowOk_bits (T.rowV_lt _) (T.rowV_lt _) h0 h1]
  intro i hi
  have key : ∀ i, (keyC fk d0 d1 F N (sentC fz fo F N ch) i).getD j false = ((cl (fz i) F N).getD j false ^^ (bt d0 d1 (i : Int) && ch.getD j false)) := fun i => by
    rw [keyC_get fk d0 d1 F i (sentC_len fz fo F hc i) hj, sentC_get fz fo F hc i hj, hk i]
    cases hb : bt d0 d1 (i : Int) with
    | false => rw [if_neg (by decide)]; simp
    | true =>
      rw [if_pos rfl]
      cases (cl (fo i) F N).getD j false <;> cases (cl (fz i) F N).getD j false <;> cases ch.getD j false <;> rfl
  have part : ∀ p b : Nat, b < 64 → (T.rowV (keyC fk d0 d1 F N (sentC fz fo F N ch)) j p).testBit b = ((T.rowV (fun i => cl (fz i) F N) j p).testBit b != (ch.getD j false && bt d0 d1 ((p * 64 + b : Nat) : Int))) := fun p b hb => by
    rw [T.rowV_bit _ _ _ _ hb, T.rowV_bit _ _ _ _ hb, key]
    cases (cl (fz (p * 64 + b)) F N).getD j false <;> cases bt d0 d1 ((p * 64 + b : Nat) : Int) <;> cases ch.getD j false <;> rfl
  unfold bitOk
  by_cases h : i < 64
  · rw [bt_low _ _ h, bt_low _ _ h, part 0 i h, show 0 * 64 + i = i by omega]
  · obtain ⟨k, rfl⟩ : ∃ k, i = 64 + k := ⟨i - 64, by omega⟩
    rw [bt_high _ _ (by omega), bt_high _ _ (by omega), part 1 k (by omega), show 1 * 64 + k = 64 + k by omega]

/- what Deal tells -/
theorem good_dz (r : List Nat) (i : Nat) : (dz r i).length = 32 ∧ Lt 256 (dz r i) := ⟨dz_len r i, childP_lt _ _⟩
theorem good_dn (r : List Nat) (i : Nat) : (dn r i).length = 32 ∧ Lt 256 (dn r i) := ⟨dn_len r i, childP_lt _ _⟩
theorem good_dk (r : List Nat) (i : Nat) : (dk r i).length = 32 ∧ Lt 256 (dk r i) := by
  rw [dk]
  split
  · exact good_dn r i
  · exact good_dz r i
/- two Views laid into boxes -/
theorem views {w1 : World} {z c d : Array Value} {t : TypeId} :
    let Y := (((w1.alloc (.cells z t)).alloc (.cells z t)).setRow w1.heap.size c).setRow (w1.heap.size + 1) d
    Y.heap[w1.heap.size]? = some (.cells c t (0, 0)) ∧ Y.heap[w1.heap.size + 1]? = some (.cells d t (0, 0)) ∧ Below w1.heap.size w1 Y := by
  intro Y
  have h0 := heap_alloc2_old w1 (.cells z t) (.cells z t)
  have h1 := heap_alloc2_new w1 (.cells z t) (.cells z t)
  have hb : Below w1.heap.size w1 ((w1.alloc (.cells z t)).alloc (.cells z t)) := ((Below.refl _ _).alloc (Nat.le_refl _) _).alloc (by rw [size_alloc]; omega) _
  refine ⟨(setRow_other _ _ _ _ (by omega)).trans (setRow_heap _ _ _ _ _ _ h0), setRow_heap _ _ _ _ _ _ ((setRow_other _ _ _ _ (by omega)).trans h1), Below.setRow' (Below.setRow' hb (Nat.le_refl _) _) (by omega) _⟩
theorem view_send {w : World} {g : Nat} {x y k z o : Value} {t : TypeId} (h : w.heap[g]? = some (.cells #[x, y, k, z, o] t (0, 0))) : w.rangeAt g 0 [x, y, k] := fun j v hj => by
  rw [Nat.zero_add, cell_of_row w g _ _ _ _ h]
  match j, hj with
  | 0, hj => exact hj
  | 1, hj => exact hj
  | 2, hj => exact hj
theorem view_recv {w : World} {g : Nat} {x y k z o : Value} {t : TypeId} (h : w.heap[g]? = some (.cells #[x, y, k, z, o] t (0, 0))) : w.rangeAt g 3 [z, o] := fun j v hj => by
  rw [cell_of_row w g _ _ _ _ h]
  match j, hj with
  | 0, hj => exact hj
  | 1, hj => exact hj

theorem exec_eql_row {o : Oper} {tmps : Array Value} {ds : List Deferred} {w : World} {a b c d : Nat} {r : Bool} (x y : Operand) (t : TypeId) (ho : o.op = .binOp .eql 24 x y t) (hx : Act.eval ⟨tmps, ds⟩ x = .agg #[.int .u64 (a : Int), .int .u64 (b : Int)]) (hy : Act.eval ⟨tmps, ds⟩ y = .agg #[.int .u64 (c : Int), .int .u64 (d : Int)]) (hr : decide (a = c ∧ b = d) = r) :
    (execOp (Act.eval ⟨tmps, ds⟩) o).run Tryd.prog w = .ok (.value (.bool r)) w := by
  have hg := guardR
  have h2 := eq_rows a b c d w
  rw [hr] at h2
  unfold execOp
  simp only [ho, hx, hy]
  go_simp

end Go.Proofs.YtlkkninnfiaedaaDoor.I

namespace Go.Proofs.YtlkkninnfiaedaaDoor.I
open Go.RowKit Pg
set_option maxRecDepth 100000
attribute [local go_sem] not_any T.mf_any

theorem jn_true {fk fz fo : Nat → List Nat} {d0 d1 F N : Nat} {ch : List Bool} (hk : ∀ i, fk i = if bt d0 d1 (i : Int) then fo i else fz i) (h0 : d0 < 18446744073709551616) (h1 : d1 < 18446744073709551616) (hc : ch.length = N) :
    jn d0 d1 (T.rowV (keyC fk d0 d1 F N (sentC fz fo F N ch))) (T.rowV (fun i => cl (fz i) F N)) N N N ch = true :=
  decide_eq_true ⟨rfl, rfl, fun _ hj => joins fk fz fo d0 d1 F hk h0 h1 hc hj⟩

/- a call of Receive and of Send, with what is kept -/
theorem rec_any {Z O : Value} {fz fo : Nat → List Nat} {F N b : Nat} {a : Option Addr} {ch : List Bool} {w : World} (hZ : Sds w Z fz 128) (hO : Sds w O fo 128) (hfz : ∀ i, (fz i).length = 32 ∧ Lt 256 (fz i)) (hfo : ∀ i, (fo i).length = 32 ∧ Lt 256 (fo i))
    (hv : T.Vc b w N a ch) (hc : nC F N = 0) (hF : F ≤ 67108864) (hN : N ≤ 4096) :
    Hid (Calls Tryd.prog 27 #[.agg #[Z, O], .int .u64 (F : Int), .agg #[.int .i64 (N : Int), .slice a (T.need N 64) (T.need N 64)]] w fun e w' => ∃ gs gr aa, e = .returned (.tuple #[.slice (some ⟨gs, 0, none⟩) 128 128, .slice (some ⟨gr, 0, none⟩) N N, .int .i64 0]) ∧ T.Vcs w' 128 (some ⟨gs, 0, none⟩) (fun _ => N) aa (sentC fz fo F N ch) ∧ w'.heap[gr]? = some (T.rrow (T.rowV (fun i => cl (fz i) F N)) N) ∧ Below w.heap.size w w') := by
  refine (receive_yes Z O fz fo F N b a ch w hZ hO hfz hfo hv hc hF hN).mono ?_
  rintro e w' ⟨gs, gr, aa, rfl, hvr, hr, hb⟩
  exact ⟨gs, gr, aa, rfl, hvr.vcs (by omega), hr, hb⟩

/- what is kept in memory from Deal on -/
structure Pack (w V : World) (b1 b3 N : Nat) (av ac : Option Addr) (ch : List Bool) (o1 o2 o3 : Obj) (K0 Z0 O0 K1 Z1 O1 : Value) (p0 p1 : List Nat) : Prop where
  bel : Below w.heap.size w V
  x1 : V.heap[b1]? = some o1
  x2 : V.heap[b1 + 1]? = some o2
  x3 : V.heap[b3]? = some o3
  k0 : Sds V K0 (dk p0) 128
  z0 : Sds V Z0 (dz p0) 128
  o0 : Sds V O0 (dn p0) 128
  k1 : Sds V K1 (dk p1) 128
  z1 : Sds V Z1 (dz p1) 128
  o1 : Sds V O1 (dn p1) 128
  vv : T.Vc 0 V N ac ch
  bl : T.Bl V N av ch
theorem Pack.to {w V V' : World} {b1 b3 N : Nat} {av ac : Option Addr} {ch : List Bool} {o1 o2 o3 : Obj} {K0 Z0 O0 K1 Z1 O1 : Value} {p0 p1 : List Nat} (h : Pack w V b1 b3 N av ac ch o1 o2 o3 K0 Z0 O0 K1 Z1 O1 p0 p1) (hb : Below V.heap.size V V') : Pack w V' b1 b3 N av ac ch o1 o2 o3 K0 Z0 O0 K1 Z1 O1 p0 p1 :=
  ⟨h.bel.trans (hb.mono h.bel.size), (hb.block _ (T.lt_heap h.x1)).trans h.x1, (hb.block _ (T.lt_heap h.x2)).trans h.x2, (hb.block _ (T.lt_heap h.x3)).trans h.x3,
    h.k0.below hb (Nat.le_refl _), h.z0.below hb (Nat.le_refl _), h.o0.below hb (Nat.le_refl _), h.k1.below hb (Nat.le_refl _), h.z1.below hb (Nat.le_refl _), h.o1.below hb (Nat.le_refl _), h.vv.below hb (Nat.le_refl _), h.bl.below hb (Nat.le_refl _)⟩

end Go.Proofs.YtlkkninnfiaedaaDoor.I
