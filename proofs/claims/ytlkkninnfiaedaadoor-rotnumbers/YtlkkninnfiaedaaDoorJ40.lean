/- Blocks of rows, squares of rows; lists of words that are 0. Lists of words in memory: blank, toColumns. -/
import Derived.Test.YtlkkninnfiaedaaDoorJ39
import Derived.Deep.MidRow
import Derived.Deep.Cut
import Derived.Deep.CutBlock
import Derived.Deep.DeepCutAuto
namespace Go.Proofs.YtlkkninnfiaedaaDoor.T
open Go.RowKit
set_option maxRecDepth 100000
attribute [local go_sem] not_any

theorem tneeded_any (n s : Nat) (w : World) (hn : n ≤ 4194304) (hs : s = 8 ∨ s = 64) :
    Calls Tryd.prog 67 #[.int .i64 n, .int .i64 s] w fun e w' => e = .returned (.int .i64 (need n s : Nat)) ∧ w' = w := by
  rcases hs with rfl | rfl
  · rw [need8]
    go_enter Tryd.func67, Tryd.ntmps67
    go_wp2
    go_ret
    refine ⟨?_, rfl⟩
    show Ending.returned (.int .i64 (((n : Int) + 8 - 1) / 8)) = _
    rw [show ((n : Int) + 8 - 1) / 8 = (((n + 7) / 8 : Nat) : Int) by omega]
  · rw [need64]
    go_enter Tryd.func67, Tryd.ntmps67
    go_wp2
    go_ret
    refine ⟨?_, rfl⟩
    show Ending.returned (.int .i64 (((n : Int) + 64 - 1) / 64)) = _
    rw [show ((n : Int) + 64 - 1) / 64 = (((n + 63) / 64 : Nat) : Int) by omega]

theorem ret_sl {a : Option Addr} {n m c : Nat} (h : n = m) : Ending.returned (.slice a n c) = .returned (.slice a m c) := by rw [h]
theorem inBlock_any (w : World) (g o n c b : Nat) (h1 : b * 64 < n) (h2 : n ≤ 4194304) (hc : n ≤ c) :
    Calls Tryd.prog 93 #[.slice (some ⟨g, o, none⟩) n c, .int .i64 b] w fun e w' => e = .returned (.slice (some ⟨g, o + b * 64 * 2, none⟩) (min 64 (n - b * 64)) (c - b * 64)) ∧ w' = w := by
  obtain ⟨f, hf⟩ : ∃ f, f = b * 64 := ⟨_, rfl⟩
  obtain ⟨t, ht⟩ : ∃ t, t = min (f + 64) n := ⟨_, rfl⟩
  rw [show min 64 (n - b * 64) = t - f by omega, ← hf]
  have q1 : IntKind.i64.wrap ((b : Int) * 64) = (f : Int) := by rw [IntKind.wrap_i64]; omega
  have q2 : IntKind.i64.wrap ((f : Int) + 64) = (f : Int) + 64 := by rw [IntKind.wrap_i64]; omega
  have q3 : min ((f : Int) + 64) (n : Int) = (t : Int) := by omega
  have q4 : f ≤ t := by omega
  have q5 : t ≤ c := by omega
  have q6 : ¬ c = f := by omega
  have HT := hide1 ht
  clear ht hf q3
  go_enter Tryd.func93, Tryd.ntmps93
  go_wp2
  all_goals first
    | (go_ret; refine ⟨ret_sl ?_, rfl⟩; have := HT.out; omega)
    | (exfalso; have := HT.out; omega)

/- rows that are read: word p of row j is R j p -/
structure Rws (w : World) (n : Nat) (a : Option Addr) (R : Nat → Nat → Nat) : Prop where
  at' : ∀ j, j < n → ∃ g o, a = some ⟨g, o, none⟩ ∧ w.cell? ⟨g, o + j * 2, none⟩ = some (.int .u64 (R j 0 : Nat)) ∧ w.cell? ⟨g, o + j * 2 + 1, none⟩ = some (.int .u64 (R j 1 : Nat))
  lt : ∀ j p, R j p < 18446744073709551616
theorem Rws.below {B : Nat} {w w' : World} {n : Nat} {a : Option Addr} {R : Nat → Nat → Nat} (h : Rws w n a R) (hB : Below B w w') (hs : w.heap.size ≤ B) : Rws w' n a R :=
  ⟨fun j hj => by
    obtain ⟨g, o, e, c0, c1⟩ := h.at' j hj
    have l0 := lt_cell c0
    exact ⟨g, o, e, (hB.cell (p := ⟨g, o + j * 2, none⟩) (by simp; omega)).trans c0, (hB.cell (p := ⟨g, o + j * 2 + 1, none⟩) (by simp; omega)).trans c1⟩, h.lt⟩
theorem Rws.first {w : World} {n : Nat} {a : Option Addr} {R : Nat → Nat → Nat} (h : Rws w n a R) (hn : 0 < n) : ∃ g o, a = some ⟨g, o, none⟩ ∧ g < w.heap.size ∧ ∀ j, j < n → w.cell? ⟨g, o + j * 2, none⟩ = some (.int .u64 (R j 0 : Nat)) ∧ w.cell? ⟨g, o + j * 2 + 1, none⟩ = some (.int .u64 (R j 1 : Nat)) := by
  obtain ⟨g, o, rfl, c0, _⟩ := h.at' 0 hn
  refine ⟨g, o, rfl, lt_cell c0, fun j hj => ?_⟩
  obtain ⟨g', o', e, d⟩ := h.at' j hj
  cases e
  exact d

theorem wpList_store_own {P : Program} {ops : Array Oper} {rest : List Oper} {o : Oper} {a : Act} {w : World} {Q : Exit → Act → World → Prop} (hgd : o.guard = none) (ty : TypeId) (x y : Operand) (ho : o.op = .store ty x y)
    (g : Nat) (hx : a.eval x = .pointer (some ⟨g, 0, none⟩)) (cs' : Array Value) (hy : a.eval y = .agg cs') (t : TypeId) (cs : Array Value) (hg : w.heap[g]? = some (.cells cs t (0, 0)))
    (hi : (P.info? ty).map (·.size) = some cs'.size) (hs : cs.size = cs'.size) (h1 : cs'.all (·.oneCell') = true)
    (h : wpList P ops Q rest (a.put o.dst undef) (w.setRow g cs')) : wpList P ops Q (o :: rest) a w :=
  wpList_plain hgd fun K hK => by
    have e := run_storeVar_row (P := P) w g t ty cs cs' hg hi hs h1
    unfold Oper.wp execOp
    simp only [ho, hx, hy, Instr.storeAt, Instr.sureAddr, Sem.run_bind, Sem.run_pure, Result.andThen_ok, e]
    exact hK _ _ h
theorem ret_row {fn : Func} {p : Tmp} {ty : TypeId} (h : fn.results = #[.cell p ty]) {R : Ending → World → Prop} {a : Act} {w : World} (g : Nat) (t : TypeId) (cs : Array Value) {n : Nat} {el : TypeId} (hp : a.tmps.getD p undef = .pointer (some ⟨g, 0, none⟩))
    (hg : w.heap[g]? = some (.cells cs t (0, 0))) (hu : Tryd.prog.underlying ty = some (.array n el)) (hi : (Tryd.prog.info? ty).map (·.size) = some cs.size)
    (hd : a.defers = []) (hR : R (.returned (.agg cs)) w) : bodyPost Tryd.prog fn R .ret a w :=
  bodyPost_ret_by (results_cell_row (P := Tryd.prog) h _ w g t cs (0, 0) _ hp hg hu rfl hi) hd hR
theorem below_setRow {B g : Nat} {w0 w : World} (hb : Below B w0 w) (hBg : B ≤ g) (cs : Array Value) : Below B w0 (w.setRow g cs) :=
  hb.trans ⟨rfl, rfl, rfl, by simp [World.setRow], fun k hk => setRow_other w g k cs (by omega)⟩
theorem all_one {cs : List Value} (h : ∀ v ∈ cs, v.oneCell' = true) : cs.toArray.all (·.oneCell') = true :=
  Array.all_eq_true_iff_forall_mem.2 (fun v hv => h v (by simpa using hv))
theorem size57 (f : Nat → Nat) : (Tryd.prog.info? 129).map (·.size) = some (u64s (sq f)).toArray.size := by
  rw [show (u64s (sq f)).toArray.size = 64 by simp [u64s, sq]]
  kernel_rfl

/- a block of rows, of each the one word; what is behind is 0 -/
def blkF (R : Nat → Nat → Nat) (n p b j : Nat) : Nat := if b * 64 + j < n then R (b * 64 + j) p else 0
def upTo (F : Nat → Nat) (k j : Nat) : Nat := if j < k then F j else 0
theorem blkF_lt {w : World} {n : Nat} {a : Option Addr} {R : Nat → Nat → Nat} (h : Rws w n a R) (p b j : Nat) : blkF R n p b j < 18446744073709551616 := by
  unfold blkF
  by_cases h1 : b * 64 + j < n
  · rw [if_pos h1]; exact h.lt _ _
  · rw [if_neg h1]; omega
theorem sq_upTo {F : Nat → Nat} {k : Nat} : sq (upTo F (k + 1)) = (sq (upTo F k)).set k (F k) := by
  rw [sq_set]
  refine sq_congr fun i hi => ?_
  unfold upTo
  by_cases h : i = k
  · rw [if_pos h, if_pos (by omega), h]
  · rw [if_neg h]
    by_cases h1 : i < k
    · rw [if_pos h1, if_pos (by omega)]
    · rw [if_neg h1, if_neg (by omega)]
theorem sq_zero (F : Nat → Nat) : sq (fun _ => 0) = sq (upTo F 0) := sq_congr fun i _ => (if_neg (Nat.not_lt_zero i)).symm

end Go.Proofs.YtlkkninnfiaedaaDoor.T

namespace Go.Proofs.YtlkkninnfiaedaaDoor.T
open Go.RowKit
set_option maxRecDepth 100000
attribute [local go_sem] not_any

def lrow (vs : List Value) : Obj := .cells vs.toArray 39 (0, 0)
theorem make_lists (m : Nat) (hm : m ≤ 4096) (w : World) : (Instr.makeSlice 125 (.int .i64 (m : Int)) (.int .i64 (m : Int))).run Tryd.prog w = .ok (.slice (some ⟨w.heap.size, 0, none⟩) m m) (w.alloc (lrow (List.replicate m (.slice none 0 0)))) := by
  have hi : (Tryd.prog.info? 39).map (fun i => (i.zero, i.size, i.bytes)) = some (some (.slice none 0 0), 1, 24) := by kernel_rfl
  obtain ⟨i0, hi, hz0, hz1, hz2⟩ := info_parts hi
  have h := run_make (P := Tryd.prog) w 125 39 i0 _ Tryd.underlying125 hi hz0 .i64 .i64 (m : Int) (m : Int) (by omega) (by omega) (by rw [hz2]; omega) (by omega)
  rw [h, hz1]
  have e : madeCells (Value.slice none 0 0).cells ((m : Int).toNat * 1) = (List.replicate m (Value.slice none 0 0)).toArray := by
    apply Array.ext
    · simp [madeCells]
    · intro j h1 h2
      simp [madeCells, Value.cells, Nat.mod_one]
  rw [e]
  rfl
theorem lrow_cell {w : World} {g j : Nat} {v : Value} {vs : List Value} (h : w.heap[g]? = some (lrow vs)) (hj : vs[j]? = some v) : w.cell? ⟨g, j, none⟩ = some v := by
  rw [cell_of_row w g j _ _ (0, 0) h]
  simp [hj]
theorem lrow_set {w : World} {g j : Nat} {v : Value} {vs : List Value} (h : w.heap[g]? = some (lrow vs)) : (w.setCell ⟨g, j, none⟩ v).heap[g]? = some (lrow (vs.set j v)) := by
  rw [heap_setCell_same w g j _ _ _ h]
  unfold lrow
  congr 2
  simp

theorem cell_heap {w w' : World} {g : Nat} (h : w'.heap[g]? = w.heap[g]?) (j : Nat) : w'.cell? ⟨g, j, none⟩ = w.cell? ⟨g, j, none⟩ := by simp only [World.cell?, h]

/- m lists of nb words, in blocks from b on, each in a block of its own -/
structure Wds (b : Nat) (w : World) (gh : Nat) (gi : Nat → Nat) (m nb : Nat) (F : Nat → List Nat) : Prop where
  hd : ∀ i, i < m → w.cell? ⟨gh, i, none⟩ = some (.slice (some ⟨gi i, 0, none⟩) nb nb)
  row : ∀ i, i < m → w.heap[gi i]? = some (wrow (F i))
  len : ∀ i, i < m → (F i).length = nb
  up : ∀ i, i < m → b ≤ gi i ∧ gi i ≠ gh
  gh : b ≤ gh
  apart : ∀ i j, i < m → j < m → i ≠ j → gi i ≠ gi j
theorem Wds.kept {b : Nat} {w w' : World} {gh : Nat} {gi : Nat → Nat} {m nb : Nat} {F : Nat → List Nat} (h : Wds b w gh gi m nb F) {B : Nat} (hb : Below B w w') (hg : gh < B) (hi : ∀ i, i < m → gi i < B) : Wds b w' gh gi m nb F :=
  ⟨fun i him => (hb.cell (p := ⟨gh, i, none⟩) hg).trans (h.hd i him), fun i him => (hb.block _ (hi i him)).trans (h.row i him), h.len, h.up, h.gh, h.apart⟩
theorem Wds.lt {b : Nat} {w : World} {gh : Nat} {gi : Nat → Nat} {m nb : Nat} {F : Nat → List Nat} (h : Wds b w gh gi m nb F) : ∀ i, i < m → gh < w.heap.size ∧ gi i < w.heap.size := fun i hi => ⟨lt_cell (h.hd i hi), lt_heap (h.row i hi)⟩
theorem Wds.all {b : Nat} {w w' : World} {gh : Nat} {gi : Nat → Nat} {m nb : Nat} {F : Nat → List Nat} (h : Wds b w gh gi m nb F) (hb : Below w.heap.size w w') : Wds b w' gh gi m nb F :=
  ⟨fun i him => (hb.cell (p := ⟨gh, i, none⟩) (h.lt i him).1).trans (h.hd i him), fun i him => (hb.block _ (h.lt i him).2).trans (h.row i him), h.len, h.up, h.gh, h.apart⟩
theorem Wds.set {b : Nat} {w : World} {gh : Nat} {gi : Nat → Nat} {m nb : Nat} {F : Nat → List Nat} (h : Wds b w gh gi m nb F) {i0 : Nat} (h0 : i0 < m) (q x : Nat) : Wds b (w.setCell ⟨gi i0, q, none⟩ (.int .u64 (x : Int))) gh gi m nb (fun i => if i = i0 then (F i).set q x else F i) := by
  refine ⟨fun i hi => ?_, fun i hi => ?_, fun i hi => ?_, h.up, h.gh, h.apart⟩
  · rw [← h.hd i hi]
    exact cell_heap (heap_setCell_other w ⟨gi i0, q, none⟩ gh _ (fun e => (h.up i0 h0).2 e.symm)) i
  · by_cases e : i = i0
    · subst e
      rw [if_pos rfl]
      exact wset (h.row i hi)
    · rw [if_neg e, heap_setCell_other w ⟨gi i0, q, none⟩ (gi i) _ (h.apart i i0 hi h0 e)]
      exact h.row i hi
  · by_cases e : i = i0
    · simp only [if_pos e, List.length_set]; exact h.len i hi
    · simp only [if_neg e]; exact h.len i hi
theorem Wds.congr {b : Nat} {w : World} {gh : Nat} {gi : Nat → Nat} {m nb : Nat} {F G : Nat → List Nat} (h : Wds b w gh gi m nb F) (e : ∀ i, i < m → F i = G i) : Wds b w gh gi m nb G :=
  ⟨h.hd, fun i hi => by rw [← e i hi]; exact h.row i hi, fun i hi => by rw [← e i hi]; exact h.len i hi, h.up, h.gh, h.apart⟩

/- the heads of lists, the first k made -/
def hds (gh nb m k : Nat) : List Value := (List.range m).map fun i => if i < k then Value.slice (some ⟨gh + 1 + i, 0, none⟩) nb nb else .slice none 0 0
theorem hds_zero (gh nb m : Nat) : hds gh nb m 0 = List.replicate m (.slice none 0 0) := by
  refine List.ext_getElem? fun j => ?_
  by_cases hj : j < m
  · simp [hds, hj]
  · rw [List.getElem?_eq_none (by simp [hds]; omega), List.getElem?_eq_none (by simp; omega)]
theorem hds_get {gh nb m k j : Nat} (hj : j < m) : (hds gh nb m k)[j]? = some (if j < k then Value.slice (some ⟨gh + 1 + j, 0, none⟩) nb nb else .slice none 0 0) := by simp [hds, hj]
theorem hds_succ {gh nb m k : Nat} : hds gh nb m (k + 1) = (hds gh nb m k).set k (.slice (some ⟨gh + 1 + k, 0, none⟩) nb nb) := by
  refine List.ext_getElem? fun j => ?_
  by_cases hj : j < m
  · rw [hds_get hj, List.getElem?_set, show (hds gh nb m k).length = m by simp [hds]]
    by_cases e : k = j
    · subst e; simp [hj]
    · rw [if_neg e, hds_get hj]
      by_cases h1 : j < k
      · rw [if_pos h1, if_pos (by omega)]
      · rw [if_neg h1, if_neg (by omega)]
  · rw [List.getElem?_eq_none (by simp [hds]; omega), List.getElem?_eq_none (by simp [hds]; omega)]

/- columns from off on, the first k of them with another word -/
def laidTo (F : Nat → List Nat) (off q : Nat) (f : Nat → Nat) (k i : Nat) : List Nat := if off ≤ i ∧ i < off + k then (F i).set q (f (i - off)) else F i
structure Kpw (b : Nat) (w w' : World) (m : Nat) (gi : Nat → Nat) : Prop where
  bel : Below b w w'
  oth : ∀ k, k < w.heap.size → (∀ i, i < m → k ≠ gi i) → w'.heap[k]? = w.heap[k]?
theorem Kpw.refl (b : Nat) (w : World) (m : Nat) (gi : Nat → Nat) : Kpw b w w m gi := ⟨Below.refl _ _, fun _ _ _ => rfl⟩
theorem Kpw.dn {b : Nat} {w w' : World} {m : Nat} {gi : Nat → Nat} (h : Kpw b w w' m gi) (q : Nat) : Kpw b w (w'.drewN q) m gi := ⟨h.bel.trans (below_dn _ _ _), h.oth⟩
theorem Kpw.set {b : Nat} {w w' : World} {m : Nat} {gi : Nat → Nat} (h : Kpw b w w' m gi) {i : Nat} (hi : i < m) (hb : b ≤ gi i) (q : Nat) (v : Value) : Kpw b w (w'.setCell ⟨gi i, q, none⟩ v) m gi :=
  ⟨h.bel.setCell hb v, fun k hk hne => (heap_setCell_other w' ⟨gi i, q, none⟩ k v (hne i hi)).trans (h.oth k hk hne)⟩
theorem Wds.dn {b : Nat} {w : World} {gh : Nat} {gi : Nat → Nat} {m nb : Nat} {F : Nat → List Nat} (h : Wds b w gh gi m nb F) (q : Nat) : Wds b (w.drewN q) gh gi m nb F := ⟨h.hd, h.row, h.len, h.up, h.gh, h.apart⟩

end Go.Proofs.YtlkkninnfiaedaaDoor.T
