/- Seeds, and pairs of seeds, in memory. -/
import Derived.Test.YtdmodknjcdkocaaJ22
namespace Go.Proofs.Ytdmodknjcdkocaa.Ro
open Go.RowKit Pg
set_option maxRecDepth 100000

/- seeds that are read -/
structure Sd (w : World) (n : Nat) (a : Option Addr) (f : Nat → List Nat) : Prop where
  at' : ∀ j, j < n → ∃ g o, a = some ⟨g, o, none⟩ ∧ g < w.heap.size ∧ w.rangeAt g (o + j * 32) (u8s (f j))
  good : ∀ j, (f j).length = 32 ∧ Lt 256 (f j)
/- pairs that are read: the pair j is the seeds 2 j and 2 j + 1 -/
structure Pd (w : World) (n : Nat) (a : Option Addr) (f : Nat → List Nat) : Prop where
  at' : ∀ j, j < n → ∃ g o, a = some ⟨g, o, none⟩ ∧ g < w.heap.size ∧ w.rangeAt g (o + j * 64) (u8s (f (2 * j))) ∧ w.rangeAt g (o + j * 64 + 32) (u8s (f (2 * j + 1)))
  good : ∀ j, (f j).length = 32 ∧ Lt 256 (f j)
theorem range_below {w w' : World} {B g o : Nat} {cs : List Value} (h : w.rangeAt g o cs) (hb : Below B w w') (hg : g < B) : w'.rangeAt g o cs := fun j v hj => (hb.cell (p := ⟨g, o + j, none⟩) hg).trans (h j v hj)
theorem Sd.below {w w' : World} {n B : Nat} {a : Option Addr} {f : Nat → List Nat} (h : Sd w n a f) (hb : Below B w w') (hB : w.heap.size ≤ B) : Sd w' n a f :=
  ⟨fun j hj => by
    obtain ⟨g, o, e, hg, hr⟩ := h.at' j hj
    exact ⟨g, o, e, Nat.lt_of_lt_of_le hg hb.size, range_below hr hb (by omega)⟩, h.good⟩
theorem Pd.below {w w' : World} {n B : Nat} {a : Option Addr} {f : Nat → List Nat} (h : Pd w n a f) (hb : Below B w w') (hB : w.heap.size ≤ B) : Pd w' n a f :=
  ⟨fun j hj => by
    obtain ⟨g, o, e, hg, hr, hr2⟩ := h.at' j hj
    exact ⟨g, o, e, Nat.lt_of_lt_of_le hg hb.size, range_below hr hb (by omega), range_below hr2 hb (by omega)⟩, h.good⟩
theorem Sd.congr {w : World} {n : Nat} {a : Option Addr} {f g : Nat → List Nat} (h : Sd w n a f) (hg : ∀ j, (g j).length = 32 ∧ Lt 256 (g j)) (e : ∀ j, j < n → f j = g j) : Sd w n a g :=
  ⟨fun j hj => by rw [← e j hj]; exact h.at' j hj, hg⟩
theorem Pd.congr {w : World} {n : Nat} {a : Option Addr} {f g : Nat → List Nat} (h : Pd w n a f) (hg : ∀ j, (g j).length = 32 ∧ Lt 256 (g j)) (e : ∀ j, j < 2 * n → f j = g j) : Pd w n a g :=
  ⟨fun j hj => by rw [← e (2 * j) (by omega), ← e (2 * j + 1) (by omega)]; exact h.at' j hj, hg⟩
theorem Sd.at0 {w : World} {n : Nat} {a : Option Addr} {f : Nat → List Nat} (h : Sd w n a f) {j : Nat} (hj : j < n) : ∃ g o, a = some ⟨g, o, none⟩ ∧ g < w.heap.size ∧ ∀ W, Below w.heap.size w W → ∀ k, k < n → W.rangeAt g (o + k * 32) (u8s (f k)) := by
  obtain ⟨g, o, e, hg, _⟩ := h.at' j hj
  refine ⟨g, o, e, hg, fun W hb k hk => ?_⟩
  obtain ⟨g', o', e', _, hr⟩ := h.at' k hk
  rw [e] at e'
  cases e'
  exact range_below hr hb hg
theorem Pd.at0 {w : World} {n : Nat} {a : Option Addr} {f : Nat → List Nat} (h : Pd w n a f) {j : Nat} (hj : j < n) : ∃ g o, a = some ⟨g, o, none⟩ ∧ g < w.heap.size ∧ ∀ W, Below w.heap.size w W → ∀ k, k < n → W.rangeAt g (o + k * 64) (u8s (f (2 * k))) ∧ W.rangeAt g (o + k * 64 + 32) (u8s (f (2 * k + 1))) := by
  obtain ⟨g, o, e, hg, _⟩ := h.at' j hj
  refine ⟨g, o, e, hg, fun W hb k hk => ?_⟩
  obtain ⟨g', o', e', _, hr, hr2⟩ := h.at' k hk
  rw [e] at e'
  cases e'
  exact ⟨range_below hr hb hg, range_below hr2 hb hg⟩
theorem range_join {w : World} {g o : Nat} {xs ys : List Value} (h : w.rangeAt g o xs) (h2 : w.rangeAt g (o + xs.length) ys) : w.rangeAt g o (xs ++ ys) := fun j v hj => by
  by_cases hl : j < xs.length
  · rw [List.getElem?_append_left hl] at hj
    exact h j v hj
  · rw [List.getElem?_append_right (by omega)] at hj
    have := h2 _ v hj
    rw [show o + xs.length + (j - xs.length) = o + j by omega] at this
    exact this
theorem range_two {w : World} {g o : Nat} {s t : List Nat} (hs : s.length = 32) (h : w.rangeAt g o (u8s s)) (h2 : w.rangeAt g (o + 32) (u8s t)) : w.rangeAt g o (u8s (s ++ t)) := by
  rw [u8s_append]
  exact range_join h (by rw [u8s_length, hs]; exact h2)

theorem sd_none (f : Nat → List Nat) (hf : ∀ j, (f j).length = 32 ∧ Lt 256 (f j)) (w : World) (a : Option Addr) : Sd w 0 a f := ⟨fun j hj => by omega, hf⟩
theorem sd_row {w : World} {g n : Nat} {f : Nat → List Nat} (hf : ∀ j, (f j).length = 32 ∧ Lt 256 (f j)) (h : w.heap[g]? = some (srow f n)) : Sd w n (some ⟨g, 0, none⟩) f :=
  ⟨fun j hj => ⟨g, 0, rfl, lt_heap h, by rw [Nat.zero_add]; exact srow_range (fun i => (hf i).1) h hj⟩, hf⟩

/- cells of a list of seeds -/
theorem flt_cell {f : Nat → List Nat} (hf : ∀ i, (f i).length = 32) {n i j : Nat} {v : Value} (hi : i < n) (hv : (u8s (f i))[j]? = some v) : (u8s (flt f n))[i * 32 + j]? = some v := by
  have hj : j < 32 := by have := (List.getElem?_eq_some_iff.1 hv).1; rwa [u8s_length, hf] at this
  unfold u8s at hv ⊢
  rw [List.getElem?_map] at hv ⊢
  rw [flt_get hf hi hj]
  exact hv
theorem own_range {w : World} {base e size n c : Nat} {a : Option Addr} {f : Nat → List Nat} {m i : Nat} (hf : ∀ i, (f i).length = 32) (h : w.ownsRow base e size (.slice a n c) n (u8s (flt f m))) (hn : 0 < n) (hm : m * 32 = n * size) (hi : i < m) : ∃ g, a = some ⟨g, 0, none⟩ ∧ g < w.heap.size ∧ w.rangeAt g (i * 32) (u8s (f i)) := by
  rcases h.2 with ⟨_, h0⟩ | ⟨g, cap, cur, hv, hg, hh, hcap, r⟩
  · omega
  · cases hv
    refine ⟨g, rfl, lt_heap hh, fun j v hj => ?_⟩
    have hc := flt_cell hf hi hj
    have hl := (List.getElem?_eq_some_iff.1 hc).1
    rw [u8s_length, flt_length hf, hm] at hl
    rw [h.cellAt (i * 32 + j) hl]
    exact hc
theorem sd_own {w : World} {base e k c : Nat} {a : Option Addr} {f : Nat → List Nat} (hf : ∀ j, (f j).length = 32 ∧ Lt 256 (f j)) (h : w.ownsRow base e 32 (.slice a k c) k (u8s (flt f k))) : Sd w k a f :=
  ⟨fun j hj => by
    obtain ⟨g, e, hg, hr⟩ := own_range (fun i => (hf i).1) h (by omega) rfl hj
    exact ⟨g, 0, e, hg, by rw [Nat.zero_add]; exact hr⟩, hf⟩
theorem pd_own {w : World} {base e k c : Nat} {a : Option Addr} {f : Nat → List Nat} (hf : ∀ j, (f j).length = 32 ∧ Lt 256 (f j)) (h : w.ownsRow base e 64 (.slice a k c) k (u8s (flt f (2 * k)))) : Pd w k a f :=
  ⟨fun j hj => by
    obtain ⟨g, e, hg, hr⟩ := own_range (fun i => (hf i).1) h (by omega) (by omega) (i := 2 * j) (by omega)
    obtain ⟨g2, e2, _, hr2⟩ := own_range (fun i => (hf i).1) h (by omega) (by omega) (i := 2 * j + 1) (by omega)
    rw [e] at e2
    cases e2
    refine ⟨g, 0, e, hg, ?_, ?_⟩
    · rw [show 0 + j * 64 = 2 * j * 32 by omega]; exact hr
    · rw [show 0 + j * 64 + 32 = (2 * j + 1) * 32 by omega]; exact hr2, hf⟩

/- a row of pairs -/
def prow (f : Nat → List Nat) (n : Nat) : Obj := row8 58 (flt f (2 * n))
theorem prow_range {w : World} {g n i : Nat} {f : Nat → List Nat} (hf : ∀ i, (f i).length = 32) (h : w.heap[g]? = some (prow f n)) (hi : i < 2 * n) : w.rangeAt g (i * 32) (u8s (f i)) := fun j v hv => by
  rw [cell_of_row w g _ _ _ _ h]
  simp only [List.getElem?_toArray]
  exact flt_cell hf hi hv
theorem pd_row {w : World} {g n : Nat} {f : Nat → List Nat} (hf : ∀ j, (f j).length = 32 ∧ Lt 256 (f j)) (h : w.heap[g]? = some (prow f n)) : Pd w n (some ⟨g, 0, none⟩) f :=
  ⟨fun j hj => by
    have h1 := prow_range (fun i => (hf i).1) h (i := 2 * j) (by omega)
    have h2 := prow_range (fun i => (hf i).1) h (i := 2 * j + 1) (by omega)
    refine ⟨g, 0, rfl, lt_heap h, ?_, ?_⟩
    · rw [show 0 + j * 64 = 2 * j * 32 by omega]; exact h1
    · rw [show 0 + j * 64 + 32 = (2 * j + 1) * 32 by omega]; exact h2, hf⟩
theorem prow_there {w : World} {g n i : Nat} {f : Nat → List Nat} (hf : ∀ i, (f i).length = 32) (h : w.heap[g]? = some (prow f n)) (hi : i < n) : w.there g (i * 64) 64 := fun j hj => by
  refine ⟨?_, frozen_of_row w g _ _ _ h⟩
  rw [cell_of_row w g _ _ _ _ h]
  have hl : (u8s (flt f (2 * n))).length = 2 * n * 32 := by rw [u8s_length, flt_length hf]
  simp only [List.getElem?_toArray]
  rw [List.getElem?_eq_getElem (by omega)]
  rfl
theorem setL_app : ∀ (xs ys : List Value) (o : Nat) (L : List Value), setL L o (xs ++ ys) = setL (setL L o xs) (o + xs.length) ys
  | [], _, _, _ => rfl
  | x :: r, ys, o, L => by
    show setL (L.set o x) (o + 1) (r ++ ys) = setL (setL (L.set o x) (o + 1) r) (o + (r.length + 1)) ys
    rw [setL_app r ys (o + 1) _, show o + 1 + r.length = o + (r.length + 1) by omega]
theorem setL_flt {f : Nat → List Nat} (hf : ∀ i, (f i).length = 32) {m i : Nat} (hi : i < m) {s : List Nat} (hs : s.length = 32) : setL (u8s (flt f m)) (i * 32) (u8s s) = u8s (flt (upd f i s) m) := by
  obtain ⟨R, e1, e2⟩ := flt_upd s hi (f := f)
  have hl : (u8s (flt f i)).length = i * 32 := by rw [u8s_length, flt_length hf]
  have := setL_mid (u8s s) (u8s (flt f i)) (u8s (f i)) (u8s R) (by rw [u8s_length, u8s_length, hf, hs])
  rw [hl] at this
  rw [e1, e2, u8s_append, u8s_append, u8s_append, u8s_append, this]
theorem upd_len {f : Nat → List Nat} (hf : ∀ i, (f i).length = 32) (i : Nat) {s : List Nat} (hs : s.length = 32) (j : Nat) : (upd f i s j).length = 32 := by
  by_cases h : j = i
  · rw [h, upd_at]; exact hs
  · rw [upd_ne h]; exact hf j
theorem prow_set {w : World} {g n i : Nat} {f : Nat → List Nat} (hf : ∀ i, (f i).length = 32) (h : w.heap[g]? = some (prow f n)) (hi : i < n) {s t : List Nat} (hs : s.length = 32) (ht : t.length = 32) :
    (w.setCells g (i * 64) (u8s (s ++ t))).heap[g]? = some (prow (upd (upd f (2 * i) s) (2 * i + 1) t) n) := by
  rw [setCells_row _ _ _ _ h, u8s_append, setL_app, u8s_length, hs, show i * 64 = 2 * i * 32 by omega, setL_flt hf (by omega) hs, show 2 * i * 32 + 32 = (2 * i + 1) * 32 by omega, setL_flt (upd_len hf _ hs) (by omega) ht]
  rfl

/- the first k of f, zeros behind -/
def fst (f : Nat → List Nat) (k i : Nat) : List Nat := if i < k then f i else zeros 32
theorem fst_len {f : Nat → List Nat} (hf : ∀ j, (f j).length = 32 ∧ Lt 256 (f j)) (k i : Nat) : (fst f k i).length = 32 := by
  unfold fst
  split
  · exact (hf i).1
  · exact zeros_length _
theorem fst_upd (f : Nat → List Nat) (k : Nat) : upd (fst f k) k (f k) = fst f (k + 1) := by
  funext i
  by_cases h : i = k
  · subst h
    rw [upd_at, fst, if_pos (by omega)]
  · rw [upd_ne h, fst, fst]
    by_cases h2 : i < k
    · rw [if_pos h2, if_pos (by omega)]
    · rw [if_neg h2, if_neg (by omega)]
theorem fst_upd2 (f : Nat → List Nat) (k : Nat) : upd (upd (fst f (2 * k)) (2 * k) (f (2 * k))) (2 * k + 1) (f (2 * k + 1)) = fst f (2 * (k + 1)) := by
  rw [fst_upd, fst_upd]
  rfl
theorem fst_all (f : Nat → List Nat) (n m : Nat) (h : m ≤ n) : flt (fst f n) m = flt f m := flt_congr (fun i hi => if_pos (by omega))
theorem fst_zero (f : Nat → List Nat) : fst f 0 = fun _ => zeros 32 := by
  funext i
  exact if_neg (by omega)

theorem info_pair : (Try.prog.info? 58).map (fun i => (i.zero, i.size, i.bytes)) = some (some (arr8 (zeros 64)), 64, 64) := by kernel_rfl
theorem info_rpair : (Try.prog.info? 48).map (fun i => (i.zero, i.size, i.bytes)) = some (some (arr8 (zeros 64)), 64, 64) := by kernel_rfl
theorem info_seed : (Try.prog.info? 46).map (fun i => (i.zero, i.size, i.bytes)) = some (some (arr8 (zeros 32)), 32, 32) := by kernel_rfl
theorem flt_zeros : ∀ n, flt (fun _ => zeros 32) n = zeros (n * 32) := fun n => by
  induction n with
  | zero => rfl
  | succ n ih => rw [flt, ih, zeros, zeros, zeros, List.replicate_append_replicate, Nat.succ_mul]
theorem make_pairs (m : Nat) (hm : m ≤ 4194304) (w : World) : (Instr.makeSlice 28 (.int .i64 (m : Int)) (.int .i64 (m : Int))).run Try.prog w = .ok (.slice (some ⟨w.heap.size, 0, none⟩) m m) (w.alloc (prow (fun _ => zeros 32) m)) := by
  obtain ⟨i0, hi, hz0, hz1, hz2⟩ := info_of info_pair
  have h := run_make (P := Try.prog) w 28 58 i0 _ Try.underlying28 hi hz0 .i64 .i64 (m : Int) (m : Int) (by omega) (by omega) (by rw [hz2]; omega) (by omega)
  rw [h, hz1]
  have e : madeCells (arr8 (zeros 64)).cells ((m : Int).toNat * 64) = (u8s (zeros (m * 64))).toArray := mc (by omega) _
  rw [e]
  unfold prow row8
  rw [flt_zeros, show 2 * m * 32 = m * 64 by omega]
  rfl
theorem make_seeds2 (m : Nat) (hm : m ≤ 4194304) (w : World) : (Instr.makeSlice 34 (.int .i64 (m : Int)) (.int .i64 (m : Int))).run Try.prog w = .ok (.slice (some ⟨w.heap.size, 0, none⟩) m m) (w.alloc (srow (fun _ => zeros 32) m)) := by
  obtain ⟨i0, hi, hz0, hz1, hz2⟩ := info_of info_seed
  have h := run_make (P := Try.prog) w 34 46 i0 _ Try.underlying34 hi hz0 .i64 .i64 (m : Int) (m : Int) (by omega) (by omega) (by rw [hz2]; omega) (by omega)
  rw [h, hz1]
  have e : madeCells (arr8 (zeros 32)).cells ((m : Int).toNat * 32) = (u8s (zeros (m * 32))).toArray := mc (by omega) _
  rw [e]
  unfold srow row8
  rw [flt_zeros]
  rfl
theorem hiP {s t : List Nat} (hs : s.length = 32) (ht : t.length = 32) : (Try.prog.info? 58).map (·.size) = some (u8s (s ++ t)).toArray.size := by rw [show (u8s (s ++ t)).toArray.size = 64 by simp [u8s, hs, ht]]; kernel_rfl
theorem hiP' {s t : List Nat} (hs : s.length = 32) (ht : t.length = 32) : (Try.prog.info? 58).map (·.size) = some (u8s (s ++ t)).length := by rw [show (u8s (s ++ t)).length = 64 by simp [u8s, hs, ht]]; kernel_rfl
/- seeds and pairs built -/
theorem list32 {l : List Nat} (h : l.length = 32) : ∃ a0 a1 a2 a3 a4 a5 a6 a7 a8 a9 b0 b1 b2 b3 b4 b5 b6 b7 b8 b9 c0 c1 c2 c3 c4 c5 c6 c7 c8 c9 d0 d1 : Nat, l = [a0, a1, a2, a3, a4, a5, a6, a7, a8, a9, b0, b1, b2, b3, b4, b5, b6, b7, b8, b9, c0, c1, c2, c3, c4, c5, c6, c7, c8, c9, d0, d1] := by
  match l, h with
  | [a0, a1, a2, a3, a4, a5, a6, a7, a8, a9, b0, b1, b2, b3, b4, b5, b6, b7, b8, b9, c0, c1, c2, c3, c4, c5, c6, c7, c8, c9, d0, d1], _ => exact ⟨_, _, _, _, _, _, _, _, _, _, _, _, _, _, _, _, _, _, _, _, _, _, _, _, _, _, _, _, _, _, _, _, rfl⟩
theorem run_build_seed (s : List Nat) (hl : s.length = 32) (w : World) : (Instr.buildSlice 34 1 #[(0, .agg (u8s s).toArray)]).run Try.prog w = .ok (.slice (some ⟨w.heap.size, 0, none⟩) 1 1) (w.alloc (row8 46 s)) := by
  obtain ⟨a0, a1, a2, a3, a4, a5, a6, a7, a8, a9, b0, b1, b2, b3, b4, b5, b6, b7, b8, b9, c0, c1, c2, c3, c4, c5, c6, c7, c8, c9, d0, d1, rfl⟩ := list32 hl
  kernel_rfl
theorem exec_build_seed {o : Oper} {a : Act} {w : World} {s : List Nat} (x : Operand) (ho : o.op = .buildSlice 34 1 #[(0, x)]) (hx : a.eval x = .agg (u8s s).toArray) (hl : s.length = 32) :
    (execOp a.eval o).run Try.prog w = .ok (.value (.slice (some ⟨w.heap.size, 0, none⟩) 1 1)) (w.alloc (row8 46 s)) := by
  unfold execOp
  simp [ho, hx, run_build_seed s hl]
theorem wpList_build_seed {ops : Array Oper} {rest : List Oper} {o : Oper} {a : Act} {w : World} {Q : Exit → Act → World → Prop} {s : List Nat} (hgd : o.guard = none) (x : Operand) (ho : o.op = .buildSlice 34 1 #[(0, x)]) (hx : a.eval x = .agg (u8s s).toArray) (hl : s.length = 32)
    (h : wpList Try.prog ops Q rest (a.put o.dst (.slice (some ⟨w.heap.size, 0, none⟩) 1 1)) (w.alloc (row8 46 s))) : wpList Try.prog ops Q (o :: rest) a w :=
  wpList_plain hgd fun K hK => by
    unfold Oper.wp
    rw [exec_build_seed x ho hx hl]
    exact hK _ _ h
theorem run_pair (s t : List Nat) (hs : s.length = 32) (ht : t.length = 32) (w : World) : (Instr.build 58 #[(0, .agg (u8s s).toArray), (1, .agg (u8s t).toArray)]).run Try.prog w = .ok (.agg (u8s (s ++ t)).toArray) w := by
  obtain ⟨a0, a1, a2, a3, a4, a5, a6, a7, a8, a9, b0, b1, b2, b3, b4, b5, b6, b7, b8, b9, c0, c1, c2, c3, c4, c5, c6, c7, c8, c9, d0, d1, rfl⟩ := list32 hs
  obtain ⟨e0, e1, e2, e3, e4, e5, e6, e7, e8, e9, f0, f1, f2, f3, f4, f5, f6, f7, f8, f9, g0, g1, g2, g3, g4, g5, g6, g7, g8, g9, h0, h1, rfl⟩ := list32 ht
  kernel_rfl
theorem run_rpair (s t : List Nat) (hs : s.length = 32) (ht : t.length = 32) (w : World) : (Instr.build 48 #[(0, .agg (u8s s).toArray), (1, .agg (u8s t).toArray)]).run Try.prog w = .ok (.agg (u8s (s ++ t)).toArray) w := by
  obtain ⟨a0, a1, a2, a3, a4, a5, a6, a7, a8, a9, b0, b1, b2, b3, b4, b5, b6, b7, b8, b9, c0, c1, c2, c3, c4, c5, c6, c7, c8, c9, d0, d1, rfl⟩ := list32 hs
  obtain ⟨e0, e1, e2, e3, e4, e5, e6, e7, e8, e9, f0, f1, f2, f3, f4, f5, f6, f7, f8, f9, g0, g1, g2, g3, g4, g5, g6, g7, g8, g9, h0, h1, rfl⟩ := list32 ht
  kernel_rfl
theorem run_build_pair (s t : List Nat) (hs : s.length = 32) (ht : t.length = 32) (w : World) : (Instr.buildSlice 28 1 #[(0, .agg (u8s (s ++ t)).toArray)]).run Try.prog w = .ok (.slice (some ⟨w.heap.size, 0, none⟩) 1 1) (w.alloc (row8 58 (s ++ t))) := by
  obtain ⟨a0, a1, a2, a3, a4, a5, a6, a7, a8, a9, b0, b1, b2, b3, b4, b5, b6, b7, b8, b9, c0, c1, c2, c3, c4, c5, c6, c7, c8, c9, d0, d1, rfl⟩ := list32 hs
  obtain ⟨e0, e1, e2, e3, e4, e5, e6, e7, e8, e9, f0, f1, f2, f3, f4, f5, f6, f7, f8, f9, g0, g1, g2, g3, g4, g5, g6, g7, g8, g9, h0, h1, rfl⟩ := list32 ht
  kernel_rfl
theorem run_build_rpair (s t : List Nat) (hs : s.length = 32) (ht : t.length = 32) (w : World) : (Instr.buildSlice 22 1 #[(0, .agg (u8s (s ++ t)).toArray)]).run Try.prog w = .ok (.slice (some ⟨w.heap.size, 0, none⟩) 1 1) (w.alloc (row8 48 (s ++ t))) := by
  obtain ⟨a0, a1, a2, a3, a4, a5, a6, a7, a8, a9, b0, b1, b2, b3, b4, b5, b6, b7, b8, b9, c0, c1, c2, c3, c4, c5, c6, c7, c8, c9, d0, d1, rfl⟩ := list32 hs
  obtain ⟨e0, e1, e2, e3, e4, e5, e6, e7, e8, e9, f0, f1, f2, f3, f4, f5, f6, f7, f8, f9, g0, g1, g2, g3, g4, g5, g6, g7, g8, g9, h0, h1, rfl⟩ := list32 ht
  kernel_rfl
theorem exec_pair {o : Oper} {tmps : Array Value} {ds : List Deferred} {w : World} {s t : List Nat} (x y : Operand) (ho : o.op = .build 58 #[(0, x), (1, y)]) (hx : Act.eval ⟨tmps, ds⟩ x = .agg (u8s s).toArray) (hy : Act.eval ⟨tmps, ds⟩ y = .agg (u8s t).toArray) (hs : s.length = 32) (ht : t.length = 32) :
    (execOp (Act.eval ⟨tmps, ds⟩) o).run Try.prog w = .ok (.value (.agg (u8s (s ++ t)).toArray)) w := by
  unfold execOp
  simp [ho, hx, hy, run_pair s t hs ht]
theorem exec_rpair {o : Oper} {tmps : Array Value} {ds : List Deferred} {w : World} {s t : List Nat} (x y : Operand) (ho : o.op = .build 48 #[(0, x), (1, y)]) (hx : Act.eval ⟨tmps, ds⟩ x = .agg (u8s s).toArray) (hy : Act.eval ⟨tmps, ds⟩ y = .agg (u8s t).toArray) (hs : s.length = 32) (ht : t.length = 32) :
    (execOp (Act.eval ⟨tmps, ds⟩) o).run Try.prog w = .ok (.value (.agg (u8s (s ++ t)).toArray)) w := by
  unfold execOp
  simp [ho, hx, hy, run_rpair s t hs ht]
theorem exec_build_pair {o : Oper} {a : Act} {w : World} {s t : List Nat} (x : Operand) (ho : o.op = .buildSlice 28 1 #[(0, x)]) (hx : a.eval x = .agg (u8s (s ++ t)).toArray) (hs : s.length = 32) (ht : t.length = 32) :
    (execOp a.eval o).run Try.prog w = .ok (.value (.slice (some ⟨w.heap.size, 0, none⟩) 1 1)) (w.alloc (row8 58 (s ++ t))) := by
  unfold execOp
  simp [ho, hx, run_build_pair s t hs ht]
theorem exec_build_rpair {o : Oper} {a : Act} {w : World} {s t : List Nat} (x : Operand) (ho : o.op = .buildSlice 22 1 #[(0, x)]) (hx : a.eval x = .agg (u8s (s ++ t)).toArray) (hs : s.length = 32) (ht : t.length = 32) :
    (execOp a.eval o).run Try.prog w = .ok (.value (.slice (some ⟨w.heap.size, 0, none⟩) 1 1)) (w.alloc (row8 48 (s ++ t))) := by
  unfold execOp
  simp [ho, hx, run_build_rpair s t hs ht]
/- both seeds of each transfer -/
def pr (z o : Nat → List Nat) (i : Nat) : List Nat := if i % 2 = 0 then z (i / 2) else o (i / 2)
theorem pr_0 (z o : Nat → List Nat) (j : Nat) : pr z o (2 * j) = z j := by rw [pr, if_pos (by omega), show 2 * j / 2 = j by omega]
theorem pr_1 (z o : Nat → List Nat) (j : Nat) : pr z o (2 * j + 1) = o j := by rw [pr, if_neg (by omega), show (2 * j + 1) / 2 = j by omega]
theorem flt_two (f : Nat → List Nat) (k : Nat) : flt f (2 * (k + 1)) = flt f (2 * k) ++ (f (2 * k) ++ f (2 * k + 1)) := by
  rw [show 2 * (k + 1) = 2 * k + 1 + 1 by omega, flt, flt, List.append_assoc]
theorem pr_good {z o : Nat → List Nat} (hz : ∀ j, (z j).length = 32 ∧ Lt 256 (z j)) (ho : ∀ j, (o j).length = 32 ∧ Lt 256 (o j)) (j : Nat) : (pr z o j).length = 32 ∧ Lt 256 (pr z o j) := by
  unfold pr
  split
  · exact hz _
  · exact ho _
end Go.Proofs.Ytdmodknjcdkocaa.Ro
