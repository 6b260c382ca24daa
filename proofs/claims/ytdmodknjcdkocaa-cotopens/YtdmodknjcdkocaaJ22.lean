/- Seeds in memory; delta and chosen. Lists of seeds in memory. What the texts on seeds begin with. The walk of PrgChild. -/
import Derived.Test.YtdmodknjcdkocaaJ20
import Derived.Test.YtdmodknjcdkocaaJ21
import Derived.Deep.MidRow
import Derived.Test.YtdmodknjcdkocaaJ12
import Derived.Stop.BytesEq
namespace Go.Proofs.Ytdmodknjcdkocaa
open Go.RowKit Pg
set_option maxRecDepth 100000
attribute [local go_sem] not_any

theorem hi23 {l : List Nat} (h : l.length = 32) : (Try.prog.info? 46).map (·.size) = some (u8s l).toArray.size := by rw [show (u8s l).toArray.size = 32 by simp [u8s, h]]; kernel_rfl
theorem hi23' {l : List Nat} (h : l.length = 32) : (Try.prog.info? 46).map (·.size) = some (u8s l).length := by rw [show (u8s l).length = 32 by simp [u8s, h]]; kernel_rfl
theorem splice2 (p q x y : Value) : splice [p, q] 0 [x, y] = [x, y] := rfl

theorem words2 (kl : List Nat) (w : World) (hk : kl.length = 32) (bk : Lt 256 kl) : Calls Try.prog 39 #[.agg (u8s kl).toArray, .int .u32 9, .int .i64 0, .int .i64 2] w (WPost w [wd kl 9 0, wd kl 9 1] 0) := by
  have ew : wrd kl 9 0 2 = [wd kl 9 0, wd kl 9 1] := by simp [wrd, List.range_succ]
  rw [← ew]
  exact words_yes kl 9 0 2 w hk bk (by omega) (by omega) (by omega)
end Go.Proofs.Ytdmodknjcdkocaa

namespace Go.Proofs.Ytdmodknjcdkocaa
open Go.RowKit Pg
set_option maxRecDepth 100000

/- seeds, one behind the other -/
def flt (f : Nat → List Nat) : Nat → List Nat
  | 0 => []
  | k + 1 => flt f k ++ f k
theorem flt_length {f : Nat → List Nat} (h : ∀ i, (f i).length = 32) : ∀ n, (flt f n).length = n * 32
  | 0 => rfl
  | n + 1 => by rw [flt, List.length_append, flt_length h n, h]; omega
theorem flt_congr {f g : Nat → List Nat} : ∀ {n : Nat}, (∀ i, i < n → f i = g i) → flt f n = flt g n
  | 0, _ => rfl
  | n + 1, h => by rw [flt, flt, flt_congr (fun i hi => h i (by omega)), h n (by omega)]
theorem flt_get {f : Nat → List Nat} (h : ∀ i, (f i).length = 32) : ∀ {n i j : Nat}, i < n → j < 32 → (flt f n)[i * 32 + j]? = (f i)[j]?
  | 0, _, _, hi, _ => by omega
  | n + 1, i, j, hi, hj => by
    have hl := flt_length h n
    by_cases h1 : i < n
    · rw [flt, List.getElem?_append_left (by rw [hl]; omega), flt_get h h1 hj]
    · obtain rfl : i = n := by omega
      rw [flt, List.getElem?_append_right (by rw [hl]; omega), hl, Nat.add_sub_cancel_left]
theorem flt_upd {f : Nat → List Nat} (s : List Nat) {i : Nat} : ∀ {n : Nat}, i < n → ∃ R, flt f n = flt f i ++ (f i ++ R) ∧ flt (upd f i s) n = flt f i ++ (s ++ R)
  | 0, h => by omega
  | n + 1, h => by
    by_cases h1 : i < n
    · obtain ⟨R, e1, e2⟩ := flt_upd s h1
      refine ⟨R ++ f n, by rw [flt, e1]; simp, ?_⟩
      rw [flt, e2, upd_ne (show n ≠ i by omega)]
      simp
    · obtain rfl : i = n := by omega
      refine ⟨[], by rw [flt, List.append_nil], ?_⟩
      rw [flt, upd_at, List.append_nil, flt_congr (fun j hj => upd_ne (show j ≠ i by omega))]

def srow (f : Nat → List Nat) (n : Nat) : Obj := row8 46 (flt f n)

/- cells set in the midst of a row -/
def setL : List Value → Nat → List Value → List Value
  | L, _, [] => L
  | L, o, v :: r => setL (L.set o v) (o + 1) r
theorem setCells_row {g : Nat} {t : TypeId} : ∀ (vs : List Value) (o : Nat) (w : World) (L : List Value), w.heap[g]? = some (.cells L.toArray t (0, 0)) → (w.setCells g o vs).heap[g]? = some (.cells (setL L o vs).toArray t (0, 0))
  | [], _, _, _, h => h
  | v :: r, o, w, L, h => setCells_row r (o + 1) _ _ (by rw [heap_setCell_same w g o _ _ _ h, List.setIfInBounds_toArray])
theorem setL_mid : ∀ (vs A B C : List Value), B.length = vs.length → setL (A ++ (B ++ C)) A.length vs = A ++ (vs ++ C)
  | [], A, B, C, h => by
    obtain rfl : B = [] := List.length_eq_zero_iff.1 h
    rfl
  | v :: r, A, b :: B, C, h => by
    have e1 : (A ++ (b :: B ++ C)).set A.length v = (A ++ [v]) ++ (B ++ C) := by
      rw [List.set_append_right _ _ (Nat.le_refl _), Nat.sub_self]
      simp
    have e2 : A.length + 1 = (A ++ [v]).length := by simp
    unfold setL
    rw [e1, e2, setL_mid r (A ++ [v]) B C (by simpa using h)]
    simp
theorem setCells_other {g k : Nat} (h : k ≠ g) : ∀ (vs : List Value) (o : Nat) (w : World), (w.setCells g o vs).heap[k]? = w.heap[k]?
  | [], _, _ => rfl
  | v :: r, o, w => (setCells_other h r (o + 1) _).trans (heap_setCell_other w ⟨g, o, none⟩ k v h)
theorem below_setCells {B g : Nat} {w0 : World} (hBg : B ≤ g) : ∀ (vs : List Value) (o : Nat) (w : World), Below B w0 w → Below B w0 (w.setCells g o vs)
  | [], _, _, h => h
  | v :: r, o, _, h => below_setCells hBg r (o + 1) _ (h.setCell hBg v)

theorem srow_range {w : World} {g n i : Nat} {f : Nat → List Nat} (hf : ∀ i, (f i).length = 32) (h : w.heap[g]? = some (srow f n)) (hi : i < n) : w.rangeAt g (i * 32) (u8s (f i)) := fun j v hv => by
  have hj : j < 32 := by have := (List.getElem?_eq_some_iff.1 hv).1; rwa [u8s_length, hf] at this
  rw [cell_of_row w g _ _ _ _ h]
  simp only [List.getElem?_toArray]
  unfold u8s at hv ⊢
  rw [List.getElem?_map] at hv ⊢
  rw [flt_get hf hi hj]
  exact hv
theorem srow_there {w : World} {g n i : Nat} {f : Nat → List Nat} (hf : ∀ i, (f i).length = 32) (h : w.heap[g]? = some (srow f n)) (hi : i < n) : w.there g (i * 32) 32 := fun j hj => by
  refine ⟨?_, frozen_of_row w g _ _ _ h⟩
  have := srow_range hf h hi j
  rw [show (u8s (f i))[j]? = some ((u8s (f i))[j]'(by rw [u8s_length, hf]; exact hj)) from List.getElem?_eq_getElem _] at this
  rw [this _ rfl]
  rfl
theorem srow_set {w : World} {g n i : Nat} {f : Nat → List Nat} (hf : ∀ i, (f i).length = 32) (h : w.heap[g]? = some (srow f n)) (hi : i < n) {s : List Nat} (hs : s.length = 32) :
    (w.setCells g (i * 32) (u8s s)).heap[g]? = some (srow (upd f i s) n) := by
  rw [setCells_row _ _ _ _ h]
  obtain ⟨R, e1, e2⟩ := flt_upd s hi (f := f)
  have hl : (u8s (flt f i)).length = i * 32 := by rw [u8s_length, flt_length hf]
  have := setL_mid (u8s s) (u8s (flt f i)) (u8s (f i)) (u8s R) (by rw [u8s_length, u8s_length, hf, hs])
  rw [hl] at this
  unfold srow row8
  rw [e1, e2, u8s_append, u8s_append, u8s_append, u8s_append, this]

/- seeds that are read -/
structure Sds (w : World) (v : Value) (f : Nat → List Nat) (n : Nat) : Prop where
  at' : ∃ g c, v = .slice (some ⟨g, 0, none⟩) n c ∧ g < w.heap.size ∧ ∀ i, i < n → w.rangeAt g (i * 32) (u8s (f i))
theorem Sds.below {w w' : World} {v : Value} {f : Nat → List Nat} {n B : Nat} (h : Sds w v f n) (hb : Below B w w') (hB : w.heap.size ≤ B) : Sds w' v f n := by
  obtain ⟨g, c, e, hg, hr⟩ := h.at'
  exact ⟨g, c, e, Nat.lt_of_lt_of_le hg hb.size, fun i hi j u hu => (hb.cell (p := ⟨g, i * 32 + j, none⟩) (by simp; omega)).trans (hr i hi j u hu)⟩
theorem sds_row {w : World} {g n c : Nat} {f : Nat → List Nat} (hf : ∀ i, (f i).length = 32) (h : w.heap[g]? = some (srow f n)) : Sds w (.slice (some ⟨g, 0, none⟩) n c) f n := ⟨g, c, rfl, lt_heap h, fun _ hi => srow_range hf h hi⟩

theorem exec_load_mid {P : Program} {o : Oper} {tmps : Array Value} {ds : List Deferred} {w : World} (ty : TypeId) (x : Operand) (ho : o.op = .load ty x)
    (g p : Nat) (hx : Act.eval ⟨tmps, ds⟩ x = .pointer (some ⟨g, p, none⟩)) (cs : List Value) (d : TypeDesc) (hg : w.rangeAt g p cs)
    (hu : P.underlying ty = some d) (hd : d.isRow = true) (hi : (P.info? ty).map (·.size) = some cs.length) : (execOp (Act.eval ⟨tmps, ds⟩) o).run P w = .ok (.value (.agg cs.toArray)) w := by
  unfold execOp
  simp only [ho, hx, Instr.loadAt, Instr.sureAddr, Sem.run_bind, Sem.run_pure, Result.andThen_ok, run_loadVar_mid w g p ty cs d hg hu hd hi]
/- a struct's load -/
theorem exec_load_box {P : Program} {o : Oper} {tmps : Array Value} {ds : List Deferred} {w : World} (ty : TypeId) (x : Operand) (ho : o.op = .load ty x)
    (g : Nat) (hx : Act.eval ⟨tmps, ds⟩ x = .pointer (some ⟨g, 0, none⟩)) (t : TypeId) (cs : Array Value) (d : TypeDesc) (hg : w.heap[g]? = some (.cells cs t (0, 0)))
    (hu : P.underlying ty = some d) (hd : (match d with | .struct _ | .array _ _ => true | _ => false) = true) (hi : (P.info? ty).map (·.size) = some cs.size) : (execOp (Act.eval ⟨tmps, ds⟩) o).run P w = .ok (.value (.agg cs)) w := by
  unfold execOp
  simp only [ho, hx, Instr.loadAt, Instr.sureAddr, Sem.run_bind, Sem.run_pure, Result.andThen_ok, run_loadVar_row w g t ty cs (0, 0) d hg hu hd hi]

theorem mc {n : Nat} (hn : 0 < n) (m : Nat) : madeCells (u8s (zeros n)).toArray m = (u8s (zeros m)).toArray := by
  apply Array.ext
  · simp [madeCells, u8s, zeros]
  · intro j h1 h2
    have := Nat.mod_lt j hn
    simp [madeCells, u8s, zeros, this]
theorem make_seeds (m : Nat) (hm : m ≤ 4096) (w : World) : (Instr.makeSlice 34 (.int .i64 (m : Int)) (.int .i64 (m : Int))).run Try.prog w = .ok (.slice (some ⟨w.heap.size, 0, none⟩) m m) (w.alloc (srow (fun _ => zeros 32) m)) := by
  have hi : (Try.prog.info? 46).map (fun i => (i.zero, i.size, i.bytes)) = some (some (arr8 (zeros 32)), 32, 32) := by kernel_rfl
  obtain ⟨i0, hi, hz0, hz1, hz2⟩ := info_of hi
  have h := run_make (P := Try.prog) w 34 46 i0 _ Try.underlying34 hi hz0 .i64 .i64 (m : Int) (m : Int) (by omega) (by omega) (by rw [hz2]; omega) (by omega)
  rw [h, hz1]
  have hf : ∀ n, flt (fun _ => zeros 32) n = zeros (n * 32) := by
    intro n
    induction n with
    | zero => rfl
    | succ n ih => rw [flt, ih, zeros, zeros, zeros, List.replicate_append_replicate, Nat.succ_mul]
  have e : madeCells (arr8 (zeros 32)).cells ((m : Int).toNat * 32) = (u8s (zeros (m * 32))).toArray := mc (by omega) _
  rw [e]
  unfold srow row8
  rw [hf]
  rfl
end Go.Proofs.Ytdmodknjcdkocaa

namespace Go.Proofs.Ytdmodknjcdkocaa.Ro
open Go.RowKit Pg
set_option maxRecDepth 100000
theorem hide1 {p : Prop} (h : p) : Hid p := h
end Go.Proofs.Ytdmodknjcdkocaa.Ro

namespace Go.Proofs.Ytdmodknjcdkocaa.Pg
open Go.RowKit
set_option maxRecDepth 100000
attribute [local go_sem] not_any

theorem u8s_cells {l : List Nat} (h : Lt 256 l) : u8s l = (l.map UInt8.ofNat).map Extern.Stop.cell := by
  unfold u8s
  rw [List.map_map]
  apply List.map_congr_left
  intro x hx
  have := h x hx
  simp [Extern.Stop.cell, Nat.mod_eq_of_lt this]
theorem eq_seed {l : List Nat} (hl : l.length = 32) (ht : Lt 256 l) (w : World) :
    (Op.equalIn 10000 46 (.agg (u8s l).toArray) (.agg (u8s l).toArray)).run Try.prog w = .ok true w := by
  rw [u8s_cells ht, run_equalIn_bytes w 9998 46 5 32 Try.underlying46 Try.underlying5 (fun w => by kernel_rfl) _ _ (by rw [List.length_map, hl]) (by rw [List.length_map, hl])]
  simp
theorem childP_lt (kl : List Nat) (y : Nat) : Lt 256 (childP kl y) := by
  rw [childP]
  exact (blockP_lt _ _ _).take _
theorem guard23 : Try.prog.eqGuardType Try.prog.depth 46 = false := by kernel_rfl

theorem exec_eql_seed {o : Oper} {tmps : Array Value} {ds : List Deferred} {w : World} {l : List Nat} (x y : Operand) (t : TypeId) (ho : o.op = .binOp .eql 46 x y t) (hx : Act.eval ⟨tmps, ds⟩ x = .agg (u8s l).toArray) (hy : Act.eval ⟨tmps, ds⟩ y = .agg (u8s l).toArray)
    (h2 : (Op.equalIn 10000 46 (.agg (u8s l).toArray) (.agg (u8s l).toArray)).run Try.prog w = .ok true w) : (execOp (Act.eval ⟨tmps, ds⟩) o).run Try.prog w = .ok (.value (.bool true)) w := by
  have h1 := guard23
  unfold execOp
  simp only [ho, hx, hy]
  go_simp

end Go.Proofs.Ytdmodknjcdkocaa.Pg
