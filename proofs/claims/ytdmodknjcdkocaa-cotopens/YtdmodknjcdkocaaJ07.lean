/- The document's Back. Pure: the document's Block in other words; a relation of worlds; rows of bytes of the call's own as texts. Pure: streams of blocks. -/
import Derived.Test.YtdmodknjcdkocaaJ06
import Derived.Deep.AppendLies
import Derived.Test.YtdmodknjcdkocaaJ05
namespace Go.Proofs.Ytdmodknjcdkocaa.Pg
open Go.RowKit
set_option maxRecDepth 100000
attribute [local go_sem] not_any

/- a row of words of the call's own, with some room behind it -/
def Mn (w : World) (g : Nat) (l : List Nat) : Prop := ∃ cur : Array Value, w.heap[g]? = some (.cells cur 72 (0, 0)) ∧ cur.toList.take l.length = u32s l
theorem mn_row {w : World} {g : Nat} {l : List Nat} (h : w.heap[g]? = some (row32 72 l)) : Mn w g l := ⟨_, h, by rw [← u32s_length l]; exact List.take_length⟩
theorem mn_get {l : List Nat} {cur : Array Value} (h2 : cur.toList.take l.length = u32s l) {j : Nat} (hj : j < l.length) : cur[j]? = some (.int .u32 (at0 l j : Nat)) := by
  have e : (cur.toList.take l.length)[j]? = (u32s l)[j]? := by rw [h2]
  rw [List.getElem?_take_of_lt hj] at e
  rw [← Array.getElem?_toList, e, u32s, List.getElem?_map, get_at0 hj]
  rfl
theorem Mn.cell {w : World} {g : Nat} {l : List Nat} (h : Mn w g l) {j : Nat} (hj : j < l.length) : w.cell? ⟨g, j, none⟩ = some (.int .u32 (at0 l j : Nat)) := by
  obtain ⟨cur, h1, h2⟩ := h
  rw [cell_of_row w g j cur 72 (0, 0) h1]
  exact mn_get h2 hj
theorem Mn.frozen {w : World} {g : Nat} {l : List Nat} (h : Mn w g l) (j : Nat) : w.frozen? ⟨g, j, none⟩ = false := by
  obtain ⟨cur, h1, h2⟩ := h
  exact frozen_of_row w g j cur 72 h1
theorem Mn.set {w : World} {g : Nat} {l : List Nat} (h : Mn w g l) (j x : Nat) : Mn (w.setCell ⟨g, j, none⟩ (.int .u32 (x : Int))) g (l.set j x) := by
  obtain ⟨cur, h1, h2⟩ := h
  refine ⟨_, heap_setCell_same w g j cur 72 _ h1, ?_⟩
  rw [List.length_set, Array.toList_setIfInBounds, List.take_set, h2]
  simp [u32s]
theorem Mn.to {w w' : World} {g : Nat} {l : List Nat} (h : Mn w g l) (hb : w'.heap[g]? = w.heap[g]?) : Mn w' g l := by
  obtain ⟨cur, h1, h2⟩ := h
  exact ⟨cur, hb.trans h1, h2⟩
theorem Mn.lt {w : World} {g : Nat} {l : List Nat} (h : Mn w g l) : g < w.heap.size := by
  obtain ⟨cur, h1, h2⟩ := h
  exact lt_heap h1
theorem mn_own {base : Nat} {w : World} {g n cap : Nat} {l : List Nat} (hn : l.length = n) (h : w.ownsRow base 72 1 (.slice (some ⟨g, 0, none⟩) n cap) n (u32s l)) : base ≤ g ∧ Mn w g l := by
  rcases h.2 with ⟨h1, _⟩ | ⟨g', cap', cur, h1, h2, h3, _, _, _, h4⟩
  · cases h1
  · cases h1
    refine ⟨h2, cur, h3, ?_⟩
    rw [hn, ← h4, Nat.mul_one]

theorem info_of {P : Program} {t : TypeId} {z : Value} {s b : Nat} (h : (P.info? t).map (fun i => (i.zero, i.size, i.bytes)) = some (some z, s, b)) : ∃ i, P.info? t = some i ∧ i.zero = some z ∧ i.size = s ∧ i.bytes = b := by
  cases hq : P.info? t with
  | none => simp [hq] at h
  | some i =>
    simp [hq] at h
    exact ⟨i, rfl, h.1, h.2.1, h.2.2⟩
theorem info22 : (Try.prog.info? 72).map (fun i => (i.zero, i.size, i.bytes)) = some (some (.int .u32 0), 1, 4) := by kernel_rfl
theorem own_empty (w : World) (base : Nat) (hb : base ≤ w.heap.size) : (w.alloc (.cells #[] 72)).ownsRow base 72 1 (.slice (some ⟨w.heap.size, 0, none⟩) 0 0) 0 (u32s []) :=
  ⟨rfl, .inr ⟨w.heap.size, 0, #[], rfl, hb, heap_alloc_new _ _, Nat.le_refl _, by unfold maxLen; omega, rfl, rfl⟩⟩

end Go.Proofs.Ytdmodknjcdkocaa.Pg

namespace Go.Proofs.Ytdmodknjcdkocaa.Pg
open Go.RowKit
set_option maxRecDepth 100000

/- the words laid one by one -/
def gP (kl : List Nat) (k : Nat) : List Nat := FOUR ++ (List.range k).map (fun i => leW kl (4 * i))
theorem gP_length (kl : List Nat) (k : Nat) : (gP kl k).length = 4 + k := by simp [gP, FOUR]; omega
theorem gP_succ (kl : List Nat) (k : Nat) : gP kl (k + 1) = gP kl k ++ [leW kl (4 * k)] := by simp [gP, List.range_succ]
theorem gP_all (kl n : List Nat) (c : Nat) : gP kl 8 ++ [c, leW n 0, leW n 4, leW n 8] = layP kl n c := rfl

def setN (l ps q : List Nat) : Nat → List Nat
  | 0 => l
  | j + 1 => (setN l ps q j).set (at0 ps j) (at0 q j)
theorem setN_length (l ps q : List Nat) : ∀ j, (setN l ps q j).length = l.length
  | 0 => rfl
  | j + 1 => by rw [setN, List.length_set, setN_length l ps q j]
theorem turnP_setN (l : List Nat) (a b c d : Nat) : setN l [a, b, c, d] (qP (at0 l a) (at0 l b) (at0 l c) (at0 l d)) 4 = turnP l a b c d := rfl

/- the bytes of words, one behind the other -/
def bytesLE (x : Nat) : List Nat := [x % 256, x / 256 % 256, x / 65536 % 256, x / 16777216 % 256]
def outR (l : List Nat) : Nat → List Nat
  | 0 => []
  | k + 1 => outR l k ++ bytesLE (sumW l k)
theorem outR_length (l : List Nat) : ∀ k, (outR l k).length = 4 * k
  | 0 => rfl
  | k + 1 => by rw [outR, List.length_append, outR_length l k]; simp [bytesLE]; omega
theorem setB_app (A Z : List Nat) (a b c d x n : Nat) (hn : A.length = n) : setB (A ++ a :: b :: c :: d :: Z) n x 4 = A ++ bytesLE x ++ Z := by
  subst hn
  simp only [setB]
  rw [List.set_append_right _ _ (by omega), Nat.add_zero, Nat.sub_self, List.set_cons_zero]
  rw [List.set_append_right _ _ (by omega), Nat.add_sub_cancel_left, List.set_cons_succ, List.set_cons_zero]
  rw [List.set_append_right _ _ (by omega), Nat.add_sub_cancel_left, List.set_cons_succ, List.set_cons_succ, List.set_cons_zero]
  rw [List.set_append_right _ _ (by omega), Nat.add_sub_cancel_left, List.set_cons_succ, List.set_cons_succ, List.set_cons_succ, List.set_cons_zero]
  simp [bytesLE]
theorem blkT_outR (l : List Nat) : ∀ k, k ≤ 16 → blkT l k = outR l k ++ zeros (64 - 4 * k)
  | 0, _ => rfl
  | k + 1, h => by
    rw [blkT, blkT_outR l k (by omega), show 64 - 4 * k = (64 - 4 * (k + 1)) + 1 + 1 + 1 + 1 by omega, outR]
    simp only [zeros, List.replicate_succ]
    rw [setB_app _ _ _ _ _ _ _ _ (outR_length l k)]
theorem blkP_outR (l : List Nat) : blkP l = outR l 16 := by
  rw [blkP, blkT_outR l 16 (Nat.le_refl _)]
  simp [zeros]

/- all but one row is kept -/
structure But (b : Nat) (w w' : World) : Prop where
  os : w'.os = w.os
  tape : w'.tape = w.tape
  output : w'.output = w.output
  size : w.heap.size ≤ w'.heap.size
  block : ∀ k, k < w.heap.size → k ≠ b → w'.heap[k]? = w.heap[k]?
theorem But.refl (b : Nat) (w : World) : But b w w := ⟨rfl, rfl, rfl, Nat.le_refl _, fun _ _ _ => rfl⟩
theorem But.trans {b : Nat} {w1 w2 w3 : World} (h : But b w1 w2) (k : But b w2 w3) : But b w1 w3 :=
  ⟨k.os.trans h.os, k.tape.trans h.tape, k.output.trans h.output, Nat.le_trans h.size k.size, fun i hi hb => (k.block i (Nat.lt_of_lt_of_le hi h.size) hb).trans (h.block i hi hb)⟩
theorem But.set (b o : Nat) (w : World) (v : Value) : But b w (w.setCell ⟨b, o, none⟩ v) := by
  have h := (Below.refl b w).setCell (p := ⟨b, o, none⟩) (Nat.le_refl _) v
  exact ⟨h.1, h.2, h.3, h.4, fun k _ hb => heap_setCell_other w _ k v hb⟩
theorem But.drew {b : Nat} {w w' : World} (h : But b w w') : But b w w'.drew := ⟨h.1, h.2, h.3, h.4, h.5⟩
theorem But.below {b B : Nat} {w0 w w' : World} (h : But b w w') (hb : Below B w0 w) (hB : B ≤ b) (hs : B ≤ w.heap.size) : Below B w0 w' :=
  hb.trans ⟨h.os, h.tape, h.output, h.size, fun k hk => h.block k (by omega) (by omega)⟩

/- a row of bytes of the call's own, as a text -/
theorem conv_own {base n cap g : Nat} {w : World} {l : List Nat} (hn : l.length = n) (h : w.ownsRow base 5 1 (.slice (some ⟨g, 0, none⟩) n cap) n (u8s l)) :
    (convert 88 9 (.slice (some ⟨g, 0, none⟩) n cap)).run Try.prog w = .ok (.string (txt l)) w := by
  rw [run_convert_bytes_string w 88 9 5 _ _ _ Try.underlying88 Try.underlying5 Try.underlying9]
  have hl := run_loadCells_list (P := Try.prog) w ⟨g, 0, none⟩ (u8s l) (h.cells (g := g) rfl)
  rw [u8s_length, hn] at hl
  have e : u8s l = (l.map (fun n : Nat => (n : Int))).map (Value.int .u8) := by simp [u8s]
  rw [e] at hl
  exact run_bytesToString w _ _ _ _ hl
theorem info5 : (Try.prog.info? 5).map (fun i => (i.zero, i.size, i.bytes)) = some (some (.int .u8 0), 1, 1) := by kernel_rfl
theorem ints3 (w : World) (g : Nat) (a b c d : Nat) (h : w.heap[g]? = some (.cells #[.int .i64 (a : Int), .int .i64 (b : Int), .int .i64 (c : Int), .int .i64 (d : Int)] 3 (0, 0))) (j : Nat) (hj : j < 4) :
    w.cell? ⟨g, j, none⟩ = some (.int .i64 (at0 [a, b, c, d] j : Nat)) := by
  rw [cell_of_row w g j _ 3 (0, 0) h]
  match j, hj with
  | 0, _ => rfl
  | 1, _ => rfl
  | 2, _ => rfl
  | 3, _ => rfl
end Go.Proofs.Ytdmodknjcdkocaa.Pg

namespace Go.Proofs.Ytdmodknjcdkocaa.Pg
open Go.RowKit

def strT (kl n : List Nat) (c : Nat) : Nat → List Nat
  | 0 => []
  | k + 1 => strT kl n c k ++ blockP kl n (c + k)
theorem strT_length (kl n : List Nat) (c : Nat) : ∀ k, (strT kl n c k).length = 64 * k
  | 0 => rfl
  | k + 1 => by rw [strT, List.length_append, strT_length kl n c k, blockP_length]; omega
theorem strT_lt (kl n : List Nat) (c : Nat) : ∀ k, Lt 256 (strT kl n c k)
  | 0 => lt_nil
  | k + 1 => by
    rw [strT]
    exact (strT_lt kl n c k).app (blockP_lt _ _ _)
/- a stream goes on -/
theorem strT_add (kl n : List Nat) (c j : Nat) : ∀ k, strT kl n c (j + k) = strT kl n c j ++ strT kl n (c + j) k
  | 0 => by rw [Nat.add_zero, strT, List.append_nil]
  | k + 1 => by rw [← Nat.add_assoc, strT, strT_add kl n c j k, strT, List.append_assoc, Nat.add_assoc]
theorem strT_take {kl n : List Nat} {c N k : Nat} : ∀ j, N ≤ 64 * k → (strT kl n c (k + j)).take N = (strT kl n c k).take N := by
  intro j h
  rw [strT_add, List.take_append_of_le_length (by rw [strT_length]; exact h)]

def need (N : Nat) : Nat := (N + 63) / 64
def streamP (kl n : List Nat) (c N : Nat) : List Nat := (strT kl n c (need N)).take N
theorem streamP_length (kl n : List Nat) (c N : Nat) : (streamP kl n c N).length = N := by
  rw [streamP, List.length_take, strT_length, need]
  omega
theorem streamP_lt (kl n : List Nat) (c N : Nat) : Lt 256 (streamP kl n c N) := (strT_lt _ _ _ _).take _
theorem need_le {N k : Nat} (h : N ≤ 64 * k) : need N ≤ k := by unfold need; omega
theorem streamP_of {kl n : List Nat} {c N k : Nat} (h : N ≤ 64 * k) : (strT kl n c k).take N = streamP kl n c N := by
  obtain ⟨j, rfl⟩ : ∃ j, k = need N + j := ⟨k - need N, by have := need_le h; omega⟩
  exact strT_take j (by unfold need; omega)
theorem streamP_on (kl n : List Nat) (c k m : Nat) : (streamP kl n c (64 * k + m)).drop (64 * k) = streamP kl n (c + k) m := by
  rw [← streamP_of (k := k + need m) (by unfold need; omega), strT_add, List.drop_take, List.drop_left' (strT_length _ _ _ _), Nat.add_sub_cancel_left, streamP]

/- the row behind k blocks -/
def stm (kl n : List Nat) (c N k : Nat) : List Nat := (strT kl n c k).take N ++ zeros (N - 64 * k)
theorem stm_length (kl n : List Nat) (c N k : Nat) : (stm kl n c N k).length = N := by
  rw [stm, List.length_append, List.length_take, strT_length, zeros_length]
  omega
theorem stm_end {kl n : List Nat} {c N k : Nat} (h : N ≤ 64 * k) : stm kl n c N k = streamP kl n c N := by
  rw [stm, show N - 64 * k = 0 by omega, streamP_of h]
  simp [zeros]
theorem stm_zero (kl n : List Nat) (c N : Nat) : stm kl n c N 0 = zeros N := by simp [stm, strT]
theorem u8s_app (a b : List Nat) : u8s (a ++ b) = u8s a ++ u8s b := by simp [u8s]
theorem stm_splice {kl n : List Nat} {c N k : Nat} (h : 64 * k < N) :
    splice (u8s (stm kl n c N k)) (64 * k) (u8s ((blockP kl n (c + k)).take (min 64 (N - 64 * k)))) = u8s (stm kl n c N (k + 1)) := by
  have e1 := strT_length kl n c k
  have e2 := blockP_length kl n (c + k)
  rw [splice, u8s_length, List.length_take, e2]
  unfold stm
  rw [List.take_of_length_le (show (strT kl n c k).length ≤ N by omega), strT]
  generalize strT kl n c k = A at *
  generalize blockP kl n (c + k) = Bk at *
  rw [u8s_app, List.take_append_of_le_length (by rw [u8s_length]; omega), List.take_of_length_le (by rw [u8s_length]; omega)]
  rw [List.take_append, List.take_of_length_le (show A.length ≤ N by omega), u8s_app, u8s_app, List.append_assoc, e1]
  congr 1
  rw [List.drop_append, List.drop_eq_nil_of_le (by rw [u8s_length]; omega), List.nil_append, u8s_length, e1]
  by_cases h64 : 64 ≤ N - 64 * k
  · rw [Nat.min_eq_left h64, Nat.min_self, List.take_of_length_le (show Bk.length ≤ 64 by omega), List.take_of_length_le (show Bk.length ≤ N - 64 * k by omega)]
    congr 1
    unfold zeros u8s
    rw [← List.map_drop, List.drop_replicate]
    congr 2
    omega
  · rw [Nat.min_eq_right (by omega), Nat.min_eq_left (by omega)]
    congr 1
    unfold zeros u8s
    rw [← List.map_drop, List.drop_replicate]
    congr 2
    omega

theorem lay_set (kl n : List Nat) (c d : Nat) : (layP kl n c).set 12 d = layP kl n d := by
  rw [← gP_all, ← gP_all, List.set_append_right _ _ (by rw [gP_length]; omega), gP_length]
  rfl
theorem lay_at (kl n : List Nat) (c : Nat) : at0 (layP kl n c) 12 = c := by
  rw [← gP_all, at0_append_right (by rw [gP_length]; omega), gP_length]
  rfl
end Go.Proofs.Ytdmodknjcdkocaa.Pg
