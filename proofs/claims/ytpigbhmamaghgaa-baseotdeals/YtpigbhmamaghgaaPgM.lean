/- Pure: the document's Block in other words; a relation of worlds; rows of bytes of the call's own as texts. -/
import Derived.Test.YtpigbhmamaghgaaPgL
import Derived.Test.YtpigbhmamaghgaaPgD
namespace Go.Proofs.Ytpigbhmamaghgaa.Pg
open Go.RowKit
set_option maxRecDepth 100000

/- the words laid one by one -/
def gP (kl : List Nat) (k : Nat) : List Nat := FOUR ++ (List.range k).map (fun i => leW kl (4 * i))
theorem gP_length (kl : List Nat) (k : Nat) : (gP kl k).length = 4 + k := by simp [gP, FOUR]; omega
theorem gP_succ (kl : List Nat) (k : Nat) : gP kl (k + 1) = gP kl k ++ [leW kl (4 * k)] := by simp [gP, List.range_succ]
theorem gP_all (kl n : List Nat) (c : Nat) : gP kl 8 ++ [c, leW n 0, leW n 4, leW n 8] = layP kl n c := rfl

def setN (l ps q : List Nat) : Nat → List Nat
  | 0 => l
  | j + 1 => (setN l ps q j).set (at0 ps j) (at0 q j)
theorem setN_length (l ps q : List Nat) : ∀ j, (setN l ps q j).length = l.length
  | 0 => rfl
  | j + 1 => by rw [setN, List.length_set, setN_length l ps q j]
theorem turnP_setN (l : List Nat) (a b c d : Nat) : setN l [a, b, c, d] (qP (at0 l a) (at0 l b) (at0 l c) (at0 l d)) 4 = turnP l a b c d := rfl

/- the bytes of words, one behind the other -/
def bytesLE (x : Nat) : List Nat := [x % 256, x / 256 % 256, x / 65536 % 256, x / 16777216 % 256]
def outR (l : List Nat) : Nat → List Nat
  | 0 => []
  | k + 1 => outR l k ++ bytesLE (sumW l k)
theorem outR_length (l : List Nat) : ∀ k, (outR l k).length = 4 * k
  | 0 => rfl
  | k + 1 => by rw [outR, List.length_append, outR_length l k]; simp [bytesLE]; omega
theorem setB_app (A Z : List Nat) (a b c d x n : Nat) (hn : A.length = n) : setB (A ++ a :: b :: c :: d :: Z) n x 4 = A ++ bytesLE x ++ Z := by
  subst hn
  simp only [setB]
  rw [List.set_append_right _ _ (by omega), Nat.add_zero, Nat.sub_self, List.set_cons_zero]
  rw [List.set_append_right _ _ (by omega), Nat.add_sub_cancel_left, List.set_cons_succ, List.set_cons_zero]
  rw [List.set_append_right _ _ (by omega), Nat.add_sub_cancel_left, List.set_cons_succ, List.set_cons_succ, List.set_cons_zero]
  rw [List.set_append_right _ _ (by omega), Nat.add_sub_cancel_left, List.set_cons_succ, List.set_cons_succ, List.set_cons_succ, List.set_cons_zero]
  simp [bytesLE]
theorem blkT_outR (l : List Nat) : ∀ k, k ≤ 16 → blkT l k = outR l k ++ zeros (64 - 4 * k)
  | 0, _ => rfl
  | k + 1, h => by
    rw [blkT, blkT_outR l k (by omega), show 64 - 4 * k = (64 - 4 * (k + 1)) + 1 + 1 + 1 + 1 by omega, outR]
    simp only [zeros, List.replicate_succ]
    rw [setB_app _ _ _ _ _ _ _ _ (outR_length l k)]
theorem blkP_outR (l : List Nat) : blkP l = outR l 16 := by
  rw [blkP, blkT_outR l 16 (Nat.le_refl _)]
  simp [zeros]

/- all but one row is kept -/
structure But (b : Nat) (w w' : World) : Prop where
  os : w'.os = w.os
  tape : w'.tape = w.tape
  output : w'.output = w.output
  size : w.heap.size ≤ w'.heap.size
  block : ∀ k, k < w.heap.size → k ≠ b → w'.heap[k]? = w.heap[k]?
theorem But.refl (b : Nat) (w : World) : But b w w := ⟨rfl, rfl, rfl, Nat.le_refl _, fun _ _ _ => rfl⟩
theorem But.trans {b : Nat} {w1 w2 w3 : World} (h : But b w1 w2) (k : But b w2 w3) : But b w1 w3 :=
  ⟨k.os.trans h.os, k.tape.trans h.tape, k.output.trans h.output, Nat.le_trans h.size k.size, fun i hi hb => (k.block i (Nat.lt_of_lt_of_le hi h.size) hb).trans (h.block i hi hb)⟩
theorem But.set (b o : Nat) (w : World) (v : Value) : But b w (w.setCell ⟨b, o, none⟩ v) := by
  have h := (Below.refl b w).setCell (p := ⟨b, o, none⟩) (Nat.le_refl _) v
  exact ⟨h.1, h.2, h.3, h.4, fun k _ hb => heap_setCell_other w _ k v hb⟩
theorem But.drew {b : Nat} {w w' : World} (h : But b w w') : But b w w'.drew := ⟨h.1, h.2, h.3, h.4, h.5⟩
theorem But.below {b B : Nat} {w0 w w' : World} (h : But b w w') (hb : Below B w0 w) (hB : B ≤ b) (hs : B ≤ w.heap.size) : Below B w0 w' :=
  hb.trans ⟨h.os, h.tape, h.output, h.size, fun k hk => h.block k (by omega) (by omega)⟩

/- a row of bytes of the call's own, as a text -/
theorem conv_own {base n cap g : Nat} {w : World} {l : List Nat} (hn : l.length = n) (h : w.ownsRow base 5 1 (.slice (some ⟨g, 0, none⟩) n cap) n (u8s l)) :
    (convert 59 9 (.slice (some ⟨g, 0, none⟩) n cap)).run Try.prog w = .ok (.string (txt l)) w := by
  rw [run_convert_bytes_string w 59 9 5 _ _ _ Try.underlying59 Try.underlying5 Try.underlying9]
  have hl := run_loadCells_list (P := Try.prog) w ⟨g, 0, none⟩ (u8s l) (h.cells (g := g) rfl)
  rw [u8s_length, hn] at hl
  have e : u8s l = (l.map (fun n : Nat => (n : Int))).map (Value.int .u8) := by simp [u8s]
  rw [e] at hl
  exact run_bytesToString w _ _ _ _ hl
theorem info5 : (Try.prog.info? 5).map (fun i => (i.zero, i.size, i.bytes)) = some (some (.int .u8 0), 1, 1) := by kernel_rfl
theorem ints3 (w : World) (g : Nat) (a b c d : Nat) (h : w.heap[g]? = some (.cells #[.int .i64 (a : Int), .int .i64 (b : Int), .int .i64 (c : Int), .int .i64 (d : Int)] 3 (0, 0))) (j : Nat) (hj : j < 4) :
    w.cell? ⟨g, j, none⟩ = some (.int .i64 (at0 [a, b, c, d] j : Nat)) := by
  rw [cell_of_row w g j _ 3 (0, 0) h]
  match j, hj with
  | 0, _ => rfl
  | 1, _ => rfl
  | 2, _ => rfl
  | 3, _ => rfl
end Go.Proofs.Ytpigbhmamaghgaa.Pg
