/- Lists of byte strings in memory; what is kept but a set of blocks. -/
import Derived.Test.YtcadlcpccemkbaaRows
import Derived.WalkKit
import Derived.WalkSpells
import Derived.WalkLawsBesides
import Derived.Deep.QuietTactic
import Derived.Deep.Onto
namespace Go.Proofs.Ytcadlcpccemkbaa
open Go.RowKit
set_option maxRecDepth 100000

theorem hide1 {p : Prop} (h : p) : Hid p := h
theorem not_any (x : Bool) (w : World) : (Op.unary .not (.bool x)).run Try.prog w = .ok (.bool (!x)) w := rfl
theorem mixed : Try.prog.follows .mixedOrders = true := by kernel_rfl
structure Shy (p : Prop) : Prop where
  out : p
theorem lt_heap {w : World} {k : Nat} {o : Obj} (h : w.heap[k]? = some o) : k < w.heap.size := (Array.getElem?_eq_some_iff.1 h).1
theorem below1 {w : World} (o : Obj) : Below w.heap.size w (w.alloc o) := (Below.refl _ _).alloc (Nat.le_refl _) _

/- byte strings as values; a list of them of the call's own, from a block on -/
def strs (A : List ByteArray) : List Value := A.map Value.string
def Lst (B : Nat) (w : World) (v : Value) (A : List ByteArray) : Prop := w.ownsRow B 9 1 v A.length (strs A)

theorem strs_length (A : List ByteArray) : (strs A).length = A.length := by simp [strs]

theorem Lst.nil (B : Nat) (w : World) : Lst B w (.slice none 0 0) [] := World.ownsRow_nil _ _ _ _
theorem Lst.mono {B B' : Nat} {w : World} {v : Value} {A : List ByteArray} (h : Lst B w v A) (hb : B' ≤ B) : Lst B' w v A := World.ownsRow.mono h hb
theorem Lst.lt {B : Nat} {w : World} {v : Value} {A : List ByteArray} (h : Lst B w v A) {g : Nat} (hg : v.ownBlock = some g) : B ≤ g ∧ g < w.heap.size := World.ownsRow.lt h g hg
theorem Lst.form {B : Nat} {w : World} {v : Value} {A : List ByteArray} (h : Lst B w v A) : ∃ a c, v = .slice a A.length c := by
  rcases h.2 with ⟨rfl, h0⟩ | ⟨g, cap, cur, rfl, _⟩
  · rw [h0]; exact ⟨none, 0, rfl⟩
  · exact ⟨_, cap, rfl⟩
/- kept, where its row is kept -/
theorem Lst.same {B : Nat} {w w' : World} {v : Value} {A : List ByteArray} (h : Lst B w v A) (hs : ∀ g, v.ownBlock = some g → w'.heap[g]? = w.heap[g]?) : Lst B w' v A := by
  refine ⟨h.1, ?_⟩
  rcases h.2 with hn | ⟨g, cap, cur, rfl, hb, hgg, rest⟩
  · exact .inl hn
  · exact .inr ⟨g, cap, cur, rfl, hb, (hs g rfl).trans hgg, rest⟩
theorem Lst.below {B C : Nat} {w w' : World} {v : Value} {A : List ByteArray} (h : Lst B w v A) (hb : Below C w w') (hC : w.heap.size ≤ C) : Lst B w' v A :=
  h.same fun g hg => hb.block g (by have := (h.lt hg).2; omega)
theorem Lst.cell {B : Nat} {w : World} {v : Value} {A : List ByteArray} (h : Lst B w v A) {j : Nat} (hj : j < A.length) : ∃ g c, v = .slice (some ⟨g, 0, none⟩) A.length c ∧ w.cell? ⟨g, j, none⟩ = some (.string (A.getD j ByteArray.empty)) ∧ w.frozen? ⟨g, j, none⟩ = false ∧ g < w.heap.size ∧ B ≤ g ∧ A.length ≤ c := by
  rcases id h.2 with ⟨rfl, h0⟩ | ⟨g, cap, cur, rfl, hb, hgg, hnc, _⟩
  · omega
  · refine ⟨g, cap, rfl, ?_, World.ownsRow.frozenAt h j, lt_heap hgg, hb, hnc⟩
    rw [World.ownsRow.cellAt h j (by omega)]
    simp [strs, List.getD, List.getElem?_eq_getElem hj]

/- kept but a set of blocks -/
structure Kp (F : Nat → Prop) (w w' : World) : Prop where
  os : w'.os = w.os
  tape : w'.tape = w.tape
  output : w'.output = w.output
  size : w.heap.size ≤ w'.heap.size
  block : ∀ g, g < w.heap.size → ¬ F g → w'.heap[g]? = w.heap[g]?
theorem Kp.refl (F : Nat → Prop) (w : World) : Kp F w w := ⟨rfl, rfl, rfl, Nat.le_refl _, fun _ _ _ => rfl⟩
theorem Kp.trans {F : Nat → Prop} {a b c : World} (h : Kp F a b) (k : Kp F b c) : Kp F a c :=
  ⟨k.os.trans h.os, k.tape.trans h.tape, k.output.trans h.output, Nat.le_trans h.size k.size, fun g hg hf => (k.block g (by have := h.size; omega) hf).trans (h.block g hg hf)⟩
/- what comes later may also change what was new -/
theorem Kp.join {F G : Nat → Prop} {a b c : World} (h : Kp F a b) (k : Kp G b c) (hG : ∀ g, G g → F g ∨ a.heap.size ≤ g) : Kp F a c :=
  ⟨k.os.trans h.os, k.tape.trans h.tape, k.output.trans h.output, Nat.le_trans h.size k.size, fun g hg hf => (k.block g (by have := h.size; omega) (fun hg' => by
    rcases hG g hg' with h1 | h1
    · exact hf h1
    · omega)).trans (h.block g hg hf)⟩
theorem Kp.mono {F G : Nat → Prop} {w w' : World} (h : Kp F w w') (hF : ∀ g, F g → G g) : Kp G w w' := ⟨h.os, h.tape, h.output, h.size, fun g hg hf => h.block g hg (fun e => hf (hF g e))⟩
theorem Kp.ofBelow {F : Nat → Prop} {w w' : World} (h : Below w.heap.size w w') : Kp F w w' := ⟨h.os, h.tape, h.output, h.size, fun g hg _ => h.block g hg⟩
theorem Kp.ofGrown {w w' : World} {row : Option Nat} (h : w.grownBy w' row) : Kp (fun g => row = some g) w w' := ⟨h.os, h.tape, h.output, h.size, fun g hg hf => h.block g hg (fun e => hf e.symm)⟩
theorem Kp.below {F : Nat → Prop} {B : Nat} {w w' : World} (h : Kp F w w') (hB : B ≤ w.heap.size) (hF : ∀ g, F g → B ≤ g) : Below B w w' :=
  ⟨h.os, h.tape, h.output, h.size, fun g hg => h.block g (by omega) (fun e => by have := hF g e; omega)⟩
theorem Kp.setCell {F : Nat → Prop} (w : World) (t j : Nat) (v : Value) (hF : F t) : Kp F w (w.setCell ⟨t, j, none⟩ v) :=
  ⟨rfl, rfl, rfl, by simp [World.setCell], fun g _ hf => heap_setCell_other _ _ _ _ (fun e => hf (e ▸ hF))⟩
theorem Lst.kp {B : Nat} {F : Nat → Prop} {w w' : World} {v : Value} {A : List ByteArray} (h : Lst B w v A) (hk : Kp F w w') (hF : ∀ g, v.ownBlock = some g → ¬ F g) : Lst B w' v A :=
  h.same fun g hg => hk.block g (h.lt hg).2 (hF g hg)

end Go.Proofs.Ytcadlcpccemkbaa
