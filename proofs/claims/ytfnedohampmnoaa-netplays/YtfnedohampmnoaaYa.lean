/- Lists of byte strings in memory; a network in memory. -/
import Derived.Test.YtfnedohampmnoaaRows
import Derived.WalkKit
import Derived.WalkSpells
import Derived.WalkLawsBesides
import Derived.Deep.QuietTactic
import Derived.Deep.Onto
namespace Go.Proofs.Ytfnedohampmnoaa
open Go.RowKit
set_option maxRecDepth 100000

theorem hide1 {p : Prop} (h : p) : Hid p := h
theorem not_any (x : Bool) (w : World) : (Op.unary .not (.bool x)).run Try.prog w = .ok (.bool (!x)) w := rfl
theorem mixed : Try.prog.follows .mixedOrders = true := by kernel_rfl
structure Shy (p : Prop) : Prop where
  out : p
theorem lt_heap {w : World} {k : Nat} {o : Obj} (h : w.heap[k]? = some o) : k < w.heap.size := (Array.getElem?_eq_some_iff.1 h).1
theorem below1 {w : World} (o : Obj) : Below w.heap.size w (w.alloc o) := (Below.refl _ _).alloc (Nat.le_refl _) _

/- byte strings as values; a list of them of the call's own, from a block on -/
def strs (A : List ByteArray) : List Value := A.map Value.string
def Lst (B : Nat) (w : World) (v : Value) (A : List ByteArray) : Prop := w.ownsRow B 9 1 v A.length (strs A)

theorem strs_length (A : List ByteArray) : (strs A).length = A.length := by simp [strs]

theorem Lst.nil (B : Nat) (w : World) : Lst B w (.slice none 0 0) [] := World.ownsRow_nil _ _ _ _
theorem Lst.mono {B B' : Nat} {w : World} {v : Value} {A : List ByteArray} (h : Lst B w v A) (hb : B' ≤ B) : Lst B' w v A := World.ownsRow.mono h hb
theorem Lst.lt {B : Nat} {w : World} {v : Value} {A : List ByteArray} (h : Lst B w v A) {g : Nat} (hg : v.ownBlock = some g) : B ≤ g ∧ g < w.heap.size := World.ownsRow.lt h g hg
theorem Lst.form {B : Nat} {w : World} {v : Value} {A : List ByteArray} (h : Lst B w v A) : ∃ a c, v = .slice a A.length c := by
  rcases h.2 with ⟨rfl, h0⟩ | ⟨g, cap, cur, rfl, _⟩
  · rw [h0]; exact ⟨none, 0, rfl⟩
  · exact ⟨_, cap, rfl⟩
/- kept, where its row is kept -/
theorem Lst.same {B : Nat} {w w' : World} {v : Value} {A : List ByteArray} (h : Lst B w v A) (hs : ∀ g, v.ownBlock = some g → w'.heap[g]? = w.heap[g]?) : Lst B w' v A := by
  refine ⟨h.1, ?_⟩
  rcases h.2 with hn | ⟨g, cap, cur, rfl, hb, hgg, rest⟩
  · exact .inl hn
  · exact .inr ⟨g, cap, cur, rfl, hb, (hs g rfl).trans hgg, rest⟩
theorem Lst.below {B C : Nat} {w w' : World} {v : Value} {A : List ByteArray} (h : Lst B w v A) (hb : Below C w w') (hC : w.heap.size ≤ C) : Lst B w' v A :=
  h.same fun g hg => hb.block g (by have := (h.lt hg).2; omega)
theorem Lst.cell {B : Nat} {w : World} {v : Value} {A : List ByteArray} (h : Lst B w v A) {j : Nat} (hj : j < A.length) : ∃ g c, v = .slice (some ⟨g, 0, none⟩) A.length c ∧ w.cell? ⟨g, j, none⟩ = some (.string (A.getD j ByteArray.empty)) ∧ w.frozen? ⟨g, j, none⟩ = false ∧ g < w.heap.size ∧ B ≤ g ∧ A.length ≤ c := by
  rcases id h.2 with ⟨rfl, h0⟩ | ⟨g, cap, cur, rfl, hb, hgg, hnc, _⟩
  · omega
  · refine ⟨g, cap, rfl, ?_, World.ownsRow.frozenAt h j, lt_heap hgg, hb, hnc⟩
    rw [World.ownsRow.cellAt h j (by omega)]
    simp [strs, List.getD, List.getElem?_eq_getElem hj]

/- a network in memory: its two lists by the party's number -/
structure Nw (B t : Nat) (x : Nat → Value) (N : Nat → List ByteArray) (w : World) : Prop where
  row : w.heap[t]? = some (.cells #[.bool true, x 0, x 1] 46 (0, 0))
  own : ∀ k, k < 2 → Lst B w (x k) (N k)
  ne : ∀ g, (x 0).ownBlock = some g → (x 1).ownBlock ≠ some g
  nt : ∀ k, k < 2 → (x k).ownBlock ≠ some t
  low : B ≤ t

/- what a call on a network leaves: all but the network's own blocks; where its lists lie now -/
structure Mv (t : Nat) (x x' : Nat → Value) (w w' : World) : Prop where
  os : w'.os = w.os
  tape : w'.tape = w.tape
  output : w'.output = w.output
  size : w.heap.size ≤ w'.heap.size
  kept : ∀ g, g < w.heap.size → g ≠ t → (∀ k, k < 2 → (x k).ownBlock ≠ some g) → w'.heap[g]? = w.heap[g]?
  fresh : ∀ k, k < 2 → ∀ g, (x' k).ownBlock = some g → (∃ j, j < 2 ∧ (x j).ownBlock = some g) ∨ w.heap.size ≤ g

theorem Mv.refl (t : Nat) (x : Nat → Value) (w : World) : Mv t x x w w := ⟨rfl, rfl, rfl, Nat.le_refl _, fun _ _ _ _ => rfl, fun k hk _ hg => .inl ⟨k, hk, hg⟩⟩
theorem Mv.trans {t : Nat} {x y z : Nat → Value} {a b c : World} (h : Mv t x y a b) (k : Mv t y z b c) : Mv t x z a c :=
  ⟨k.os.trans h.os, k.tape.trans h.tape, k.output.trans h.output, Nat.le_trans h.size k.size,
   fun g hg ht hx => (k.kept g (by have := h.size; omega) ht (fun j hj e => by
      rcases h.fresh j hj g e with ⟨i, hi, e'⟩ | h'
      · exact hx i hi e'
      · omega)).trans (h.kept g hg ht hx),
   fun j hj g hg => by
      rcases k.fresh j hj g hg with ⟨i, hi, e⟩ | h'
      · exact h.fresh i hi g e
      · exact .inr (by have := h.size; omega)⟩
theorem Mv.below {B t : Nat} {x x' : Nat → Value} {N : Nat → List ByteArray} {w w' : World} (h : Mv t x x' w w') (hn : Nw B t x N w) : Below B w w' :=
  ⟨h.os, h.tape, h.output, h.size, fun g hg => by
    have hlt : t < w.heap.size := lt_heap hn.row
    have := hn.low
    exact h.kept g (by omega) (by omega) (fun k hk e => by have := ((hn.own k hk).lt e).1; omega)⟩

def upd {α : Type} (f : Nat → α) (k : Nat) (v : α) : Nat → α := fun j => if j = k then v else f j
theorem upd_same {α : Type} (f : Nat → α) (k : Nat) (v : α) : upd f k v k = v := by simp [upd]
theorem upd_other {α : Type} (f : Nat → α) {k j : Nat} (v : α) (h : j ≠ k) : upd f k v j = f j := by simp [upd, h]

/- a network read in another world that keeps what is below a number -/
theorem Nw.below {B C t : Nat} {x : Nat → Value} {N : Nat → List ByteArray} {w w' : World} (h : Nw B t x N w) (hb : Below C w w') (hC : w.heap.size ≤ C) : Nw B t x N w' :=
  ⟨(hb.block t (by have := lt_heap h.row; omega)).trans h.row, fun k hk => (h.own k hk).below hb hC, h.ne, h.nt, h.low⟩
theorem Mv.ofBelow {t : Nat} {x : Nat → Value} {w w' : World} (hb : Below w.heap.size w w') : Mv t x x w w' :=
  ⟨hb.os, hb.tape, hb.output, hb.size, fun g hg _ _ => hb.block g hg, fun k hk _ hg => .inl ⟨k, hk, hg⟩⟩

/- one of the two lists is another now -/
theorem Nw.put {B t k : Nat} {x : Nat → Value} {N : Nat → List ByteArray} {w w' : World} {v' : Value} {A : List ByteArray} (h : Nw B t x N w) (hk : k < 2)
    (hrow : w'.heap[t]? = some (.cells #[.bool true, upd x k v' 0, upd x k v' 1] 46 (0, 0))) (hown : Lst B w' v' A) (hsz : w.heap.size ≤ w'.heap.size) (hos : w'.os = w.os) (htp : w'.tape = w.tape) (hot : w'.output = w.output)
    (hkept : ∀ g, g < w.heap.size → g ≠ t → (x k).ownBlock ≠ some g → w'.heap[g]? = w.heap[g]?) (hfr : ∀ g, v'.ownBlock = some g → (x k).ownBlock = some g ∨ w.heap.size ≤ g) :
    Nw B t (upd x k v') (upd N k A) w' ∧ Mv t x (upd x k v') w w' := by
  have htl := lt_heap h.row
  have hne : ∀ j, j < 2 → j ≠ k → ∀ g, (x j).ownBlock = some g → (x k).ownBlock ≠ some g := fun j hj hjk g hg e => by
    rcases (show (j = 0 ∧ k = 1) ∨ (j = 1 ∧ k = 0) by omega) with ⟨rfl, rfl⟩ | ⟨rfl, rfl⟩
    · exact h.ne g hg e
    · exact h.ne g e hg
  have hv : ∀ j, j < 2 → j ≠ k → ∀ g, (x j).ownBlock = some g → v'.ownBlock ≠ some g := fun j hj hjk g hg e => by
    rcases hfr g e with h1 | h1
    · exact hne j hj hjk g hg h1
    · have := ((h.own j hj).lt hg).2
      omega
  refine ⟨⟨hrow, fun j hj => ?_, fun g h0 h1 => ?_, fun j hj e => ?_, h.low⟩, ⟨hos, htp, hot, hsz, fun g hg ht hx => hkept g hg ht (hx k hk), fun j hj g hg => ?_⟩⟩
  · by_cases hjk : j = k
    · subst hjk
      rw [upd_same, upd_same]
      exact hown
    · rw [upd_other _ _ hjk, upd_other _ _ hjk]
      exact (h.own j hj).same fun g hg => hkept g ((h.own j hj).lt hg).2 (fun e => h.nt j hj (by rw [hg, e])) (hne j hj hjk g hg)
  · rcases (show k = 0 ∨ k = 1 by omega) with rfl | rfl
    · rw [upd_same] at h0
      rw [upd_other _ _ (by omega)] at h1
      exact hv 1 (by omega) (by omega) g h1 h0
    · rw [upd_same] at h1
      rw [upd_other _ _ (by omega)] at h0
      exact hv 0 (by omega) (by omega) g h0 h1
  · by_cases hjk : j = k
    · subst hjk
      rw [upd_same] at e
      rcases hfr t e with h1 | h1
      · exact h.nt j hk h1
      · omega
    · rw [upd_other _ _ hjk] at e
      exact h.nt j hj e
  · by_cases hjk : j = k
    · subst hjk
      rw [upd_same] at hg
      rcases hfr g hg with h1 | h1
      · exact .inl ⟨j, hj, h1⟩
      · exact .inr h1
    · rw [upd_other _ _ hjk] at hg
      exact .inl ⟨j, hj, hg⟩

end Go.Proofs.Ytfnedohampmnoaa
