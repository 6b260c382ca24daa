/- What a call keeps: every block of which a set says nothing reads as it did. -/
import Derived.WalkKit
import Derived.WalkSpells
import Derived.WalkLawsBesides
import Derived.Deep.QuietTactic
namespace Go.Proofs.YtcadlcpccemkbaaGreatDoor.F
open Go.RowKit

structure Kp (S : Nat → Obj → Prop) (w w' : World) : Prop where
  os : w'.os = w.os
  tape : w'.tape = w.tape
  output : w'.output = w.output
  size : w.heap.size ≤ w'.heap.size
  same : ∀ k o, w.heap[k]? = some o → ¬ S k o → w'.heap[k]? = some o

theorem Kp.refl (S : Nat → Obj → Prop) (w : World) : Kp S w w := ⟨rfl, rfl, rfl, Nat.le_refl _, fun _ _ h _ => h⟩

theorem Kp.trans {S : Nat → Obj → Prop} {a b c : World} (h : Kp S a b) (k : Kp S b c) : Kp S a c :=
  ⟨k.os.trans h.os, k.tape.trans h.tape, k.output.trans h.output, Nat.le_trans h.size k.size, fun i o ho hn => k.same i o (h.same i o ho hn) hn⟩

theorem Kp.mono {S T : Nat → Obj → Prop} {a b : World} (h : Kp S a b) (hST : ∀ k o, a.heap[k]? = some o → S k o → T k o) : Kp T a b :=
  ⟨h.os, h.tape, h.output, h.size, fun i o ho hn => h.same i o ho (fun hs => hn (hST i o ho hs))⟩

theorem Kp.drew {S : Nat → Obj → Prop} {a w : World} (h : Kp S a w) : Kp S a w.drew := ⟨h.os, h.tape, h.output, h.size, h.same⟩

theorem Kp.drewN {S : Nat → Obj → Prop} {a w : World} (h : Kp S a w) (n : Nat) : Kp S a (w.drewN n) := ⟨h.os, h.tape, h.output, h.size, h.same⟩

theorem lt_of_heap {w : World} {k : Nat} {o : Obj} (h : w.heap[k]? = some o) : k < w.heap.size := (Array.getElem?_eq_some_iff.1 h).1

theorem Kp.alloc {S : Nat → Obj → Prop} {a w : World} (h : Kp S a w) (o : Obj) : Kp S a (w.alloc o) :=
  h.trans ⟨rfl, rfl, rfl, by simp, fun k x hx _ => (Below.heap_alloc _ _ _ (lt_of_heap hx)).trans hx⟩

theorem Kp.setCell {S : Nat → Obj → Prop} {a w : World} (h : Kp S a w) (p : Addr) (hp : ∀ o, a.heap[p.block]? = some o → S p.block o) (u : Value) : Kp S a (w.setCell p u) :=
  ⟨h.os, h.tape, h.output, by simpa [World.setCell] using h.size, fun k x hx hn => by
    have hk : k ≠ p.block := fun e => by subst e; exact hn (hp x hx)
    exact (Below.heap_setCell _ _ _ _ hk).trans (h.same k x hx hn)⟩

theorem Kp.grown {S : Nat → Obj → Prop} {a w w' : World} {row : Option Nat} (h : Kp S a w) (hg : w.grownBy w' row) (hr : ∀ k o, row = some k → a.heap[k]? = some o → S k o) : Kp S a w' :=
  ⟨hg.os.trans h.os, hg.tape.trans h.tape, hg.output.trans h.output, Nat.le_trans h.size hg.size, fun k x hx hn => by
    have hw := h.same k x hx hn
    exact (hg.block k (lt_of_heap hw) (fun e => hn (hr k x e.symm hx))).trans hw⟩

theorem Kp.ofBelow {S : Nat → Obj → Prop} {w w' : World} (h : Below w.heap.size w w') : Kp S w w' :=
  ⟨h.os, h.tape, h.output, h.size, fun k _ hx _ => (h.block k (lt_of_heap hx)).trans hx⟩

theorem Kp.below {S : Nat → Obj → Prop} {B : Nat} {w w' : World} (h : Kp S w w') (hB : B ≤ w.heap.size) (hS : ∀ k o, S k o → B ≤ k) : Below B w w' :=
  ⟨h.os, h.tape, h.output, h.size, fun k hk => by
    have hlt : k < w.heap.size := by omega
    have hx : w.heap[k]? = some w.heap[k] := Array.getElem?_eq_getElem hlt
    rw [hx]
    exact h.same k _ hx (fun hs => by have := hS k _ hs; omega)⟩

theorem Kp.cell {S : Nat → Obj → Prop} {w w' : World} (h : Kp S w w') {p : Addr} {v : Value} (hc : w.cell? p = some v) (hS : ∀ o, w.heap[p.block]? = some o → ¬ S p.block o) : w'.cell? p = some v := by
  have hb : ∃ o, w.heap[p.block]? = some o := by
    unfold World.cell? at hc
    cases hh : w.heap[p.block]? with
    | none => simp [hh] at hc
    | some x => exact ⟨x, rfl⟩
  obtain ⟨o, ho⟩ := hb
  rw [World.cell?_of_block (w := w) ((h.same _ o ho (hS o ho)).trans ho.symm)]
  exact hc

theorem Kp.frozen {S : Nat → Obj → Prop} {w w' : World} (h : Kp S w w') {p : Addr} {o : Obj} (ho : w.heap[p.block]? = some o) (hS : ¬ S p.block o) : w'.frozen? p = w.frozen? p :=
  World.frozen?_of_block (w := w) ((h.same _ o ho hS).trans ho.symm)

/- a row of elements of a type -/
def isRow (e : TypeId) (o : Obj) : Prop := ∃ c fr, o = .cells c e fr

end Go.Proofs.YtcadlcpccemkbaaGreatDoor.F
