/- What a call keeps: every block of which a set says nothing reads as it did. The small functions of package fault, and errors.As, at an error that New made. -/
import Derived.WalkKit
import Derived.WalkSpells
import Derived.WalkLawsBesides
import Derived.Deep.QuietTactic
import Derived.Test.YtmmhfipdolbinaaGreatDoorRows
import Derived.Below
import Derived.Stop.Asserts
import Derived.Defers
import Derived.Recover
import Derived.LaidEql
import Derived.RowKitTokens
namespace Go.Proofs.YtmmhfipdolbinaaGreatDoor.F
open Go.RowKit

structure Kp (S : Nat → Obj → Prop) (w w' : World) : Prop where
  os : w'.os = w.os
  tape : w'.tape = w.tape
  output : w'.output = w.output
  size : w.heap.size ≤ w'.heap.size
  same : ∀ k o, w.heap[k]? = some o → ¬ S k o → w'.heap[k]? = some o

theorem Kp.refl (S : Nat → Obj → Prop) (w : World) : Kp S w w := ⟨rfl, rfl, rfl, Nat.le_refl _, fun _ _ h _ => h⟩

theorem Kp.trans {S : Nat → Obj → Prop} {a b c : World} (h : Kp S a b) (k : Kp S b c) : Kp S a c :=
  ⟨k.os.trans h.os, k.tape.trans h.tape, k.output.trans h.output, Nat.le_trans h.size k.size, fun i o ho hn => k.same i o (h.same i o ho hn) hn⟩

theorem Kp.mono {S T : Nat → Obj → Prop} {a b : World} (h : Kp S a b) (hST : ∀ k o, a.heap[k]? = some o → S k o → T k o) : Kp T a b :=
  ⟨h.os, h.tape, h.output, h.size, fun i o ho hn => h.same i o ho (fun hs => hn (hST i o ho hs))⟩

theorem Kp.drew {S : Nat → Obj → Prop} {a w : World} (h : Kp S a w) : Kp S a w.drew := ⟨h.os, h.tape, h.output, h.size, h.same⟩

theorem Kp.drewN {S : Nat → Obj → Prop} {a w : World} (h : Kp S a w) (n : Nat) : Kp S a (w.drewN n) := ⟨h.os, h.tape, h.output, h.size, h.same⟩

theorem lt_of_heap {w : World} {k : Nat} {o : Obj} (h : w.heap[k]? = some o) : k < w.heap.size := (Array.getElem?_eq_some_iff.1 h).1

theorem Kp.alloc {S : Nat → Obj → Prop} {a w : World} (h : Kp S a w) (o : Obj) : Kp S a (w.alloc o) :=
  h.trans ⟨rfl, rfl, rfl, by simp, fun k x hx _ => (Below.heap_alloc _ _ _ (lt_of_heap hx)).trans hx⟩

theorem Kp.setCell {S : Nat → Obj → Prop} {a w : World} (h : Kp S a w) (p : Addr) (hp : ∀ o, a.heap[p.block]? = some o → S p.block o) (u : Value) : Kp S a (w.setCell p u) :=
  ⟨h.os, h.tape, h.output, by simpa [World.setCell] using h.size, fun k x hx hn => by
    have hk : k ≠ p.block := fun e => by subst e; exact hn (hp x hx)
    exact (Below.heap_setCell _ _ _ _ hk).trans (h.same k x hx hn)⟩

theorem Kp.grown {S : Nat → Obj → Prop} {a w w' : World} {row : Option Nat} (h : Kp S a w) (hg : w.grownBy w' row) (hr : ∀ k o, row = some k → a.heap[k]? = some o → S k o) : Kp S a w' :=
  ⟨hg.os.trans h.os, hg.tape.trans h.tape, hg.output.trans h.output, Nat.le_trans h.size hg.size, fun k x hx hn => by
    have hw := h.same k x hx hn
    exact (hg.block k (lt_of_heap hw) (fun e => hn (hr k x e.symm hx))).trans hw⟩

theorem Kp.ofBelow {S : Nat → Obj → Prop} {w w' : World} (h : Below w.heap.size w w') : Kp S w w' :=
  ⟨h.os, h.tape, h.output, h.size, fun k _ hx _ => (h.block k (lt_of_heap hx)).trans hx⟩

theorem Kp.below {S : Nat → Obj → Prop} {B : Nat} {w w' : World} (h : Kp S w w') (hB : B ≤ w.heap.size) (hS : ∀ k o, S k o → B ≤ k) : Below B w w' :=
  ⟨h.os, h.tape, h.output, h.size, fun k hk => by
    have hlt : k < w.heap.size := by omega
    have hx : w.heap[k]? = some w.heap[k] := Array.getElem?_eq_getElem hlt
    rw [hx]
    exact h.same k _ hx (fun hs => by have := hS k _ hs; omega)⟩

theorem Kp.cell {S : Nat → Obj → Prop} {w w' : World} (h : Kp S w w') {p : Addr} {v : Value} (hc : w.cell? p = some v) (hS : ∀ o, w.heap[p.block]? = some o → ¬ S p.block o) : w'.cell? p = some v := by
  have hb : ∃ o, w.heap[p.block]? = some o := by
    unfold World.cell? at hc
    cases hh : w.heap[p.block]? with
    | none => simp [hh] at hc
    | some x => exact ⟨x, rfl⟩
  obtain ⟨o, ho⟩ := hb
  rw [World.cell?_of_block (w := w) ((h.same _ o ho (hS o ho)).trans ho.symm)]
  exact hc

theorem Kp.frozen {S : Nat → Obj → Prop} {w w' : World} (h : Kp S w w') {p : Addr} {o : Obj} (ho : w.heap[p.block]? = some o) (hS : ¬ S p.block o) : w'.frozen? p = w.frozen? p :=
  World.frozen?_of_block (w := w) ((h.same _ o ho hS).trans ho.symm)

/- a row of elements of a type -/
def isRow (e : TypeId) (o : Obj) : Prop := ∃ c fr, o = .cells c e fr

end Go.Proofs.YtmmhfipdolbinaaGreatDoor.F

namespace Go.Proofs.YtmmhfipdolbinaaGreatDoor.F
open Go.RowKit Go.Extern.Stop Go.Stop Go.Extern
set_option maxRecDepth 100000

theorem lt_cell {w : World} {b o : Nat} {v : Value} (h : w.cell? ⟨b, o, none⟩ = some v) : b < w.heap.size := by
  unfold World.cell? at h
  cases hb : w.heap[b]? with
  | none => simp [hb] at h
  | some x => exact (Array.getElem?_eq_some_iff.1 hb).1

theorem ta74_74 (v : Value) (w : World) : (Instr.typeAssert (.iface 147 v) 66 147 true).run Tryz.prog w = .ok (.tuple #[v, .bool true]) w := by kernel_rfl

theorem ta77_74 (v : Value) (w : World) : (Instr.typeAssert (.iface 147 v) 66 154 true).run Tryz.prog w = .ok (.tuple #[.pointer none, .bool false]) w := by kernel_rfl

theorem ta100_74 (v : Value) (w : World) : (Instr.typeAssert (.iface 147 v) 66 157 true).run Tryz.prog w = .ok (.tuple #[.nilIface, .bool false]) w := run_typeAssert_lacksB Tryz.underlying157 (by kernel_rfl) (by kernel_rfl) v 66 w

theorem ta103_74 (v : Value) (w : World) : (Instr.typeAssert (.iface 147 v) 66 160 true).run Tryz.prog w = .ok (.tuple #[.iface 147 v, .bool true]) w := by kernel_rfl

theorem ta125_74 (v : Value) (w : World) : (Instr.typeAssert (.iface 147 v) 66 180 true).run Tryz.prog w = .ok (.tuple #[.iface 147 v, .bool true]) w := by kernel_rfl

theorem not_any (x : Bool) (w : World) : (Op.unary .not (.bool x)).run Tryz.prog w = .ok (.bool (!x)) w := rfl

theorem mf_any (fn : Fn) (first cap : Array Value) (w : World) : (Instr.makeFunc fn first cap).run Tryz.prog w = .ok (.func fn first cap) w := rfl

theorem hide1 {p : Prop} (h : p) : Hid p := h

attribute [local go_sem] ta74_74 ta77_74 ta100_74 ta103_74 ta125_74 not_any mf_any

theorem new_some (c : Int) (s : ByteArray) (w : World) (hc : (c == 0) = false) :
    Calls Tryz.prog 67 #[.int .i64 c, .string s] w fun e w' =>
      e = .returned (.iface 147 (.pointer (some ⟨w.heap.size, 0, none⟩))) ∧ w' = w.alloc (.cells #[.int .i64 c, .string s, .nilIface] 150) := by
  go_enter Tryz.func67, Tryz.ntmps67
  go_wp2
  go_ret
  exact ⟨rfl, rfl⟩

theorem unwrap_any (b : Nat) (v : Value) (w : World) (h2 : w.cell? ⟨b, 2, none⟩ = some v) :
    Calls Tryz.prog 90 #[.pointer (some ⟨b, 0, none⟩)] w fun e w' => e = .returned v ∧ w' = w := by
  go_enter Tryz.func90, Tryz.ntmps90
  go_wp2
  go_ret
  exact ⟨rfl, rfl⟩

theorem isRoot_yes (b : Nat) (c : Int) (w : World) (h0 : w.cell? ⟨b, 0, none⟩ = some (.int .i64 c)) (h2 : w.cell? ⟨b, 2, none⟩ = some .nilIface) (hc : (c != 0) = true) :
    Calls Tryz.prog 91 #[.pointer (some ⟨b, 0, none⟩)] w fun e w' => e = .returned (.bool true) ∧ w' = w := by
  go_enter Tryz.func91, Tryz.ntmps91
  go_wp2
  go_ret
  exact ⟨rfl, rfl⟩

theorem method_unwrap (a : Addr) (w : World) : (method 313 147 (.pointer (some a)) "Unwrap").run Tryz.prog w = .ok (90, .pointer (some a)) w := by kernel_rfl

theorem method_as (a : Addr) (w : World) : (method 313 147 (.pointer (some a)) "As").run Tryz.prog w = .ok (125, .pointer (some a)) w := by kernel_rfl

attribute [local go_sem] method_unwrap method_as

theorem causes1_root (p b : Nat) (w : World) (hp : w.cell? ⟨p, 0, none⟩ = some (.iface 147 (.pointer (some ⟨b, 0, none⟩)))) (h2 : w.cell? ⟨b, 2, none⟩ = some .nilIface) :
    Calls Tryz.prog 95 #[.pointer (some ⟨p, 0, none⟩)] w fun e w' => e = .returned (.slice none 0 0) ∧ w' = w := by
  go_enter Tryz.func95, Tryz.ntmps95
  go_wp2
  go_ret
  exact ⟨rfl, rfl⟩

theorem idle70 (w : World) :
    CallsD Tryz.prog 102 #[] .returning w fun e u' w' => e = .returned (.tuple #[]) ∧ u' = .returning ∧ w' = w := by
  refine callsD_of_wpS Tryz.func102 rfl fun c₀ cs hu => ?_
  apply wpS_region
  simp [wpOpsS, go_sem, recoverD, hu, Tryz.ntmps102, bodyPostS, results, Tryz.results102]
  cases c₀
  simp_all

theorem guarded58 (cap : Array Value) (w : World) (R : Value → World → Prop)
    (hg : Calls Tryz.prog 95 cap w fun e w' => ∃ v, e = .returned v ∧ R v w') :
    Calls Tryz.prog 94 #[.func (.func 95) #[] cap] w fun e w' => ∃ v, e = .returned v ∧ R v w' := by
  have hg' : Hid (Calls Tryz.prog 95 cap w fun e w' => ∃ v, e = .returned v ∧ R v w') := hg
  clear hg
  go_enter_defers Tryz.func94, Tryz.ntmps94
  go_wp2_with fail
  refine hg'.out.mono ?_
  rintro e w' ⟨v, rfl, hR⟩
  go_wp2
  refine leaves_cons (f := 102) (args := #[]) (by simp) (by simp [go_sem]) ?_
  refine (idle70 _).mono ?_
  rintro e u' w'' ⟨rfl, rfl, rfl⟩
  exact ⟨_, results_tmp rfl _ _ _, v, rfl, hR⟩

theorem causes_root (b : Nat) (w : World) (h2 : w.cell? ⟨b, 2, none⟩ = some .nilIface) :
    Calls Tryz.prog 85 #[.iface 147 (.pointer (some ⟨b, 0, none⟩))] w fun e w' => e = .returned (.slice none 0 0) ∧
      w' = w.alloc (.cells #[.iface 147 (.pointer (some ⟨b, 0, none⟩))] 66) := by
  have hlt := lt_cell h2
  go_enter Tryz.func85, Tryz.ntmps85
  go_wp2_with fail
  refine (guarded58 _ _ (fun x w' => x = .slice none 0 0 ∧ w' = (w.alloc (.cells #[.iface 147 (.pointer (some ⟨b, 0, none⟩))] 66))) ?_).mono ?_
  · refine (causes1_root w.heap.size b _ (by simp) ((World.cell?_alloc_past _ _ _ hlt).trans h2)).mono ?_
    rintro e w' ⟨rfl, rfl⟩
    exact ⟨_, rfl, by simp, rfl⟩
  rintro e w' ⟨x, rfl, rfl, rfl⟩
  go_wp2
  go_ret
  exact ⟨rfl, rfl⟩

theorem ne0 {c : Int} (h : (c == 0) = false) : (c != 0) = true := by simpa using h

theorem fault_cells {W : World} {b : Nat} {x y z : Value} (h : W.heap[b]? = some (.cells #[x, y, z] 150 (0, 0))) :
    W.cell? ⟨b, 0, none⟩ = some x ∧ W.cell? ⟨b, 1, none⟩ = some y ∧ W.cell? ⟨b, 2, none⟩ = some z := by
  refine ⟨?_, ?_, ?_⟩ <;> simp [World.cell?, h]

end Go.Proofs.YtmmhfipdolbinaaGreatDoor.F
