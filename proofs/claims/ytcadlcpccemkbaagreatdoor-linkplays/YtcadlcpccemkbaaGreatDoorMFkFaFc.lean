/- What a call keeps: every block of which a set says nothing reads as it did. The small functions of package fault, and errors.As, at an error that New made. errors.As with a number as its target, at an error that New made; number. -/
import Derived.WalkKit
import Derived.WalkSpells
import Derived.WalkLawsBesides
import Derived.Deep.QuietTactic
import Derived.Test.YtcadlcpccemkbaaGreatDoorRows
import Derived.Below
import Derived.Stop.Asserts
import Derived.Defers
import Derived.Recover
import Derived.LaidEql
import Derived.RowKitTokens
namespace Go.Proofs.YtcadlcpccemkbaaGreatDoor.F
open Go.RowKit

structure Kp (S : Nat → Obj → Prop) (w w' : World) : Prop where
  os : w'.os = w.os
  tape : w'.tape = w.tape
  output : w'.output = w.output
  size : w.heap.size ≤ w'.heap.size
  same : ∀ k o, w.heap[k]? = some o → ¬ S k o → w'.heap[k]? = some o

theorem Kp.refl (S : Nat → Obj → Prop) (w : World) : Kp S w w := ⟨rfl, rfl, rfl, Nat.le_refl _, fun _ _ h _ => h⟩

theorem Kp.trans {S : Nat → Obj → Prop} {a b c : World} (h : Kp S a b) (k : Kp S b c) : Kp S a c :=
  ⟨k.os.trans h.os, k.tape.trans h.tape, k.output.trans h.output, Nat.le_trans h.size k.size, fun i o ho hn => k.same i o (h.same i o ho hn) hn⟩

theorem Kp.mono {S T : Nat → Obj → Prop} {a b : World} (h : Kp S a b) (hST : ∀ k o, a.heap[k]? = some o → S k o → T k o) : Kp T a b :=
  ⟨h.os, h.tape, h.output, h.size, fun i o ho hn => h.same i o ho (fun hs => hn (hST i o ho hs))⟩

theorem Kp.drew {S : Nat → Obj → Prop} {a w : World} (h : Kp S a w) : Kp S a w.drew := ⟨h.os, h.tape, h.output, h.size, h.same⟩

theorem Kp.drewN {S : Nat → Obj → Prop} {a w : World} (h : Kp S a w) (n : Nat) : Kp S a (w.drewN n) := ⟨h.os, h.tape, h.output, h.size, h.same⟩

theorem lt_of_heap {w : World} {k : Nat} {o : Obj} (h : w.heap[k]? = some o) : k < w.heap.size := (Array.getElem?_eq_some_iff.1 h).1

theorem Kp.alloc {S : Nat → Obj → Prop} {a w : World} (h : Kp S a w) (o : Obj) : Kp S a (w.alloc o) :=
  h.trans ⟨rfl, rfl, rfl, by simp, fun k x hx _ => (Below.heap_alloc _ _ _ (lt_of_heap hx)).trans hx⟩

theorem Kp.setCell {S : Nat → Obj → Prop} {a w : World} (h : Kp S a w) (p : Addr) (hp : ∀ o, a.heap[p.block]? = some o → S p.block o) (u : Value) : Kp S a (w.setCell p u) :=
  ⟨h.os, h.tape, h.output, by simpa [World.setCell] using h.size, fun k x hx hn => by
    have hk : k ≠ p.block := fun e => by subst e; exact hn (hp x hx)
    exact (Below.heap_setCell _ _ _ _ hk).trans (h.same k x hx hn)⟩

theorem Kp.grown {S : Nat → Obj → Prop} {a w w' : World} {row : Option Nat} (h : Kp S a w) (hg : w.grownBy w' row) (hr : ∀ k o, row = some k → a.heap[k]? = some o → S k o) : Kp S a w' :=
  ⟨hg.os.trans h.os, hg.tape.trans h.tape, hg.output.trans h.output, Nat.le_trans h.size hg.size, fun k x hx hn => by
    have hw := h.same k x hx hn
    exact (hg.block k (lt_of_heap hw) (fun e => hn (hr k x e.symm hx))).trans hw⟩

theorem Kp.ofBelow {S : Nat → Obj → Prop} {w w' : World} (h : Below w.heap.size w w') : Kp S w w' :=
  ⟨h.os, h.tape, h.output, h.size, fun k _ hx _ => (h.block k (lt_of_heap hx)).trans hx⟩

theorem Kp.below {S : Nat → Obj → Prop} {B : Nat} {w w' : World} (h : Kp S w w') (hB : B ≤ w.heap.size) (hS : ∀ k o, S k o → B ≤ k) : Below B w w' :=
  ⟨h.os, h.tape, h.output, h.size, fun k hk => by
    have hlt : k < w.heap.size := by omega
    have hx : w.heap[k]? = some w.heap[k] := Array.getElem?_eq_getElem hlt
    rw [hx]
    exact h.same k _ hx (fun hs => by have := hS k _ hs; omega)⟩

theorem Kp.cell {S : Nat → Obj → Prop} {w w' : World} (h : Kp S w w') {p : Addr} {v : Value} (hc : w.cell? p = some v) (hS : ∀ o, w.heap[p.block]? = some o → ¬ S p.block o) : w'.cell? p = some v := by
  have hb : ∃ o, w.heap[p.block]? = some o := by
    unfold World.cell? at hc
    cases hh : w.heap[p.block]? with
    | none => simp [hh] at hc
    | some x => exact ⟨x, rfl⟩
  obtain ⟨o, ho⟩ := hb
  rw [World.cell?_of_block (w := w) ((h.same _ o ho (hS o ho)).trans ho.symm)]
  exact hc

theorem Kp.frozen {S : Nat → Obj → Prop} {w w' : World} (h : Kp S w w') {p : Addr} {o : Obj} (ho : w.heap[p.block]? = some o) (hS : ¬ S p.block o) : w'.frozen? p = w.frozen? p :=
  World.frozen?_of_block (w := w) ((h.same _ o ho hS).trans ho.symm)

/- a row of elements of a type -/
def isRow (e : TypeId) (o : Obj) : Prop := ∃ c fr, o = .cells c e fr

end Go.Proofs.YtcadlcpccemkbaaGreatDoor.F

namespace Go.Proofs.YtcadlcpccemkbaaGreatDoor.F
open Go.RowKit Go.Extern.Stop Go.Stop Go.Extern
set_option maxRecDepth 100000

theorem lt_cell {w : World} {b o : Nat} {v : Value} (h : w.cell? ⟨b, o, none⟩ = some v) : b < w.heap.size := by
  unfold World.cell? at h
  cases hb : w.heap[b]? with
  | none => simp [hb] at h
  | some x => exact (Array.getElem?_eq_some_iff.1 hb).1

theorem ta74_74 (v : Value) (w : World) : (Instr.typeAssert (.iface 99 v) 26 99 true).run Tryz.prog w = .ok (.tuple #[v, .bool true]) w := by kernel_rfl

theorem ta77_74 (v : Value) (w : World) : (Instr.typeAssert (.iface 99 v) 26 153 true).run Tryz.prog w = .ok (.tuple #[.pointer none, .bool false]) w := by kernel_rfl

theorem ta100_74 (v : Value) (w : World) : (Instr.typeAssert (.iface 99 v) 26 156 true).run Tryz.prog w = .ok (.tuple #[.nilIface, .bool false]) w := run_typeAssert_lacksB Tryz.underlying156 (by kernel_rfl) (by kernel_rfl) v 26 w

theorem ta103_74 (v : Value) (w : World) : (Instr.typeAssert (.iface 99 v) 26 159 true).run Tryz.prog w = .ok (.tuple #[.iface 99 v, .bool true]) w := by kernel_rfl

theorem ta125_74 (v : Value) (w : World) : (Instr.typeAssert (.iface 99 v) 26 193 true).run Tryz.prog w = .ok (.tuple #[.iface 99 v, .bool true]) w := by kernel_rfl

theorem not_any (x : Bool) (w : World) : (Op.unary .not (.bool x)).run Tryz.prog w = .ok (.bool (!x)) w := rfl

theorem mf_any (fn : Fn) (first cap : Array Value) (w : World) : (Instr.makeFunc fn first cap).run Tryz.prog w = .ok (.func fn first cap) w := rfl

theorem hide1 {p : Prop} (h : p) : Hid p := h

attribute [local go_sem] ta74_74 ta77_74 ta100_74 ta103_74 ta125_74 not_any mf_any

theorem new_some (c : Int) (s : ByteArray) (w : World) (hc : (c == 0) = false) :
    Calls Tryz.prog 19 #[.int .i64 c, .string s] w fun e w' =>
      e = .returned (.iface 99 (.pointer (some ⟨w.heap.size, 0, none⟩))) ∧ w' = w.alloc (.cells #[.int .i64 c, .string s, .nilIface] 101) := by
  go_enter Tryz.func19, Tryz.ntmps19
  go_wp2
  go_ret
  exact ⟨rfl, rfl⟩

theorem unwrap_any (b : Nat) (v : Value) (w : World) (h2 : w.cell? ⟨b, 2, none⟩ = some v) :
    Calls Tryz.prog 51 #[.pointer (some ⟨b, 0, none⟩)] w fun e w' => e = .returned v ∧ w' = w := by
  go_enter Tryz.func51, Tryz.ntmps51
  go_wp2
  go_ret
  exact ⟨rfl, rfl⟩

theorem isRoot_yes (b : Nat) (c : Int) (w : World) (h0 : w.cell? ⟨b, 0, none⟩ = some (.int .i64 c)) (h2 : w.cell? ⟨b, 2, none⟩ = some .nilIface) (hc : (c != 0) = true) :
    Calls Tryz.prog 52 #[.pointer (some ⟨b, 0, none⟩)] w fun e w' => e = .returned (.bool true) ∧ w' = w := by
  go_enter Tryz.func52, Tryz.ntmps52
  go_wp2
  go_ret
  exact ⟨rfl, rfl⟩

theorem method_unwrap (a : Addr) (w : World) : (method 347 99 (.pointer (some a)) "Unwrap").run Tryz.prog w = .ok (51, .pointer (some a)) w := by kernel_rfl

theorem method_as (a : Addr) (w : World) : (method 347 99 (.pointer (some a)) "As").run Tryz.prog w = .ok (138, .pointer (some a)) w := by kernel_rfl

attribute [local go_sem] method_unwrap method_as

theorem causes1_root (p b : Nat) (w : World) (hp : w.cell? ⟨p, 0, none⟩ = some (.iface 99 (.pointer (some ⟨b, 0, none⟩)))) (h2 : w.cell? ⟨b, 2, none⟩ = some .nilIface) :
    Calls Tryz.prog 81 #[.pointer (some ⟨p, 0, none⟩)] w fun e w' => e = .returned (.slice none 0 0) ∧ w' = w := by
  go_enter Tryz.func81, Tryz.ntmps81
  go_wp2
  go_ret
  exact ⟨rfl, rfl⟩

theorem idle70 (w : World) :
    CallsD Tryz.prog 99 #[] .returning w fun e u' w' => e = .returned (.tuple #[]) ∧ u' = .returning ∧ w' = w := by
  refine callsD_of_wpS Tryz.func99 rfl fun c₀ cs hu => ?_
  apply wpS_region
  simp [wpOpsS, go_sem, recoverD, hu, Tryz.ntmps99, bodyPostS, results, Tryz.results99]
  cases c₀
  simp_all

theorem guarded58 (cap : Array Value) (w : World) (R : Value → World → Prop)
    (hg : Calls Tryz.prog 81 cap w fun e w' => ∃ v, e = .returned v ∧ R v w') :
    Calls Tryz.prog 80 #[.func (.func 81) #[] cap] w fun e w' => ∃ v, e = .returned v ∧ R v w' := by
  have hg' : Hid (Calls Tryz.prog 81 cap w fun e w' => ∃ v, e = .returned v ∧ R v w') := hg
  clear hg
  go_enter_defers Tryz.func80, Tryz.ntmps80
  go_wp2_with fail
  refine hg'.out.mono ?_
  rintro e w' ⟨v, rfl, hR⟩
  go_wp2
  refine leaves_cons (f := 99) (args := #[]) (by simp) (by simp [go_sem]) ?_
  refine (idle70 _).mono ?_
  rintro e u' w'' ⟨rfl, rfl, rfl⟩
  exact ⟨_, results_tmp rfl _ _ _, v, rfl, hR⟩

theorem causes_root (b : Nat) (w : World) (h2 : w.cell? ⟨b, 2, none⟩ = some .nilIface) :
    Calls Tryz.prog 46 #[.iface 99 (.pointer (some ⟨b, 0, none⟩))] w fun e w' => e = .returned (.slice none 0 0) ∧
      w' = w.alloc (.cells #[.iface 99 (.pointer (some ⟨b, 0, none⟩))] 26) := by
  have hlt := lt_cell h2
  go_enter Tryz.func46, Tryz.ntmps46
  go_wp2_with fail
  refine (guarded58 _ _ (fun x w' => x = .slice none 0 0 ∧ w' = (w.alloc (.cells #[.iface 99 (.pointer (some ⟨b, 0, none⟩))] 26))) ?_).mono ?_
  · refine (causes1_root w.heap.size b _ (by simp) ((World.cell?_alloc_past _ _ _ hlt).trans h2)).mono ?_
    rintro e w' ⟨rfl, rfl⟩
    exact ⟨_, rfl, by simp, rfl⟩
  rintro e w' ⟨x, rfl, rfl, rfl⟩
  go_wp2
  go_ret
  exact ⟨rfl, rfl⟩

theorem ne0 {c : Int} (h : (c == 0) = false) : (c != 0) = true := by simpa using h

theorem fault_cells {W : World} {b : Nat} {x y z : Value} (h : W.heap[b]? = some (.cells #[x, y, z] 101 (0, 0))) :
    W.cell? ⟨b, 0, none⟩ = some x ∧ W.cell? ⟨b, 1, none⟩ = some y ∧ W.cell? ⟨b, 2, none⟩ = some z := by
  refine ⟨?_, ?_, ?_⟩ <;> simp [World.cell?, h]

end Go.Proofs.YtcadlcpccemkbaaGreatDoor.F

namespace Go.Proofs.YtcadlcpccemkbaaGreatDoor.F
open Go.RowKit Go.Extern.Stop Go.Stop Go.Extern
set_option maxRecDepth 100000

theorem valueOf89 (t : Addr) (w : World) : (ReflectliteValue.unpack (.iface 115 (.pointer (some t)))).run Tryz.prog w
    = .ok (.agg #[.pointer (some ⟨1, 115, none⟩), .pointer (some ⟨w.heap.size, 0, none⟩), .int .u64 150]) (w.alloc (.cells #[.pointer (some t)] 115)) := by kernel_rfl

theorem type89 (a : Addr) (w : World) : (ReflectliteValue.methodAny (ReflectliteValue.valueError "reflectlite.Value.Type" 0) (fun t _ _ _ => ReflectliteType.toType t) #[.agg #[.pointer (some ⟨1, 115, none⟩), .pointer (some a), .int .u64 150]]).run Tryz.prog w
    = .ok (.iface 188 (.agg #[.pointer (some ⟨1, 115, none⟩)])) w := by kernel_rfl

theorem methodKind (h : Value) (w : World) : (Go.method 347 188 (.agg #[h]) "Kind").run Tryz.prog w = .ok (134, h) w := by kernel_rfl

theorem kind89 (w : World) : ((ReflectliteType.abiMethod fun t => (fun a : Nat => Value.int IntKind.u8 (a : Int)) <$> Rtype.kind t) #[.pointer (some ⟨1, 115, none⟩)]).run Tryz.prog w = .ok (.int .u8 22) w := by kernel_rfl

theorem kind37 (w : World) : ((ReflectliteType.abiMethod fun t => (fun a : Nat => Value.int IntKind.u8 (a : Int)) <$> Rtype.kind t) #[.pointer (some ⟨1, 29, none⟩)]).run Tryz.prog w = .ok (.int .u8 2) w := by kernel_rfl

theorem rlm (z : Sem Value) (f : TypeId → Addr → Nat → Nat → Sem Value) (v : Value) :
    ReflectliteValue.method z f #[v] = (do match ← ReflectliteValue.parts v with | none => z | some (t, a, fl) => f t a fl (fl % 32)) := rfl

theorem parts89 (a : Addr) (w : World) : (ReflectliteValue.parts (.agg #[.pointer (some ⟨1, 115, none⟩), .pointer (some a), .int .u64 150])).run Tryz.prog w = .ok (some (115, a, 150)) w := by kernel_rfl

theorem isNil89 (a p : Addr) (W : World) (ha : W.cell? a = some (.pointer (some p))) :
    (ReflectliteValue.method (ReflectliteValue.valueError "reflectlite.Value.IsNil" 0) ReflectliteValue.isNil #[.agg #[.pointer (some ⟨1, 115, none⟩), .pointer (some a), .int .u64 150]]).run Tryz.prog W = .ok (.bool false) W := by
  rw [rlm]
  simp only [Sem.run_bind, parts89, Result.andThen]
  simp [ReflectliteValue.isNil, loadVar, isAgg, underlying, Tryz.underlying115, ha, Result.andThen]

theorem methodElem (h : Value) (w : World) : (Go.method 347 188 (.agg #[h]) "Elem").run Tryz.prog w = .ok (149, .agg #[h]) w := by kernel_rfl

theorem methodImplements (h : Value) (w : World) : (Go.method 347 188 (.agg #[h]) "Implements").run Tryz.prog w = .ok (150, .agg #[h]) w := by kernel_rfl

theorem methodAssignableTo (h : Value) (w : World) : (Go.method 347 188 (.agg #[h]) "AssignableTo").run Tryz.prog w = .ok (147, .agg #[h]) w := by kernel_rfl

theorem elem89 (w : World) : (ReflectliteType.method ReflectliteType.elem #[.agg #[.pointer (some ⟨1, 115, none⟩)]]).run Tryz.prog w = .ok (.iface 188 (.agg #[.pointer (some ⟨1, 29, none⟩)])) w := by kernel_rfl

theorem implements37 (w : World) : (ReflectliteType.relation "Implements" ReflectliteType.implements_ #[.agg #[.pointer (some ⟨1, 29, none⟩)], .iface 188 (.agg #[.pointer (some ⟨1, 26, none⟩)])]).run Tryz.prog w = .ok (.bool true) w := by kernel_rfl

theorem typeOf74 (v : Value) (w : World) : (ReflectliteType.typeOf #[.iface 99 v]).run Tryz.prog w = .ok (.iface 188 (.agg #[.pointer (some ⟨1, 99, none⟩)])) w := by kernel_rfl

theorem assignable74 (w : World) : (ReflectliteType.relation "AssignableTo" ReflectliteType.assignableTo #[.agg #[.pointer (some ⟨1, 99, none⟩)], .iface 188 (.agg #[.pointer (some ⟨1, 29, none⟩)])]).run Tryz.prog w = .ok (.bool false) w := by kernel_rfl

theorem ta89_89 (v : Value) (w : World) : (Instr.typeAssert (.iface 115 v) 20 115 true).run Tryz.prog w = .ok (.tuple #[v, .bool true]) w := by kernel_rfl

attribute [local go_sem] not_any mf_any ta125_74 ta89_89 method_as

theorem fill_any (t : Nat) (c : Int) (old : Value) (w : World) (ht : w.cell? ⟨t, 0, none⟩ = some old) (hf : w.frozen? ⟨t, 0, none⟩ = false) :
    Calls Tryz.prog 140 #[.iface 115 (.pointer (some ⟨t, 0, none⟩)), .int .i64 c] w fun e w' => e = .returned (.bool true) ∧ w' = w.setCell ⟨t, 0, none⟩ (.int .i64 c) := by
  go_enter Tryz.func140, Tryz.ntmps140
  go_wp2
  go_ret
  exact ⟨rfl, rfl⟩

theorem faultAs_root (b t : Nat) (c : Int) (old : Value) (w : World) (h0 : w.cell? ⟨b, 0, none⟩ = some (.int .i64 c)) (h2 : w.cell? ⟨b, 2, none⟩ = some .nilIface) (hc : (c != 0) = true) (ht : w.cell? ⟨t, 0, none⟩ = some old) (hf : w.frozen? ⟨t, 0, none⟩ = false) :
    Calls Tryz.prog 138 #[.pointer (some ⟨b, 0, none⟩), .iface 115 (.pointer (some ⟨t, 0, none⟩))] w fun e w' => e = .returned (.bool true) ∧ w' = w.setCell ⟨t, 0, none⟩ (.int .i64 c) := by
  have HR := isRoot_yes b c w h0 h2 hc
  have HR' : Hid (Calls Tryz.prog 52 #[.pointer (some ⟨b, 0, none⟩)] w fun e w' => e = .returned (.bool true) ∧ w' = w) := HR
  have HF' : Hid (Calls Tryz.prog 140 #[.iface 115 (.pointer (some ⟨t, 0, none⟩)), .int .i64 c] w fun e w' => e = .returned (.bool true) ∧ w' = w.setCell ⟨t, 0, none⟩ (.int .i64 c)) := fill_any t c old w ht hf
  clear HR h2 hc ht hf
  go_enter Tryz.func138, Tryz.ntmps138
  go_wp2_with (first | (go_at_call 52; refine HR'.out.mono ?_; rintro e w' ⟨rfl, rfl⟩) | (go_at_call 140; refine HF'.out.mono ?_; rintro e w' ⟨rfl, rfl⟩))
  go_ret
  exact ⟨rfl, rfl⟩

theorem as_root (b t : Nat) (c : Int) (old : Value) (w : World) (hg : w.cell? ⟨0, 0, none⟩ = some (.iface 188 (.agg #[.pointer (some ⟨1, 26, none⟩)])))
    (h0 : w.cell? ⟨b, 0, none⟩ = some (.int .i64 c)) (h2 : w.cell? ⟨b, 2, none⟩ = some .nilIface) (hc : (c != 0) = true) (ht : w.cell? ⟨t, 0, none⟩ = some old) (hf : w.frozen? ⟨t, 0, none⟩ = false) :
    Calls Tryz.prog 50 #[.iface 99 (.pointer (some ⟨b, 0, none⟩)), .iface 115 (.pointer (some ⟨t, 0, none⟩))] w fun e w' => e = .returned (.bool true) ∧
      w' = ((((w.alloc (.cells #[.pointer (some ⟨t, 0, none⟩)] 115)).alloc (.cells #[.pointer (some ⟨1, 115, none⟩), .pointer (some ⟨w.heap.size, 0, none⟩), .int .u64 150] 164)).alloc (.cells #[.pointer (some ⟨1, 115, none⟩), .pointer (some ⟨w.heap.size, 0, none⟩), .int .u64 150] 164))).setCell ⟨t, 0, none⟩ (.int .i64 c) := by
  have h62 := @run_callFunc_extern Tryz.prog 84 _ (fun args => ReflectliteValue.unpack (args.getD 0 (.tuple #[]))) Tryz.func84 (by kernel_rfl) (by kernel_rfl) (by kernel_rfl) (by kernel_rfl)
  have h63 := @run_callFunc_extern Tryz.prog 85 _ (ReflectliteValue.methodAny (ReflectliteValue.valueError "reflectlite.Value.Type" 0) (fun t _ _ _ => ReflectliteType.toType t)) Tryz.func85 (by kernel_rfl) (by kernel_rfl) (by kernel_rfl) (by kernel_rfl)
  have h64 := @run_callFunc_extern Tryz.prog 86 _ (ReflectliteValue.method (ReflectliteValue.valueError "reflectlite.Value.IsNil" 0) ReflectliteValue.isNil) Tryz.func86 (by kernel_rfl) (by kernel_rfl) (by kernel_rfl) (by kernel_rfl)
  have h87 := @run_callFunc_extern Tryz.prog 134 _ (ReflectliteType.abiMethod fun t => do pure (.int .u8 (← Rtype.kind t))) Tryz.func134 (by kernel_rfl) (by kernel_rfl) (by kernel_rfl) (by kernel_rfl)
  have h103 := @run_callFunc_extern Tryz.prog 149 _ (ReflectliteType.method ReflectliteType.elem) Tryz.func149 (by kernel_rfl) (by kernel_rfl) (by kernel_rfl) (by kernel_rfl)
  have h104 := @run_callFunc_extern Tryz.prog 150 _ (ReflectliteType.relation "Implements" ReflectliteType.implements_) Tryz.func150 (by kernel_rfl) (by kernel_rfl) (by kernel_rfl) (by kernel_rfl)
  have h66 := @run_callFunc_extern Tryz.prog 100 _ ReflectliteType.typeOf Tryz.func100 (by kernel_rfl) (by kernel_rfl) (by kernel_rfl) (by kernel_rfl)
  have h101 := @run_callFunc_extern Tryz.prog 147 _ (ReflectliteType.relation "AssignableTo" ReflectliteType.assignableTo) Tryz.func147 (by kernel_rfl) (by kernel_rfl) (by kernel_rfl) (by kernel_rfl)
  have tO := typeOf74
  have mA := methodAssignableTo
  have a74 := assignable74
  have f62 := valueOf89
  have f63 := type89
  have mK := methodKind
  have mE := methodElem
  have mI := methodImplements
  have k89 := kind89
  have k37 := kind37
  have e89 := elem89
  have i37 := implements37
  have n64 := isNil89 ⟨w.heap.size, 0, none⟩ ⟨t, 0, none⟩ ((w.alloc (.cells #[.pointer (some ⟨t, 0, none⟩)] 115)).alloc (.cells #[.pointer (some ⟨1, 115, none⟩), .pointer (some ⟨w.heap.size, 0, none⟩), .int .u64 150] 164)) (by simp)
  have hlt : 0 < w.heap.size := lt_cell hg
  have hg2 : ((w.alloc (.cells #[.pointer (some ⟨t, 0, none⟩)] 115)).alloc (.cells #[.pointer (some ⟨1, 115, none⟩), .pointer (some ⟨w.heap.size, 0, none⟩), .int .u64 150] 164)).cell? ⟨0, 0, none⟩ = some (.iface 188 (.agg #[.pointer (some ⟨1, 26, none⟩)])) := by
    rw [World.cell?_alloc_lt _ _ ⟨0, 0, none⟩ (by simp), World.cell?_alloc_lt _ _ ⟨0, 0, none⟩ hlt]; exact hg
  have htl : t < w.heap.size := lt_cell ht
  have hbl : b < w.heap.size := lt_cell h0
  have HA : Hid (Calls Tryz.prog 138 #[.pointer (some ⟨b, 0, none⟩), .iface 115 (.pointer (some ⟨t, 0, none⟩))] ((((w.alloc (.cells #[.pointer (some ⟨t, 0, none⟩)] 115)).alloc (.cells #[.pointer (some ⟨1, 115, none⟩), .pointer (some ⟨w.heap.size, 0, none⟩), .int .u64 150] 164)).alloc (.cells #[.pointer (some ⟨1, 115, none⟩), .pointer (some ⟨w.heap.size, 0, none⟩), .int .u64 150] 164)))
      fun e w' => e = .returned (.bool true) ∧ w' = ((((w.alloc (.cells #[.pointer (some ⟨t, 0, none⟩)] 115)).alloc (.cells #[.pointer (some ⟨1, 115, none⟩), .pointer (some ⟨w.heap.size, 0, none⟩), .int .u64 150] 164)).alloc (.cells #[.pointer (some ⟨1, 115, none⟩), .pointer (some ⟨w.heap.size, 0, none⟩), .int .u64 150] 164))).setCell ⟨t, 0, none⟩ (.int .i64 c)) := by
    refine faultAs_root b t c old _ ?_ ?_ hc ?_ ?_
    · rw [World.cell?_alloc_lt _ _ _ (by simp; omega), World.cell?_alloc_lt _ _ _ (by simp; omega), World.cell?_alloc_lt _ _ _ hbl]; exact h0
    · rw [World.cell?_alloc_lt _ _ _ (by simp; omega), World.cell?_alloc_lt _ _ _ (by simp; omega), World.cell?_alloc_lt _ _ _ hbl]; exact h2
    · rw [World.cell?_alloc_lt _ _ _ (by simp; omega), World.cell?_alloc_lt _ _ _ (by simp; omega), World.cell?_alloc_lt _ _ _ htl]; exact ht
    · rw [World.frozen?_alloc_old _ _ _ (by simp; omega), World.frozen?_alloc_old _ _ _ (by simp; omega), World.frozen?_alloc_old _ _ _ (Nat.ne_of_lt htl)]; exact hf
  clear h0 h2 ht hf hc hg
  go_enter Tryz.func50, Tryz.ntmps50
  go_wp2_with (first | (go_at_call 87; go_in))
  refine wp_loop_rounds 1 ?_
  rw [rounds_succ]
  go_wp2_with (go_at_call 138; refine HA.out.mono ?_; rintro e w' ⟨rfl, rfl⟩)
  go_ret
  exact ⟨rfl, rfl⟩

def Et (W : World) : Prop := W.cell? ⟨0, 0, none⟩ = some (.iface 188 (.agg #[.pointer (some ⟨1, 26, none⟩)]))

theorem idle61 (w : World) :
    CallsD Tryz.prog 83 #[] .returning w fun e u' w' => e = .returned (.tuple #[]) ∧ u' = .returning ∧ w' = w := by
  refine callsD_of_wpS Tryz.func83 rfl fun c₀ cs hu => ?_
  apply wpS_region
  simp [wpOpsS, go_sem, recoverD, hu, Tryz.ntmps83, bodyPostS, results, Tryz.results83]
  cases c₀
  simp_all

theorem guarded48 (f : FuncId) (cap : Array Value) (w : World) (R : Value → World → Prop) (hen : ∀ args w, (callFunc f args).run Tryz.prog w = .ok (.enter f args) w)
    (hg : Calls Tryz.prog f cap w fun e w' => ∃ v, e = .returned (.bool v) ∧ R (.bool v) w') :
    Calls Tryz.prog 48 #[.func (.func f) #[] cap] w fun e w' => ∃ v, e = .returned (.bool v) ∧ R (.bool v) w' := by
  have hg' := hide1 hg
  clear hg
  go_enter_defers Tryz.func48, Tryz.ntmps48
  go_wp2_with fail
  refine hg'.out.mono ?_
  rintro e w' ⟨v, rfl, hR⟩
  go_wp2
  refine leaves_cons (f := 83) (args := #[]) (by simp) (by simp [go_sem]) ?_
  refine (idle61 _).mono ?_
  rintro e u' w'' ⟨rfl, rfl, rfl⟩
  exact ⟨_, results_tmp rfl _ _ _, v, rfl, hR⟩

end Go.Proofs.YtcadlcpccemkbaaGreatDoor.F
