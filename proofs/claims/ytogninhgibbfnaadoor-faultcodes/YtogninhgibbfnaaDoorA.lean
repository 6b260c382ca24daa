/- The small functions of package fault: what each call does to the world. -/
import Derived.Test.YtogninhgibbfnaaDoorRows
import Derived.WalkKit
import Derived.WalkSpells
import Derived.WalkLawsBesides
import Derived.Stop.Asserts
import Derived.Defers
import Derived.Recover
namespace Go.Proofs.YtogninhgibbfnaaDoor
open Go.RowKit
set_option maxRecDepth 100000

theorem lt_cell {w : World} {b o : Nat} {v : Value} (h : w.cell? ⟨b, o, none⟩ = some v) : b < w.heap.size := by
  unfold World.cell? at h
  cases hb : w.heap[b]? with
  | none => simp [hb] at h
  | some x => exact (Array.getElem?_eq_some_iff.1 hb).1

theorem ta74_74 (v : Value) (w : World) : (Instr.typeAssert (.iface 74 v) 36 74 true).run Tryd.prog w = .ok (.tuple #[v, .bool true]) w := by kernel_rfl
theorem ta77_74 (v : Value) (w : World) : (Instr.typeAssert (.iface 74 v) 36 77 true).run Tryd.prog w = .ok (.tuple #[.pointer none, .bool false]) w := by kernel_rfl
theorem ta100_74 (v : Value) (w : World) : (Instr.typeAssert (.iface 74 v) 36 100 true).run Tryd.prog w = .ok (.tuple #[.nilIface, .bool false]) w := run_typeAssert_lacksB Tryd.underlying100 (by kernel_rfl) (by kernel_rfl) v 36 w
theorem ta103_74 (v : Value) (w : World) : (Instr.typeAssert (.iface 74 v) 36 103 true).run Tryd.prog w = .ok (.tuple #[.iface 74 v, .bool true]) w := by kernel_rfl
theorem ta125_74 (v : Value) (w : World) : (Instr.typeAssert (.iface 74 v) 36 125 true).run Tryd.prog w = .ok (.tuple #[.iface 74 v, .bool true]) w := by kernel_rfl
theorem not_any (x : Bool) (w : World) : (Op.unary .not (.bool x)).run Tryd.prog w = .ok (.bool (!x)) w := rfl
theorem mf_any (fn : Fn) (first cap : Array Value) (w : World) : (Instr.makeFunc fn first cap).run Tryd.prog w = .ok (.func fn first cap) w := rfl
attribute [local go_sem] ta74_74 ta77_74 ta100_74 ta103_74 ta125_74 not_any mf_any

set_option maxHeartbeats 400000 in
theorem new_some (c : Int) (s : ByteArray) (w : World) (hc : (c == 0) = false) :
    Calls Tryd.prog 23 #[.int .i64 c, .string s] w fun e w' =>
      e = .returned (.iface 74 (.pointer (some ⟨w.heap.size, 0, none⟩))) ∧ w' = w.alloc (.cells #[.int .i64 c, .string s, .nilIface] 76) := by
  go_enter Tryd.func23, Tryd.ntmps23
  go_wp2
  go_ret
  exact ⟨rfl, rfl⟩

set_option maxHeartbeats 400000 in
theorem new_none (s : ByteArray) (w : World) :
    Calls Tryd.prog 23 #[.int .i64 0, .string s] w fun e w' => e = .returned .nilIface ∧ w' = w := by
  go_enter Tryd.func23, Tryd.ntmps23
  go_wp2
  go_ret
  exact ⟨rfl, rfl⟩

set_option maxHeartbeats 400000 in
theorem wrap_none (s : ByteArray) (w : World) :
    Calls Tryd.prog 24 #[.string s, .nilIface] w fun e w' => e = .returned .nilIface ∧ w' = w := by
  go_enter Tryd.func24, Tryd.ntmps24
  go_wp2
  go_ret
  exact ⟨rfl, rfl⟩

set_option maxHeartbeats 400000 in
theorem wrap_some (s : ByteArray) (t : TypeId) (v : Value) (w : World) :
    Calls Tryd.prog 24 #[.string s, .iface t v] w fun e w' =>
      e = .returned (.iface 74 (.pointer (some ⟨w.heap.size, 0, none⟩))) ∧ w' = w.alloc (.cells #[.int .i64 0, .string s, .iface t v] 76) := by
  go_enter Tryd.func24, Tryd.ntmps24
  go_wp2
  go_ret
  exact ⟨rfl, rfl⟩

set_option maxHeartbeats 400000 in
theorem unwrap_any (b : Nat) (v : Value) (w : World) (h2 : w.cell? ⟨b, 2, none⟩ = some v) :
    Calls Tryd.prog 52 #[.pointer (some ⟨b, 0, none⟩)] w fun e w' => e = .returned v ∧ w' = w := by
  go_enter Tryd.func52, Tryd.ntmps52
  go_wp2
  go_ret
  exact ⟨rfl, rfl⟩

set_option maxHeartbeats 400000 in
theorem isRoot_yes (b : Nat) (c : Int) (w : World) (h0 : w.cell? ⟨b, 0, none⟩ = some (.int .i64 c)) (h2 : w.cell? ⟨b, 2, none⟩ = some .nilIface) (hc : (c != 0) = true) :
    Calls Tryd.prog 53 #[.pointer (some ⟨b, 0, none⟩)] w fun e w' => e = .returned (.bool true) ∧ w' = w := by
  go_enter Tryd.func53, Tryd.ntmps53
  go_wp2
  go_ret
  exact ⟨rfl, rfl⟩

set_option maxHeartbeats 400000 in
theorem isRoot_no (b : Nat) (t : TypeId) (v : Value) (w : World) (h2 : w.cell? ⟨b, 2, none⟩ = some (.iface t v)) :
    Calls Tryd.prog 53 #[.pointer (some ⟨b, 0, none⟩)] w fun e w' => e = .returned (.bool false) ∧ w' = w := by
  go_enter Tryd.func53, Tryd.ntmps53
  go_wp2
  go_ret
  exact ⟨rfl, rfl⟩

set_option maxHeartbeats 400000 in
theorem isHollow_root (b : Nat) (c : Int) (w : World) (h0 : w.cell? ⟨b, 0, none⟩ = some (.int .i64 c)) (h2 : w.cell? ⟨b, 2, none⟩ = some .nilIface) (hc : (c != 0) = true) :
    Calls Tryd.prog 34 #[.iface 74 (.pointer (some ⟨b, 0, none⟩))] w fun e w' => e = .returned (.bool false) ∧ w' = w := by
  go_enter Tryd.func34, Tryd.ntmps34
  go_wp2
  go_ret
  exact ⟨rfl, rfl⟩

set_option maxHeartbeats 400000 in
theorem isHollow_wrap (b : Nat) (t : TypeId) (v : Value) (w : World) (h2 : w.cell? ⟨b, 2, none⟩ = some (.iface t v)) :
    Calls Tryd.prog 34 #[.iface 74 (.pointer (some ⟨b, 0, none⟩))] w fun e w' => e = .returned (.bool false) ∧ w' = w := by
  go_enter Tryd.func34, Tryd.ntmps34
  go_wp2
  go_ret
  exact ⟨rfl, rfl⟩

set_option maxHeartbeats 400000 in
theorem place_of (b : Nat) (s : ByteArray) (w : World) (h1 : w.cell? ⟨b, 1, none⟩ = some (.string s))
    (hh : Calls Tryd.prog 34 #[.iface 74 (.pointer (some ⟨b, 0, none⟩))] w fun e w' => e = .returned (.bool false) ∧ w' = w) :
    Calls Tryd.prog 38 #[.iface 74 (.pointer (some ⟨b, 0, none⟩))] w fun e w' => e = .returned (.tuple #[.string s, .bool true]) ∧ w' = w := by
  have hh' : Hid (Calls Tryd.prog 34 #[.iface 74 (.pointer (some ⟨b, 0, none⟩))] w fun e w' => e = .returned (.bool false) ∧ w' = w) := hh
  clear hh
  go_enter Tryd.func38, Tryd.ntmps38
  go_wp2_with (go_at_call 34; refine hh'.out.mono ?_; rintro e w' ⟨rfl, rfl⟩)
  go_ret2
  exact ⟨rfl, rfl⟩

set_option maxHeartbeats 400000 in
theorem isOwn_74 (v : Value) (w : World) :
    Calls Tryd.prog 41 #[.iface 74 v] w fun e w' => e = .returned (.bool true) ∧ w' = w := by
  go_enter Tryd.func41, Tryd.ntmps41
  go_wp2
  go_ret
  exact ⟨rfl, rfl⟩

set_option maxHeartbeats 400000 in
theorem word_10 (b : Nat) (w : World) (h0 : w.cell? ⟨b, 0, none⟩ = some (.int .i64 10)) (h2 : w.cell? ⟨b, 2, none⟩ = some .nilIface) :
    Calls Tryd.prog 42 #[.iface 74 (.pointer (some ⟨b, 0, none⟩))] w fun e w' => e = .returned (.string ⟨#[116, 97, 112, 101, 32, 101, 120, 104, 97, 117, 115, 116, 101, 100]⟩) ∧ w' = w := by
  go_enter Tryd.func42, Tryd.ntmps42
  go_wp2
  go_ret
  exact ⟨rfl, rfl⟩

set_option maxHeartbeats 400000 in
theorem errno10 (w : World) :
    Calls Tryd.prog 44 #[.int .i64 10] w fun e w' => e = .returned (.string ⟨#[116, 97, 112, 101, 32, 101, 120, 104, 97, 117, 115, 116, 101, 100]⟩) ∧ w' = w := by
  go_enter Tryd.func44, Tryd.ntmps44
  go_wp2
  go_ret
  exact ⟨rfl, rfl⟩

/- the interface's method call on a *Fault -/
theorem method_unwrap (a : Addr) (w : World) : (method 260 74 (.pointer (some a)) "Unwrap").run Tryd.prog w = .ok (52, .pointer (some a)) w := by kernel_rfl
theorem method_as (a : Addr) (w : World) : (method 260 74 (.pointer (some a)) "As").run Tryd.prog w = .ok (91, .pointer (some a)) w := by kernel_rfl
attribute [local go_sem] method_unwrap method_as

set_option maxHeartbeats 400000 in
theorem causes1_wrap (p b : Nat) (t : TypeId) (v : Value) (w : World) (hp : w.cell? ⟨p, 0, none⟩ = some (.iface 74 (.pointer (some ⟨b, 0, none⟩)))) (h2 : w.cell? ⟨b, 2, none⟩ = some (.iface t v)) :
    Calls Tryd.prog 59 #[.pointer (some ⟨p, 0, none⟩)] w fun e w' => e = .returned (.slice (some ⟨w.heap.size, 0, none⟩) 1 1) ∧ w' = w.alloc (.cells #[.iface t v] 36) := by
  go_enter Tryd.func59, Tryd.ntmps59
  go_wp2
  go_ret
  exact ⟨rfl, rfl⟩

set_option maxHeartbeats 400000 in
theorem causes1_root (p b : Nat) (w : World) (hp : w.cell? ⟨p, 0, none⟩ = some (.iface 74 (.pointer (some ⟨b, 0, none⟩)))) (h2 : w.cell? ⟨b, 2, none⟩ = some .nilIface) :
    Calls Tryd.prog 59 #[.pointer (some ⟨p, 0, none⟩)] w fun e w' => e = .returned (.slice none 0 0) ∧ w' = w := by
  go_enter Tryd.func59, Tryd.ntmps59
  go_wp2
  go_ret
  exact ⟨rfl, rfl⟩

theorem idle70 (w : World) :
    CallsD Tryd.prog 70 #[] .returning w fun e u' w' => e = .returned (.tuple #[]) ∧ u' = .returning ∧ w' = w := by
  refine callsD_of_wpS Tryd.func70 rfl fun c₀ cs hu => ?_
  apply wpS_region
  simp [wpOpsS, go_sem, recoverD, hu, Tryd.ntmps70, bodyPostS, results, Tryd.results70]
  cases c₀
  simp_all

set_option maxHeartbeats 400000 in
theorem guarded58 (cap : Array Value) (w : World) (R : Value → World → Prop)
    (hg : Calls Tryd.prog 59 cap w fun e w' => ∃ v, e = .returned v ∧ R v w') :
    Calls Tryd.prog 58 #[.func (.func 59) #[] cap] w fun e w' => ∃ v, e = .returned v ∧ R v w' := by
  have hg' : Hid (Calls Tryd.prog 59 cap w fun e w' => ∃ v, e = .returned v ∧ R v w') := hg
  clear hg
  go_enter_defers Tryd.func58, Tryd.ntmps58
  go_wp2_with fail
  refine hg'.out.mono ?_
  rintro e w' ⟨v, rfl, hR⟩
  go_wp2
  refine leaves_cons (f := 70) (args := #[]) (by simp) (by simp [go_sem]) ?_
  refine (idle70 _).mono ?_
  rintro e u' w'' ⟨rfl, rfl, rfl⟩
  exact ⟨_, results_tmp rfl _ _ _, v, rfl, hR⟩

set_option maxHeartbeats 400000 in
theorem causes_wrap (b : Nat) (t : TypeId) (v : Value) (w : World) (h2 : w.cell? ⟨b, 2, none⟩ = some (.iface t v)) :
    Calls Tryd.prog 46 #[.iface 74 (.pointer (some ⟨b, 0, none⟩))] w fun e w' => e = .returned (.slice (some ⟨w.heap.size + 1, 0, none⟩) 1 1) ∧
      w' = (w.alloc (.cells #[.iface 74 (.pointer (some ⟨b, 0, none⟩))] 36)).alloc (.cells #[.iface t v] 36) := by
  have hlt := lt_cell h2
  go_enter Tryd.func46, Tryd.ntmps46
  go_wp2_with fail
  refine (guarded58 _ _ (fun x w' => x = .slice (some ⟨w.heap.size + 1, 0, none⟩) 1 1 ∧ w' = (w.alloc (.cells #[.iface 74 (.pointer (some ⟨b, 0, none⟩))] 36)).alloc (.cells #[.iface t v] 36)) ?_).mono ?_
  · refine (causes1_wrap w.heap.size b t v _ (by simp) ((World.cell?_alloc_past _ _ _ hlt).trans h2)).mono ?_
    rintro e w' ⟨rfl, rfl⟩
    exact ⟨_, rfl, by simp, rfl⟩
  rintro e w' ⟨x, rfl, rfl, rfl⟩
  go_wp2
  go_ret
  exact ⟨rfl, rfl⟩

set_option maxHeartbeats 400000 in
theorem causes_root (b : Nat) (w : World) (h2 : w.cell? ⟨b, 2, none⟩ = some .nilIface) :
    Calls Tryd.prog 46 #[.iface 74 (.pointer (some ⟨b, 0, none⟩))] w fun e w' => e = .returned (.slice none 0 0) ∧
      w' = w.alloc (.cells #[.iface 74 (.pointer (some ⟨b, 0, none⟩))] 36) := by
  have hlt := lt_cell h2
  go_enter Tryd.func46, Tryd.ntmps46
  go_wp2_with fail
  refine (guarded58 _ _ (fun x w' => x = .slice none 0 0 ∧ w' = (w.alloc (.cells #[.iface 74 (.pointer (some ⟨b, 0, none⟩))] 36))) ?_).mono ?_
  · refine (causes1_root w.heap.size b _ (by simp) ((World.cell?_alloc_past _ _ _ hlt).trans h2)).mono ?_
    rintro e w' ⟨rfl, rfl⟩
    exact ⟨_, rfl, by simp, rfl⟩
  rintro e w' ⟨x, rfl, rfl, rfl⟩
  go_wp2
  go_ret
  exact ⟨rfl, rfl⟩

set_option maxHeartbeats 1000000 in
theorem walk_nil (vis : Value) (w : World) :
    Calls Tryd.prog 29 #[.nilIface, vis] w fun e w' => e = .returned (.tuple #[]) ∧ Below w.heap.size w w' := by
  go_enter Tryd.func29, Tryd.ntmps29
  go_wp2
  refine wp_loop_rounds 2 ?_
  rw [rounds_succ]
  go_wp2
  rw [rounds_succ]
  go_wp2
  go_end0
  refine ⟨rfl, ?_⟩
  repeat (first | exact Below.refl _ _ | refine Below.alloc ?_ (by simp; try omega) _ | refine Below.setCell ?_ (by simp; try omega) _ | refine Below.drew ?_)

end Go.Proofs.YtogninhgibbfnaaDoor
