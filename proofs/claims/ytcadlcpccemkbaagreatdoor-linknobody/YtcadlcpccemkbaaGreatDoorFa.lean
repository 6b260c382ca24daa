/- The small functions of package fault, and errors.As, at an error that New made. -/
import Derived.Test.YtcadlcpccemkbaaGreatDoorRows
import Derived.Test.YtcadlcpccemkbaaGreatDoorFk
import Derived.Below
import Derived.Stop.Asserts
import Derived.Defers
import Derived.Recover
import Derived.LaidEql
import Derived.RowKitTokens
namespace Go.Proofs.YtcadlcpccemkbaaGreatDoor.F
open Go.RowKit Go.Extern.Stop Go.Stop Go.Extern
set_option maxRecDepth 100000

theorem lt_cell {w : World} {b o : Nat} {v : Value} (h : w.cell? ⟨b, o, none⟩ = some v) : b < w.heap.size := by
  unfold World.cell? at h
  cases hb : w.heap[b]? with
  | none => simp [hb] at h
  | some x => exact (Array.getElem?_eq_some_iff.1 hb).1

theorem ta74_74 (v : Value) (w : World) : (Instr.typeAssert (.iface 99 v) 26 99 true).run Tryz.prog w = .ok (.tuple #[v, .bool true]) w := by kernel_rfl

theorem ta77_74 (v : Value) (w : World) : (Instr.typeAssert (.iface 99 v) 26 153 true).run Tryz.prog w = .ok (.tuple #[.pointer none, .bool false]) w := by kernel_rfl

theorem ta100_74 (v : Value) (w : World) : (Instr.typeAssert (.iface 99 v) 26 156 true).run Tryz.prog w = .ok (.tuple #[.nilIface, .bool false]) w := run_typeAssert_lacksB Tryz.underlying156 (by kernel_rfl) (by kernel_rfl) v 26 w

theorem ta103_74 (v : Value) (w : World) : (Instr.typeAssert (.iface 99 v) 26 159 true).run Tryz.prog w = .ok (.tuple #[.iface 99 v, .bool true]) w := by kernel_rfl

theorem ta125_74 (v : Value) (w : World) : (Instr.typeAssert (.iface 99 v) 26 193 true).run Tryz.prog w = .ok (.tuple #[.iface 99 v, .bool true]) w := by kernel_rfl

theorem not_any (x : Bool) (w : World) : (Op.unary .not (.bool x)).run Tryz.prog w = .ok (.bool (!x)) w := rfl

theorem mf_any (fn : Fn) (first cap : Array Value) (w : World) : (Instr.makeFunc fn first cap).run Tryz.prog w = .ok (.func fn first cap) w := rfl

theorem hide1 {p : Prop} (h : p) : Hid p := h

attribute [local go_sem] ta74_74 ta77_74 ta100_74 ta103_74 ta125_74 not_any mf_any

theorem new_some (c : Int) (s : ByteArray) (w : World) (hc : (c == 0) = false) :
    Calls Tryz.prog 19 #[.int .i64 c, .string s] w fun e w' =>
      e = .returned (.iface 99 (.pointer (some ⟨w.heap.size, 0, none⟩))) ∧ w' = w.alloc (.cells #[.int .i64 c, .string s, .nilIface] 101) := by
  go_enter Tryz.func19, Tryz.ntmps19
  go_wp2
  go_ret
  exact ⟨rfl, rfl⟩

theorem unwrap_any (b : Nat) (v : Value) (w : World) (h2 : w.cell? ⟨b, 2, none⟩ = some v) :
    Calls Tryz.prog 51 #[.pointer (some ⟨b, 0, none⟩)] w fun e w' => e = .returned v ∧ w' = w := by
  go_enter Tryz.func51, Tryz.ntmps51
  go_wp2
  go_ret
  exact ⟨rfl, rfl⟩

theorem isRoot_yes (b : Nat) (c : Int) (w : World) (h0 : w.cell? ⟨b, 0, none⟩ = some (.int .i64 c)) (h2 : w.cell? ⟨b, 2, none⟩ = some .nilIface) (hc : (c != 0) = true) :
    Calls Tryz.prog 52 #[.pointer (some ⟨b, 0, none⟩)] w fun e w' => e = .returned (.bool true) ∧ w' = w := by
  go_enter Tryz.func52, Tryz.ntmps52
  go_wp2
  go_ret
  exact ⟨rfl, rfl⟩

theorem method_unwrap (a : Addr) (w : World) : (method 347 99 (.pointer (some a)) "Unwrap").run Tryz.prog w = .ok (51, .pointer (some a)) w := by kernel_rfl

theorem method_as (a : Addr) (w : World) : (method 347 99 (.pointer (some a)) "As").run Tryz.prog w = .ok (138, .pointer (some a)) w := by kernel_rfl

attribute [local go_sem] method_unwrap method_as

theorem causes1_root (p b : Nat) (w : World) (hp : w.cell? ⟨p, 0, none⟩ = some (.iface 99 (.pointer (some ⟨b, 0, none⟩)))) (h2 : w.cell? ⟨b, 2, none⟩ = some .nilIface) :
    Calls Tryz.prog 81 #[.pointer (some ⟨p, 0, none⟩)] w fun e w' => e = .returned (.slice none 0 0) ∧ w' = w := by
  go_enter Tryz.func81, Tryz.ntmps81
  go_wp2
  go_ret
  exact ⟨rfl, rfl⟩

theorem idle70 (w : World) :
    CallsD Tryz.prog 99 #[] .returning w fun e u' w' => e = .returned (.tuple #[]) ∧ u' = .returning ∧ w' = w := by
  refine callsD_of_wpS Tryz.func99 rfl fun c₀ cs hu => ?_
  apply wpS_region
  simp [wpOpsS, go_sem, recoverD, hu, Tryz.ntmps99, bodyPostS, results, Tryz.results99]
  cases c₀
  simp_all

theorem guarded58 (cap : Array Value) (w : World) (R : Value → World → Prop)
    (hg : Calls Tryz.prog 81 cap w fun e w' => ∃ v, e = .returned v ∧ R v w') :
    Calls Tryz.prog 80 #[.func (.func 81) #[] cap] w fun e w' => ∃ v, e = .returned v ∧ R v w' := by
  have hg' : Hid (Calls Tryz.prog 81 cap w fun e w' => ∃ v, e = .returned v ∧ R v w') := hg
  clear hg
  go_enter_defers Tryz.func80, Tryz.ntmps80
  go_wp2_with fail
  refine hg'.out.mono ?_
  rintro e w' ⟨v, rfl, hR⟩
  go_wp2
  refine leaves_cons (f := 99) (args := #[]) (by simp) (by simp [go_sem]) ?_
  refine (idle70 _).mono ?_
  rintro e u' w'' ⟨rfl, rfl, rfl⟩
  exact ⟨_, results_tmp rfl _ _ _, v, rfl, hR⟩

theorem causes_root (b : Nat) (w : World) (h2 : w.cell? ⟨b, 2, none⟩ = some .nilIface) :
    Calls Tryz.prog 46 #[.iface 99 (.pointer (some ⟨b, 0, none⟩))] w fun e w' => e = .returned (.slice none 0 0) ∧
      w' = w.alloc (.cells #[.iface 99 (.pointer (some ⟨b, 0, none⟩))] 26) := by
  have hlt := lt_cell h2
  go_enter Tryz.func46, Tryz.ntmps46
  go_wp2_with fail
  refine (guarded58 _ _ (fun x w' => x = .slice none 0 0 ∧ w' = (w.alloc (.cells #[.iface 99 (.pointer (some ⟨b, 0, none⟩))] 26))) ?_).mono ?_
  · refine (causes1_root w.heap.size b _ (by simp) ((World.cell?_alloc_past _ _ _ hlt).trans h2)).mono ?_
    rintro e w' ⟨rfl, rfl⟩
    exact ⟨_, rfl, by simp, rfl⟩
  rintro e w' ⟨x, rfl, rfl, rfl⟩
  go_wp2
  go_ret
  exact ⟨rfl, rfl⟩

theorem ne0 {c : Int} (h : (c == 0) = false) : (c != 0) = true := by simpa using h

theorem fault_cells {W : World} {b : Nat} {x y z : Value} (h : W.heap[b]? = some (.cells #[x, y, z] 101 (0, 0))) :
    W.cell? ⟨b, 0, none⟩ = some x ∧ W.cell? ⟨b, 1, none⟩ = some y ∧ W.cell? ⟨b, 2, none⟩ = some z := by
  refine ⟨?_, ?_, ?_⟩ <;> simp [World.cell?, h]

end Go.Proofs.YtcadlcpccemkbaaGreatDoor.F
