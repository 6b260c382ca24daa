/- errors.Is at a part that came of nothing, with a number as its target. -/
import Derived.Test.YtogninhgibbfnaaDoorE
namespace Go.Proofs.YtogninhgibbfnaaDoor
open Go.RowKit Go.Shelf Go.Extern.Stop Go.Stop Go.Extern
set_option maxRecDepth 100000

theorem methodComparable (h : Value) (w : World) : (Go.method 260 121 (.agg #[h]) "Comparable").run Tryd.prog w = .ok (102, .agg #[h]) w := by kernel_rfl
theorem comparable37 (w : World) : ((ReflectliteType.method fun t => do Rtype.noPackHeld "Comparable" t; (fun a => Value.bool a.comparable) <$> typeInfo t) #[.agg #[.pointer (some ⟨1, 37, none⟩)]]).run Tryd.prog w = .ok (.bool true) w := by kernel_rfl
theorem ta128_37 (v : Value) (w : World) : (Instr.typeAssert (.iface 37 v) 36 128 true).run Tryd.prog w = .ok (.tuple #[.nilIface, .bool false]) w := run_typeAssert_lacksB Tryd.underlying128 (by kernel_rfl) (by kernel_rfl) v 36 w
theorem ta128_74 (v : Value) (w : World) : (Instr.typeAssert (.iface 74 v) 36 128 true).run Tryd.prog w = .ok (.tuple #[.iface 74 v, .bool true]) w := by kernel_rfl
theorem method_is (a : Addr) (w : World) : (method 260 74 (.pointer (some a)) "Is").run Tryd.prog w = .ok (93, .pointer (some a)) w := by kernel_rfl
theorem ta102_74 (v : Value) (w : World) : (Instr.typeAssert (.iface 74 v) 36 102 true).run Tryd.prog w = .ok (.tuple #[.iface 74 v, .bool true]) w := by kernel_rfl
theorem ta102_37 (v : Value) (w : World) : (Instr.typeAssert (.iface 37 v) 36 102 true).run Tryd.prog w = .ok (.tuple #[.nilIface, .bool false]) w := run_typeAssert_lacksB Tryd.underlying102 (by kernel_rfl) (by kernel_rfl) v 36 w
theorem ta99_37 (v : Value) (w : World) : (Instr.typeAssert (.iface 37 v) 36 99 true).run Tryd.prog w = .ok (.tuple #[.nilIface, .bool false]) w := run_typeAssert_lacksB Tryd.underlying99 (by kernel_rfl) (by kernel_rfl) v 36 w
theorem eq37 (c d : Int) (w : World) : (binOp .eql 36 (.iface 37 (.int .i64 c)) (.iface 37 (.int .i64 d))).run Tryd.prog w = .ok (.bool (c == d)) w := by kernel_rfl
theorem eq74_37 (u v : Value) (w : World) : (binOp .eql 36 (.iface 74 u) (.iface 37 v)).run Tryd.prog w = .ok (.bool false) w := by kernel_rfl
attribute [local go_sem] eq37 eq74_37 not_any mf_any ta128_37 ta128_74 method_is ta102_74 ta102_37 ta99_37 method_unwrap

set_option maxHeartbeats 1000000 in
theorem is67_errno (c d : Int) (w : World) :
    Calls Tryd.prog 67 #[.iface 37 (.int .i64 c), .iface 37 (.int .i64 d), .bool true] w fun e w' => e = .returned (.bool (c == d)) ∧ w' = w := by
  go_enter Tryd.func67, Tryd.ntmps67
  go_wp2_with fail
  refine wp_loop_rounds 1 ?_
  rw [rounds_succ]
  cases h : (c == d) with
  | true =>
    go_wp2_with fail
    go_ret
    exact ⟨by rw [h]; rfl, rfl⟩
  | false =>
    go_wp2_with fail
    go_ret
    exact ⟨by rw [h]; rfl, rfl⟩

set_option maxHeartbeats 1000000 in
theorem faultIs_root (b : Nat) (c d : Int) (w : World) (h0 : w.cell? ⟨b, 0, none⟩ = some (.int .i64 c)) (h2 : w.cell? ⟨b, 2, none⟩ = some .nilIface) (hc : (c != 0) = true) :
    Calls Tryd.prog 93 #[.pointer (some ⟨b, 0, none⟩), .iface 37 (.int .i64 d)] w fun e w' => e = .returned (.bool (c == d)) ∧ w' = w := by
  have HR := hide1 (isRoot_yes b c w h0 h2 hc)
  clear h2 hc
  have hcd : (d == c) = (c == d) := BEq.comm
  go_enter Tryd.func93, Tryd.ntmps93
  go_wp2_with (go_at_call 53; refine HR.out.mono ?_; rintro e w' ⟨rfl, rfl⟩)
  go_ret
  exact ⟨by simp, rfl⟩

set_option maxHeartbeats 1000000 in
theorem is67_root (b : Nat) (c d : Int) (w : World) (h0 : w.cell? ⟨b, 0, none⟩ = some (.int .i64 c)) (h2 : w.cell? ⟨b, 2, none⟩ = some .nilIface) (hc : (c != 0) = true) :
    Calls Tryd.prog 67 #[.iface 74 (.pointer (some ⟨b, 0, none⟩)), .iface 37 (.int .i64 d), .bool true] w fun e w' => e = .returned (.bool (c == d)) ∧ w' = w := by
  have HI := hide1 (faultIs_root b c d w h0 h2 hc)
  have HU := hide1 (unwrap_any b .nilIface w h2)
  clear h0 h2 hc
  go_enter Tryd.func67, Tryd.ntmps67
  go_wp2_with fail
  refine wp_loop_rounds 1 ?_
  rw [rounds_succ]
  cases h : (c == d) with
  | true =>
    rw [h] at HI
    go_wp2_with (go_at_call 93; refine HI.out.mono ?_; rintro e w' ⟨rfl, rfl⟩)
    go_ret
    exact ⟨by rw [h]; rfl, rfl⟩
  | false =>
    rw [h] at HI
    go_wp2_with (first | (go_at_call 93; refine HI.out.mono ?_; rintro e w' ⟨rfl, rfl⟩) | (go_at_call 52; refine HU.out.mono ?_; rintro e w' ⟨rfl, rfl⟩))
    go_ret
    exact ⟨by rw [h]; rfl, rfl⟩

set_option maxHeartbeats 1000000 in
theorem is55_any (x : E) (r : Bool) (d : Int) (w : World)
    (h : Calls Tryd.prog 67 #[ev x, .iface 37 (.int .i64 d), .bool true] w fun e w' => e = .returned (.bool r) ∧ w' = w) :
    Calls Tryd.prog 55 #[ev x, .iface 37 (.int .i64 d)] w fun e w' => e = .returned (.bool r) ∧ w' = w := by
  have h66 := @run_callFunc_extern Tryd.prog 66 _ ReflectliteType.typeOf Tryd.func66 (by kernel_rfl) (by kernel_rfl) (by kernel_rfl) (by kernel_rfl)
  have h102 := @run_callFunc_extern Tryd.prog 102 _ (ReflectliteType.method fun t => do Rtype.noPackHeld "Comparable" t; pure (.bool (← typeInfo t).comparable)) Tryd.func102 (by kernel_rfl) (by kernel_rfl) (by kernel_rfl) (by kernel_rfl)
  have tO := typeOf37
  have mC := methodComparable
  have c37 := comparable37
  have H := hide1 h
  clear h
  unfold ev at H ⊢
  go_enter Tryd.func55, Tryd.ntmps55
  go_wp2_with (go_at_call 67; refine H.out.mono ?_; rintro e w' ⟨rfl, rfl⟩)
  go_ret
  exact ⟨rfl, rfl⟩

/- what errors.Is must tell of a part for is to tell r -/
def IsTells (x : E) (d : Int) (r : Bool) (w : World) : Prop :=
  ∀ w2, Below w.heap.size w w2 → Calls Tryd.prog 67 #[ev x, .iface 37 (.int .i64 d), .bool true] w2 fun e w' => e = .returned (.bool r) ∧ w' = w2

set_option maxHeartbeats 1000000 in
theorem is54_any (x : E) (r : Bool) (d : Int) (b t : Nat) (w : World) (hb : w.cell? ⟨b, 0, none⟩ = some (ev x)) (ht : w.cell? ⟨t, 0, none⟩ = some (.int .i64 d))
    (h : Calls Tryd.prog 67 #[ev x, .iface 37 (.int .i64 d), .bool true] w fun e w' => e = .returned (.bool r) ∧ w' = w) :
    Calls Tryd.prog 54 #[.pointer (some ⟨b, 0, none⟩), .pointer (some ⟨t, 0, none⟩)] w fun e w' => e = .returned (.bool r) ∧ w' = w := by
  have H := hide1 (is55_any x r d w h)
  clear h
  go_enter Tryd.func54, Tryd.ntmps54
  go_wp2_with (go_at_call 55; refine H.out.mono ?_; rintro e w' ⟨rfl, rfl⟩)
  go_ret
  exact ⟨rfl, rfl⟩

set_option maxHeartbeats 1000000 in
theorem is36_any (x : E) (r : Bool) (d : Int) (w : World) (h : IsTells x d r w) :
    Calls Tryd.prog 36 #[ev x, .int .i64 d] w fun e w' => e = .returned (.bool r) ∧ Below w.heap.size w w' := by
  have H := hide1 h
  clear h
  go_enter Tryd.func36, Tryd.ntmps36
  go_wp2_with fail
  have hB : Below w.heap.size w ((w.alloc (.cells #[ev x] 36)).alloc (.cells #[.int .i64 d] 37)) := ((Below.refl _ _).alloc (Nat.le_refl _) _).alloc (by simp) _
  refine (guarded48 54 #[.pointer (some ⟨w.heap.size, 0, none⟩), .pointer (some ⟨w.heap.size + 1, 0, none⟩)] _ (fun v w' => v = .bool r ∧ w' = (w.alloc (.cells #[ev x] 36)).alloc (.cells #[.int .i64 d] 37)) (enters_of Tryd.func54 (by kernel_rfl) rfl) ?_).mono ?_
  · refine (is54_any x r d w.heap.size (w.heap.size + 1) _ (by simp) (by simp) (H.out _ hB)).mono ?_
    rintro e w' ⟨rfl, rfl⟩
    exact ⟨_, rfl, rfl, rfl⟩
  rintro e w' ⟨v, rfl, hv, rfl⟩
  cases hv
  go_wp2
  go_ret
  exact ⟨rfl, hB⟩

theorem isTells_errno (c d : Int) (w : World) : IsTells (37, .int .i64 c) d (c == d) w := fun w2 _ => is67_errno c d w2

theorem isTells_root (b : Nat) (c d : Int) (s : ByteArray) (w : World) (h : w.heap[b]? = some (.cells #[.int .i64 c, .string s, .nilIface] 76 (0, 0))) (hc : (c == 0) = false) : IsTells (74, .pointer (some ⟨b, 0, none⟩)) d (c == d) w := fun w2 hB => by
  obtain ⟨h0, _, h2⟩ := fault_cells ((hB.block b (lt_of_heap h)).trans h)
  exact is67_root b c d w2 h0 h2 (ne0 hc)

end Go.Proofs.YtogninhgibbfnaaDoor
