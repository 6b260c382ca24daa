/- The small calls on each kind of error. -/
import Derived.Test.YtogninhgibbfnaaDoorD
namespace Go.Proofs.YtogninhgibbfnaaDoor
open Go.RowKit Go.Shelf
set_option maxRecDepth 100000
attribute [local go_sem] ta74_74 ta77_74 ta100_74 ta103_74 not_any mf_any method_unwrap ta74_37 ta77_37 ta74_77 ta77_77 ta100_37 ta103_37 ta100_77 method_unwrap77 method_error37

theorem ne0 {c : Int} (h : (c == 0) = false) : (c != 0) = true := by simpa using h

theorem fault_cells {W : World} {b : Nat} {x y z : Value} (h : W.heap[b]? = some (.cells #[x, y, z] 76 (0, 0))) :
    W.cell? ⟨b, 0, none⟩ = some x ∧ W.cell? ⟨b, 1, none⟩ = some y ∧ W.cell? ⟨b, 2, none⟩ = some z := by
  refine ⟨?_, ?_, ?_⟩ <;> simp [World.cell?, h]

theorem pair_cells {W : World} {b : Nat} {x y : Value} (h : W.heap[b]? = some (.cells #[x, y] 79 (0, 0))) :
    W.cell? ⟨b, 0, none⟩ = some x ∧ W.cell? ⟨b, 1, none⟩ = some y := by
  refine ⟨?_, ?_⟩ <;> simp [World.cell?, h]

/- place -/
theorem place_root (b : Nat) (c : Int) (s : ByteArray) (w : World) (h : w.heap[b]? = some (.cells #[.int .i64 c, .string s, .nilIface] 76 (0, 0))) (hc : (c == 0) = false) :
    Calls Tryd.prog 38 #[.iface 74 (.pointer (some ⟨b, 0, none⟩))] w fun e w' => e = .returned (.tuple #[.string s, .bool true]) ∧ w' = w :=
  place_of b s w (fault_cells h).2.1 (isHollow_root b c w (fault_cells h).1 (fault_cells h).2.2 (ne0 hc))

theorem place_wrap (b : Nat) (s : ByteArray) (e1 : E) (w : World) (h : w.heap[b]? = some (.cells #[.int .i64 0, .string s, ev e1] 76 (0, 0))) :
    Calls Tryd.prog 38 #[.iface 74 (.pointer (some ⟨b, 0, none⟩))] w fun e w' => e = .returned (.tuple #[.string s, .bool true]) ∧ w' = w :=
  place_of b s w (fault_cells h).2.1 (isHollow_wrap b e1.1 e1.2 w (fault_cells h).2.2)

set_option maxHeartbeats 400000 in
theorem place_37 (v : Value) (w : World) :
    Calls Tryd.prog 38 #[.iface 37 v] w fun e w' => e = .returned (.tuple #[.string ⟨#[]⟩, .bool false]) ∧ w' = w := by
  go_enter Tryd.func38, Tryd.ntmps38
  go_wp2
  go_ret2
  exact ⟨rfl, rfl⟩

set_option maxHeartbeats 400000 in
theorem place_77 (v : Value) (w : World) :
    Calls Tryd.prog 38 #[.iface 77 v] w fun e w' => e = .returned (.tuple #[.string ⟨#[]⟩, .bool false]) ∧ w' = w := by
  go_enter Tryd.func38, Tryd.ntmps38
  go_wp2
  go_ret2
  exact ⟨rfl, rfl⟩

/- isHollow -/
set_option maxHeartbeats 400000 in
theorem isHollow_37 (v : Value) (w : World) :
    Calls Tryd.prog 34 #[.iface 37 v] w fun e w' => e = .returned (.bool false) ∧ w' = w := by
  go_enter Tryd.func34, Tryd.ntmps34
  go_wp2
  go_ret
  exact ⟨rfl, rfl⟩

set_option maxHeartbeats 400000 in
theorem isHollow_77 (v : Value) (w : World) :
    Calls Tryd.prog 34 #[.iface 77 v] w fun e w' => e = .returned (.bool false) ∧ w' = w := by
  go_enter Tryd.func34, Tryd.ntmps34
  go_wp2
  go_ret
  exact ⟨rfl, rfl⟩

/- isOwn -/
set_option maxHeartbeats 400000 in
theorem isOwn_77 (v : Value) (w : World) :
    Calls Tryd.prog 41 #[.iface 77 v] w fun e w' => e = .returned (.bool true) ∧ w' = w := by
  go_enter Tryd.func41, Tryd.ntmps41
  go_wp2
  go_ret
  exact ⟨rfl, rfl⟩

set_option maxHeartbeats 400000 in
theorem isOwn_37 (v : Value) (w : World) :
    Calls Tryd.prog 41 #[.iface 37 v] w fun e w' => e = .returned (.bool false) ∧ w' = w := by
  go_enter Tryd.func41, Tryd.ntmps41
  go_wp2
  go_ret
  exact ⟨rfl, rfl⟩

/- word -/
set_option maxHeartbeats 400000 in
theorem word_root (b : Nat) (c : Int) (s : ByteArray) (w : World) (h : w.heap[b]? = some (.cells #[.int .i64 c, .string s, .nilIface] 76 (0, 0))) (hc : (c == 0) = false) :
    Calls Tryd.prog 42 #[.iface 74 (.pointer (some ⟨b, 0, none⟩))] w fun e w' => e = .returned (.string (errWord c)) ∧ w' = w := by
  obtain ⟨h0, _, h2⟩ := fault_cells h
  have hr := isRoot_yes b c w h0 h2 (ne0 hc)
  have HR : Hid (Calls Tryd.prog 53 #[.pointer (some ⟨b, 0, none⟩)] w fun e w' => e = .returned (.bool true) ∧ w' = w) := hr
  clear hr h2
  go_enter Tryd.func42, Tryd.ntmps42
  go_wp2_with (first | (go_at_call 53; refine HR.out.mono ?_; rintro e w' ⟨rfl, rfl⟩) | (go_at_call 44; refine (errno_any _ _).mono ?_; rintro e w' ⟨rfl, rfl⟩))
  go_ret
  exact ⟨rfl, rfl⟩

theorem idle69 (w : World) :
    CallsD Tryd.prog 69 #[] .returning w fun e u' w' => e = .returned (.tuple #[]) ∧ u' = .returning ∧ w' = w := by
  refine callsD_of_wpS Tryd.func69 rfl fun c₀ cs hu => ?_
  apply wpS_region
  simp [wpOpsS, go_sem, recoverD, hu, Tryd.ntmps69, bodyPostS, results, Tryd.results69]
  cases c₀
  simp_all

set_option maxHeartbeats 400000 in
theorem guarded57 (c : Int) (w : World) :
    Calls Tryd.prog 57 #[.func (.method "Error") #[.iface 37 (.int .i64 c)] #[]] w fun e w' => e = .returned (.string (errWord c)) ∧ w' = w := by
  go_enter_defers Tryd.func57, Tryd.ntmps57
  go_wp2_with fail
  refine (errno_any _ _).mono ?_
  rintro e w' ⟨rfl, rfl⟩
  go_wp2
  refine leaves_cons (f := 69) (args := #[]) (by simp) (by simp [go_sem]) ?_
  refine (idle69 _).mono ?_
  rintro e u' w'' ⟨rfl, rfl, rfl⟩
  exact ⟨_, results_tmp rfl _ _ _, rfl, rfl⟩

set_option maxHeartbeats 400000 in
theorem word_37 (c : Int) (w : World) :
    Calls Tryd.prog 42 #[.iface 37 (.int .i64 c)] w fun e w' => e = .returned (.string (errWord c)) ∧ w' = w := by
  go_enter Tryd.func42, Tryd.ntmps42
  go_wp2_with (go_at_call 57; refine (guarded57 _ _).mono ?_; rintro e w' ⟨rfl, rfl⟩)
  go_ret
  exact ⟨rfl, rfl⟩

/- causes -/
set_option maxHeartbeats 400000 in
theorem causes1_37 (p : Nat) (v : Value) (w : World) (hp : w.cell? ⟨p, 0, none⟩ = some (.iface 37 v)) :
    Calls Tryd.prog 59 #[.pointer (some ⟨p, 0, none⟩)] w fun e w' => e = .returned (.slice none 0 0) ∧ w' = w := by
  go_enter Tryd.func59, Tryd.ntmps59
  go_wp2
  go_ret
  exact ⟨rfl, rfl⟩

set_option maxHeartbeats 400000 in
theorem unwrap_77 (b : Nat) (t t' : TypeId) (u u' : Value) (w : World) (h0 : w.cell? ⟨b, 0, none⟩ = some (.iface t u)) (h1 : w.cell? ⟨b, 1, none⟩ = some (.iface t' u')) :
    Calls Tryd.prog 96 #[.pointer (some ⟨b, 0, none⟩)] w fun e w' => e = .returned (.slice (some ⟨w.heap.size, 0, none⟩) 2 2) ∧ w' = (w.alloc (.cells #[.iface t u, .iface t' u'] 36)).drew := by
  go_enter Tryd.func96, Tryd.ntmps96
  go_wp2
  go_region
  all_goals
    go_wp2
    go_ret
    exact ⟨rfl, rfl⟩

set_option maxHeartbeats 400000 in
theorem causes1_77 (p b : Nat) (t t' : TypeId) (u u' : Value) (w : World) (hp : w.cell? ⟨p, 0, none⟩ = some (.iface 77 (.pointer (some ⟨b, 0, none⟩)))) (h0 : w.cell? ⟨b, 0, none⟩ = some (.iface t u)) (h1 : w.cell? ⟨b, 1, none⟩ = some (.iface t' u')) :
    Calls Tryd.prog 59 #[.pointer (some ⟨p, 0, none⟩)] w fun e w' => e = .returned (.slice (some ⟨w.heap.size, 0, none⟩) 2 2) ∧ w' = (w.alloc (.cells #[.iface t u, .iface t' u'] 36)).drew := by
  go_enter Tryd.func59, Tryd.ntmps59
  go_wp2_with (go_at_call 96; refine (unwrap_77 b t t' u u' _ h0 h1).mono ?_; rintro e w' ⟨rfl, rfl⟩)
  go_ret
  exact ⟨rfl, rfl⟩

set_option maxHeartbeats 400000 in
theorem causes_37 (v : Value) (w : World) :
    Calls Tryd.prog 46 #[.iface 37 v] w fun e w' => e = .returned (.slice none 0 0) ∧ w' = w.alloc (.cells #[.iface 37 v] 36) := by
  go_enter Tryd.func46, Tryd.ntmps46
  go_wp2_with fail
  refine (guarded58 _ _ (fun x w' => x = .slice none 0 0 ∧ w' = w.alloc (.cells #[.iface 37 v] 36)) ?_).mono ?_
  · refine (causes1_37 w.heap.size v _ (by simp)).mono ?_
    rintro e w' ⟨rfl, rfl⟩
    exact ⟨_, rfl, by simp, rfl⟩
  rintro e w' ⟨x, rfl, rfl, rfl⟩
  go_wp2
  go_ret
  exact ⟨rfl, rfl⟩

set_option maxHeartbeats 400000 in
theorem causes_77 (b : Nat) (e1 e2 : E) (w : World) (h : w.heap[b]? = some (.cells #[ev e1, ev e2] 79 (0, 0))) :
    Calls Tryd.prog 46 #[.iface 77 (.pointer (some ⟨b, 0, none⟩))] w fun e w' => e = .returned (.slice (some ⟨w.heap.size + 1, 0, none⟩) 2 2) ∧
      w' = ((w.alloc (.cells #[.iface 77 (.pointer (some ⟨b, 0, none⟩))] 36)).alloc (.cells #[ev e1, ev e2] 36)).drew := by
  have hlt := lt_of_heap h
  obtain ⟨h0, h1⟩ := pair_cells h
  have HC : Hid (w.cell? ⟨b, 0, none⟩ = some (ev e1) ∧ w.cell? ⟨b, 1, none⟩ = some (ev e2)) := ⟨h0, h1⟩
  clear h0 h1
  go_enter Tryd.func46, Tryd.ntmps46
  go_wp2_with fail
  refine (guarded58 _ _ (fun x w' => x = .slice (some ⟨w.heap.size + 1, 0, none⟩) 2 2 ∧ w' = ((w.alloc (.cells #[.iface 77 (.pointer (some ⟨b, 0, none⟩))] 36)).alloc (.cells #[ev e1, ev e2] 36)).drew) ?_).mono ?_
  · refine (causes1_77 w.heap.size b e1.1 e2.1 e1.2 e2.2 _ (by simp) ((World.cell?_alloc_past _ _ _ hlt).trans HC.out.1) ((World.cell?_alloc_past _ _ _ hlt).trans HC.out.2)).mono ?_
    rintro e w' ⟨rfl, rfl⟩
    exact ⟨_, rfl, by simp, rfl⟩
  rintro e w' ⟨x, rfl, rfl, rfl⟩
  go_wp2
  go_ret
  exact ⟨rfl, rfl⟩

/- causes, as the walk asks for it -/
def Causes (W : World) (v : Value) (ks : List E) : Prop :=
  Calls Tryd.prog 46 #[v] W (fun e w' => ∃ sv, e = .returned sv ∧ Below W.heap.size W w' ∧ IsKids w' sv ks ∧ ∀ q len c, sv = .slice (some ⟨q, 0, none⟩) len c → W.heap.size ≤ q)

theorem kids_37 (W : World) (v : Value) : Causes W (.iface 37 v) [] := by
  refine (causes_37 v W).mono ?_
  rintro e w' ⟨rfl, rfl⟩
  exact ⟨_, rfl, (Below.refl _ _).alloc (Nat.le_refl _) _, .inl ⟨rfl, rfl⟩, fun q len c h => by cases h⟩

theorem kids_root (W : World) (b : Nat) (c : Int) (s : ByteArray) (h : W.heap[b]? = some (.cells #[.int .i64 c, .string s, .nilIface] 76 (0, 0))) : Causes W (.iface 74 (.pointer (some ⟨b, 0, none⟩))) [] := by
  refine (causes_root b W (fault_cells h).2.2).mono ?_
  rintro e w' ⟨rfl, rfl⟩
  exact ⟨_, rfl, (Below.refl _ _).alloc (Nat.le_refl _) _, .inl ⟨rfl, rfl⟩, fun q len c h => by cases h⟩

theorem kids_wrap (W : World) (b : Nat) (s : ByteArray) (e1 : E) (h : W.heap[b]? = some (.cells #[.int .i64 0, .string s, ev e1] 76 (0, 0))) : Causes W (.iface 74 (.pointer (some ⟨b, 0, none⟩))) [e1] := by
  refine (causes_wrap b e1.1 e1.2 W (fault_cells h).2.2).mono ?_
  rintro e w' ⟨rfl, rfl⟩
  refine ⟨_, rfl, ((Below.refl _ _).alloc (Nat.le_refl _) _).alloc (by simp) _, .inr ⟨W.heap.size + 1, 1, #[ev e1], rfl, ?_, ?_⟩, fun q len c h => by cases h; omega⟩
  · have := World.alloc_heap_new (W.alloc (.cells #[.iface 74 (.pointer (some ⟨b, 0, none⟩))] 36)) (.cells #[.iface e1.1 e1.2] 36)
    rw [World.size_alloc] at this
    exact this
  · intro j e hj
    match j, hj with
    | 0, hj => simp at hj; simp [hj]
    | j + 1, hj => simp at hj

theorem kids_pair (W : World) (b : Nat) (e1 e2 : E) (h : W.heap[b]? = some (.cells #[ev e1, ev e2] 79 (0, 0))) : Causes W (.iface 77 (.pointer (some ⟨b, 0, none⟩))) [e1, e2] := by
  refine (causes_77 b e1 e2 W h).mono ?_
  rintro e w' ⟨rfl, rfl⟩
  refine ⟨_, rfl, (((Below.refl _ _).alloc (Nat.le_refl _) _).alloc (by simp) _).drew, .inr ⟨W.heap.size + 1, 2, #[ev e1, ev e2], rfl, ?_, ?_⟩, fun q len c h => by cases h; omega⟩
  · have := World.alloc_heap_new (W.alloc (.cells #[.iface 77 (.pointer (some ⟨b, 0, none⟩))] 36)) (.cells #[ev e1, ev e2] 36)
    rw [World.size_alloc] at this
    exact this
  · intro j e hj
    match j, hj with
    | 0, hj => simp at hj; simp [hj]
    | 1, hj => simp at hj; simp [hj]
    | j + 2, hj => simp at hj

end Go.Proofs.YtogninhgibbfnaaDoor
