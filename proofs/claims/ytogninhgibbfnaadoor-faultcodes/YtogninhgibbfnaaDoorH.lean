/- number: the number of a part that came of nothing. -/
import Derived.Test.YtogninhgibbfnaaDoorG
namespace Go.Proofs.YtogninhgibbfnaaDoor
open Go.RowKit Go.Shelf
set_option maxRecDepth 100000
attribute [local go_sem] not_any mf_any

/- the package variable that errors.As reads -/
def Et (W : World) : Prop := W.cell? ⟨0, 0, none⟩ = some (.iface 121 (.agg #[.pointer (some ⟨1, 36, none⟩)]))

theorem hide1 {p : Prop} (h : p) : Hid p := h

theorem idle61 (w : World) :
    CallsD Tryd.prog 61 #[] .returning w fun e u' w' => e = .returned (.tuple #[]) ∧ u' = .returning ∧ w' = w := by
  refine callsD_of_wpS Tryd.func61 rfl fun c₀ cs hu => ?_
  apply wpS_region
  simp [wpOpsS, go_sem, recoverD, hu, Tryd.ntmps61, bodyPostS, results, Tryd.results61]
  cases c₀
  simp_all

set_option maxHeartbeats 400000 in
theorem guarded48 (f : FuncId) (cap : Array Value) (w : World) (R : Value → World → Prop) (hen : ∀ args w, (callFunc f args).run Tryd.prog w = .ok (.enter f args) w)
    (hg : Calls Tryd.prog f cap w fun e w' => ∃ v, e = .returned (.bool v) ∧ R (.bool v) w') :
    Calls Tryd.prog 48 #[.func (.func f) #[] cap] w fun e w' => ∃ v, e = .returned (.bool v) ∧ R (.bool v) w' := by
  have hg' := hide1 hg
  clear hg
  go_enter_defers Tryd.func48, Tryd.ntmps48
  go_wp2_with fail
  refine hg'.out.mono ?_
  rintro e w' ⟨v, rfl, hR⟩
  go_wp2
  refine leaves_cons (f := 61) (args := #[]) (by simp) (by simp [go_sem]) ?_
  refine (idle61 _).mono ?_
  rintro e u' w'' ⟨rfl, rfl, rfl⟩
  exact ⟨_, results_tmp rfl _ _ _, v, rfl, hR⟩

set_option maxHeartbeats 400000 in
theorem number1 (x : E) (b t : Nat) (w : World) (R : World → Prop) (hb : w.cell? ⟨b, 0, none⟩ = some (ev x))
    (ha : Calls Tryd.prog 50 #[ev x, .iface 89 (.pointer (some ⟨t, 0, none⟩))] w fun e w' => e = .returned (.bool true) ∧ R w') :
    Calls Tryd.prog 49 #[.pointer (some ⟨b, 0, none⟩), .pointer (some ⟨t, 0, none⟩)] w fun e w' => e = .returned (.bool true) ∧ R w' := by
  have ha' := hide1 ha
  clear ha
  go_enter Tryd.func49, Tryd.ntmps49
  go_wp2_with fail
  refine ha'.out.mono ?_
  rintro e w' ⟨rfl, hR⟩
  go_wp2
  go_ret
  exact ⟨rfl, hR⟩

set_option maxHeartbeats 400000 in
theorem number_no (x : E) (w : World) :
    Calls Tryd.prog 31 #[ev x, .bool false] w fun e w' => e = .returned (.tuple #[.int .i64 0, .bool false]) ∧ Below w.heap.size w w' := by
  go_enter Tryd.func31, Tryd.ntmps31
  go_wp2
  go_ret2
  refine ⟨rfl, ?_⟩
  repeat (first | exact Below.refl _ _ | refine Below.alloc ?_ (by simp; try omega) _ | refine Below.setCell ?_ (by simp; try omega) _ | refine Below.drew ?_)

/- what errors.As must do for number to tell c -/
def AsTells (x : E) (c : Int) (w : World) : Prop :=
  ∀ w2 t, Below w.heap.size w w2 → w.heap.size ≤ t → w2.heap[t]? = some (.cells #[.int .i64 0] 37 (0, 0)) →
    Calls Tryd.prog 50 #[ev x, .iface 89 (.pointer (some ⟨t, 0, none⟩))] w2 fun e w' => e = .returned (.bool true) ∧ w'.cell? ⟨t, 0, none⟩ = some (.int .i64 c) ∧ Below w.heap.size w2 w'

set_option maxHeartbeats 1000000 in
theorem number_yes (x : E) (c : Int) (w : World) (ha : AsTells x c w) :
    Calls Tryd.prog 31 #[ev x, .bool true] w fun e w' => e = .returned (.tuple #[.int .i64 c, .bool true]) ∧ Below w.heap.size w w' := by
  have ha' := hide1 ha
  clear ha
  go_enter Tryd.func31, Tryd.ntmps31
  go_wp2_with fail
  have hB : Below w.heap.size w ((w.alloc (.cells #[ev x] 36)).alloc (.cells #[.int .i64 0] 37)) := ((Below.refl _ _).alloc (Nat.le_refl _) _).alloc (by simp) _
  have hT : ((w.alloc (.cells #[ev x] 36)).alloc (.cells #[.int .i64 0] 37)).heap[w.heap.size + 1]? = some (.cells #[.int .i64 0] 37 (0, 0)) := by
    have := World.alloc_heap_new (w.alloc (.cells #[ev x] 36)) (.cells #[.int .i64 0] 37)
    rwa [World.size_alloc] at this
  refine (guarded48 49 #[.pointer (some ⟨w.heap.size, 0, none⟩), .pointer (some ⟨w.heap.size + 1, 0, none⟩)] _ (fun v w' => v = .bool true ∧ w'.cell? ⟨w.heap.size + 1, 0, none⟩ = some (.int .i64 c) ∧ Below w.heap.size ((w.alloc (.cells #[ev x] 36)).alloc (.cells #[.int .i64 0] 37)) w') (enters_of Tryd.func49 (by kernel_rfl) rfl) ?_).mono ?_
  · refine (number1 x w.heap.size (w.heap.size + 1) _ (fun w' => w'.cell? ⟨w.heap.size + 1, 0, none⟩ = some (.int .i64 c) ∧ Below w.heap.size ((w.alloc (.cells #[ev x] 36)).alloc (.cells #[.int .i64 0] 37)) w') (by simp) (ha'.out _ _ hB (by omega) hT)).mono ?_
    rintro e w' ⟨rfl, h1, h2⟩
    exact ⟨_, rfl, rfl, h1, h2⟩
  rintro e w' ⟨v, rfl, hv, h1, h2⟩
  cases hv
  go_wp2
  go_ret2
  exact ⟨rfl, hB.trans h2⟩

theorem asTells_root (b : Nat) (c : Int) (s : ByteArray) (w : World) (he : Et w) (h : w.heap[b]? = some (.cells #[.int .i64 c, .string s, .nilIface] 76 (0, 0))) (hc : (c == 0) = false) :
    AsTells (74, .pointer (some ⟨b, 0, none⟩)) c w := by
  intro w2 t hB ht hT
  have hbl := lt_of_heap h
  have h' := (hB.block b hbl).trans h
  have he' : Et w2 := (hB.cell (p := ⟨0, 0, none⟩) (lt_cell he)).trans he
  obtain ⟨h0, _, h2⟩ := fault_cells h'
  have htl := lt_of_heap hT
  refine (as_root b t c (.int .i64 0) w2 he' h0 h2 (ne0 hc) (by simp [World.cell?, hT]) (by simp [World.frozen?, hT])).mono ?_
  rintro e w' ⟨rfl, rfl⟩
  refine ⟨rfl, ?_, ?_⟩
  · rw [World.cell?_setCell_same']
    rw [World.cell?_alloc_lt _ _ _ (by simp; omega), World.cell?_alloc_lt _ _ _ (by simp; omega), World.cell?_alloc_lt _ _ _ htl]
    simp [World.cell?, hT]
  · have := hB.size
    refine Below.setCell ?_ ht _
    repeat (first | exact Below.refl _ _ | refine Below.alloc ?_ (by first | omega | (simp; omega)) _)

theorem asTells_errno (c : Int) (w : World) (he : Et w) : AsTells (37, .int .i64 c) c w := by
  intro w2 t hB ht hT
  have he' : Et w2 := (hB.cell (p := ⟨0, 0, none⟩) (lt_cell he)).trans he
  have htl := lt_of_heap hT
  refine (as_errno t c (.int .i64 0) w2 he' (by simp [World.cell?, hT]) (by simp [World.frozen?, hT])).mono ?_
  rintro e w' ⟨rfl, rfl⟩
  refine ⟨rfl, ?_, ?_⟩
  · rw [World.cell?_setCell_same']
    rw [World.cell?_alloc_lt _ _ _ (by simp; omega), World.cell?_alloc_lt _ _ _ (by simp; omega), World.cell?_alloc_lt _ _ _ (by simp; omega), World.cell?_alloc_lt _ _ _ htl]
    simp [World.cell?, hT]
  · have := hB.size
    refine Below.setCell ?_ ht _
    repeat (first | exact Below.refl _ _ | refine Below.alloc ?_ (by first | omega | (simp; omega)) _)

end Go.Proofs.YtogninhgibbfnaaDoor
