/- Code, of no error and of an error that New made; wrong. -/
import Derived.Test.YtcadlcpccemkbaaGreatDoorMFkFaFc
import Derived.Laws.EntriesVeiled
import Derived.RangeFuncRecord
import Derived.Shelf.Abstract
namespace Go.Proofs.YtcadlcpccemkbaaGreatDoor.F
open Go.RowKit Go.Shelf
set_option maxRecDepth 100000
attribute [local go_sem] not_any mf_any

structure Shy (p : Prop) : Prop where
  out : p

/- a number of New, in memory -/
def Rt (W : World) (b : Nat) (c : Int) : Prop := ∃ s, W.heap[b]? = some (.cells #[.int .i64 c, .string s, .nilIface] 101 (0, 0))

theorem Rt.cells {W : World} {b : Nat} {c : Int} (h : Rt W b c) : W.cell? ⟨b, 0, none⟩ = some (.int .i64 c) ∧ W.cell? ⟨b, 2, none⟩ = some .nilIface := by
  obtain ⟨s, h⟩ := h
  exact ⟨(fault_cells h).1, (fault_cells h).2.2⟩
theorem Rt.lt {W : World} {b : Nat} {c : Int} (h : Rt W b c) : b < W.heap.size := by
  obtain ⟨s, h⟩ := h
  exact lt_of_heap h
theorem Rt.below {W W' : World} {b : Nat} {c : Int} {n : Nat} (h : Rt W b c) (hB : Below n W W') (hb : b < n) : Rt W' b c := by
  obtain ⟨s, h⟩ := h
  exact ⟨s, (hB.block b hb).trans h⟩
theorem Rt.kp {W W' : World} {b : Nat} {c : Int} {S : Nat → Obj → Prop} (h : Rt W b c) (hB : Kp S W W') (hb : ∀ o, ¬ S b o) : Rt W' b c := by
  obtain ⟨s, h⟩ := h
  exact ⟨s, hB.same b _ h (hb _)⟩
theorem Et.below {W W' : World} {n : Nat} (h : Et W) (hB : Below n W W') (hn : 0 < n) : Et W' := (hB.cell (p := ⟨0, 0, none⟩) hn).trans h
theorem Et.pos {W : World} (h : Et W) : 0 < W.heap.size := lt_cell h

set_option maxHeartbeats 400000 in
theorem number1 (b1 b t : Nat) (c : Int) (w : World) (hb : w.cell? ⟨b1, 0, none⟩ = some (.iface 99 (.pointer (some ⟨b, 0, none⟩)))) (he : Et w) (hr : Rt w b c) (hc : (c == 0) = false)
    (ht : w.heap[t]? = some (.cells #[.int .i64 0] 29 (0, 0))) :
    Calls Tryz.prog 49 #[.pointer (some ⟨b1, 0, none⟩), .pointer (some ⟨t, 0, none⟩)] w fun e w' => ∃ v, e = .returned (.bool v) ∧ Value.bool v = .bool true ∧ w'.cell? ⟨t, 0, none⟩ = some (.int .i64 c) ∧ Below t w w' := by
  have HA := hide1 (as_root b t c (.int .i64 0) w he hr.cells.1 hr.cells.2 (ne0 hc) (by simp [World.cell?, ht]) (by simp [World.frozen?, ht]))
  have htl := lt_of_heap ht
  have HT := hide1 ht
  clear he hr hc ht
  go_enter Tryz.func49, Tryz.ntmps49
  go_wp2_with fail
  refine HA.out.mono ?_
  rintro e w' ⟨rfl, hw⟩
  go_wp2
  go_ret
  subst hw
  refine ⟨_, rfl, rfl, ?_, ?_⟩
  · rw [World.cell?_setCell_same']
    rw [World.cell?_alloc_lt _ _ _ (by simp; omega), World.cell?_alloc_lt _ _ _ (by simp; omega), World.cell?_alloc_lt _ _ _ htl]
    simp [World.cell?, HT.out]
  · refine Below.setCell (p := ⟨t, 0, none⟩) ?_ (Nat.le_refl t) _
    repeat (first | exact Below.refl _ _ | refine Below.alloc ?_ (by first | omega | (simp; omega)) _)

set_option maxHeartbeats 1000000 in
theorem number_root (b : Nat) (c : Int) (w : World) (he : Et w) (hr : Rt w b c) (hc : (c == 0) = false) :
    Calls Tryz.prog 23 #[.iface 99 (.pointer (some ⟨b, 0, none⟩)), .bool true] w fun e w' => e = .returned (.tuple #[.int .i64 c, .bool true]) ∧ Below w.heap.size w w' := by
  have H := hide1 (And.intro he (And.intro hr hc))
  clear he hr hc
  go_enter Tryz.func23, Tryz.ntmps23
  go_wp2_with fail
  obtain ⟨he, hr, hc⟩ := H.out
  have hB : Below w.heap.size w ((w.alloc (.cells #[.iface 99 (.pointer (some ⟨b, 0, none⟩))] 26)).alloc (.cells #[.int .i64 0] 29)) := ((Below.refl _ _).alloc (Nat.le_refl _) _).alloc (by simp) _
  have hT : ((w.alloc (.cells #[.iface 99 (.pointer (some ⟨b, 0, none⟩))] 26)).alloc (.cells #[.int .i64 0] 29)).heap[w.heap.size + 1]? = some (.cells #[.int .i64 0] 29 (0, 0)) := by
    have := World.alloc_heap_new (w.alloc (.cells #[.iface 99 (.pointer (some ⟨b, 0, none⟩))] 26)) (.cells #[.int .i64 0] 29)
    rwa [World.size_alloc] at this
  refine (guarded48 49 #[.pointer (some ⟨w.heap.size, 0, none⟩), .pointer (some ⟨w.heap.size + 1, 0, none⟩)] _ (fun v w' => v = .bool true ∧ w'.cell? ⟨w.heap.size + 1, 0, none⟩ = some (.int .i64 c) ∧ Below (w.heap.size + 1) ((w.alloc (.cells #[.iface 99 (.pointer (some ⟨b, 0, none⟩))] 26)).alloc (.cells #[.int .i64 0] 29)) w') (enters_of Tryz.func49 (by kernel_rfl) rfl)
    (number1 w.heap.size b (w.heap.size + 1) c _ (by simp) (he.below hB he.pos) (hr.below hB hr.lt) hc hT)).mono ?_
  rintro e w' ⟨v, rfl, hv, h1, h2⟩
  cases hv
  clear he hr hc H
  go_wp2
  go_ret2
  exact ⟨rfl, hB.trans (h2.mono (Nat.le_succ _))⟩

theorem set_box {W : World} {b : Nat} {v : Value} {t : TypeId} (h : W.heap[b]? = some (.cells #[v] t (0, 0))) (u : Value) :
    (W.setCell ⟨b, 0, none⟩ u).heap[b]? = some (.cells #[u] t (0, 0)) := by
  have hlt := lt_of_heap h
  have hb : W.heap[b] = .cells #[v] t (0, 0) := by
    have := Array.getElem?_eq_getElem hlt
    rw [h] at this
    exact (Option.some.inj this).symm
  simp [World.setCell, Array.getElem?_modify, h]

set_option maxHeartbeats 1000000 in
theorem codeV_root (b bC : Nat) (c : Int) (v q : Value) (W : World) (hbox : W.heap[bC]? = some (.cells #[v] 29 (0, 0))) (he : Et W) (hr : Rt W b c) (hc : (c == 0) = false) :
    Calls Tryz.prog 22 #[.iface 99 (.pointer (some ⟨b, 0, none⟩)), .bool true, .pointer (some ⟨bC, 0, none⟩), q] W fun e w' => e = .returned (.int .i64 2) ∧ w'.heap[bC]? = some (.cells #[.int .i64 c] 29 (0, 0)) ∧ Kp (fun k _ => k = bC) W w' := by
  have H := hide1 (number_root b c W he hr hc)
  clear he hr hc
  go_enter Tryz.func22, Tryz.ntmps22
  go_wp2_with fail
  refine H.out.mono ?_
  rintro e w1 ⟨rfl, hB⟩
  have hb1 := (hB.block _ (lt_of_heap hbox)).trans hbox
  have hc1 : w1.cell? ⟨bC, 0, none⟩ = some v := by simp [World.cell?, hb1]
  have hf1 : w1.frozen? ⟨bC, 0, none⟩ = false := by simp [World.frozen?, hb1]
  go_wp2
  go_ret
  exact ⟨rfl, set_box hb1 _, ((Kp.ofBelow hB).trans ((Kp.refl _ _).setCell _ (fun _ _ => rfl) _))⟩

set_option maxHeartbeats 400000 in
theorem once_any (w : World) :
    Calls Tryz.prog 20 #[] w fun e w' => e = .returned (.func (.func 44) #[] #[.pointer (some ⟨w.heap.size + 1, 0, none⟩)]) ∧
      w' = (w.alloc (.map #[] 0)).alloc (.cells #[.map (some w.heap.size)] 102) := by
  have hmm := @run_makeMap Tryz.prog
  go_enter Tryz.func20, Tryz.ntmps20
  go_wp2
  go_ret
  exact ⟨rfl, rfl⟩

set_option maxHeartbeats 400000 in
theorem code_nil (w : World) :
    Calls Tryz.prog 6 #[.nilIface] w fun e w' => e = .returned (.int .i64 0) ∧ w' = w := by
  go_enter Tryz.func6, Tryz.ntmps6
  go_wp2
  go_ret
  exact ⟨rfl, rfl⟩

set_option maxHeartbeats 2000000 in
theorem walk_root (b bC : Nat) (c : Int) (v q : Value) (w : World) (hbox : w.heap[bC]? = some (.cells #[v] 29 (0, 0))) (he : Et w) (hr : Rt w b c) (hc : (c == 0) = false) :
    Calls Tryz.prog 21 #[.iface 99 (.pointer (some ⟨b, 0, none⟩)), .func (.func 22) #[] #[.pointer (some ⟨bC, 0, none⟩), q]] w fun e w' => e = .returned (.tuple #[]) ∧ w'.heap[bC]? = some (.cells #[.int .i64 c] 29 (0, 0)) ∧ Kp (fun k _ => k = bC) w w' := by
  have H := hide1 (And.intro hbox (And.intro he (And.intro hr hc)))
  have hbl := lt_of_heap hbox
  clear he hr hc hbox
  go_enter Tryz.func21, Tryz.ntmps21
  go_wp2
  refine wp_loop_rounds 1 ?_
  rw [rounds_succ]
  go_wp2_with fail
  obtain ⟨W, hW⟩ : ∃ W, (((w.alloc (.cells #[.iface 99 (.pointer (some ⟨b, 0, none⟩)), .int .i64 0] 106)).alloc (.cells #[.slice (some ⟨w.heap.size, 0, none⟩) 0 1] 107)).alloc (.cells #[.iface 99 (.pointer (some ⟨b, 0, none⟩)), .int .i64 0] 106)) = W := ⟨_, rfl⟩
  have hsz : W.heap.size = w.heap.size + 3 := by rw [← hW]; simp
  have hB : Below w.heap.size w W := by
    rw [← hW]
    repeat (first | exact Below.refl _ _ | refine Below.alloc ?_ (by first | omega | (simp; omega) | simp) _)
  have hp : W.cell? ⟨w.heap.size + 2, 0, none⟩ = some (.iface 99 (.pointer (some ⟨b, 0, none⟩))) := by
    rw [← hW, World.cell?_alloc_at _ _ _ _ (by simp)]
    rfl
  rw [hW]
  clear hW
  have hr := H.out.2.2.1
  refine (causes_root b W (hr.below hB hr.lt).cells.2).mono ?_
  rintro e w1 ⟨rfl, hw1⟩
  have hB1 : Below W.heap.size W w1 := by rw [hw1]; exact (Below.refl _ _).alloc (Nat.le_refl _) _
  have hp1 : w1.cell? ⟨w.heap.size + 1 + 1, 0, none⟩ = some (.iface 99 (.pointer (some ⟨b, 0, none⟩))) := (hB1.cell (p := ⟨w.heap.size + 2, 0, none⟩) (by show w.heap.size + 2 < _; omega)).trans hp
  have hB2 : Below w.heap.size w w1 := hB.trans (hB1.mono (by omega))
  clear hw1 hB hp hB1 hsz hr
  go_wp2_with fail
  obtain ⟨hbox, he, hr, hc⟩ := H.out
  refine (codeV_root b bC c v q w1 ((hB2.block _ hbl).trans hbox) (he.below hB2 he.pos) (hr.below hB2 hr.lt) hc).mono ?_
  rintro e w2 ⟨rfl, h1, h2⟩
  clear H hbox he hr hc
  have hK : Hid (Kp (fun k _ => k = bC) w w2) := (Kp.ofBelow hB2).trans h2
  clear h2 hB2
  go_wp2
  refine bodyPost_ret (results_none rfl _ _ _) rfl ?_
  exact ⟨rfl, h1, hK.out⟩

set_option maxHeartbeats 1000000 in
theorem code_root (b : Nat) (c : Int) (w : World) (he : Et w) (hr : Rt w b c) (hc : (c == 0) = false) :
    Calls Tryz.prog 6 #[.iface 99 (.pointer (some ⟨b, 0, none⟩))] w fun x w' => x = .returned (.int .i64 c) ∧ Below w.heap.size w w' := by
  have H := hide1 (And.intro he (And.intro hr hc))
  clear he hr hc
  go_enter Tryz.func6, Tryz.ntmps6
  go_wp2_with fail
  refine (once_any _).mono ?_
  rintro y w0 ⟨rfl, rfl⟩
  go_wp2_with fail
  obtain ⟨he, hr, hc⟩ := H.out
  obtain ⟨W, hW⟩ : ∃ W, ((((w.alloc (.cells #[.int .i64 1] 29)).alloc (.map #[] 0)).alloc (.cells #[.map (some (w.heap.size + 1))] 102)).alloc (.cells #[.func (.func 44) #[] #[.pointer (some ⟨w.heap.size + 1 + 1, 0, none⟩)]] 68)) = W := ⟨_, rfl⟩
  have hB : Below w.heap.size w W := by
    rw [← hW]
    repeat (first | exact Below.refl _ _ | refine Below.alloc ?_ (by first | omega | (simp; omega) | simp) _)
  have h0 : W.heap[w.heap.size]? = some (.cells #[.int .i64 1] 29 (0, 0)) := by
    rw [← hW]
    exact (Below.heap_alloc _ _ _ (by simp; omega)).trans ((Below.heap_alloc _ _ _ (by simp; omega)).trans ((Below.heap_alloc _ _ _ (by simp)).trans (World.alloc_heap_new w _)))
  rw [hW]
  clear hW
  refine (walk_root b w.heap.size c _ _ W h0 (he.below hB he.pos) (hr.below hB hr.lt) hc).mono ?_
  rintro y w1 ⟨rfl, hb1, hk1⟩
  have hc1 : w1.cell? ⟨w.heap.size, 0, none⟩ = some (.int .i64 c) := by simp [World.cell?, hb1]
  clear H he hr hc
  go_wp2
  go_ret
  exact ⟨rfl, hB.trans (hk1.below hB.size (fun k o hs => by rw [hs]; exact Nat.le_refl _))⟩

/- the error v tells the number c -/
def IsE (W : World) (c : Int) (v : Value) : Prop := (c = 0 ∧ v = .nilIface) ∨ ((c == 0) = false ∧ ∃ b, v = .iface 99 (.pointer (some ⟨b, 0, none⟩)) ∧ Rt W b c)

theorem IsE.nil (W : World) : IsE W 0 .nilIface := .inl ⟨rfl, rfl⟩

theorem code_any (w : World) (c : Int) (v : Value) (he : Et w) (h : IsE w c v) :
    Calls Tryz.prog 6 #[v] w fun x w' => x = .returned (.int .i64 c) ∧ Below w.heap.size w w' := by
  rcases h with ⟨rfl, rfl⟩ | ⟨hc, b, rfl, hr⟩
  · refine (code_nil w).mono ?_
    rintro x w' ⟨rfl, rfl⟩
    exact ⟨rfl, Below.refl _ _⟩
  · exact code_root b c w he hr hc

theorem IsE.below {W W' : World} {c : Int} {v : Value} (h : IsE W c v) (hB : Below W.heap.size W W') : IsE W' c v := by
  rcases h with h | ⟨hc, b, rfl, hr⟩
  · exact .inl h
  · exact .inr ⟨hc, b, rfl, hr.below hB hr.lt⟩

end Go.Proofs.YtcadlcpccemkbaaGreatDoor.F
