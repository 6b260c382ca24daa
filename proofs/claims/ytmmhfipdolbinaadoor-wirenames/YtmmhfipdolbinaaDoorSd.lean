/- The reader's end. -/
import Derived.Test.YtmmhfipdolbinaaDoorRw
namespace Go.Proofs.YtmmhfipdolbinaaDoor
open Go.RowKit
set_option maxRecDepth 100000
attribute [local go_sem] not_any mf_any

/- an error in memory: none, or what New made -/
def ErrIs (w : World) (c : Int) (f : ByteArray) (v : Value) : Prop := (c = 0 ∧ v = .nilIface) ∨ (c ≠ 0 ∧ ∃ p, v = .iface 84 (.pointer (some ⟨p, 0, none⟩)) ∧ w.heap[p]? = some (flt c f))
def tENDs : ByteArray := ⟨#[101, 110, 100]⟩

theorem end_all (g k : Nat) (s f : ByteArray) (w : World) (h : w.heap[g]? = some (rdr s k 0 f)) (hk : k = s.size) :
    Calls Tryd.prog 12 #[.pointer (some ⟨g, 0, none⟩)] w fun e w' => e = .returned .nilIface ∧ w'.heap[g]? = some (rdr s k 0 f) ∧ But g w w' := by
  obtain ⟨c0, c1, c2, c3, c4, lt⟩ := rd_cells h
  have k0 := fun q => hide1 (isNone_no g (w.drewN q) c0)
  have k1 := fun q => hide1 (err_none g k s f (w.drewN q) h)
  have HR := hide1 h
  have hkd : decide ((k : Int) < (s.size : Int)) = false := by rw [decide_eq_false_iff_not]; omega
  have hkd2 : decide (k < s.size) = false := by rw [decide_eq_false_iff_not]; omega
  have mx := mixed
  clear h hk
  go_enter Tryd.func12, Tryd.ntmps12
  go_upto_region 1 with (fail)
  go_quiet ((go_at_call 15; exact Calls.quiet_of_same (k0 _).out))
  go_wp2_with (go_at_call 7; refine (k1 _).out.mono ?_; rintro e w1 ⟨rfl, q, rfl⟩)
  go_ret
  exact ⟨rfl, HR.out, ⟨rfl, rfl, rfl, Nat.le_refl _, fun _ _ _ => rfl⟩⟩

theorem end_tail (g k : Nat) (s f : ByteArray) (w : World) (h : w.heap[g]? = some (rdr s k 0 f)) (hk : k < s.size) :
    Calls Tryd.prog 12 #[.pointer (some ⟨g, 0, none⟩)] w fun e w' => ∃ p, e = .returned (.iface 84 (.pointer (some ⟨p, 0, none⟩))) ∧ w'.heap[p]? = some (flt 14 tENDs) ∧ w'.heap[g]? = some (rdr s k 14 tENDs) ∧ But g w w' := by
  obtain ⟨c0, c1, c2, c3, c4, lt⟩ := rd_cells h
  have k0 := fun q => hide1 (isNone_no g (w.drewN q) c0)
  have k1 := fun q => hide1 (fail_any g k s f tENDs 14 (w.drewN q) h (by decide))
  have k2 := fun q => hide1 (err_some g k s tENDs 14 _ (rd_fault (w := w.drewN q) h 14 tENDs) (by decide))
  have HR := fun q => hide1 (rd_fault (w := w.drewN q) h 14 tENDs)
  have HLT := hide1 lt
  have hkd : (k : Int) < (s.size : Int) := by omega
  have mx := mixed
  unfold tENDs at k1 k2 HR
  clear h
  go_enter Tryd.func12, Tryd.ntmps12
  go_upto_region 1 with (fail)
  go_quiet ((go_at_call 15; exact Calls.quiet_of_same (k0 _).out))
  go_wp2_with fail
  refine (k1 _).out.mono ?_
  rintro e w1 ⟨rfl, rfl⟩
  go_wp2_with fail
  refine (k2 _).out.mono ?_
  rintro e w2 ⟨rfl, q, rfl⟩
  have HF := hide1 (HR nq).out
  obtain ⟨Z, hZ⟩ : ∃ Z, ((w.drewN nq).setCell ⟨g, 3, none⟩ (.int .i64 14)).setCell ⟨g, 4, none⟩ (.string ⟨#[101, 110, 100]⟩) = Z := ⟨_, rfl⟩
  have HBT : Hid (But g w Z) := by rw [← hZ]; exact ((((But.refl g w).drewN nq).trans (But.set g 3 _ _)).trans (But.set g 4 _ _))
  have hlz : g < Z.heap.size := by rw [← hZ]; simpa using HLT.out
  rw [hZ] at HF ⊢
  clear hZ k0 k1 k2 HR
  go_wp2
  go_ret
  exact ⟨_, rfl, heap_alloc_new _ _, (Below.heap_alloc _ _ _ hlz).trans HF.out, (HBT.out.trans (But.alloc g _ _)).drewN _⟩

theorem end_over (g k : Nat) (s f : ByteArray) (c : Int) (w : World) (h : w.heap[g]? = some (rdr s k c f)) (hc : c ≠ 0) :
    Calls Tryd.prog 12 #[.pointer (some ⟨g, 0, none⟩)] w fun e w' => ∃ p, e = .returned (.iface 84 (.pointer (some ⟨p, 0, none⟩))) ∧ w'.heap[p]? = some (flt c f) ∧ w'.heap[g]? = some (rdr s k c f) ∧ But g w w' := by
  obtain ⟨c0, c1, c2, c3, c4, lt⟩ := rd_cells h
  have k0 := fun q => hide1 (isNone_no g (w.drewN q) c0)
  have k1 := fun q => hide1 (fail_over g k s f tENDs c 14 (w.drewN q) h hc)
  have k2 := fun q => hide1 (err_some g k s f c (w.drewN q) h hc)
  have HR := hide1 h
  have HLT := hide1 lt
  have mx := mixed
  unfold tENDs at k1
  clear h
  by_cases hk : k < s.size
  · have hkd : (k : Int) < (s.size : Int) := by omega
    go_enter Tryd.func12, Tryd.ntmps12
    go_upto_region 1 with (fail)
    go_quiet ((go_at_call 15; exact Calls.quiet_of_same (k0 _).out))
    go_wp2_with fail
    refine (k1 _).out.mono ?_
    rintro e w1 ⟨rfl, rfl⟩
    go_wp2_with fail
    refine (k2 _).out.mono ?_
    rintro e w2 ⟨rfl, q, rfl⟩
    go_wp2
    go_ret
    exact ⟨_, rfl, heap_alloc_new (w.drewN nq) _, (Below.heap_alloc (w.drewN nq) _ _ HLT.out).trans HR.out, (((But.refl g w).drewN nq).trans (But.alloc g _ _)).drewN _⟩
  · have hkd : decide ((k : Int) < (s.size : Int)) = false := by rw [decide_eq_false_iff_not]; omega
    have hkd2 : decide (k < s.size) = false := by rw [decide_eq_false_iff_not]; omega
    go_enter Tryd.func12, Tryd.ntmps12
    go_upto_region 1 with (fail)
    go_quiet ((go_at_call 15; exact Calls.quiet_of_same (k0 _).out))
    go_wp2_with fail
    refine (k2 _).out.mono ?_
    rintro e w2 ⟨rfl, q, rfl⟩
    go_wp2
    go_ret
    exact ⟨_, rfl, heap_alloc_new (w.drewN nq) _, (Below.heap_alloc (w.drewN nq) _ _ HLT.out).trans HR.out, (((But.refl g w).drewN nq).trans (But.alloc g _ _)).drewN _⟩
end Go.Proofs.YtmmhfipdolbinaaDoor
