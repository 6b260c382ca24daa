/- Bits copied: Raw, With, Bools. -/
import Derived.Test.YtpigbhmamaghgaaPgVD
import Derived.Laws.CopyRow
namespace Go.Proofs.Ytpigbhmamaghgaa.Pg.V
open Go.RowKit
set_option maxRecDepth 100000
attribute [local go_sem] not_any mf_any

theorem addr_add (g o j : Nat) : (⟨g, o, none⟩ : Addr).add j = ⟨g, o + j, none⟩ := by unfold Addr.add; split <;> simp_all

theorem u64s_one (ws : List Nat) : ∀ v ∈ u64s ws, v.oneCell' = true := by
  intro v hv
  simp [u64s] at hv
  obtain ⟨x, _, rfl⟩ := hv
  rfl

theorem after2 {w w1 : World} {o1 o2 : Obj} (hb : Below ((w.alloc o1).alloc o2).heap.size ((w.alloc o1).alloc o2) w1) :
    w1.heap[w.heap.size]? = some o1 ∧ w1.heap[w.heap.size + 1]? = some o2 ∧ Below w.heap.size w w1 :=
  ⟨(hb.block _ (by simp; omega)).trans (heap_alloc2_old _ _ _), (hb.block _ (by simp)).trans (heap_alloc2_new _ _ _), (((Below.refl _ _).alloc (Nat.le_refl _) _).alloc (by simp) _).trans (hb.mono (by simp; omega))⟩

end Go.Proofs.Ytpigbhmamaghgaa.Pg.V
