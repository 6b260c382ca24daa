/- Frames handed over; for whom they are. -/
import Derived.Test.YtcgpokbijaioiaaDoorXa
namespace Go.Proofs.YtcgpokbijaioiaaDoor
open Go.RowKit
set_option maxRecDepth 100000
attribute [local go_sem] not_any mf_any

theorem set_box6 {w : World} {g : Nat} {x y z s t r x' y' z' s' t' r' : Value} {ty : TypeId} (h : w.heap[g]? = some (.cells #[x, y, z, s, t, r] ty (0, 0))) :
    ((((((w.setCell ⟨g, 0, none⟩ x').setCell ⟨g, 1, none⟩ y').setCell ⟨g, 2, none⟩ z').setCell ⟨g, 3, none⟩ s').setCell ⟨g, 4, none⟩ t').setCell ⟨g, 5, none⟩ r').heap[g]? = some (.cells #[x', y', z', s', t', r'] ty (0, 0)) := by
  rw [heap_setCell_same _ g 5 _ _ _ (heap_setCell_same _ g 4 _ _ _ (heap_setCell_same _ g 3 _ _ _ (heap_setCell_same _ g 2 _ _ _ (heap_setCell_same _ g 1 _ _ _ (heap_setCell_same w g 0 _ _ _ h)))))]; rfl
theorem free6 {w : World} {g : Nat} {x y z u v s : Value} {t : TypeId} (h : w.heap[g]? = some (.cells #[x, y, z, u, v, s] t (0, 0))) :
    w.frozen? ⟨g, 0, none⟩ = false ∧ w.frozen? ⟨g, 1, none⟩ = false ∧ w.frozen? ⟨g, 2, none⟩ = false ∧ w.frozen? ⟨g, 3, none⟩ = false ∧ w.frozen? ⟨g, 4, none⟩ = false ∧ w.frozen? ⟨g, 5, none⟩ = false :=
  ⟨frozen_of_row w g 0 _ _ h, frozen_of_row w g 1 _ _ h, frozen_of_row w g 2 _ _ h, frozen_of_row w g 3 _ _ h, frozen_of_row w g 4 _ _ h, frozen_of_row w g 5 _ _ h⟩
theorem ret_fr {fn : Func} {p : Tmp} (h : fn.results = #[.cell p 30]) {R : Ending → World → Prop} {a : Act} {w : World} (g : Nat) (x y z u v s : Value) (hp : a.tmps.getD p undef = .pointer (some ⟨g, 0, none⟩))
    (hg : w.heap[g]? = some (.cells #[x, y, z, u, v, s] 30 (0, 0))) (hd : a.defers = []) (hR : R (.returned (.agg #[x, y, z, u, v, s])) w) : bodyPost Tryd.prog fn R .ret a w :=
  bodyPost_ret_by (results_cell_row h a.tmps w g 30 #[x, y, z, u, v, s] (0, 0) _ hp hg Tryd.underlying30 rfl (by kernel_rfl)) hd hR
theorem ret_rf {fn : Func} {p : Tmp} (h : fn.results = #[.cell p 24]) {R : Ending → World → Prop} {a : Act} {w : World} (g : Nat) (x y z u v s : Value) (hp : a.tmps.getD p undef = .pointer (some ⟨g, 0, none⟩))
    (hg : w.heap[g]? = some (.cells #[x, y, z, u, v, s] 24 (0, 0))) (hd : a.defers = []) (hR : R (.returned (.agg #[x, y, z, u, v, s])) w) : bodyPost Tryd.prog fn R .ret a w :=
  bodyPost_ret_by (results_cell_row h a.tmps w g 24 #[x, y, z, u, v, s] (0, 0) _ hp hg Tryd.underlying24 rfl (by kernel_rfl)) hd hR

set_option maxHeartbeats 1000000 in
theorem of_any (k o p q a : Int) (b : ByteArray) (w : World) :
    Calls Tryd.prog 7 #[fra k o p q a b] w fun e w' => e = .returned (fra k o p q a b) ∧ Below w.heap.size w w' := by
  unfold fra
  go_enter Tryd.func7, Tryd.ntmps7
  go_upto_region 1 with (fail)
  generalize hX : World.alloc (World.alloc w _) _ = X
  have HX : Hid (Below w.heap.size w X) := by rw [← hX]; exact ((Below.refl _ _).alloc (Nat.le_refl _) _).alloc (by simp) _
  have h1 := hX ▸ heap_alloc2_old w _ _
  have H2 := hide1 (hX ▸ heap_alloc2_new w _ _)
  obtain ⟨b2, hb2⟩ : ∃ b, w.heap.size + 1 = b := ⟨_, rfl⟩
  obtain ⟨b1, hb1⟩ : ∃ b, w.heap.size = b := ⟨_, rfl⟩
  have HB2 : Shy (w.heap.size ≤ b2) := ⟨by omega⟩
  rw [hb2] at H2 ⊢
  rw [hb1] at h1 ⊢
  clear hX hb1 hb2
  obtain ⟨c0, c1, c2, c3, c4, c5, l0⟩ := box6 h1
  clear h1
  go_wp2_with (refine wpList_store_row rfl 30 (.tmp 2) (.tmp 15) rfl b2 #[.int .i64 k, .int .u32 o, .int .u32 p, .int .u32 q, .int .u32 a, .string b] rfl rfl 30 _ H2.out rfl (by kernel_rfl) (by kernel_rfl) ?_)
  exact ret_fr Tryd.results7 b2 _ _ _ _ _ _ rfl (setRow_heap X b2 _ _ _ _ H2.out) rfl ⟨rfl, below_setRow HX.out HB2.out _⟩
set_option maxHeartbeats 1000000 in
theorem told_any (k o p q a : Int) (b : ByteArray) (w : World) :
    Calls Tryd.prog 14 #[fra k o p q a b] w fun e w' => e = .returned (fra k o p q a b) ∧ Below w.heap.size w w' := by
  unfold fra
  go_enter Tryd.func14, Tryd.ntmps14
  go_upto_region 1 with (fail)
  generalize hX : World.alloc (World.alloc w _) _ = X
  have HX : Hid (Below w.heap.size w X) := by rw [← hX]; exact ((Below.refl _ _).alloc (Nat.le_refl _) _).alloc (by simp) _
  have h1 := hX ▸ heap_alloc2_old w _ _
  have H2 := hide1 (hX ▸ heap_alloc2_new w _ _)
  obtain ⟨b2, hb2⟩ : ∃ b, w.heap.size + 1 = b := ⟨_, rfl⟩
  obtain ⟨b1, hb1⟩ : ∃ b, w.heap.size = b := ⟨_, rfl⟩
  have HB2 : Shy (w.heap.size ≤ b2) := ⟨by omega⟩
  rw [hb2] at H2 ⊢
  rw [hb1] at h1 ⊢
  clear hX hb1 hb2
  obtain ⟨c0, c1, c2, c3, c4, c5, l0⟩ := box6 h1
  clear h1
  go_wp2_with (refine wpList_store_row rfl 24 (.tmp 2) (.tmp 15) rfl b2 #[.int .i64 k, .int .u32 o, .int .u32 p, .int .u32 q, .int .u32 a, .string b] rfl rfl 24 _ H2.out rfl (by kernel_rfl) (by kernel_rfl) ?_)
  exact ret_rf Tryd.results14 b2 _ _ _ _ _ _ rfl (setRow_heap X b2 _ _ _ _ H2.out) rfl ⟨rfl, below_setRow HX.out HB2.out _⟩

/- for whom a frame is -/
def frC (k o p own peer : Int) : Int := if o < peer ∨ (k ≠ 1 ∧ p ≠ own) then 21 else 0
end Go.Proofs.YtcgpokbijaioiaaDoor
