/- The class that a word is: scalars, bits turned to numbers, matrices. -/
import Derived.Test.YtnkdbkhgfakjaaaDoorKh
import Derived.Test.YtnkdbkhgfakjaaaDoorFr
namespace Go.Proofs.YtnkdbkhgfakjaaaDoor
open Go.RowKit
set_option maxRecDepth 100000
attribute [local go_sem] not_any mf_any

theorem ret_c2 {fn : Func} {p u : Tmp} (h : fn.results = #[.cell p 23, .tmp u]) {R : Ending → World → Prop} {a : Act} {w : World} (g : Nat) (x y z s t v : Value) (hp : a.tmps.getD p undef = .pointer (some ⟨g, 0, none⟩))
    (hu : a.tmps.getD u undef = v) (hg : w.heap[g]? = some (.cells #[x, y, z, s, t] 23 (0, 0))) (hd : a.defers = []) (hR : R (.returned (.tuple #[.agg #[x, y, z, s, t], v])) w) : bodyPost Tryd.prog fn R .ret a w := by
  refine bodyPost_ret_by (v := .tuple #[.agg #[x, y, z, s, t], v]) ?_ hd hR
  have hl := run_loadVar_row (P := Tryd.prog) w g 23 23 #[x, y, z, s, t] (0, 0) _ hg Tryd.underlying23 rfl (by kernel_rfl)
  rw [results_cell_tmp h, hp, hu]
  simp [asAddr, hl, Result.andThen]

theorem set_box5 {w : World} {g : Nat} {x y z s t x' y' z' s' t' : Value} {ty : TypeId} (h : w.heap[g]? = some (.cells #[x, y, z, s, t] ty (0, 0))) :
    (((((w.setCell ⟨g, 0, none⟩ x').setCell ⟨g, 1, none⟩ y').setCell ⟨g, 2, none⟩ z').setCell ⟨g, 3, none⟩ s').setCell ⟨g, 4, none⟩ t').heap[g]? = some (.cells #[x', y', z', s', t'] ty (0, 0)) := by
  rw [heap_setCell_same _ g 4 _ _ _ (heap_setCell_same _ g 3 _ _ _ (heap_setCell_same _ g 2 _ _ _ (heap_setCell_same _ g 1 _ _ _ (heap_setCell_same w g 0 _ _ _ h))))]; rfl
theorem below_box5 {B : Nat} {w w' : World} {g : Nat} {x y z s t : Value} (h : Below B w w') (hB : B ≤ g) : Below B w (((((w'.setCell ⟨g, 0, none⟩ x).setCell ⟨g, 1, none⟩ y).setCell ⟨g, 2, none⟩ z).setCell ⟨g, 3, none⟩ s).setCell ⟨g, 4, none⟩ t) := ((((h.setCell hB _).setCell hB _).setCell hB _).setCell hB _).setCell hB _
theorem free5 {w : World} {g : Nat} {x y z u v : Value} {t : TypeId} (h : w.heap[g]? = some (.cells #[x, y, z, u, v] t (0, 0))) :
    w.frozen? ⟨g, 0, none⟩ = false ∧ w.frozen? ⟨g, 1, none⟩ = false ∧ w.frozen? ⟨g, 2, none⟩ = false ∧ w.frozen? ⟨g, 3, none⟩ = false ∧ w.frozen? ⟨g, 4, none⟩ = false :=
  ⟨frozen_of_row w g 0 _ _ h, frozen_of_row w g 1 _ _ h, frozen_of_row w g 2 _ _ h, frozen_of_row w g 3 _ _ h, frozen_of_row w g 4 _ _ h⟩

/- five cells of a box, held -/
def At5 (b : Nat) (x y z s t : Value) (W : World) : Prop := W.cell? ⟨b, 0, none⟩ = some x ∧ W.cell? ⟨b, 1, none⟩ = some y ∧ W.cell? ⟨b, 2, none⟩ = some z ∧ W.cell? ⟨b, 3, none⟩ = some s ∧ W.cell? ⟨b, 4, none⟩ = some t
theorem At5.set {b g o : Nat} {x y z s t v : Value} {W : World} (h : At5 b x y z s t W) (hne : b ≠ g) : At5 b x y z s t (W.setCell ⟨g, o, none⟩ v) := by
  have e : ∀ k, (W.setCell ⟨g, o, none⟩ v).cell? ⟨b, k, none⟩ = W.cell? ⟨b, k, none⟩ := fun k => by simp [World.cell?, heap_setCell_other W ⟨g, o, none⟩ b v hne]
  unfold At5
  rw [e, e, e, e, e]
  exact h

theorem At5.row {b g : Nat} {x y z s t : Value} {W : World} (h : At5 b x y z s t W) (hne : b ≠ g) (cs : Array Value) : At5 b x y z s t (W.setRow g cs) := by
  have e : ∀ k, (W.setRow g cs).cell? ⟨b, k, none⟩ = W.cell? ⟨b, k, none⟩ := fun k => cell_setRow_other W g cs ⟨b, k, none⟩ hne
  unfold At5
  rw [e, e, e, e, e]
  exact h

set_option maxHeartbeats 1000000 in
theorem plainOf_any (k : Int) (s : ByteArray) (w : World) (hs : s.size ≤ 281474976710656) :
    Calls Tryd.prog 22 #[.int .i64 k, .string s] w fun e w' => e = .returned (.tuple #[cls k (numOf (bs s) : Nat) 0 0 0, .bool (((numOf (bs s) : Nat) : Int) != 0)]) ∧ Below w.heap.size w w' := by
  have mx := mixed
  have kN := fun w => hide1 (numberOf_any s w hs)
  generalize ((numOf (bs s) : Nat) : Int) = v at *
  unfold cls
  go_enter Tryd.func22, Tryd.ntmps22
  go_wp2_with (go_at_call 27; refine (kN _).out.mono ?_; rintro e w1 ⟨rfl, rfl⟩)
  generalize hX : World.alloc (World.alloc w _) _ = X
  have HX : Hid (Below w.heap.size w X) := by rw [← hX]; exact ((Below.refl _ _).alloc (Nat.le_refl _) _).alloc (by simp) _
  have h0 := hX ▸ heap_alloc2_old w _ _
  have h1 := hX ▸ heap_alloc2_new w _ _
  obtain ⟨b2, hb2⟩ : ∃ b, w.heap.size + 1 = b := ⟨_, rfl⟩
  obtain ⟨b1, hb1⟩ : ∃ b, w.heap.size = b := ⟨_, rfl⟩
  have hne : b2 ≠ b1 := by omega
  rw [hb2] at h1 ⊢
  rw [hb1] at h0 ⊢
  have HB1 : Shy (w.heap.size = b1) := ⟨hb1⟩
  obtain ⟨f0, f1, f2, f3, f4⟩ := free5 h0
  obtain ⟨d0, d1, d2, d3, d4, l1⟩ := box5 h1
  obtain ⟨c0, c1, c2, c3, c4, l0⟩ := box5 h0
  have HS : Shy (At5 b2 (.int .i64 k) (.int .i64 v) (.int .i64 0) (.int .i64 0) (.int .i64 0) X) := ⟨d0, d1, d2, d3, d4⟩
  have H0 := hide1 h0
  clear hX h0 h1 hb1 hb2 d0 d1 d2 d3 d4 l1
  refine region_f (F := []) (S := At5 b2 (.int .i64 k) (.int .i64 v) (.int .i64 0) (.int .i64 0) (.int .i64 0)) (by kernel_rfl) HS.out (fun hS => ?_)
  refine take_f 0 11 (.agg #[.int .i64 k, .int .i64 v, .int .i64 0, .int .i64 0, .int .i64 0]) [4, 5] rfl rfl (by kernel_rfl) (by kernel_rfl) (by kernel_rfl) (by kernel_rfl) (by kernel_rfl) (by kernel_rfl) (fun _ _ _ h => h) rfl (fun w hSw => by obtain ⟨g0, g1, g2, g3, g4⟩ := hSw; go_simp) hS ?_
  try simp only [List.setIfInBounds_toArray, List.set_cons_zero, List.set_cons_succ]
  refine take_p 1 12 (.pointer (some ⟨b2, 1, none⟩)) rfl rfl (by kernel_rfl) (by kernel_rfl) (by kernel_rfl) (fun _ _ _ h => h) rfl (fun w => by go_simp) ?_
  try simp only [List.setIfInBounds_toArray, List.set_cons_zero, List.set_cons_succ]
  refine take_f 2 13 (.int .i64 v) [3, 5] rfl rfl (by kernel_rfl) (by kernel_rfl) (by kernel_rfl) (by kernel_rfl) (by kernel_rfl) (by kernel_rfl) (fun _ _ _ h => h) rfl (fun w hSw => by obtain ⟨g0, g1, g2, g3, g4⟩ := hSw; go_simp) hS ?_
  try simp only [List.setIfInBounds_toArray, List.set_cons_zero, List.set_cons_succ]
  refine take_p 3 14 (.bool (v != 0)) rfl rfl (by kernel_rfl) (by kernel_rfl) (by kernel_rfl) (fun _ _ _ h => h) rfl (fun w => by go_simp) ?_
  try simp only [List.setIfInBounds_toArray, List.set_cons_zero, List.set_cons_succ]
  refine ready_f 4 (o := { dst := none, op := Op.store 23 (Operand.tmp 4) (Operand.tmp 11), type := 0, pos := "word.go:78", after := #[{ on := 0, ground := Ground.data }, { on := 0, ground := Ground.phase }, { on := 1, ground := Ground.textOnly Departure.lateStores }, { on := 2, ground := Ground.textOnly Departure.lateStores }, { on := 3, ground := Ground.textOnly Departure.lateStores }], guard := none }) (by kernel_rfl) rfl (fun K hK => ?_)
  rw [if_pos (by rfl)]
  refine wp_store_row 23 _ _ rfl b1 _ rfl rfl 23 _ H0.out (by kernel_rfl) rfl (by kernel_rfl) ?_
  refine hK.out _ _ (fun _ h => h.row hne _) ?_
  clear hK K
  refine take_p 5 5 (.bool (v != 0)) rfl rfl (by kernel_rfl) (by kernel_rfl) (by kernel_rfl) (fun _ _ _ h => h) rfl (fun w => by go_simp) ?_
  try simp only [List.setIfInBounds_toArray, List.set_cons_zero, List.set_cons_succ]
  refine done_f (by kernel_rfl) ?_ _
  go_wp2
  exact ret_c2 Tryd.results22 b1 _ _ _ _ _ _ rfl rfl (setRow_heap X.drew b1 _ _ _ _ H0.out) rfl ⟨rfl, below_setRow HX.out.drew (Nat.le_of_eq HB1.out) _⟩

end Go.Proofs.YtnkdbkhgfakjaaaDoor
