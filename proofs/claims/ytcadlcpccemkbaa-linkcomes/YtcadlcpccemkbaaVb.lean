/- Boxes of two cells; numbered bodies in a list in memory. -/
import Derived.Test.YtcadlcpccemkbaaMVaVpVs
import Derived.Test.YtcadlcpccemkbaaVm
namespace Go.Proofs.Ytcadlcpccemkbaa
open Go.RowKit
set_option maxRecDepth 100000
attribute [local go_sem] not_any

theorem set_box2 {w : World} {g : Nat} {x y x' y' : Value} {t : TypeId} (h : w.heap[g]? = some (.cells #[x, y] t (0, 0))) : ((w.setCell ⟨g, 0, none⟩ x').setCell ⟨g, 1, none⟩ y').heap[g]? = some (.cells #[x', y'] t (0, 0)) := by
  rw [heap_setCell_same _ g 1 _ _ _ (heap_setCell_same _ g 0 _ _ _ h)]
  rfl
theorem free2 {w : World} {g : Nat} {x y x' : Value} {t : TypeId} (h : w.heap[g]? = some (.cells #[x, y] t (0, 0))) : (w.setCell ⟨g, 0, none⟩ x').frozen? ⟨g, 1, none⟩ = false ∧ (w.setCell ⟨g, 0, none⟩ x').cell? ⟨g, 1, none⟩ = some y :=
  ⟨frozen_of_row _ g 1 _ _ (heap_setCell_same _ g 0 _ _ _ h), by rw [cell_of_row _ g 1 _ _ _ (heap_setCell_same _ g 0 _ _ _ h)]; rfl⟩
theorem box2 {w : World} {g : Nat} {x y : Value} {t : TypeId} (h : w.heap[g]? = some (.cells #[x, y] t (0, 0))) : w.cell? ⟨g, 0, none⟩ = some x ∧ w.cell? ⟨g, 1, none⟩ = some y ∧ w.frozen? ⟨g, 0, none⟩ = false ∧ w.frozen? ⟨g, 1, none⟩ = false ∧ g < w.heap.size :=
  ⟨by rw [cell_of_row w g 0 _ _ _ h]; rfl, by rw [cell_of_row w g 1 _ _ _ h]; rfl, frozen_of_row w g 0 _ _ h, frozen_of_row w g 1 _ _ h, lt_heap h⟩
theorem below_set2 {B : Nat} {w w' : World} {g : Nat} {x y : Value} (h : Below B w w') (hg : B ≤ g) : Below B w ((w'.setCell ⟨g, 0, none⟩ x).setCell ⟨g, 1, none⟩ y) := (h.setCell (p := ⟨g, 0, none⟩) hg _).setCell (p := ⟨g, 1, none⟩) hg _
theorem ret_t2 {fn : Func} {p u : Tmp} (h : fn.results = #[.tmp p, .tmp u]) {R : Ending → World → Prop} {a : Act} {w : World} {x y : Value} (hp : a.tmps.getD p undef = x) (hu : a.tmps.getD u undef = y) (hd : a.defers = []) (hR : R (.returned (.tuple #[x, y])) w) : bodyPost Try.prog fn R .ret a w := by
  refine bodyPost_ret_by (v := .tuple #[x, y]) ?_ hd hR
  rw [results_tmp2 h, hp, hu]
theorem ret_num {fn : Func} {p : Tmp} (h : fn.results = #[.cell p 83]) {R : Ending → World → Prop} {a : Act} {w : World} (g : Nat) (x y : Value) (hp : a.tmps.getD p undef = .pointer (some ⟨g, 0, none⟩))
    (hg : w.heap[g]? = some (.cells #[x, y] 83 (0, 0))) (hd : a.defers = []) (hR : R (.returned (.agg #[x, y])) w) : bodyPost Try.prog fn R .ret a w :=
  bodyPost_ret_by (results_cell_row h a.tmps w g 83 #[x, y] (0, 0) _ hp hg Try.underlying83 rfl (by kernel_rfl)) hd hR

theorem numbered_any (k : Nat) (s : ByteArray) (w : World) (hs : s.size ≤ 281474976710656) :
    Calls Try.prog 39 #[.int .u32 (k : Int), .string s] w fun e w' => e = .returned (elV k s) ∧ Below w.heap.size w w' := by
  have kC := fun w => hide1 (clone_any s w hs)
  go_enter Try.func39, Try.ntmps39
  go_wp2_with fail
  refine (kC _).out.mono ?_
  rintro e w1 ⟨rfl, hb⟩
  have r1 : w1.heap[w.heap.size]? = some (.cells #[.int .u32 0, .string ⟨#[]⟩] 83 (0, 0)) := (hb.block _ (by simp)).trans (heap_alloc_new _ _)
  have b1 : Below w.heap.size w w1 := (below1 _).trans (hb.mono (by simp))
  obtain ⟨_, _, f0, _, _⟩ := box2 r1
  obtain ⟨f1, _⟩ := free2 (x' := .int .u32 (k : Int)) r1
  have R1 := hide1 r1
  have B1 := hide1 b1
  clear kC hb r1 b1
  go_wp2
  exact ret_num Try.results39 w.heap.size _ _ rfl (set_box2 R1.out) rfl ⟨rfl, below_set2 B1.out (Nat.le_refl _)⟩

/- numbered bodies -/
def num2 (l : List (Nat × ByteArray)) : List Value := l.flatMap fun p => [.int .u32 (p.1 : Int), .string p.2]
theorem num2_length (l : List (Nat × ByteArray)) : (num2 l).length = l.length * 2 := by
  induction l with
  | nil => rfl
  | cons p l ih => simp only [num2, List.flatMap_cons, List.length_append, List.length_cons, List.length_nil] at *; omega
def Nls (T : TypeId) (B : Nat) (w : World) (v : Value) (l : List (Nat × ByteArray)) : Prop := w.ownsRow B T 2 v l.length (num2 l)
def kAt (l : List (Nat × ByteArray)) (j : Nat) : Nat := (l.getD j (0, ByteArray.empty)).1
def sAt (l : List (Nat × ByteArray)) (j : Nat) : ByteArray := (l.getD j (0, ByteArray.empty)).2
theorem num2_at : ∀ (l : List (Nat × ByteArray)) (j : Nat), j < l.length → (num2 l)[j * 2]? = some (.int .u32 (kAt l j : Int)) ∧ (num2 l)[j * 2 + 1]? = some (.string (sAt l j))
  | [], j, h => by simp at h
  | p :: l, 0, _ => ⟨rfl, rfl⟩
  | p :: l, j + 1, h => by
    obtain ⟨h1, h2⟩ := num2_at l j (by simpa using h)
    rw [show (j + 1) * 2 = j * 2 + 2 by omega]
    exact ⟨h1, h2⟩

/- numbered bodies that are read -/
def Rnl (w : World) (u : Value) (l : List (Nat × ByteArray)) : Prop := ∃ a c, u = .slice a l.length c ∧ ∀ j, j < l.length → ∃ g o, a = some ⟨g, o, none⟩ ∧ w.cell? ⟨g, o + j * 2, none⟩ = some (.int .u32 (kAt l j : Int)) ∧ w.cell? ⟨g, o + j * 2 + 1, none⟩ = some (.string (sAt l j))
theorem Rnl.same {w w' : World} {v : Value} {l : List (Nat × ByteArray)} (h : Rnl w v l) (hs : ∀ g, v.ownBlock = some g → g < w.heap.size → w'.heap[g]? = w.heap[g]?) : Rnl w' v l := by
  obtain ⟨a, c, rfl, hc⟩ := h
  refine ⟨a, c, rfl, fun j hj => ?_⟩
  obtain ⟨g, o, rfl, h1, h2⟩ := hc j hj
  have hg := World.block_lt_of_cell? w _ h1
  have hb := hs g rfl hg
  exact ⟨g, o, rfl, (World.cell?_of_block (a := ⟨g, _, none⟩) hb).trans h1, (World.cell?_of_block (a := ⟨g, _, none⟩) hb).trans h2⟩
theorem Rnl.below {C : Nat} {w w' : World} {v : Value} {l : List (Nat × ByteArray)} (h : Rnl w v l) (hb : Below C w w') (hC : w.heap.size ≤ C) : Rnl w' v l :=
  h.same fun g _ hg => hb.block g (by omega)
theorem Rnl.kp {F : Nat → Prop} {w w' : World} {v : Value} {l : List (Nat × ByteArray)} (h : Rnl w v l) (hk : Kp F w w') (hF : ∀ g, v.ownBlock = some g → ¬ F g) : Rnl w' v l :=
  h.same fun g hv hg => hk.block g hg (hF g hv)
theorem Rnl.nil (w : World) : Rnl w (.slice none 0 0) [] := ⟨none, 0, rfl, fun j hj => by simp at hj⟩
theorem Rnl.one (w : World) (T : TypeId) (k : Nat) (s : ByteArray) : Rnl (w.alloc (.cells #[.int .u32 (k : Int), .string s] T)) (.slice (some ⟨w.heap.size, 0, none⟩) 1 1) [(k, s)] :=
  ⟨_, 1, rfl, fun j hj => ⟨w.heap.size, 0, rfl, by
    obtain rfl : j = 0 := by simp at hj; omega
    rw [cell_of_row _ w.heap.size _ _ _ _ (heap_alloc_new w _), cell_of_row _ w.heap.size _ _ _ _ (heap_alloc_new w _)]
    exact ⟨rfl, rfl⟩⟩⟩

theorem Nls.nil (T B : Nat) (w : World) : Nls T B w (.slice none 0 0) [] := World.ownsRow_nil _ _ _ _
theorem Nls.lt {T B : Nat} {w : World} {v : Value} {l : List (Nat × ByteArray)} (h : Nls T B w v l) {g : Nat} (hg : v.ownBlock = some g) : B ≤ g ∧ g < w.heap.size := World.ownsRow.lt h g hg
theorem Nls.form {T B : Nat} {w : World} {v : Value} {l : List (Nat × ByteArray)} (h : Nls T B w v l) : ∃ a c, v = .slice a l.length c := by
  rcases h.2 with ⟨rfl, h0⟩ | ⟨g, cap, cur, rfl, _⟩
  · rw [h0]; exact ⟨none, 0, rfl⟩
  · exact ⟨_, cap, rfl⟩
theorem Nls.same {T B : Nat} {w w' : World} {v : Value} {l : List (Nat × ByteArray)} (h : Nls T B w v l) (hs : ∀ g, v.ownBlock = some g → w'.heap[g]? = w.heap[g]?) : Nls T B w' v l := by
  refine ⟨h.1, ?_⟩
  rcases h.2 with hn | ⟨g, cap, cur, rfl, hb, hgg, rest⟩
  · exact .inl hn
  · exact .inr ⟨g, cap, cur, rfl, hb, (hs g rfl).trans hgg, rest⟩
theorem Nls.below {T B C : Nat} {w w' : World} {v : Value} {l : List (Nat × ByteArray)} (h : Nls T B w v l) (hb : Below C w w') (hC : w.heap.size ≤ C) : Nls T B w' v l :=
  h.same fun g hg => hb.block g (by have := (h.lt hg).2; omega)
theorem Nls.mono {T B B' : Nat} {w : World} {v : Value} {l : List (Nat × ByteArray)} (h : Nls T B w v l) (hb : B' ≤ B) : Nls T B' w v l := World.ownsRow.mono h hb
theorem Nls.rd {T B : Nat} {w : World} {v : Value} {l : List (Nat × ByteArray)} (h : Nls T B w v l) : Rnl w v l := by
  rcases id h.2 with ⟨rfl, h0⟩ | ⟨g, cap, cur, rfl, hb, hgg, hnc, _⟩
  · obtain rfl : l = [] := List.eq_nil_of_length_eq_zero h0
    exact Rnl.nil w
  · refine ⟨_, cap, rfl, fun j hj => ⟨g, 0, rfl, ?_⟩⟩
    obtain ⟨h1, h2⟩ := num2_at l j hj
    have hl := num2_length l
    rw [Nat.zero_add, World.ownsRow.cellAt h (j * 2) (by omega), World.ownsRow.cellAt h (j * 2 + 1) (by omega)]
    exact ⟨h1, h2⟩

/- the types of such lists -/
structure Nty (S T : TypeId) : Prop where
  under : Try.prog.underlying S = some (.slice T)
  info : ∃ i : TypeInfo, Try.prog.info? T = some i ∧ i.zero = some (elV 0 ⟨#[]⟩) ∧ i.size = 2 ∧ i.bytes = 24
theorem nty_of {S T : TypeId} (h1 : Try.prog.underlying S = some (.slice T)) (h : (Try.prog.info? T).map (fun i => (i.zero, i.size, i.bytes)) = some (some (elV 0 ⟨#[]⟩), 2, 24)) : Nty S T := by
  refine ⟨h1, ?_⟩
  cases hi : Try.prog.info? T with
  | none => rw [hi] at h; cases h
  | some i =>
    rw [hi] at h
    simp at h
    exact ⟨i, rfl, h.1, h.2.1, h.2.2⟩
theorem ntyW : Nty 69 83 := nty_of Try.underlying69 (by kernel_rfl)
theorem num2_append (l l' : List (Nat × ByteArray)) : num2 (l ++ l') = num2 l ++ num2 l' := by simp [num2]
theorem run_append_nls {S T : TypeId} (ht : Nty S T) {w : World} {B : Nat} {v u : Value} {l : List (Nat × ByteArray)} {p : Nat × ByteArray} (ty : TypeId) (h : Nls T B w v l) (hu : Rnl w u [p]) (hle : l.length ≤ 1000000) (hB : B ≤ w.heap.size) :
    ∃ v' w', (Builtin.append_ #[S, S] ty #[v, u]).run Try.prog w = .ok v' w' ∧ Nls T B w' v' (l ++ [p]) ∧ w.grownBy w' v.ownBlock ∧ (∀ g, v'.ownBlock = some g → v.ownBlock = some g ∨ w.heap.size ≤ g) := by
  obtain ⟨i0, hi, hz0, hz1, hz2⟩ := ht.info
  obtain ⟨a, c, rfl, hc⟩ := hu
  obtain ⟨g, o, rfl, k1, k2⟩ := hc 0 (by simp)
  obtain ⟨v', w', hr, h2, h3, _, h5⟩ := run_append_own_at (P := Try.prog) w B S ty T i0 (elV 0 ⟨#[]⟩) 2 24 ht.under hi hz0 hz1 hz2 rfl (by decide) v l.length (num2 l) h ⟨g, o, none⟩ 1 c (num2 [p]) (by simp [num2]) (fun j x hx => by
    rw [Addr.add_lit]
    rcases (show j = 0 ∨ j = 1 ∨ 2 ≤ j by omega) with rfl | rfl | hj
    · cases hx
      exact k1
    · cases hx
      exact k2
    · exfalso
      have := (List.getElem?_eq_some_iff.1 hx).1
      simp [num2] at this
      omega) (fun x hx => by
    simp [num2] at hx
    rcases hx with rfl | rfl <;> rfl) (by unfold maxLen; omega) (by omega) hB
  refine ⟨v', w', hr, by unfold Nls; rw [num2_append]; simpa using h2, h3, fun g hg => ?_⟩
  rcases h5 with h5 | h5
  · exact .inl (h5 ▸ hg)
  · rw [h5] at hg
    cases hg
    exact .inr (Nat.le_refl _)
theorem wp_append_nls {S T : TypeId} (ht : Nty S T) {w : World} {o : Oper} {act : Act} {K : Act → World → Prop} {Q : Exit → Act → World → Prop} (s x : Operand) (ho : o.op = .call { callee := .builtin .append, args := #[s, x], argTypes := #[S, S] })
    {B : Nat} {v u : Value} {l : List (Nat × ByteArray)} {p : Nat × ByteArray} (hs : act.eval s = v) (hx : act.eval x = u) (h : Nls T B w v l) (hu : Rnl w u [p]) (hle : l.length ≤ 1000000) (hB : B ≤ w.heap.size)
    (hk : ∀ v' w', Nls T B w' v' (l ++ [p]) → w.grownBy w' v.ownBlock → (∀ g, v'.ownBlock = some g → v.ownBlock = some g ∨ w.heap.size ≤ g) → K (act.put o.dst v') w') : o.wp Try.prog act w K Q := by
  obtain ⟨v', w', hr, h2, h3, h4⟩ := run_append_nls ht o.type h hu hle hB
  unfold Oper.wp execOp
  simp only [ho, resolve, invoke, builtin, Sem.run_bind, Sem.run_pure, Result.andThen_ok, List.map_toArray, List.map_cons, List.map_nil, hs, hx, hr]
  exact hk v' w' h2 h3 h4
theorem wpList_append_nls {S T : TypeId} (ht : Nty S T) {w : World} {ops : Array Oper} {rest : List Oper} {o : Oper} {act : Act} {Q : Exit → Act → World → Prop} (hgd : o.guard = none) (s x : Operand) (ho : o.op = .call { callee := .builtin .append, args := #[s, x], argTypes := #[S, S] })
    {B : Nat} {v u : Value} {l : List (Nat × ByteArray)} {p : Nat × ByteArray} (hs : act.eval s = v) (hx : act.eval x = u) (h : Nls T B w v l) (hu : Rnl w u [p]) (hle : l.length ≤ 1000000) (hB : B ≤ w.heap.size)
    (hk : ∀ v' w', Nls T B w' v' (l ++ [p]) → w.grownBy w' v.ownBlock → (∀ g, v'.ownBlock = some g → v.ownBlock = some g ∨ w.heap.size ≤ g) → wpList Try.prog ops Q rest (act.put o.dst v') w') : wpList Try.prog ops Q (o :: rest) act w :=
  wpList_plain hgd fun _ hK => wp_append_nls ht s x ho hs hx h hu hle hB fun v' w' h2 h3 h4 => hK _ _ (hk v' w' h2 h3 h4)

end Go.Proofs.Ytcadlcpccemkbaa
