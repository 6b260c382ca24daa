/- A map of numbered bodies in memory. Boxes of two cells; numbered bodies in a list in memory. -/
import Derived.Test.YtcadlcpccemkbaaGreatDoorMQdVaVpVs
import Derived.Maps.OwnSet
namespace Go.Proofs.YtcadlcpccemkbaaGreatDoor
open Go.RowKit Go.Maps
set_option maxRecDepth 100000

/- how a numbered body reads -/
def elN (v : Value) : Option (DataW Unit × List MemPlace) :=
  match v with
  | .agg cs => match cs.toList with
    | [.int .u32 k, .string s] => some (.agg [.lit (.int .u32 k), .lit (.string s.data.toList)], [])
    | _ => none
  | _ => none
def enN (k : Nat) (s : ByteArray) : DataW Unit := .agg [.lit (.int .u32 (k : Int)), .lit (.string s.data.toList)]
/- a numbered body as a value -/
def elV (k : Nat) (s : ByteArray) : Value := .agg #[.int .u32 (k : Int), .string s]
theorem elN_mk (k : Nat) (s : ByteArray) : elN (elV k s) = some (enN k s, []) := rfl
theorem elN_inv {v : Value} {k : Nat} {s : ByteArray} {ps : List MemPlace} (h : elN v = some (enN k s, ps)) : v = elV k s := by
  unfold elN at h
  split at h
  · rename_i cs
    split at h
    · rename_i k' s' e
      simp only [enN, Option.some.injEq, Prod.mk.injEq, DataW.agg.injEq, List.cons.injEq, DataW.lit.injEq, Lit.int.injEq, Lit.string.injEq, and_true, true_and] at h
      obtain ⟨⟨rfl, h2⟩, _⟩ := h
      have : s' = s := by
        cases s'; cases s
        simp only [ByteArray.mk.injEq]
        exact Array.toList_inj.1 h2
      subst this
      unfold elV
      congr 1
      apply Array.toList_inj.1
      rw [e]
    · cases h
  · cases h

theorem keyed : Keyed Tryz.prog 22 := int_keyed Tryz.underlying22
theorem key_of {k : Nat} (hk : k < 4294967296) : keyOf Tryz.prog 22 (.int .u32 (k : Int)) = some (.int .u32 (k : Int)) :=
  keyOf_int_mk Tryz.underlying22 (by
    have h1 : IntKind.u32.min = 0 := rfl
    have h2 : IntKind.u32.max = 4294967295 := rfl
    simp only [Lit.wf, h1, h2, Bool.and_eq_true, decide_eq_true_eq]
    omega)

/- block b is a map that holds just what f tells -/
def Hm (w : World) (b n : Nat) (f : Nat → Option ByteArray) : Prop :=
  ∃ D : DataW Unit, w.ownsMap Tryz.prog 22 elN b n D ∧ ∀ k : Nat, k < 4294967296 → Maps.has D (.int .u32 (k : Int)) = (f k).isSome ∧ ∀ s, f k = some s → D.atKey (.int .u32 (k : Int)) (enN 0 ByteArray.empty) = enN k s
/- a map, nil too -/
def Mp (w : World) (m : Value) (n : Nat) (f : Nat → Option ByteArray) : Prop :=
  (m = .map none ∧ ∀ k, f k = none) ∨ ∃ b, m = .map (some b) ∧ Hm w b n f
def mblk : Value → Option Nat
  | .map b => b
  | _ => none
def got (k : Nat) : Option ByteArray → Value
  | none => elV 0 ByteArray.empty
  | some s => elV k s

theorem Hm.lt {w : World} {b n : Nat} {f : Nat → Option ByteArray} (h : Hm w b n f) : b < w.heap.size := by
  obtain ⟨D, h1, _⟩ := h
  exact h1.lt
theorem Mp.lt {w : World} {m : Value} {n : Nat} {f : Nat → Option ByteArray} (h : Mp w m n f) {b : Nat} (hb : mblk m = some b) : b < w.heap.size := by
  rcases h with ⟨rfl, _⟩ | ⟨b', rfl, h1⟩
  · cases hb
  · cases hb
    exact h1.lt
theorem Hm.same {w w' : World} {b n : Nat} {f : Nat → Option ByteArray} (h : Hm w b n f) (hs : w'.heap[b]? = w.heap[b]?) : Hm w' b n f := by
  obtain ⟨D, ⟨es, clock, hb, r⟩, h2⟩ := h
  exact ⟨D, ⟨es, clock, hs.trans hb, r⟩, h2⟩
theorem Mp.same {w w' : World} {m : Value} {n : Nat} {f : Nat → Option ByteArray} (h : Mp w m n f) (hs : ∀ b, mblk m = some b → w'.heap[b]? = w.heap[b]?) : Mp w' m n f := by
  rcases h with h1 | ⟨b, rfl, h1⟩
  · exact .inl h1
  · exact .inr ⟨b, rfl, h1.same (hs b rfl)⟩
theorem Mp.kp {F : Nat → Prop} {w w' : World} {m : Value} {n : Nat} {f : Nat → Option ByteArray} (h : Mp w m n f) (hk : Kp F w w') (hF : ∀ b, mblk m = some b → ¬ F b) : Mp w' m n f :=
  h.same fun b hb => hk.block b (h.lt hb) (hF b hb)
theorem Mp.none (w : World) (n : Nat) : Mp w (.map none) n (fun _ => none) := .inl ⟨rfl, fun _ => rfl⟩
theorem Mp.form {w : World} {m : Value} {n : Nat} {f : Nat → Option ByteArray} (h : Mp w m n f) : ∃ b, m = .map b := by
  rcases h with ⟨rfl, _⟩ | ⟨b, rfl, _⟩
  · exact ⟨_, rfl⟩
  · exact ⟨_, rfl⟩

theorem Mp.look {w : World} {m : Value} {n : Nat} {f : Nat → Option ByteArray} (h : Mp w m n f) {k : Nat} (hk : k < 4294967296) :
    (Instr.lookup 52 m (.int .u32 (k : Int)) true).run Tryz.prog w = .ok (.tuple #[got k (f k), .bool (f k).isSome]) w := by
  have hz : (zeroValue 146).run Tryz.prog w = .ok (elV 0 ByteArray.empty) w := Tryz.zeroValue146 w
  rcases h with ⟨rfl, hf⟩ | ⟨b, rfl, D, h1, h2⟩
  · rw [hf k]
    exact Maps.look_nil true keyed Tryz.underlying52 hz (key_of hk)
  · obtain ⟨v, ps, hr, hv⟩ := h1.look_ok keyed Tryz.underlying52 hz (elN_mk 0 ByteArray.empty) (key_of hk)
    obtain ⟨h3, h4⟩ := h2 k hk
    rw [hr, h3]
    cases hfk : f k with
    | none =>
      rw [hfk] at h3
      rw [Maps.atKey_of_not_has h3] at hv
      rw [elN_inv hv]
      rfl
    | some s =>
      rw [h4 s hfk] at hv
      rw [elN_inv hv]
      rfl

def upd {α : Type} (f : Nat → α) (k : Nat) (v : α) : Nat → α := fun j => if j = k then v else f j
theorem upd_same {α : Type} (f : Nat → α) (k : Nat) (v : α) : upd f k v k = v := by simp [upd]
theorem upd_other {α : Type} (f : Nat → α) {k j : Nat} (v : α) (h : j ≠ k) : upd f k v j = f j := by simp [upd, h]

theorem Hm.made (w : World) : Hm (w.alloc (.map #[] 0)) w.heap.size 0 (fun _ => none) :=
  ⟨.map [], World.ownsMap_made _ _ _ _, fun k _ => ⟨rfl, fun s hs => by cases hs⟩⟩

theorem lit_ne {j k : Nat} (h : j ≠ k) : (Lit.int .u32 (j : Int)) ≠ Lit.int .u32 (k : Int) := fun e => h (by simp at e; omega)

theorem Hm.store {w : World} {b n : Nat} {f : Nat → Option ByteArray} (h : Hm w b n f) {k : Nat} (hk : k < 4294967296) (s : ByteArray) (hn : n < 1000000) :
    ∃ w', (Instr.mapUpdate 52 (.map (some b)) (.int .u32 (k : Int)) (elV k s)).run Tryz.prog w = .ok () w' ∧ Hm w' b (n + 1) (upd f k (some s)) ∧ w.grownBy w' (some b) := by
  obtain ⟨D, h1, h2⟩ := h
  obtain ⟨w', hr, h3, h4⟩ := h1.update keyed Tryz.underlying52 (by unfold maxLen; omega) (key_of hk) (elN_mk k s)
  refine ⟨w', hr, ⟨_, h3, fun j hj => ?_⟩, h4⟩
  by_cases hjk : j = k
  · subst hjk
    rw [upd_same]
    exact ⟨Maps.has_put_same h1.isMap (keyed.key (key_of hj)) _, fun s' hs' => by cases hs'; exact Maps.atKey_put_same h1.isMap (keyed.key (key_of hj)) _ _⟩
  · rw [upd_other _ _ hjk, Maps.has_put_other (lit_ne hjk), Maps.atKey_put_other (lit_ne hjk)]
    exact h2 j hj

theorem Hm.drop {w : World} {b n : Nat} {f : Nat → Option ByteArray} (h : Hm w b n f) {k : Nat} (hk : k < 4294967296) (ty : TypeId) :
    ∃ w', (Builtin.delete_ #[52, 22] ty #[.map (some b), .int .u32 (k : Int)]).run Tryz.prog w = .ok (.tuple #[]) w' ∧ Hm w' b n (upd f k none) ∧ w.grownBy w' (some b) := by
  obtain ⟨D, h1, h2⟩ := h
  obtain ⟨w', hr, h3, h4⟩ := h1.drop keyed Tryz.underlying52 (key_of hk) ty
  refine ⟨w', hr, ⟨_, h3, fun j hj => ?_⟩, h4.grown⟩
  by_cases hjk : j = k
  · subst hjk
    rw [upd_same]
    exact ⟨Maps.has_del_same, fun s' hs' => by cases hs'⟩
  · rw [upd_other _ _ hjk, Maps.has_del_other (lit_ne hjk), Maps.atKey_del_other (lit_ne hjk)]
    exact h2 j hj

theorem wp_update {w : World} {o : Oper} {act : Act} {K : Act → World → Prop} {Q : Exit → Act → World → Prop} (m x v : Operand) (ho : o.op = .mapUpdate 52 m x v)
    {b n k : Nat} {s : ByteArray} {f : Nat → Option ByteArray} (hm : act.eval m = .map (some b)) (hx : act.eval x = .int .u32 (k : Int)) (hv : act.eval v = elV k s) (h : Hm w b n f) (hk : k < 4294967296) (hn : n < 1000000)
    (hK : ∀ w', Hm w' b (n + 1) (upd f k (some s)) → w.grownBy w' (some b) → K (act.put o.dst undef) w') : o.wp Tryz.prog act w K Q := by
  obtain ⟨w', hr, h1, h2⟩ := h.store hk s hn
  unfold Oper.wp
  simp [execOp, ho, hm, hx, hv, hr, Result.andThen]
  exact hK w' h1 h2
theorem wp_delete {w : World} {o : Oper} {act : Act} {K : Act → World → Prop} {Q : Exit → Act → World → Prop} (m x : Operand) (ho : o.op = .call { callee := .builtin .delete, args := #[m, x], argTypes := #[52, 22] })
    {b n k : Nat} {f : Nat → Option ByteArray} (hm : act.eval m = .map (some b)) (hx : act.eval x = .int .u32 (k : Int)) (h : Hm w b n f) (hk : k < 4294967296)
    (hK : ∀ w', Hm w' b n (upd f k none) → w.grownBy w' (some b) → K (act.put o.dst (.tuple #[])) w') : o.wp Tryz.prog act w K Q := by
  obtain ⟨w', hr, h1, h2⟩ := h.drop hk o.type
  unfold Oper.wp execOp
  simp only [ho, resolve, invoke, builtin, Sem.run_bind, Sem.run_pure, Result.andThen_ok, List.map_toArray, List.map_cons, List.map_nil, hm, hx, hr]
  exact hK w' h1 h2

end Go.Proofs.YtcadlcpccemkbaaGreatDoor

namespace Go.Proofs.YtcadlcpccemkbaaGreatDoor
open Go.RowKit
set_option maxRecDepth 100000
attribute [local go_sem] not_any

theorem set_box2 {w : World} {g : Nat} {x y x' y' : Value} {t : TypeId} (h : w.heap[g]? = some (.cells #[x, y] t (0, 0))) : ((w.setCell ⟨g, 0, none⟩ x').setCell ⟨g, 1, none⟩ y').heap[g]? = some (.cells #[x', y'] t (0, 0)) := by
  rw [heap_setCell_same _ g 1 _ _ _ (heap_setCell_same _ g 0 _ _ _ h)]
  rfl
theorem free2 {w : World} {g : Nat} {x y x' : Value} {t : TypeId} (h : w.heap[g]? = some (.cells #[x, y] t (0, 0))) : (w.setCell ⟨g, 0, none⟩ x').frozen? ⟨g, 1, none⟩ = false ∧ (w.setCell ⟨g, 0, none⟩ x').cell? ⟨g, 1, none⟩ = some y :=
  ⟨frozen_of_row _ g 1 _ _ (heap_setCell_same _ g 0 _ _ _ h), by rw [cell_of_row _ g 1 _ _ _ (heap_setCell_same _ g 0 _ _ _ h)]; rfl⟩
theorem box2 {w : World} {g : Nat} {x y : Value} {t : TypeId} (h : w.heap[g]? = some (.cells #[x, y] t (0, 0))) : w.cell? ⟨g, 0, none⟩ = some x ∧ w.cell? ⟨g, 1, none⟩ = some y ∧ w.frozen? ⟨g, 0, none⟩ = false ∧ w.frozen? ⟨g, 1, none⟩ = false ∧ g < w.heap.size :=
  ⟨by rw [cell_of_row w g 0 _ _ _ h]; rfl, by rw [cell_of_row w g 1 _ _ _ h]; rfl, frozen_of_row w g 0 _ _ h, frozen_of_row w g 1 _ _ h, lt_heap h⟩
theorem below_set2 {B : Nat} {w w' : World} {g : Nat} {x y : Value} (h : Below B w w') (hg : B ≤ g) : Below B w ((w'.setCell ⟨g, 0, none⟩ x).setCell ⟨g, 1, none⟩ y) := (h.setCell (p := ⟨g, 0, none⟩) hg _).setCell (p := ⟨g, 1, none⟩) hg _
theorem ret_t2 {fn : Func} {p u : Tmp} (h : fn.results = #[.tmp p, .tmp u]) {R : Ending → World → Prop} {a : Act} {w : World} {x y : Value} (hp : a.tmps.getD p undef = x) (hu : a.tmps.getD u undef = y) (hd : a.defers = []) (hR : R (.returned (.tuple #[x, y])) w) : bodyPost Tryz.prog fn R .ret a w := by
  refine bodyPost_ret_by (v := .tuple #[x, y]) ?_ hd hR
  rw [results_tmp2 h, hp, hu]
theorem ret_num {fn : Func} {p : Tmp} (h : fn.results = #[.cell p 146]) {R : Ending → World → Prop} {a : Act} {w : World} (g : Nat) (x y : Value) (hp : a.tmps.getD p undef = .pointer (some ⟨g, 0, none⟩))
    (hg : w.heap[g]? = some (.cells #[x, y] 146 (0, 0))) (hd : a.defers = []) (hR : R (.returned (.agg #[x, y])) w) : bodyPost Tryz.prog fn R .ret a w :=
  bodyPost_ret_by (results_cell_row h a.tmps w g 146 #[x, y] (0, 0) _ hp hg Tryz.underlying146 rfl (by kernel_rfl)) hd hR

theorem numbered_any (k : Nat) (s : ByteArray) (w : World) (hs : s.size ≤ 281474976710656) :
    Calls Tryz.prog 79 #[.int .u32 (k : Int), .string s] w fun e w' => e = .returned (elV k s) ∧ Below w.heap.size w w' := by
  have kC := fun w => hide1 (clone_any s w hs)
  go_enter Tryz.func79, Tryz.ntmps79
  go_wp2_with fail
  refine (kC _).out.mono ?_
  rintro e w1 ⟨rfl, hb⟩
  have r1 : w1.heap[w.heap.size]? = some (.cells #[.int .u32 0, .string ⟨#[]⟩] 146 (0, 0)) := (hb.block _ (by simp)).trans (heap_alloc_new _ _)
  have b1 : Below w.heap.size w w1 := (below1 _).trans (hb.mono (by simp))
  obtain ⟨_, _, f0, _, _⟩ := box2 r1
  obtain ⟨f1, _⟩ := free2 (x' := .int .u32 (k : Int)) r1
  have R1 := hide1 r1
  have B1 := hide1 b1
  clear kC hb r1 b1
  go_wp2
  exact ret_num Tryz.results79 w.heap.size _ _ rfl (set_box2 R1.out) rfl ⟨rfl, below_set2 B1.out (Nat.le_refl _)⟩

/- numbered bodies -/
def num2 (l : List (Nat × ByteArray)) : List Value := l.flatMap fun p => [.int .u32 (p.1 : Int), .string p.2]
theorem num2_length (l : List (Nat × ByteArray)) : (num2 l).length = l.length * 2 := by
  induction l with
  | nil => rfl
  | cons p l ih => simp only [num2, List.flatMap_cons, List.length_append, List.length_cons, List.length_nil] at *; omega
def Nls (T : TypeId) (B : Nat) (w : World) (v : Value) (l : List (Nat × ByteArray)) : Prop := w.ownsRow B T 2 v l.length (num2 l)
def kAt (l : List (Nat × ByteArray)) (j : Nat) : Nat := (l.getD j (0, ByteArray.empty)).1
def sAt (l : List (Nat × ByteArray)) (j : Nat) : ByteArray := (l.getD j (0, ByteArray.empty)).2
theorem num2_at : ∀ (l : List (Nat × ByteArray)) (j : Nat), j < l.length → (num2 l)[j * 2]? = some (.int .u32 (kAt l j : Int)) ∧ (num2 l)[j * 2 + 1]? = some (.string (sAt l j))
  | [], j, h => by simp at h
  | p :: l, 0, _ => ⟨rfl, rfl⟩
  | p :: l, j + 1, h => by
    obtain ⟨h1, h2⟩ := num2_at l j (by simpa using h)
    rw [show (j + 1) * 2 = j * 2 + 2 by omega]
    exact ⟨h1, h2⟩

/- numbered bodies that are read -/
def Rnl (w : World) (u : Value) (l : List (Nat × ByteArray)) : Prop := ∃ a c, u = .slice a l.length c ∧ ∀ j, j < l.length → ∃ g o, a = some ⟨g, o, none⟩ ∧ w.cell? ⟨g, o + j * 2, none⟩ = some (.int .u32 (kAt l j : Int)) ∧ w.cell? ⟨g, o + j * 2 + 1, none⟩ = some (.string (sAt l j))
theorem Rnl.same {w w' : World} {v : Value} {l : List (Nat × ByteArray)} (h : Rnl w v l) (hs : ∀ g, v.ownBlock = some g → g < w.heap.size → w'.heap[g]? = w.heap[g]?) : Rnl w' v l := by
  obtain ⟨a, c, rfl, hc⟩ := h
  refine ⟨a, c, rfl, fun j hj => ?_⟩
  obtain ⟨g, o, rfl, h1, h2⟩ := hc j hj
  have hg := World.block_lt_of_cell? w _ h1
  have hb := hs g rfl hg
  exact ⟨g, o, rfl, (World.cell?_of_block (a := ⟨g, _, none⟩) hb).trans h1, (World.cell?_of_block (a := ⟨g, _, none⟩) hb).trans h2⟩
theorem Rnl.below {C : Nat} {w w' : World} {v : Value} {l : List (Nat × ByteArray)} (h : Rnl w v l) (hb : Below C w w') (hC : w.heap.size ≤ C) : Rnl w' v l :=
  h.same fun g _ hg => hb.block g (by omega)
theorem Rnl.kp {F : Nat → Prop} {w w' : World} {v : Value} {l : List (Nat × ByteArray)} (h : Rnl w v l) (hk : Kp F w w') (hF : ∀ g, v.ownBlock = some g → ¬ F g) : Rnl w' v l :=
  h.same fun g hv hg => hk.block g hg (hF g hv)
theorem Rnl.nil (w : World) : Rnl w (.slice none 0 0) [] := ⟨none, 0, rfl, fun j hj => by simp at hj⟩
theorem Rnl.one (w : World) (T : TypeId) (k : Nat) (s : ByteArray) : Rnl (w.alloc (.cells #[.int .u32 (k : Int), .string s] T)) (.slice (some ⟨w.heap.size, 0, none⟩) 1 1) [(k, s)] :=
  ⟨_, 1, rfl, fun j hj => ⟨w.heap.size, 0, rfl, by
    obtain rfl : j = 0 := by simp at hj; omega
    rw [cell_of_row _ w.heap.size _ _ _ _ (heap_alloc_new w _), cell_of_row _ w.heap.size _ _ _ _ (heap_alloc_new w _)]
    exact ⟨rfl, rfl⟩⟩⟩

theorem Nls.nil (T B : Nat) (w : World) : Nls T B w (.slice none 0 0) [] := World.ownsRow_nil _ _ _ _
theorem Nls.lt {T B : Nat} {w : World} {v : Value} {l : List (Nat × ByteArray)} (h : Nls T B w v l) {g : Nat} (hg : v.ownBlock = some g) : B ≤ g ∧ g < w.heap.size := World.ownsRow.lt h g hg
theorem Nls.form {T B : Nat} {w : World} {v : Value} {l : List (Nat × ByteArray)} (h : Nls T B w v l) : ∃ a c, v = .slice a l.length c := by
  rcases h.2 with ⟨rfl, h0⟩ | ⟨g, cap, cur, rfl, _⟩
  · rw [h0]; exact ⟨none, 0, rfl⟩
  · exact ⟨_, cap, rfl⟩
theorem Nls.same {T B : Nat} {w w' : World} {v : Value} {l : List (Nat × ByteArray)} (h : Nls T B w v l) (hs : ∀ g, v.ownBlock = some g → w'.heap[g]? = w.heap[g]?) : Nls T B w' v l := by
  refine ⟨h.1, ?_⟩
  rcases h.2 with hn | ⟨g, cap, cur, rfl, hb, hgg, rest⟩
  · exact .inl hn
  · exact .inr ⟨g, cap, cur, rfl, hb, (hs g rfl).trans hgg, rest⟩
theorem Nls.below {T B C : Nat} {w w' : World} {v : Value} {l : List (Nat × ByteArray)} (h : Nls T B w v l) (hb : Below C w w') (hC : w.heap.size ≤ C) : Nls T B w' v l :=
  h.same fun g hg => hb.block g (by have := (h.lt hg).2; omega)
theorem Nls.mono {T B B' : Nat} {w : World} {v : Value} {l : List (Nat × ByteArray)} (h : Nls T B w v l) (hb : B' ≤ B) : Nls T B' w v l := World.ownsRow.mono h hb
theorem Nls.rd {T B : Nat} {w : World} {v : Value} {l : List (Nat × ByteArray)} (h : Nls T B w v l) : Rnl w v l := by
  rcases id h.2 with ⟨rfl, h0⟩ | ⟨g, cap, cur, rfl, hb, hgg, hnc, _⟩
  · obtain rfl : l = [] := List.eq_nil_of_length_eq_zero h0
    exact Rnl.nil w
  · refine ⟨_, cap, rfl, fun j hj => ⟨g, 0, rfl, ?_⟩⟩
    obtain ⟨h1, h2⟩ := num2_at l j hj
    have hl := num2_length l
    rw [Nat.zero_add, World.ownsRow.cellAt h (j * 2) (by omega), World.ownsRow.cellAt h (j * 2 + 1) (by omega)]
    exact ⟨h1, h2⟩

/- the types of such lists -/
structure Nty (S T : TypeId) : Prop where
  under : Tryz.prog.underlying S = some (.slice T)
  info : ∃ i : TypeInfo, Tryz.prog.info? T = some i ∧ i.zero = some (elV 0 ⟨#[]⟩) ∧ i.size = 2 ∧ i.bytes = 24
theorem nty_of {S T : TypeId} (h1 : Tryz.prog.underlying S = some (.slice T)) (h : (Tryz.prog.info? T).map (fun i => (i.zero, i.size, i.bytes)) = some (some (elV 0 ⟨#[]⟩), 2, 24)) : Nty S T := by
  refine ⟨h1, ?_⟩
  cases hi : Tryz.prog.info? T with
  | none => rw [hi] at h; cases h
  | some i =>
    rw [hi] at h
    simp at h
    exact ⟨i, rfl, h.1, h.2.1, h.2.2⟩
theorem ntyW : Nty 96 146 := nty_of Tryz.underlying96 (by kernel_rfl)
theorem ntyR : Nty 35 175 := nty_of Tryz.underlying35 (by kernel_rfl)

theorem num2_append (l l' : List (Nat × ByteArray)) : num2 (l ++ l') = num2 l ++ num2 l' := by simp [num2]
theorem run_append_nls {S T : TypeId} (ht : Nty S T) {w : World} {B : Nat} {v u : Value} {l : List (Nat × ByteArray)} {p : Nat × ByteArray} (ty : TypeId) (h : Nls T B w v l) (hu : Rnl w u [p]) (hle : l.length ≤ 1000000) (hB : B ≤ w.heap.size) :
    ∃ v' w', (Builtin.append_ #[S, S] ty #[v, u]).run Tryz.prog w = .ok v' w' ∧ Nls T B w' v' (l ++ [p]) ∧ w.grownBy w' v.ownBlock ∧ (∀ g, v'.ownBlock = some g → v.ownBlock = some g ∨ w.heap.size ≤ g) := by
  obtain ⟨i0, hi, hz0, hz1, hz2⟩ := ht.info
  obtain ⟨a, c, rfl, hc⟩ := hu
  obtain ⟨g, o, rfl, k1, k2⟩ := hc 0 (by simp)
  obtain ⟨v', w', hr, h2, h3, _, h5⟩ := run_append_own_at (P := Tryz.prog) w B S ty T i0 (elV 0 ⟨#[]⟩) 2 24 ht.under hi hz0 hz1 hz2 rfl (by decide) v l.length (num2 l) h ⟨g, o, none⟩ 1 c (num2 [p]) (by simp [num2]) (fun j x hx => by
    rw [Addr.add_lit]
    rcases (show j = 0 ∨ j = 1 ∨ 2 ≤ j by omega) with rfl | rfl | hj
    · cases hx
      exact k1
    · cases hx
      exact k2
    · exfalso
      have := (List.getElem?_eq_some_iff.1 hx).1
      simp [num2] at this
      omega) (fun x hx => by
    simp [num2] at hx
    rcases hx with rfl | rfl <;> rfl) (by unfold maxLen; omega) (by omega) hB
  refine ⟨v', w', hr, by unfold Nls; rw [num2_append]; simpa using h2, h3, fun g hg => ?_⟩
  rcases h5 with h5 | h5
  · exact .inl (h5 ▸ hg)
  · rw [h5] at hg
    cases hg
    exact .inr (Nat.le_refl _)
theorem wp_append_nls {S T : TypeId} (ht : Nty S T) {w : World} {o : Oper} {act : Act} {K : Act → World → Prop} {Q : Exit → Act → World → Prop} (s x : Operand) (ho : o.op = .call { callee := .builtin .append, args := #[s, x], argTypes := #[S, S] })
    {B : Nat} {v u : Value} {l : List (Nat × ByteArray)} {p : Nat × ByteArray} (hs : act.eval s = v) (hx : act.eval x = u) (h : Nls T B w v l) (hu : Rnl w u [p]) (hle : l.length ≤ 1000000) (hB : B ≤ w.heap.size)
    (hk : ∀ v' w', Nls T B w' v' (l ++ [p]) → w.grownBy w' v.ownBlock → (∀ g, v'.ownBlock = some g → v.ownBlock = some g ∨ w.heap.size ≤ g) → K (act.put o.dst v') w') : o.wp Tryz.prog act w K Q := by
  obtain ⟨v', w', hr, h2, h3, h4⟩ := run_append_nls ht o.type h hu hle hB
  unfold Oper.wp execOp
  simp only [ho, resolve, invoke, builtin, Sem.run_bind, Sem.run_pure, Result.andThen_ok, List.map_toArray, List.map_cons, List.map_nil, hs, hx, hr]
  exact hk v' w' h2 h3 h4
theorem wpList_append_nls {S T : TypeId} (ht : Nty S T) {w : World} {ops : Array Oper} {rest : List Oper} {o : Oper} {act : Act} {Q : Exit → Act → World → Prop} (hgd : o.guard = none) (s x : Operand) (ho : o.op = .call { callee := .builtin .append, args := #[s, x], argTypes := #[S, S] })
    {B : Nat} {v u : Value} {l : List (Nat × ByteArray)} {p : Nat × ByteArray} (hs : act.eval s = v) (hx : act.eval x = u) (h : Nls T B w v l) (hu : Rnl w u [p]) (hle : l.length ≤ 1000000) (hB : B ≤ w.heap.size)
    (hk : ∀ v' w', Nls T B w' v' (l ++ [p]) → w.grownBy w' v.ownBlock → (∀ g, v'.ownBlock = some g → v.ownBlock = some g ∨ w.heap.size ≤ g) → wpList Tryz.prog ops Q rest (act.put o.dst v') w') : wpList Tryz.prog ops Q (o :: rest) act w :=
  wpList_plain hgd fun _ hK => wp_append_nls ht s x ho hs hx h hu hle hB fun v' w' h2 h3 h4 => hK _ _ (hk v' w' h2 h3 h4)

end Go.Proofs.YtcadlcpccemkbaaGreatDoor
