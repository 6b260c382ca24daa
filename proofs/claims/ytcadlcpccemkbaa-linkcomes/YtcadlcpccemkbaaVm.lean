/- A map of numbered bodies in memory. -/
import Derived.Test.YtcadlcpccemkbaaMVaVpVs
import Derived.Maps.OwnSet
namespace Go.Proofs.Ytcadlcpccemkbaa
open Go.RowKit Go.Maps
set_option maxRecDepth 100000

/- how a numbered body reads -/
def elN (v : Value) : Option (DataW Unit × List MemPlace) :=
  match v with
  | .agg cs => match cs.toList with
    | [.int .u32 k, .string s] => some (.agg [.lit (.int .u32 k), .lit (.string s.data.toList)], [])
    | _ => none
  | _ => none
def enN (k : Nat) (s : ByteArray) : DataW Unit := .agg [.lit (.int .u32 (k : Int)), .lit (.string s.data.toList)]
/- a numbered body as a value -/
def elV (k : Nat) (s : ByteArray) : Value := .agg #[.int .u32 (k : Int), .string s]
theorem elN_mk (k : Nat) (s : ByteArray) : elN (elV k s) = some (enN k s, []) := rfl
theorem elN_inv {v : Value} {k : Nat} {s : ByteArray} {ps : List MemPlace} (h : elN v = some (enN k s, ps)) : v = elV k s := by
  unfold elN at h
  split at h
  · rename_i cs
    split at h
    · rename_i k' s' e
      simp only [enN, Option.some.injEq, Prod.mk.injEq, DataW.agg.injEq, List.cons.injEq, DataW.lit.injEq, Lit.int.injEq, Lit.string.injEq, and_true, true_and] at h
      obtain ⟨⟨rfl, h2⟩, _⟩ := h
      have : s' = s := by
        cases s'; cases s
        simp only [ByteArray.mk.injEq]
        exact Array.toList_inj.1 h2
      subst this
      unfold elV
      congr 1
      apply Array.toList_inj.1
      rw [e]
    · cases h
  · cases h

theorem keyed : Keyed Try.prog 28 := int_keyed Try.underlying28
theorem key_of {k : Nat} (hk : k < 4294967296) : keyOf Try.prog 28 (.int .u32 (k : Int)) = some (.int .u32 (k : Int)) :=
  keyOf_int_mk Try.underlying28 (by
    have h1 : IntKind.u32.min = 0 := rfl
    have h2 : IntKind.u32.max = 4294967295 := rfl
    simp only [Lit.wf, h1, h2, Bool.and_eq_true, decide_eq_true_eq]
    omega)

/- block b is a map that holds just what f tells -/
def Hm (w : World) (b n : Nat) (f : Nat → Option ByteArray) : Prop :=
  ∃ D : DataW Unit, w.ownsMap Try.prog 28 elN b n D ∧ ∀ k : Nat, k < 4294967296 → Maps.has D (.int .u32 (k : Int)) = (f k).isSome ∧ ∀ s, f k = some s → D.atKey (.int .u32 (k : Int)) (enN 0 ByteArray.empty) = enN k s
/- a map, nil too -/
def Mp (w : World) (m : Value) (n : Nat) (f : Nat → Option ByteArray) : Prop :=
  (m = .map none ∧ ∀ k, f k = none) ∨ ∃ b, m = .map (some b) ∧ Hm w b n f
def mblk : Value → Option Nat
  | .map b => b
  | _ => none
def got (k : Nat) : Option ByteArray → Value
  | none => elV 0 ByteArray.empty
  | some s => elV k s

theorem Hm.lt {w : World} {b n : Nat} {f : Nat → Option ByteArray} (h : Hm w b n f) : b < w.heap.size := by
  obtain ⟨D, h1, _⟩ := h
  exact h1.lt
theorem Mp.lt {w : World} {m : Value} {n : Nat} {f : Nat → Option ByteArray} (h : Mp w m n f) {b : Nat} (hb : mblk m = some b) : b < w.heap.size := by
  rcases h with ⟨rfl, _⟩ | ⟨b', rfl, h1⟩
  · cases hb
  · cases hb
    exact h1.lt
theorem Hm.same {w w' : World} {b n : Nat} {f : Nat → Option ByteArray} (h : Hm w b n f) (hs : w'.heap[b]? = w.heap[b]?) : Hm w' b n f := by
  obtain ⟨D, ⟨es, clock, hb, r⟩, h2⟩ := h
  exact ⟨D, ⟨es, clock, hs.trans hb, r⟩, h2⟩
theorem Mp.same {w w' : World} {m : Value} {n : Nat} {f : Nat → Option ByteArray} (h : Mp w m n f) (hs : ∀ b, mblk m = some b → w'.heap[b]? = w.heap[b]?) : Mp w' m n f := by
  rcases h with h1 | ⟨b, rfl, h1⟩
  · exact .inl h1
  · exact .inr ⟨b, rfl, h1.same (hs b rfl)⟩
theorem Mp.kp {F : Nat → Prop} {w w' : World} {m : Value} {n : Nat} {f : Nat → Option ByteArray} (h : Mp w m n f) (hk : Kp F w w') (hF : ∀ b, mblk m = some b → ¬ F b) : Mp w' m n f :=
  h.same fun b hb => hk.block b (h.lt hb) (hF b hb)
theorem Mp.none (w : World) (n : Nat) : Mp w (.map none) n (fun _ => none) := .inl ⟨rfl, fun _ => rfl⟩
theorem Mp.form {w : World} {m : Value} {n : Nat} {f : Nat → Option ByteArray} (h : Mp w m n f) : ∃ b, m = .map b := by
  rcases h with ⟨rfl, _⟩ | ⟨b, rfl, _⟩
  · exact ⟨_, rfl⟩
  · exact ⟨_, rfl⟩

theorem Mp.look {w : World} {m : Value} {n : Nat} {f : Nat → Option ByteArray} (h : Mp w m n f) {k : Nat} (hk : k < 4294967296) :
    (Instr.lookup 50 m (.int .u32 (k : Int)) true).run Try.prog w = .ok (.tuple #[got k (f k), .bool (f k).isSome]) w := by
  have hz : (zeroValue 83).run Try.prog w = .ok (elV 0 ByteArray.empty) w := Try.zeroValue83 w
  rcases h with ⟨rfl, hf⟩ | ⟨b, rfl, D, h1, h2⟩
  · rw [hf k]
    exact Maps.look_nil true keyed Try.underlying50 hz (key_of hk)
  · obtain ⟨v, ps, hr, hv⟩ := h1.look_ok keyed Try.underlying50 hz (elN_mk 0 ByteArray.empty) (key_of hk)
    obtain ⟨h3, h4⟩ := h2 k hk
    rw [hr, h3]
    cases hfk : f k with
    | none =>
      rw [hfk] at h3
      rw [Maps.atKey_of_not_has h3] at hv
      rw [elN_inv hv]
      rfl
    | some s =>
      rw [h4 s hfk] at hv
      rw [elN_inv hv]
      rfl

def upd {α : Type} (f : Nat → α) (k : Nat) (v : α) : Nat → α := fun j => if j = k then v else f j
theorem upd_same {α : Type} (f : Nat → α) (k : Nat) (v : α) : upd f k v k = v := by simp [upd]
theorem upd_other {α : Type} (f : Nat → α) {k j : Nat} (v : α) (h : j ≠ k) : upd f k v j = f j := by simp [upd, h]

theorem Hm.made (w : World) : Hm (w.alloc (.map #[] 0)) w.heap.size 0 (fun _ => none) :=
  ⟨.map [], World.ownsMap_made _ _ _ _, fun k _ => ⟨rfl, fun s hs => by cases hs⟩⟩

theorem lit_ne {j k : Nat} (h : j ≠ k) : (Lit.int .u32 (j : Int)) ≠ Lit.int .u32 (k : Int) := fun e => h (by simp at e; omega)

theorem Hm.store {w : World} {b n : Nat} {f : Nat → Option ByteArray} (h : Hm w b n f) {k : Nat} (hk : k < 4294967296) (s : ByteArray) (hn : n < 1000000) :
    ∃ w', (Instr.mapUpdate 50 (.map (some b)) (.int .u32 (k : Int)) (elV k s)).run Try.prog w = .ok () w' ∧ Hm w' b (n + 1) (upd f k (some s)) ∧ w.grownBy w' (some b) := by
  obtain ⟨D, h1, h2⟩ := h
  obtain ⟨w', hr, h3, h4⟩ := h1.update keyed Try.underlying50 (by unfold maxLen; omega) (key_of hk) (elN_mk k s)
  refine ⟨w', hr, ⟨_, h3, fun j hj => ?_⟩, h4⟩
  by_cases hjk : j = k
  · subst hjk
    rw [upd_same]
    exact ⟨Maps.has_put_same h1.isMap (keyed.key (key_of hj)) _, fun s' hs' => by cases hs'; exact Maps.atKey_put_same h1.isMap (keyed.key (key_of hj)) _ _⟩
  · rw [upd_other _ _ hjk, Maps.has_put_other (lit_ne hjk), Maps.atKey_put_other (lit_ne hjk)]
    exact h2 j hj

theorem Hm.drop {w : World} {b n : Nat} {f : Nat → Option ByteArray} (h : Hm w b n f) {k : Nat} (hk : k < 4294967296) (ty : TypeId) :
    ∃ w', (Builtin.delete_ #[50, 28] ty #[.map (some b), .int .u32 (k : Int)]).run Try.prog w = .ok (.tuple #[]) w' ∧ Hm w' b n (upd f k none) ∧ w.grownBy w' (some b) := by
  obtain ⟨D, h1, h2⟩ := h
  obtain ⟨w', hr, h3, h4⟩ := h1.drop keyed Try.underlying50 (key_of hk) ty
  refine ⟨w', hr, ⟨_, h3, fun j hj => ?_⟩, h4.grown⟩
  by_cases hjk : j = k
  · subst hjk
    rw [upd_same]
    exact ⟨Maps.has_del_same, fun s' hs' => by cases hs'⟩
  · rw [upd_other _ _ hjk, Maps.has_del_other (lit_ne hjk), Maps.atKey_del_other (lit_ne hjk)]
    exact h2 j hj

theorem wp_update {w : World} {o : Oper} {act : Act} {K : Act → World → Prop} {Q : Exit → Act → World → Prop} (m x v : Operand) (ho : o.op = .mapUpdate 50 m x v)
    {b n k : Nat} {s : ByteArray} {f : Nat → Option ByteArray} (hm : act.eval m = .map (some b)) (hx : act.eval x = .int .u32 (k : Int)) (hv : act.eval v = elV k s) (h : Hm w b n f) (hk : k < 4294967296) (hn : n < 1000000)
    (hK : ∀ w', Hm w' b (n + 1) (upd f k (some s)) → w.grownBy w' (some b) → K (act.put o.dst undef) w') : o.wp Try.prog act w K Q := by
  obtain ⟨w', hr, h1, h2⟩ := h.store hk s hn
  unfold Oper.wp
  simp [execOp, ho, hm, hx, hv, hr, Result.andThen]
  exact hK w' h1 h2
theorem wp_delete {w : World} {o : Oper} {act : Act} {K : Act → World → Prop} {Q : Exit → Act → World → Prop} (m x : Operand) (ho : o.op = .call { callee := .builtin .delete, args := #[m, x], argTypes := #[50, 28] })
    {b n k : Nat} {f : Nat → Option ByteArray} (hm : act.eval m = .map (some b)) (hx : act.eval x = .int .u32 (k : Int)) (h : Hm w b n f) (hk : k < 4294967296)
    (hK : ∀ w', Hm w' b n (upd f k none) → w.grownBy w' (some b) → K (act.put o.dst (.tuple #[])) w') : o.wp Try.prog act w K Q := by
  obtain ⟨w', hr, h1, h2⟩ := h.drop hk o.type
  unfold Oper.wp execOp
  simp only [ho, resolve, invoke, builtin, Sem.run_bind, Sem.run_pure, Result.andThen_ok, List.map_toArray, List.map_cons, List.map_nil, hm, hx, hr]
  exact hK w' h1 h2

end Go.Proofs.Ytcadlcpccemkbaa
