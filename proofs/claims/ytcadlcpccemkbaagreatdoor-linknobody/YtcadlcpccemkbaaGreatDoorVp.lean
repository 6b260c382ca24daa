/- append of byte strings behind a list of the call's own. -/
import Derived.Test.YtcadlcpccemkbaaGreatDoorMQdVa
import Derived.Deep.AppendLies
namespace Go.Proofs.YtcadlcpccemkbaaGreatDoor
open Go.RowKit
set_option maxRecDepth 100000

/- byte strings that are read -/
def Rdl (w : World) (u : Value) (C : List ByteArray) : Prop := ∃ a c, u = .slice a C.length c ∧ ∀ j, j < C.length → ∃ g o, a = some ⟨g, o, none⟩ ∧ w.cell? ⟨g, o + j, none⟩ = some (.string (C.getD j ByteArray.empty))

theorem Lst.rd {B : Nat} {w : World} {v : Value} {A : List ByteArray} (h : Lst B w v A) : Rdl w v A := by
  obtain ⟨a, c, rfl⟩ := h.form
  refine ⟨a, c, rfl, fun j hj => ?_⟩
  obtain ⟨g, c', e, hc, _⟩ := h.cell hj
  cases e
  exact ⟨g, 0, rfl, by rw [Nat.zero_add]; exact hc⟩
theorem Rdl.below {C : Nat} {w w' : World} {v : Value} {A : List ByteArray} (h : Rdl w v A) (hb : Below C w w') (hC : w.heap.size ≤ C) : Rdl w' v A := by
  obtain ⟨a, c, rfl, hc⟩ := h
  refine ⟨a, c, rfl, fun j hj => ?_⟩
  obtain ⟨g, o, e, h1⟩ := hc j hj
  exact ⟨g, o, e, (hb.cell (p := ⟨g, o + j, none⟩) (by have := World.block_lt_of_cell? w _ h1; simp at this; simp; omega)).trans h1⟩
theorem Rdl.one (w : World) (s : ByteArray) : Rdl (w.alloc (.cells #[.string s] 9)) (.slice (some ⟨w.heap.size, 0, none⟩) 1 1) [s] :=
  ⟨_, 1, rfl, fun j hj => ⟨w.heap.size, 0, rfl, by
    obtain rfl : j = 0 := by simp at hj; omega
    rw [cell_of_row _ w.heap.size _ _ _ _ (heap_alloc_new w _)]
    rfl⟩⟩

theorem info_str : ∃ i : TypeInfo, Tryz.prog.info? 9 = some i ∧ i.zero = some (.string ⟨#[]⟩) ∧ i.size = 1 ∧ i.bytes = 16 := by
  have h : (Tryz.prog.info? 9).map (fun i => (i.zero, i.size, i.bytes)) = some (some (Value.string ⟨#[]⟩), 1, 16) := by kernel_rfl
  cases hi : Tryz.prog.info? 9 with
  | none => rw [hi] at h; cases h
  | some i =>
    rw [hi] at h
    simp at h
    exact ⟨i, rfl, h.1, h.2.1, h.2.2⟩

theorem run_append_empty {P : Program} {w : World} (base : Nat) (t ty e : TypeId) (i : TypeInfo) (size : Nat) (ht : P.underlying t = some (.slice e)) (hi : P.info? e = some i)
    (v : Value) (n : Nat) (xs : List Value) (hown : w.ownsRow base e size v n xs) (a : Option Addr) (c : Nat) :
    (Builtin.append_ #[t, t] ty #[v, .slice a 0 c]).run P w = .ok v w := by
  have hl : ∀ (x : Addr), (loadCells x 0).run P w = .ok #[] w := fun x => by simpa using run_loadCells_list (P := P) w x [] (by simp)
  rcases hown.2 with ⟨rfl, rfl⟩ | ⟨g, cap, cur, rfl, _, _, hnc, _⟩
  · cases a <;> simp [Builtin.append_, run_underlying ht, sizeOf, typeInfo, hi, Builtin.lenOf, Builtin.firstCells, hl]
  · cases a <;> simp [Builtin.append_, run_underlying ht, sizeOf, typeInfo, hi, Builtin.lenOf, Builtin.firstCells, hnc, storeCells, hl]

theorem run_append_lst {w : World} {B : Nat} {v u : Value} {A C : List ByteArray} (ty : TypeId) (h : Lst B w v A) (hu : Rdl w u C) (hle : A.length + C.length ≤ 1000000) (hB : B ≤ w.heap.size) :
    ∃ v' w', (Builtin.append_ #[32, 32] ty #[v, u]).run Tryz.prog w = .ok v' w' ∧ Lst B w' v' (A ++ C) ∧ w.grownBy w' v.ownBlock ∧ (∀ g, v'.ownBlock = some g → v.ownBlock = some g ∨ w.heap.size ≤ g) := by
  obtain ⟨i0, hi, hz0, hz1, hz2⟩ := info_str
  obtain ⟨a, c, rfl, hc⟩ := hu
  by_cases h0 : C.length = 0
  · have hC : C = [] := List.eq_nil_of_length_eq_zero h0
    subst hC
    refine ⟨v, w, run_append_empty B _ ty _ i0 1 Tryz.underlying32 hi v A.length _ h a c, by simpa using h, ⟨rfl, rfl, rfl, Nat.le_refl _, fun _ _ _ => rfl⟩, fun g hg => .inl hg⟩
  · obtain ⟨g, o, rfl, _⟩ := hc 0 (by omega)
    obtain ⟨v', w', hr, h2, h3, _, h5⟩ := run_append_own_at (P := Tryz.prog) w B 32 ty 9 i0 (.string ⟨#[]⟩) 1 16 Tryz.underlying32 hi hz0 hz1 hz2 rfl (by decide) v A.length (strs A) h ⟨g, o, none⟩ C.length c (strs C) (by simp [strs]) (fun j x hx => by
      have hj : j < C.length := by
        have := (List.getElem?_eq_some_iff.1 hx).1
        simpa [strs] using this
      obtain ⟨g', o', e, h1⟩ := hc j hj
      cases e
      rw [Addr.add_lit, h1]
      rw [← hx]
      simp [strs, List.getD, List.getElem?_eq_getElem hj]) (fun x hx => by
      obtain ⟨b, _, rfl⟩ := List.mem_map.1 hx
      rfl) (by unfold maxLen; omega) (by omega) hB
    refine ⟨v', w', hr, by unfold Lst; simpa [strs] using h2, h3, fun g hg => ?_⟩
    rcases h5 with h5 | h5
    · exact .inl (h5 ▸ hg)
    · rw [h5] at hg
      cases hg
      exact .inr (Nat.le_refl _)

theorem wp_append_lst {w : World} {o : Oper} {act : Act} {K : Act → World → Prop} {Q : Exit → Act → World → Prop} (s x : Operand) (ho : o.op = .call { callee := .builtin .append, args := #[s, x], argTypes := #[32, 32] })
    {B : Nat} {v u : Value} {A C : List ByteArray} (hs : act.eval s = v) (hx : act.eval x = u) (h : Lst B w v A) (hu : Rdl w u C) (hle : A.length + C.length ≤ 1000000) (hB : B ≤ w.heap.size)
    (hk : ∀ v' w', Lst B w' v' (A ++ C) → w.grownBy w' v.ownBlock → (∀ g, v'.ownBlock = some g → v.ownBlock = some g ∨ w.heap.size ≤ g) → K (act.put o.dst v') w') : o.wp Tryz.prog act w K Q := by
  obtain ⟨v', w', hr, h2, h3, h4⟩ := run_append_lst o.type h hu hle hB
  unfold Oper.wp execOp
  simp only [ho, resolve, invoke, builtin, Sem.run_bind, Sem.run_pure, Result.andThen_ok, List.map_toArray, List.map_cons, List.map_nil, hs, hx, hr]
  exact hk v' w' h2 h3 h4
theorem wpList_append_lst {w : World} {ops : Array Oper} {rest : List Oper} {o : Oper} {act : Act} {Q : Exit → Act → World → Prop} (hgd : o.guard = none) (s x : Operand) (ho : o.op = .call { callee := .builtin .append, args := #[s, x], argTypes := #[32, 32] })
    {B : Nat} {v u : Value} {A C : List ByteArray} (hs : act.eval s = v) (hx : act.eval x = u) (h : Lst B w v A) (hu : Rdl w u C) (hle : A.length + C.length ≤ 1000000) (hB : B ≤ w.heap.size)
    (hk : ∀ v' w', Lst B w' v' (A ++ C) → w.grownBy w' v.ownBlock → (∀ g, v'.ownBlock = some g → v.ownBlock = some g ∨ w.heap.size ≤ g) → wpList Tryz.prog ops Q rest (act.put o.dst v') w') : wpList Tryz.prog ops Q (o :: rest) act w :=
  wpList_plain hgd fun _ hK => wp_append_lst s x ho hs hx h hu hle hB fun v' w' h2 h3 h4 => hK _ _ (hk v' w' h2 h3 h4)

end Go.Proofs.YtcadlcpccemkbaaGreatDoor
