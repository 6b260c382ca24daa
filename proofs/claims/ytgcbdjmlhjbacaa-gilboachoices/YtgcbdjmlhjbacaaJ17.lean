/- Lists told by functions; words and truths of the call's own that grow. -/
import Derived.Test.YtgcbdjmlhjbacaaJ01
import Derived.Test.YtgcbdjmlhjbacaaJ07
import Derived.Test.YtgcbdjmlhjbacaaJ08
import Derived.Test.YtgcbdjmlhjbacaaJ16
import Derived.Deep.AppendLies
namespace Go.Proofs.Ytgcbdjmlhjbacaa.Gi
open Go.RowKit Ri
set_option maxRecDepth 100000

structure Shy (p : Prop) : Prop where
  out : p
theorem wrap_i64_nat {x : Nat} (h : x ≤ 4194304) : IntKind.i64.wrap (x : Int) = (x : Int) := by
  rw [IntKind.wrap_i64]
  omega
theorem below1 {w : World} (o : Obj) : Below w.heap.size w (w.alloc o) := (Below.refl _ _).alloc (Nat.le_refl _) _
theorem below_drewN {b : Nat} {w w' : World} (h : Below b w w') (q : Nat) : Below b w (w'.drewN q) := ⟨h.os, h.tape, h.output, h.size, h.block⟩

/- a list told by a function -/
def tl {α : Type} (F : Nat → α) (n : Nat) : List α := (List.range n).map F
theorem tl_length {α : Type} (F : Nat → α) (n : Nat) : (tl F n).length = n := by simp [tl]
theorem tl_zero {α : Type} (F : Nat → α) : tl F 0 = [] := rfl
theorem tl_succ {α : Type} (F : Nat → α) (n : Nat) : tl F (n + 1) = tl F n ++ [F n] := by rw [tl, tl, List.range_succ, List.map_append]; rfl
theorem tl_get {α : Type} {F : Nat → α} {n j : Nat} (h : j < n) : (tl F n)[j]? = some (F j) := by rw [tl, List.getElem?_map, List.getElem?_range h]; rfl
theorem tl_at {F : Nat → Nat} {n j : Nat} (h : j < n) : at0 (tl F n) j = F j := at0_eq (tl_get h)
theorem tl_congr {α : Type} {F G : Nat → α} {n : Nat} (h : ∀ j, j < n → F j = G j) : tl F n = tl G n := List.map_congr_left fun j hj => h j (List.mem_range.1 hj)
theorem tl_add {α : Type} (F : Nat → α) (n : Nat) : ∀ m, tl F (n + m) = tl F n ++ tl (fun j => F (n + j)) m
  | 0 => by rw [tl_zero, List.append_nil]; rfl
  | m + 1 => by rw [← Nat.add_assoc, tl_succ, tl_succ, tl_add F n m, List.append_assoc]
theorem tl_self (l : List Nat) : tl (at0 l) l.length = l := by
  apply List.ext_getElem?
  intro j
  by_cases hj : j < l.length
  · rw [tl_get hj, List.getElem?_eq_getElem hj, at0_eq (List.getElem?_eq_getElem hj)]
  · rw [List.getElem?_eq_none (by rw [tl_length]; omega), List.getElem?_eq_none (by omega)]
theorem told_tl {α : Type} (f : Nat → α) (d : α) (m : Nat) : told f d m m = tl f m := by
  apply List.ext_getElem?
  intro j
  by_cases h : j < m
  · rw [tl_get h, told_get h, if_pos h]
  · rw [List.getElem?_eq_none (by rw [told_length]; omega), List.getElem?_eq_none (by rw [tl_length]; omega)]
theorem small_tl {F : Nat → Nat} {B n : Nat} (h2 : B ≤ 64) (h : ∀ k, k < n → F k < 2 ^ B) : Small (tl F n) := fun j x hj => by
  have hl := (List.getElem?_eq_some_iff.1 hj).1
  rw [tl_length] at hl
  rw [tl_get hl] at hj
  obtain rfl := Option.some.inj hj
  exact Nat.lt_of_lt_of_le (h j hl) (pow_le64 h2)
theorem fits_tl {F : Nat → Nat} {B n : Nat} (h1 : 1 ≤ B) (h2 : B ≤ 64) (h : ∀ k, k < n → F k < 2 ^ B) : fitsAll (B : Int) (tl F n) = true := decide_eq_true fun x hx => by
  obtain ⟨k, hk, rfl⟩ := List.mem_map.1 hx
  rw [fit_nat h1 h2]
  exact Nat.mod_eq_of_lt (h k (List.mem_range.1 hk))

theorem nl_none (w : World) : Nl w 0 none [] := ⟨rfl, fun j x hj => by simp at hj⟩
theorem bl_none (w : World) : T.Bl w 0 none [] := ⟨rfl, fun j x hj => by simp at hj⟩
theorem t_nl {w : World} {m : Nat} {a : Option Addr} {l : List Nat} (h : Nl w m a l) : T.Nl w m a l := ⟨h.len, h.at'⟩

theorem own_kept {base e size n : Nat} {w w' : World} {v : Value} {xs : List Value} (ho : w.ownsRow base e size v n xs) (hs : ∀ g c, v.ownBlock = some g → w.heap[g]? = some (.cells c e (0, 0)) → w'.heap[g]? = some (.cells c e (0, 0))) : w'.ownsRow base e size v n xs := by
  refine ⟨ho.1, ?_⟩
  rcases ho.2 with h2 | ⟨g, cap, cur, rfl, hg, hh, r⟩
  · exact .inl h2
  · exact .inr ⟨g, cap, cur, rfl, hg, hs g _ rfl hh, r⟩

theorem run_append_empty {P : Program} {w : World} (base : Nat) (t ty e : TypeId) (i : TypeInfo) (size : Nat) (ht : P.underlying t = some (.slice e)) (hi : P.info? e = some i)
    (v : Value) (n : Nat) (xs : List Value) (hown : w.ownsRow base e size v n xs) (a : Option Addr) (c : Nat) :
    (Builtin.append_ #[t, t] ty #[v, .slice a 0 c]).run P w = .ok v w := by
  have hl : ∀ (x : Addr), (loadCells x 0).run P w = .ok #[] w := fun x => by simpa using run_loadCells_list (P := P) w x [] (by simp)
  rcases hown.2 with ⟨rfl, rfl⟩ | ⟨g, cap, cur, rfl, _, _, hnc, _⟩
  · cases a <;> simp [Builtin.append_, run_underlying ht, sizeOf, typeInfo, hi, Builtin.lenOf, Builtin.firstCells, hl]
  · cases a <;> simp [Builtin.append_, run_underlying ht, sizeOf, typeInfo, hi, Builtin.lenOf, Builtin.firstCells, hnc, storeCells, hl]

/- words of the call's own, from a block on -/
def Wo (B : Nat) (w : World) (v : Value) (A : List Nat) : Prop := w.ownsRow B 44 1 v A.length (u64s A)
theorem Wo.nil (B : Nat) (w : World) : Wo B w (.slice none 0 0) [] := World.ownsRow_nil _ _ _ _
theorem Wo.form {B : Nat} {w : World} {v : Value} {A : List Nat} (h : Wo B w v A) : ∃ a c, v = .slice a A.length c := St.own_form h
theorem Wo.below {B : Nat} {w w' : World} {v : Value} {A : List Nat} (h : Wo B w v A) (hb : Below w.heap.size w w') : Wo B w' v A := St.own_below h hb
theorem Wo.len {B n c : Nat} {w : World} {a : Option Addr} {A : List Nat} (h : Wo B w (.slice a n c) A) : A.length = n := by
  obtain ⟨a', c', e⟩ := h.form
  cases e
  rfl
theorem Wo.lt {B : Nat} {w : World} {v : Value} {A : List Nat} (h : Wo B w v A) {g : Nat} (hg : v.ownBlock = some g) : B ≤ g ∧ g < w.heap.size := World.ownsRow.lt h g hg
theorem u64s_length (l : List Nat) : (u64s l).length = l.length := by simp [u64s]
theorem Wo.rd {w : World} {B n c : Nat} {a : Option Addr} {l : List Nat} (h : Wo B w (.slice a n c) l) : Nl w n a l := by
  have hl := h.len
  unfold Wo at h
  rw [hl] at h
  refine ⟨hl, fun j x hj => ?_⟩
  have hjn := (List.getElem?_eq_some_iff.1 hj).1
  obtain ⟨g, c', e, _⟩ := St.own_some h (by omega)
  cases e
  refine ⟨g, 0, rfl, ?_⟩
  rw [Nat.zero_add, h.cellAt j (by omega), u64s, List.getElem?_map, hj]
  rfl
theorem Wo.block {B n c : Nat} {w : World} {a : Option Addr} {A : List Nat} (h : Wo B w (.slice a n c) A) {g o : Nat} (e : a = some ⟨g, o, none⟩) : B ≤ g ∧ g < w.heap.size ∧ o = 0 := by
  rcases h.2 with ⟨h1, _⟩ | ⟨g', cap, cur, h1, hg, hh, _⟩
  · cases h1
    cases e
  · cases h1
    cases e
    exact ⟨hg, (Array.getElem?_eq_some_iff.1 hh).1, rfl⟩
theorem info_Wo : (Try.prog.info? 44).map (fun i => (i.zero, i.size, i.bytes)) = some (some (.int .u64 0), 1, 8) := by kernel_rfl
theorem run_append_Wo {w : World} {B m c : Nat} {a : Option Addr} {v : Value} {A C : List Nat} (ty : TypeId) (h : Wo B w v A) (hu : Nl w m a C) (hle : A.length + m ≤ 4194304) (hB : B ≤ w.heap.size) :
    ∃ a' c' w', (Builtin.append_ #[22, 22] ty #[v, .slice a m c]).run Try.prog w = .ok (.slice a' (A.length + m) c') w' ∧ Wo B w' (.slice a' (A.length + m) c') (A ++ C) ∧ w.grownBy w' v.ownBlock ∧ (∀ g o, a' = some ⟨g, o, none⟩ → v.ownBlock = some g ∨ w.heap.size ≤ g) := by
  obtain ⟨i0, hi, hz0, hz1, hz2⟩ := info_parts info_Wo
  obtain rfl : C.length = m := hu.len
  by_cases h0 : C.length = 0
  · have hC : C = [] := List.eq_nil_of_length_eq_zero h0
    subst hC
    obtain ⟨va, vc, rfl⟩ := h.form
    refine ⟨va, vc, w, run_append_empty B _ ty _ i0 1 Try.underlying22 hi _ A.length _ h a c, by simpa using h, ⟨rfl, rfl, rfl, Nat.le_refl _, fun _ _ _ => rfl⟩, fun g o hg => ?_⟩
    subst hg
    exact .inl rfl
  · obtain ⟨g, o, rfl, _⟩ := hu.at' 0 _ (List.getElem?_eq_getElem (by omega))
    obtain ⟨v', w', hr, h2, h3, _, h5⟩ := run_append_own_at (P := Try.prog) w B 22 ty 44 i0 (.int .u64 0) 1 8 Try.underlying22 hi hz0 hz1 hz2 rfl (by decide) v A.length (u64s A) h ⟨g, o, none⟩ C.length c (u64s C) (by simp [u64s]) (fun j x hx => by
      rw [u64s, List.getElem?_map] at hx
      cases hcj : C[j]? with
      | none => rw [hcj] at hx; cases hx
      | some y =>
        rw [hcj] at hx
        obtain ⟨g', o', e, h1⟩ := hu.at' j y hcj
        cases e
        rw [Addr.add_lit, h1]
        exact hx) (fun x hx => by
      obtain ⟨b, _, rfl⟩ := List.mem_map.1 hx
      rfl) (by unfold maxLen; omega) (by omega) hB
    have hW : Wo B w' v' (A ++ C) := by unfold Wo; simpa [u64s] using h2
    obtain ⟨va, vc, rfl⟩ := hW.form
    rw [List.length_append] at hW hr h5
    refine ⟨va, vc, w', hr, hW, h3, fun g hg e => ?_⟩
    subst e
    rcases h5 with h5 | h5
    · exact .inl h5.symm
    · cases h5
      exact .inr (Nat.le_refl _)
theorem wp_append_Wo {w : World} {o : Oper} {act : Act} {K : Act → World → Prop} {Q : Exit → Act → World → Prop} (s x : Operand) (ho : o.op = .call { callee := .builtin .append, args := #[s, x], argTypes := #[22, 22] })
    {B m c : Nat} {a : Option Addr} {v : Value} {A C : List Nat} (hs : act.eval s = v) (hx : act.eval x = .slice a m c) (h : Wo B w v A) (hu : Nl w m a C) (hle : A.length + m ≤ 4194304) (hB : B ≤ w.heap.size)
    (hk : ∀ a' c' w', Wo B w' (.slice a' (A.length + m) c') (A ++ C) → w.grownBy w' v.ownBlock → (∀ g o, a' = some ⟨g, o, none⟩ → v.ownBlock = some g ∨ w.heap.size ≤ g) → K (act.put o.dst (.slice a' (A.length + m) c')) w') : o.wp Try.prog act w K Q := by
  obtain ⟨a', c', w', hr, h2, h3, h4⟩ := run_append_Wo (c := c) o.type h hu hle hB
  unfold Oper.wp execOp
  simp only [ho, resolve, invoke, builtin, Sem.run_bind, Sem.run_pure, Result.andThen_ok, List.map_toArray, List.map_cons, List.map_nil, hs, hx, hr]
  exact hk a' c' w' h2 h3 h4
theorem wpList_append_Wo {w : World} {ops : Array Oper} {rest : List Oper} {o : Oper} {act : Act} {Q : Exit → Act → World → Prop} (hgd : o.guard = none) (s x : Operand) (ho : o.op = .call { callee := .builtin .append, args := #[s, x], argTypes := #[22, 22] })
    {B m c : Nat} {a : Option Addr} {v : Value} {A C : List Nat} (hs : act.eval s = v) (hx : act.eval x = .slice a m c) (h : Wo B w v A) (hu : Nl w m a C) (hle : A.length + m ≤ 4194304) (hB : B ≤ w.heap.size)
    (hk : ∀ a' c' w', Wo B w' (.slice a' (A.length + m) c') (A ++ C) → w.grownBy w' v.ownBlock → (∀ g o, a' = some ⟨g, o, none⟩ → v.ownBlock = some g ∨ w.heap.size ≤ g) → wpList Try.prog ops Q rest (act.put o.dst (.slice a' (A.length + m) c')) w') : wpList Try.prog ops Q (o :: rest) act w :=
  wpList_plain hgd fun _ hK => wp_append_Wo s x ho hs hx h hu hle hB fun a' c' w' h2 h3 h4 => hK _ _ (hk a' c' w' h2 h3 h4)
theorem one_Wo {w : World} {g : Nat} {x : Nat} (h : w.heap[g]? = some (.cells #[.int .u64 (x : Int)] 44 (0, 0))) : Nl w 1 (some ⟨g, 0, none⟩) [x] := ⟨rfl, fun j y hj => by
  match j, hj with
  | 0, hj =>
    obtain rfl := Option.some.inj hj
    refine ⟨g, 0, rfl, ?_⟩
    rw [cell_of_row w g _ _ _ _ h]
    rfl⟩

/- truths of the call's own, from a block on -/
def Bo (B : Nat) (w : World) (v : Value) (A : List Bool) : Prop := w.ownsRow B 4 1 v A.length (bools A)
theorem Bo.nil (B : Nat) (w : World) : Bo B w (.slice none 0 0) [] := World.ownsRow_nil _ _ _ _
theorem Bo.form {B : Nat} {w : World} {v : Value} {A : List Bool} (h : Bo B w v A) : ∃ a c, v = .slice a A.length c := St.own_form h
theorem Bo.below {B : Nat} {w w' : World} {v : Value} {A : List Bool} (h : Bo B w v A) (hb : Below w.heap.size w w') : Bo B w' v A := St.own_below h hb
theorem Bo.len {B n c : Nat} {w : World} {a : Option Addr} {A : List Bool} (h : Bo B w (.slice a n c) A) : A.length = n := by
  obtain ⟨a', c', e⟩ := h.form
  cases e
  rfl
theorem Bo.lt {B : Nat} {w : World} {v : Value} {A : List Bool} (h : Bo B w v A) {g : Nat} (hg : v.ownBlock = some g) : B ≤ g ∧ g < w.heap.size := World.ownsRow.lt h g hg
theorem bools_length (l : List Bool) : (bools l).length = l.length := by simp [bools]
theorem Bo.rd {w : World} {B n c : Nat} {a : Option Addr} {l : List Bool} (h : Bo B w (.slice a n c) l) : T.Bl w n a l := by
  have hl := h.len
  unfold Bo at h
  rw [hl] at h
  refine ⟨hl, fun j x hj => ?_⟩
  have hjn := (List.getElem?_eq_some_iff.1 hj).1
  obtain ⟨g, c', e, _⟩ := St.own_some h (by omega)
  cases e
  refine ⟨g, 0, rfl, ?_⟩
  rw [Nat.zero_add, h.cellAt j (by omega), bools, List.getElem?_map, hj]
  rfl
theorem Bo.block {B n c : Nat} {w : World} {a : Option Addr} {A : List Bool} (h : Bo B w (.slice a n c) A) {g o : Nat} (e : a = some ⟨g, o, none⟩) : B ≤ g ∧ g < w.heap.size ∧ o = 0 := by
  rcases h.2 with ⟨h1, _⟩ | ⟨g', cap, cur, h1, hg, hh, _⟩
  · cases h1
    cases e
  · cases h1
    cases e
    exact ⟨hg, (Array.getElem?_eq_some_iff.1 hh).1, rfl⟩
theorem info_Bo : (Try.prog.info? 4).map (fun i => (i.zero, i.size, i.bytes)) = some (some (.bool false), 1, 1) := by kernel_rfl
theorem run_append_Bo {w : World} {B m c : Nat} {a : Option Addr} {v : Value} {A C : List Bool} (ty : TypeId) (h : Bo B w v A) (hu : T.Bl w m a C) (hle : A.length + m ≤ 4194304) (hB : B ≤ w.heap.size) :
    ∃ a' c' w', (Builtin.append_ #[29, 29] ty #[v, .slice a m c]).run Try.prog w = .ok (.slice a' (A.length + m) c') w' ∧ Bo B w' (.slice a' (A.length + m) c') (A ++ C) ∧ w.grownBy w' v.ownBlock ∧ (∀ g o, a' = some ⟨g, o, none⟩ → v.ownBlock = some g ∨ w.heap.size ≤ g) := by
  obtain ⟨i0, hi, hz0, hz1, hz2⟩ := info_parts info_Bo
  obtain rfl : C.length = m := hu.len
  by_cases h0 : C.length = 0
  · have hC : C = [] := List.eq_nil_of_length_eq_zero h0
    subst hC
    obtain ⟨va, vc, rfl⟩ := h.form
    refine ⟨va, vc, w, run_append_empty B _ ty _ i0 1 Try.underlying29 hi _ A.length _ h a c, by simpa using h, ⟨rfl, rfl, rfl, Nat.le_refl _, fun _ _ _ => rfl⟩, fun g o hg => ?_⟩
    subst hg
    exact .inl rfl
  · obtain ⟨g, o, rfl, _⟩ := hu.at' 0 _ (List.getElem?_eq_getElem (by omega))
    obtain ⟨v', w', hr, h2, h3, _, h5⟩ := run_append_own_at (P := Try.prog) w B 29 ty 4 i0 (.bool false) 1 1 Try.underlying29 hi hz0 hz1 hz2 rfl (by decide) v A.length (bools A) h ⟨g, o, none⟩ C.length c (bools C) (by simp [bools]) (fun j x hx => by
      rw [bools, List.getElem?_map] at hx
      cases hcj : C[j]? with
      | none => rw [hcj] at hx; cases hx
      | some y =>
        rw [hcj] at hx
        obtain ⟨g', o', e, h1⟩ := hu.at' j y hcj
        cases e
        rw [Addr.add_lit, h1]
        exact hx) (fun x hx => by
      obtain ⟨b, _, rfl⟩ := List.mem_map.1 hx
      rfl) (by unfold maxLen; omega) (by omega) hB
    have hW : Bo B w' v' (A ++ C) := by unfold Bo; simpa [bools] using h2
    obtain ⟨va, vc, rfl⟩ := hW.form
    rw [List.length_append] at hW hr h5
    refine ⟨va, vc, w', hr, hW, h3, fun g hg e => ?_⟩
    subst e
    rcases h5 with h5 | h5
    · exact .inl h5.symm
    · cases h5
      exact .inr (Nat.le_refl _)
theorem wp_append_Bo {w : World} {o : Oper} {act : Act} {K : Act → World → Prop} {Q : Exit → Act → World → Prop} (s x : Operand) (ho : o.op = .call { callee := .builtin .append, args := #[s, x], argTypes := #[29, 29] })
    {B m c : Nat} {a : Option Addr} {v : Value} {A C : List Bool} (hs : act.eval s = v) (hx : act.eval x = .slice a m c) (h : Bo B w v A) (hu : T.Bl w m a C) (hle : A.length + m ≤ 4194304) (hB : B ≤ w.heap.size)
    (hk : ∀ a' c' w', Bo B w' (.slice a' (A.length + m) c') (A ++ C) → w.grownBy w' v.ownBlock → (∀ g o, a' = some ⟨g, o, none⟩ → v.ownBlock = some g ∨ w.heap.size ≤ g) → K (act.put o.dst (.slice a' (A.length + m) c')) w') : o.wp Try.prog act w K Q := by
  obtain ⟨a', c', w', hr, h2, h3, h4⟩ := run_append_Bo (c := c) o.type h hu hle hB
  unfold Oper.wp execOp
  simp only [ho, resolve, invoke, builtin, Sem.run_bind, Sem.run_pure, Result.andThen_ok, List.map_toArray, List.map_cons, List.map_nil, hs, hx, hr]
  exact hk a' c' w' h2 h3 h4
theorem wpList_append_Bo {w : World} {ops : Array Oper} {rest : List Oper} {o : Oper} {act : Act} {Q : Exit → Act → World → Prop} (hgd : o.guard = none) (s x : Operand) (ho : o.op = .call { callee := .builtin .append, args := #[s, x], argTypes := #[29, 29] })
    {B m c : Nat} {a : Option Addr} {v : Value} {A C : List Bool} (hs : act.eval s = v) (hx : act.eval x = .slice a m c) (h : Bo B w v A) (hu : T.Bl w m a C) (hle : A.length + m ≤ 4194304) (hB : B ≤ w.heap.size)
    (hk : ∀ a' c' w', Bo B w' (.slice a' (A.length + m) c') (A ++ C) → w.grownBy w' v.ownBlock → (∀ g o, a' = some ⟨g, o, none⟩ → v.ownBlock = some g ∨ w.heap.size ≤ g) → wpList Try.prog ops Q rest (act.put o.dst (.slice a' (A.length + m) c')) w') : wpList Try.prog ops Q (o :: rest) act w :=
  wpList_plain hgd fun _ hK => wp_append_Bo s x ho hs hx h hu hle hB fun a' c' w' h2 h3 h4 => hK _ _ (hk a' c' w' h2 h3 h4)
theorem one_Bo {w : World} {g : Nat} {x : Bool} (h : w.heap[g]? = some (.cells #[.bool x] 4 (0, 0))) : T.Bl w 1 (some ⟨g, 0, none⟩) [x] := ⟨rfl, fun j y hj => by
  match j, hj with
  | 0, hj =>
    obtain rfl := Option.some.inj hj
    refine ⟨g, 0, rfl, ?_⟩
    rw [cell_of_row w g _ _ _ _ h]
    rfl⟩
end Go.Proofs.Ytgcbdjmlhjbacaa.Gi
