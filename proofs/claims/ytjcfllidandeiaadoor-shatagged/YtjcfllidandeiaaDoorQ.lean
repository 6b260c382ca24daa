/- A Sums in memory; what is stored into the middle of a row; bytes copied out of a text; held, Len. -/
import Derived.Test.YtjcfllidandeiaaDoorP
namespace Go.Proofs.YtjcfllidandeiaaDoor
open Go.RowKit
set_option maxRecDepth 100000
attribute [local go_sem] not_any

def scells (g r : List Nat) (n : Nat) : List Value := u32s g ++ (u8s r ++ [.int .u64 (n : Int)])
structure Sums (w : World) (b : Nat) (g r : List Nat) (n : Nat) : Prop where
  row : w.heap[b]? = some (.cells (scells g r n).toArray 35 (0, 0))
  lg : g.length = 8
  lr : r.length = 64

theorem scells_length {g r : List Nat} {n : Nat} (hg : g.length = 8) (hr : r.length = 64) : (scells g r n).length = 73 := by
  simp [scells, u32s, u8s, hg, hr]
theorem scells_one (g r : List Nat) (n : Nat) : ∀ v ∈ scells g r n, v.oneCell' = true := by
  intro v hv
  rcases List.mem_append.1 hv with h | h
  · exact u32s_one _ v h
  · rcases List.mem_append.1 h with h | h
    · exact u8s_one _ v h
    · simp at h; subst h; rfl

theorem Sums.taken {w : World} {b : Nat} {g r : List Nat} {n : Nat} (h : Sums w b g r n) : w.cell? ⟨b, 72, none⟩ = some (.int .u64 (n : Int)) := by
  rw [cell_of_row w b 72 _ 35 (0, 0) h.row]
  have e1 : (u32s g).length = 8 := by simp [u32s, h.lg]
  have e2 : (u8s r).length = 64 := by simp [u8s, h.lr]
  simp only [List.getElem?_toArray]
  rw [scells, List.getElem?_append_right (by omega), e1, List.getElem?_append_right (by omega), e2]
  rfl
theorem Sums.grown {w : World} {b : Nat} {g r : List Nat} {n : Nat} (h : Sums w b g r n) {j : Nat} (hj : j < 8) : w.cell? ⟨b, j, none⟩ = some (.int .u32 (at0 g j : Nat)) := by
  rw [cell_of_row w b j _ 35 (0, 0) h.row]
  have e1 : (u32s g).length = 8 := by simp [u32s, h.lg]
  simp only [List.getElem?_toArray]
  rw [scells, List.getElem?_append_left (by omega), u32s, List.getElem?_map, get_at0 (by rw [h.lg]; exact hj)]
  rfl
theorem Sums.rest {w : World} {b : Nat} {g r : List Nat} {n : Nat} (h : Sums w b g r n) {j : Nat} (hj : j < 64) : w.cell? ⟨b, 8 + j, none⟩ = some (.int .u8 (at0 r j : Nat)) := by
  rw [cell_of_row w b (8 + j) _ 35 (0, 0) h.row]
  have e1 : (u32s g).length = 8 := by simp [u32s, h.lg]
  have e2 : (u8s r).length = 64 := by simp [u8s, h.lr]
  simp only [List.getElem?_toArray]
  rw [scells, List.getElem?_append_right (by omega), e1, List.getElem?_append_left (by omega), u8s, List.getElem?_map, Nat.add_sub_cancel_left, get_at0 (by rw [h.lr]; exact hj)]
  rfl
theorem Sums.free {w : World} {b : Nat} {g r : List Nat} {n : Nat} (h : Sums w b g r n) (j : Nat) : w.frozen? ⟨b, j, none⟩ = false := frozen_of_row w b j _ _ h.row
theorem Sums.lt {w : World} {b : Nat} {g r : List Nat} {n : Nat} (h : Sums w b g r n) : b < w.heap.size := lt_heap h.row
theorem Sums.to {w w' : World} {b : Nat} {g r : List Nat} {n : Nat} (h : Sums w b g r n) (e : w'.heap[b]? = w.heap[b]?) : Sums w' b g r n := ⟨e.trans h.row, h.lg, h.lr⟩

theorem Sums.setTaken {w : World} {b : Nat} {g r : List Nat} {n : Nat} (h : Sums w b g r n) (m : Nat) : Sums (w.setCell ⟨b, 72, none⟩ (.int .u64 (m : Int))) b g r m := by
  refine ⟨?_, h.lg, h.lr⟩
  rw [heap_setCell_same w b 72 _ 35 _ h.row]
  have e1 : (u32s g).length = 8 := by simp [u32s, h.lg]
  have e2 : (u8s r).length = 64 := by simp [u8s, h.lr]
  congr 2
  rw [List.setIfInBounds_toArray]
  congr 1
  rw [scells, List.set_append_right _ _ (by omega), e1, List.set_append_right _ _ (by omega), e2]
  rfl

theorem splice_mid {g r u : List Nat} {n h : Nat} (hg : g.length = 8) (hf : h + u.length ≤ r.length) : splice (scells g r n) (8 + h) (u8s u) = scells g (splice r h u) n := by
  have e1 : (u32s g).length = 8 := by simp [u32s, hg]
  unfold splice scells
  rw [List.take_append, e1, List.take_of_length_le (by omega), Nat.add_sub_cancel_left, List.take_append_of_le_length (by rw [u8s_length]; omega), u8s_length, List.drop_append, e1, List.drop_eq_nil_of_le (by omega), List.nil_append, show 8 + h + u.length - 8 = h + u.length by omega, List.drop_append_of_le_length (by rw [u8s_length]; omega)]
  unfold u8s
  simp

theorem Sums.setRest {w : World} {b : Nat} {g r : List Nat} {n : Nat} (s : Sums w b g r n) {h : Nat} {u : List Nat} (hf : h + u.length ≤ 64) : Sums (w.setRow b (splice (scells g r n) (8 + h) (u8s u)).toArray) b g (splice r h u) n := by
  refine ⟨?_, s.lg, by rw [length_splice _ _ _ (by rw [s.lr]; exact hf), s.lr]⟩
  rw [setRow_heap w b _ _ _ _ s.row, splice_mid s.lg (by rw [s.lr]; exact hf)]

/- a row stored into the middle of another -/
theorem wpList_store_at {P : Program} {ops : Array Oper} {rest : List Oper} {o : Oper} {a : Act} {w : World} {Q : Exit → Act → World → Prop} (hgd : o.guard = none) (ty : TypeId) (x y : Operand) (ho : o.op = .store ty x y)
    (g off : Nat) (hx : a.eval x = .pointer (some ⟨g, off, none⟩)) (cs : List Value) (hy : a.eval y = .agg cs.toArray) (t : TypeId) (cur : List Value) (hg : w.heap[g]? = some (.cells cur.toArray t (0, 0)))
    (hi : (P.info? ty).map (·.size) = some cs.length) (hf : off + cs.length ≤ cur.length) (h1 : ∀ v ∈ cs, v.oneCell' = true) (hdst : o.dst = none)
    (h : wpList P ops Q rest a (w.setRow g (splice cur off cs).toArray)) : wpList P ops Q (o :: rest) a w :=
  wpList_plain hgd fun K hK => by
    have e := run_storeCells_at P g off t cs 0 cur.toArray w hg (by simpa using hf) h1
    have e2 : (storeVar ty ⟨g, off, none⟩ (.agg cs.toArray)).run P w = .ok () (w.setRow g (splice cur off cs).toArray) := by
      cases hq : P.info? ty with
      | none => simp [hq] at hi
      | some i =>
        have hs : cs.length = i.size := by simp [hq] at hi; omega
        simp only [Nat.add_zero] at e
        simp [storeVar, sizeOf, typeInfo, hq, Value.cells, hs, e, splice]
    unfold Oper.wp execOp
    simp only [ho, hx, hy, Instr.storeAt, Instr.sureAddr, Sem.run_bind, Sem.run_pure, Result.andThen_ok, e2]
    have e3 : a.put o.dst undef = a := by rw [hdst]; rfl
    have h' := hK _ _ h
    rw [← e3] at h'
    exact h'

/- bytes copied out of a text, as one step of a region that draws -/
theorem text_cells (s : ByteArray) (n : Nat) : ((s.extract 0 n).data.map fun b => Value.int .u8 b.toNat) = (u8s ((nums s).take n)).toArray := by
  have e := nums_extract s 0 n
  rw [List.drop_zero, Nat.sub_zero] at e
  rw [← e]
  apply Array.ext'
  simp [u8s, nums]
  rfl

theorem step_copy_text {P : Program} {ops : Array Oper} {o : Oper} {a : Act} {w : World} {K : Act → World → Prop} {Q : Exit → Act → World → Prop} {E : Prop} (hgd : o.guard = none) (d s : Operand) (dT sT : TypeId)
    (ho : o.op = .call { callee := .builtin .copy, args := #[d, s], argTypes := #[dT, sT] }) (elem : TypeId) (hu : P.underlying dT = some (.slice elem)) (hsz : (P.info? elem).map (·.size) = some 1)
    (g off dLen dCap : Nat) (str : ByteArray) (hd : a.eval d = .slice (some ⟨g, off, none⟩) dLen dCap) (hs : a.eval s = .string str)
    (cur : List Value) (t : TypeId) (hg : w.heap[g]? = some (.cells cur.toArray t (0, 0))) (n : Nat) (hn : n = min str.size dLen) (hf : off + n ≤ cur.length)
    (h : K (a.put o.dst (goInt n)) (w.setRow g (splice cur off (u8s ((nums str).take n))).toArray)) :
    if Region.wanted o (yielded ops a.tmps) = true then Oper.wp P o a w K Q else E := by
  have hw : Region.wanted o (yielded ops a.tmps) = true := by simp [Region.wanted, hgd]
  rw [if_pos hw]
  have hl : (u8s ((nums str).take n)).length = n := by rw [u8s_length, List.length_take, nums_length]; omega
  have hst := run_storeCells_at P g off t (u8s ((nums str).take n)) 0 cur.toArray w hg (by rw [hl]; simpa using hf) (u8s_one _)
  have hn' : Nat.min str.size dLen = n := hn.symm
  have hc := text_cells str n
  have hrun : (Builtin.copy_ #[dT, sT] o.type #[.slice (some ⟨g, off, none⟩) dLen dCap, .string str]).run P w = .ok (goInt n) (w.setRow g (splice cur off (u8s ((nums str).take n))).toArray) := by
    cases hq : P.info? elem with
    | none => simp [hq] at hsz
    | some i =>
      have hi : i.size = 1 := by simpa [hq] using hsz
      simp only [Nat.add_zero] at hst
      have hfc : (Builtin.firstCells 1 n (.string str)).run P w = .ok (u8s ((nums str).take n)).toArray w := by
        simp only [Builtin.firstCells]
        rw [hc]
        rfl
      simp [Builtin.copy_, run_underlying hu, Builtin.lenOf, hfc, sizeOf, typeInfo, hq, hi, hn', hst, splice]
  unfold Oper.wp
  simp [execOp, ho, resolve, invoke, builtin, hd, hs, hrun, Result.andThen]
  exact h

theorem held_any (b n : Nat) (w : World) (hn : n < 9223372036854775808) (h : w.cell? ⟨b, 72, none⟩ = some (.int .u64 (n : Int))) :
    Calls Tryd.prog 21 #[.pointer (some ⟨b, 0, none⟩)] w fun e w' => e = .returned (.int .i64 (n % 64 : Nat)) ∧ w' = w := by
  go_enter Tryd.func21, Tryd.ntmps21
  go_wp2
  go_ret
  exact ⟨rfl, rfl⟩

theorem len_any (b n : Nat) (w : World) (h : w.cell? ⟨b, 72, none⟩ = some (.int .u64 (n : Int))) :
    Calls Tryd.prog 15 #[.pointer (some ⟨b, 0, none⟩)] w fun e w' => e = .returned (.int .u64 (n : Int)) ∧ w' = w := by
  go_enter Tryd.func15, Tryd.ntmps15
  go_wp2
  go_ret
  exact ⟨rfl, rfl⟩

theorem len_nil (w : World) : Calls Tryd.prog 15 #[.pointer none] w fun e w' => e = .returned (.int .u64 0) ∧ w' = w := by
  go_enter Tryd.func15, Tryd.ntmps15
  go_wp2
  go_ret
  exact ⟨rfl, rfl⟩

end Go.Proofs.YtjcfllidandeiaaDoor
