/- Lists of byte strings in memory; what is kept but a set of blocks. append of byte strings behind a list of the call's own. What strings.Clone and slices.Delete do. -/
import Derived.Test.YtcadlcpccemkbaaRows
import Derived.WalkKit
import Derived.WalkSpells
import Derived.WalkLawsBesides
import Derived.Deep.QuietTactic
import Derived.Deep.Onto
import Derived.Deep.AppendLies
import Derived.Shelf.Pu.Clone
import Derived.Shelf.Slices.Delete
import Derived.Sort.OwnSorted
namespace Go.Proofs.Ytcadlcpccemkbaa
open Go.RowKit
set_option maxRecDepth 100000

theorem hide1 {p : Prop} (h : p) : Hid p := h
theorem not_any (x : Bool) (w : World) : (Op.unary .not (.bool x)).run Try.prog w = .ok (.bool (!x)) w := rfl
theorem mixed : Try.prog.follows .mixedOrders = true := by kernel_rfl
structure Shy (p : Prop) : Prop where
  out : p
theorem lt_heap {w : World} {k : Nat} {o : Obj} (h : w.heap[k]? = some o) : k < w.heap.size := (Array.getElem?_eq_some_iff.1 h).1
theorem below1 {w : World} (o : Obj) : Below w.heap.size w (w.alloc o) := (Below.refl _ _).alloc (Nat.le_refl _) _

/- byte strings as values; a list of them of the call's own, from a block on -/
def strs (A : List ByteArray) : List Value := A.map Value.string
def Lst (B : Nat) (w : World) (v : Value) (A : List ByteArray) : Prop := w.ownsRow B 9 1 v A.length (strs A)

theorem strs_length (A : List ByteArray) : (strs A).length = A.length := by simp [strs]

theorem Lst.nil (B : Nat) (w : World) : Lst B w (.slice none 0 0) [] := World.ownsRow_nil _ _ _ _
theorem Lst.mono {B B' : Nat} {w : World} {v : Value} {A : List ByteArray} (h : Lst B w v A) (hb : B' ≤ B) : Lst B' w v A := World.ownsRow.mono h hb
theorem Lst.lt {B : Nat} {w : World} {v : Value} {A : List ByteArray} (h : Lst B w v A) {g : Nat} (hg : v.ownBlock = some g) : B ≤ g ∧ g < w.heap.size := World.ownsRow.lt h g hg
theorem Lst.form {B : Nat} {w : World} {v : Value} {A : List ByteArray} (h : Lst B w v A) : ∃ a c, v = .slice a A.length c := by
  rcases h.2 with ⟨rfl, h0⟩ | ⟨g, cap, cur, rfl, _⟩
  · rw [h0]; exact ⟨none, 0, rfl⟩
  · exact ⟨_, cap, rfl⟩
/- kept, where its row is kept -/
theorem Lst.same {B : Nat} {w w' : World} {v : Value} {A : List ByteArray} (h : Lst B w v A) (hs : ∀ g, v.ownBlock = some g → w'.heap[g]? = w.heap[g]?) : Lst B w' v A := by
  refine ⟨h.1, ?_⟩
  rcases h.2 with hn | ⟨g, cap, cur, rfl, hb, hgg, rest⟩
  · exact .inl hn
  · exact .inr ⟨g, cap, cur, rfl, hb, (hs g rfl).trans hgg, rest⟩
theorem Lst.below {B C : Nat} {w w' : World} {v : Value} {A : List ByteArray} (h : Lst B w v A) (hb : Below C w w') (hC : w.heap.size ≤ C) : Lst B w' v A :=
  h.same fun g hg => hb.block g (by have := (h.lt hg).2; omega)
theorem Lst.cell {B : Nat} {w : World} {v : Value} {A : List ByteArray} (h : Lst B w v A) {j : Nat} (hj : j < A.length) : ∃ g c, v = .slice (some ⟨g, 0, none⟩) A.length c ∧ w.cell? ⟨g, j, none⟩ = some (.string (A.getD j ByteArray.empty)) ∧ w.frozen? ⟨g, j, none⟩ = false ∧ g < w.heap.size ∧ B ≤ g ∧ A.length ≤ c := by
  rcases id h.2 with ⟨rfl, h0⟩ | ⟨g, cap, cur, rfl, hb, hgg, hnc, _⟩
  · omega
  · refine ⟨g, cap, rfl, ?_, World.ownsRow.frozenAt h j, lt_heap hgg, hb, hnc⟩
    rw [World.ownsRow.cellAt h j (by omega)]
    simp [strs, List.getD, List.getElem?_eq_getElem hj]

/- kept but a set of blocks -/
structure Kp (F : Nat → Prop) (w w' : World) : Prop where
  os : w'.os = w.os
  tape : w'.tape = w.tape
  output : w'.output = w.output
  size : w.heap.size ≤ w'.heap.size
  block : ∀ g, g < w.heap.size → ¬ F g → w'.heap[g]? = w.heap[g]?
theorem Kp.refl (F : Nat → Prop) (w : World) : Kp F w w := ⟨rfl, rfl, rfl, Nat.le_refl _, fun _ _ _ => rfl⟩
theorem Kp.trans {F : Nat → Prop} {a b c : World} (h : Kp F a b) (k : Kp F b c) : Kp F a c :=
  ⟨k.os.trans h.os, k.tape.trans h.tape, k.output.trans h.output, Nat.le_trans h.size k.size, fun g hg hf => (k.block g (by have := h.size; omega) hf).trans (h.block g hg hf)⟩
/- what comes later may also change what was new -/
theorem Kp.join {F G : Nat → Prop} {a b c : World} (h : Kp F a b) (k : Kp G b c) (hG : ∀ g, G g → F g ∨ a.heap.size ≤ g) : Kp F a c :=
  ⟨k.os.trans h.os, k.tape.trans h.tape, k.output.trans h.output, Nat.le_trans h.size k.size, fun g hg hf => (k.block g (by have := h.size; omega) (fun hg' => by
    rcases hG g hg' with h1 | h1
    · exact hf h1
    · omega)).trans (h.block g hg hf)⟩
theorem Kp.mono {F G : Nat → Prop} {w w' : World} (h : Kp F w w') (hF : ∀ g, F g → G g) : Kp G w w' := ⟨h.os, h.tape, h.output, h.size, fun g hg hf => h.block g hg (fun e => hf (hF g e))⟩
theorem Kp.ofBelow {F : Nat → Prop} {w w' : World} (h : Below w.heap.size w w') : Kp F w w' := ⟨h.os, h.tape, h.output, h.size, fun g hg _ => h.block g hg⟩
theorem Kp.ofGrown {w w' : World} {row : Option Nat} (h : w.grownBy w' row) : Kp (fun g => row = some g) w w' := ⟨h.os, h.tape, h.output, h.size, fun g hg hf => h.block g hg (fun e => hf e.symm)⟩
theorem Kp.below {F : Nat → Prop} {B : Nat} {w w' : World} (h : Kp F w w') (hB : B ≤ w.heap.size) (hF : ∀ g, F g → B ≤ g) : Below B w w' :=
  ⟨h.os, h.tape, h.output, h.size, fun g hg => h.block g (by omega) (fun e => by have := hF g e; omega)⟩
theorem Kp.setCell {F : Nat → Prop} (w : World) (t j : Nat) (v : Value) (hF : F t) : Kp F w (w.setCell ⟨t, j, none⟩ v) :=
  ⟨rfl, rfl, rfl, by simp [World.setCell], fun g _ hf => heap_setCell_other _ _ _ _ (fun e => hf (e ▸ hF))⟩
theorem Lst.kp {B : Nat} {F : Nat → Prop} {w w' : World} {v : Value} {A : List ByteArray} (h : Lst B w v A) (hk : Kp F w w') (hF : ∀ g, v.ownBlock = some g → ¬ F g) : Lst B w' v A :=
  h.same fun g hg => hk.block g (h.lt hg).2 (hF g hg)

end Go.Proofs.Ytcadlcpccemkbaa

namespace Go.Proofs.Ytcadlcpccemkbaa
open Go.RowKit
set_option maxRecDepth 100000

/- byte strings that are read -/
def Rdl (w : World) (u : Value) (C : List ByteArray) : Prop := ∃ a c, u = .slice a C.length c ∧ ∀ j, j < C.length → ∃ g o, a = some ⟨g, o, none⟩ ∧ w.cell? ⟨g, o + j, none⟩ = some (.string (C.getD j ByteArray.empty))

theorem Lst.rd {B : Nat} {w : World} {v : Value} {A : List ByteArray} (h : Lst B w v A) : Rdl w v A := by
  obtain ⟨a, c, rfl⟩ := h.form
  refine ⟨a, c, rfl, fun j hj => ?_⟩
  obtain ⟨g, c', e, hc, _⟩ := h.cell hj
  cases e
  exact ⟨g, 0, rfl, by rw [Nat.zero_add]; exact hc⟩
theorem Rdl.below {C : Nat} {w w' : World} {v : Value} {A : List ByteArray} (h : Rdl w v A) (hb : Below C w w') (hC : w.heap.size ≤ C) : Rdl w' v A := by
  obtain ⟨a, c, rfl, hc⟩ := h
  refine ⟨a, c, rfl, fun j hj => ?_⟩
  obtain ⟨g, o, e, h1⟩ := hc j hj
  exact ⟨g, o, e, (hb.cell (p := ⟨g, o + j, none⟩) (by have := World.block_lt_of_cell? w _ h1; simp at this; simp; omega)).trans h1⟩
theorem Rdl.one (w : World) (s : ByteArray) : Rdl (w.alloc (.cells #[.string s] 9)) (.slice (some ⟨w.heap.size, 0, none⟩) 1 1) [s] :=
  ⟨_, 1, rfl, fun j hj => ⟨w.heap.size, 0, rfl, by
    obtain rfl : j = 0 := by simp at hj; omega
    rw [cell_of_row _ w.heap.size _ _ _ _ (heap_alloc_new w _)]
    rfl⟩⟩

theorem info_str : ∃ i : TypeInfo, Try.prog.info? 9 = some i ∧ i.zero = some (.string ⟨#[]⟩) ∧ i.size = 1 ∧ i.bytes = 16 := by
  have h : (Try.prog.info? 9).map (fun i => (i.zero, i.size, i.bytes)) = some (some (Value.string ⟨#[]⟩), 1, 16) := by kernel_rfl
  cases hi : Try.prog.info? 9 with
  | none => rw [hi] at h; cases h
  | some i =>
    rw [hi] at h
    simp at h
    exact ⟨i, rfl, h.1, h.2.1, h.2.2⟩

theorem run_append_empty {P : Program} {w : World} (base : Nat) (t ty e : TypeId) (i : TypeInfo) (size : Nat) (ht : P.underlying t = some (.slice e)) (hi : P.info? e = some i)
    (v : Value) (n : Nat) (xs : List Value) (hown : w.ownsRow base e size v n xs) (a : Option Addr) (c : Nat) :
    (Builtin.append_ #[t, t] ty #[v, .slice a 0 c]).run P w = .ok v w := by
  have hl : ∀ (x : Addr), (loadCells x 0).run P w = .ok #[] w := fun x => by simpa using run_loadCells_list (P := P) w x [] (by simp)
  rcases hown.2 with ⟨rfl, rfl⟩ | ⟨g, cap, cur, rfl, _, _, hnc, _⟩
  · cases a <;> simp [Builtin.append_, run_underlying ht, sizeOf, typeInfo, hi, Builtin.lenOf, Builtin.firstCells, hl]
  · cases a <;> simp [Builtin.append_, run_underlying ht, sizeOf, typeInfo, hi, Builtin.lenOf, Builtin.firstCells, hnc, storeCells, hl]

theorem run_append_lst {w : World} {B : Nat} {v u : Value} {A C : List ByteArray} (ty : TypeId) (h : Lst B w v A) (hu : Rdl w u C) (hle : A.length + C.length ≤ 1000000) (hB : B ≤ w.heap.size) :
    ∃ v' w', (Builtin.append_ #[31, 31] ty #[v, u]).run Try.prog w = .ok v' w' ∧ Lst B w' v' (A ++ C) ∧ w.grownBy w' v.ownBlock ∧ (∀ g, v'.ownBlock = some g → v.ownBlock = some g ∨ w.heap.size ≤ g) := by
  obtain ⟨i0, hi, hz0, hz1, hz2⟩ := info_str
  obtain ⟨a, c, rfl, hc⟩ := hu
  by_cases h0 : C.length = 0
  · have hC : C = [] := List.eq_nil_of_length_eq_zero h0
    subst hC
    refine ⟨v, w, run_append_empty B _ ty _ i0 1 Try.underlying31 hi v A.length _ h a c, by simpa using h, ⟨rfl, rfl, rfl, Nat.le_refl _, fun _ _ _ => rfl⟩, fun g hg => .inl hg⟩
  · obtain ⟨g, o, rfl, _⟩ := hc 0 (by omega)
    obtain ⟨v', w', hr, h2, h3, _, h5⟩ := run_append_own_at (P := Try.prog) w B 31 ty 9 i0 (.string ⟨#[]⟩) 1 16 Try.underlying31 hi hz0 hz1 hz2 rfl (by decide) v A.length (strs A) h ⟨g, o, none⟩ C.length c (strs C) (by simp [strs]) (fun j x hx => by
      have hj : j < C.length := by
        have := (List.getElem?_eq_some_iff.1 hx).1
        simpa [strs] using this
      obtain ⟨g', o', e, h1⟩ := hc j hj
      cases e
      rw [Addr.add_lit, h1]
      rw [← hx]
      simp [strs, List.getD, List.getElem?_eq_getElem hj]) (fun x hx => by
      obtain ⟨b, _, rfl⟩ := List.mem_map.1 hx
      rfl) (by unfold maxLen; omega) (by omega) hB
    refine ⟨v', w', hr, by unfold Lst; simpa [strs] using h2, h3, fun g hg => ?_⟩
    rcases h5 with h5 | h5
    · exact .inl (h5 ▸ hg)
    · rw [h5] at hg
      cases hg
      exact .inr (Nat.le_refl _)

theorem wp_append_lst {w : World} {o : Oper} {act : Act} {K : Act → World → Prop} {Q : Exit → Act → World → Prop} (s x : Operand) (ho : o.op = .call { callee := .builtin .append, args := #[s, x], argTypes := #[31, 31] })
    {B : Nat} {v u : Value} {A C : List ByteArray} (hs : act.eval s = v) (hx : act.eval x = u) (h : Lst B w v A) (hu : Rdl w u C) (hle : A.length + C.length ≤ 1000000) (hB : B ≤ w.heap.size)
    (hk : ∀ v' w', Lst B w' v' (A ++ C) → w.grownBy w' v.ownBlock → (∀ g, v'.ownBlock = some g → v.ownBlock = some g ∨ w.heap.size ≤ g) → K (act.put o.dst v') w') : o.wp Try.prog act w K Q := by
  obtain ⟨v', w', hr, h2, h3, h4⟩ := run_append_lst o.type h hu hle hB
  unfold Oper.wp execOp
  simp only [ho, resolve, invoke, builtin, Sem.run_bind, Sem.run_pure, Result.andThen_ok, List.map_toArray, List.map_cons, List.map_nil, hs, hx, hr]
  exact hk v' w' h2 h3 h4
theorem wpList_append_lst {w : World} {ops : Array Oper} {rest : List Oper} {o : Oper} {act : Act} {Q : Exit → Act → World → Prop} (hgd : o.guard = none) (s x : Operand) (ho : o.op = .call { callee := .builtin .append, args := #[s, x], argTypes := #[31, 31] })
    {B : Nat} {v u : Value} {A C : List ByteArray} (hs : act.eval s = v) (hx : act.eval x = u) (h : Lst B w v A) (hu : Rdl w u C) (hle : A.length + C.length ≤ 1000000) (hB : B ≤ w.heap.size)
    (hk : ∀ v' w', Lst B w' v' (A ++ C) → w.grownBy w' v.ownBlock → (∀ g, v'.ownBlock = some g → v.ownBlock = some g ∨ w.heap.size ≤ g) → wpList Try.prog ops Q rest (act.put o.dst v') w') : wpList Try.prog ops Q (o :: rest) act w :=
  wpList_plain hgd fun _ hK => wp_append_lst s x ho hs hx h hu hle hB fun v' w' h2 h3 h4 => hK _ _ (hk v' w' h2 h3 h4)

end Go.Proofs.Ytcadlcpccemkbaa

namespace Go.Proofs
open Go.Shelf
def Try.renB : Go.Shelf.Ren := ⟨fun | 25 => 32 | n => n, fun | 37 => 99 | 47 => 100 | n => n, fun | n => n⟩
theorem Try.laysB : LaysPu.n25 Try.prog Try.renB := {
  mixed := by kernel_rfl
  f25 := Try.func32.trans (congrArg some (by kernel_rfl))
  t0 := Try.underlying0
  a0 := Try.isAgg0
  z0 := Try.sizeOf0
  v0 := Try.zeroValue0
  i0 := by kernel_rfl
  t3 := Try.underlying3
  a3 := Try.isAgg3
  z3 := Try.sizeOf3
  v3 := Try.zeroValue3
  i3 := by kernel_rfl
  t4 := Try.underlying4
  a4 := Try.isAgg4
  z4 := Try.sizeOf4
  v4 := Try.zeroValue4
  i4 := by kernel_rfl
  t5 := Try.underlying5
  a5 := Try.isAgg5
  z5 := Try.sizeOf5
  v5 := Try.zeroValue5
  i5 := by kernel_rfl
  t9 := Try.underlying9
  a9 := Try.isAgg9
  z9 := Try.sizeOf9
  v9 := Try.zeroValue9
  i9 := by kernel_rfl
  t37 := Try.underlying99
  a37 := Try.isAgg99
  z37 := Try.sizeOf99
  v37 := Try.zeroValue99
  i37 := by kernel_rfl
  t47 := Try.underlying100
  a47 := Try.isAgg100
  z47 := Try.sizeOf100
  v47 := Try.zeroValue100
  i47 := by kernel_rfl }
def Try.renC : Go.Shelf.Ren := ⟨fun | 24 => 34 | n => n, fun | 24 => 31 | n => n, fun | n => n⟩
theorem Try.laysD : Lays2.n24 Try.prog Try.renC := {
  mixed := by kernel_rfl
  f24 := Try.func34.trans (congrArg some (by kernel_rfl))
  t0 := Try.underlying0
  a0 := Try.isAgg0
  z0 := Try.sizeOf0
  v0 := Try.zeroValue0
  t3 := Try.underlying3
  a3 := Try.isAgg3
  z3 := Try.sizeOf3
  v3 := Try.zeroValue3
  t4 := Try.underlying4
  a4 := Try.isAgg4
  z4 := Try.sizeOf4
  v4 := Try.zeroValue4
  t9 := Try.underlying9
  a9 := Try.isAgg9
  z9 := Try.sizeOf9
  v9 := Try.zeroValue9
  t24 := Try.underlying31
  a24 := Try.isAgg31
  z24 := Try.sizeOf31
  v24 := Try.zeroValue31
  i9 := by kernel_rfl }
end Go.Proofs
namespace Go.Proofs.Ytcadlcpccemkbaa
open Go.RowKit Go.Sort
set_option maxRecDepth 100000

theorem clone_any (s : ByteArray) (w : World) (hs : s.size ≤ 281474976710656) :
    Calls Try.prog 24 #[.string s] w fun e w' => e = .returned (.string s) ∧ Below w.heap.size w w' := by
  have k := fun w => hide1 (AnyPu.stringslite_Clone Try.laysB s w hs)
  change ∀ w, Hid (Calls Try.prog 32 #[.string s] w fun e w' => e = .returned (.string s) ∧ Below w.heap.size w w') at k
  go_enter Try.func24, Try.ntmps24
  go_wp2_with (go_at_call 32; refine (k _).out.mono ?_; rintro e w1 ⟨rfl, hb⟩)
  go_ret
  exact ⟨rfl, hb⟩

theorem enc_data (b : ByteArray) : encStr b.data.toList = Value.string b := by simp [encStr]
theorem map_enc (A : List ByteArray) : (A.map fun b => b.data.toList).map encStr = strs A := by
  simp [strs, enc_data]

theorem delete_any {B : Nat} {v : Value} {A : List ByteArray} {w : World} {k : Nat} (h : Lst B w v A) (hk0 : 0 < k) (hk : k ≤ A.length) :
    Calls Try.prog 34 #[v, .int .i64 0, .int .i64 (k : Int)] w fun e w' => ∃ v', e = .returned v' ∧ Lst B w' v' (A.drop k) ∧ w.grownBy w' v.ownBlock ∧ v'.ownBlock = v.ownBlock := by
  rcases id h.2 with ⟨rfl, h0⟩ | ⟨g, cap, cur, rfl, hb, hgg, hnc, hcm, hcs, htake⟩
  · omega
  · rw [Nat.mul_one] at htake hcs
    have hl : (A.map fun b => b.data.toList).length = A.length := by simp
    have hH : Holds encStr w g 0 (A.map fun b => b.data.toList).toArray := holds_of_block hgg (by rw [hl, htake, map_enc])
    have hcm' : cap ≤ 9223372036854775807 := hcm
    have kk := Any.slices_Delete_string Try.laysD g 0 cap 0 k (A.map fun b => b.data.toList) w hH (by rw [hl]; exact hnc) hcm' (by omega) (by rw [hl]; omega)
    rw [hl] at kk
    refine kk.mono ?_
    rintro e w' ⟨rfl, q, rfl⟩
    obtain ⟨ts, hts⟩ : ∃ ts, ts = (A.map fun b => b.data.toList).take 0 ++ (A.map fun b => b.data.toList).drop k ++ List.replicate (k - 0) [] := ⟨_, rfl⟩
    rw [← hts]
    have htl : ts.length = A.length := by rw [hts]; simp; omega
    have hrow := heap_sorted (n := q) (os := #[]) ts.toArray hgg
    have hgr := grownBy_sorted (w := w) (g := g) (n := q) (os := #[]) ts.toArray
    rw [grow_empty] at hrow hgr
    have hel : (A.drop k).length = A.length - k := by simp
    refine ⟨_, rfl, ⟨by simp [strs], .inr ⟨g, cap, _, by rw [hel, Nat.sub_zero], hb, hrow, by omega, hcm, by simp [putCells, hcs], ?_⟩⟩, hgr, rfl⟩
    have e1 := take_putCells cur ts (by omega)
    have e2 : (putCells encStr 0 ts.toArray cur).toList.take ((A.drop k).length * 1) = ((putCells encStr 0 ts.toArray cur).toList.take ts.length).take ((A.drop k).length * 1) := by
      rw [List.take_take, Nat.min_eq_left (by omega)]
    rw [e2, e1, hts, ← map_enc, List.map_take.symm]
    congr 1
    rw [List.take_left' (by simp)]
    simp

end Go.Proofs.Ytcadlcpccemkbaa
