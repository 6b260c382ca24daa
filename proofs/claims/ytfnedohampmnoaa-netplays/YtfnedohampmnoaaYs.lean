/- What strings.Clone, slices.Clone and slices.Delete do. -/
import Derived.Test.YtfnedohampmnoaaYa
import Derived.Shelf.Pu.Clone
import Derived.Shelf.Slices.Clone
import Derived.Shelf.Slices.Delete
import Derived.Sort.OwnSorted
namespace Go.Proofs
open Go.Shelf
def Try.renB : Go.Shelf.Ren := ⟨fun | 25 => 36 | n => n, fun | 37 => 64 | 47 => 67 | n => n, fun | n => n⟩
theorem Try.laysB : LaysPu.n25 Try.prog Try.renB := {
  mixed := by kernel_rfl
  f25 := Try.func36.trans (congrArg some (by kernel_rfl))
  t0 := Try.underlying0
  a0 := Try.isAgg0
  z0 := Try.sizeOf0
  v0 := Try.zeroValue0
  i0 := by kernel_rfl
  t3 := Try.underlying3
  a3 := Try.isAgg3
  z3 := Try.sizeOf3
  v3 := Try.zeroValue3
  i3 := by kernel_rfl
  t4 := Try.underlying4
  a4 := Try.isAgg4
  z4 := Try.sizeOf4
  v4 := Try.zeroValue4
  i4 := by kernel_rfl
  t5 := Try.underlying5
  a5 := Try.isAgg5
  z5 := Try.sizeOf5
  v5 := Try.zeroValue5
  i5 := by kernel_rfl
  t9 := Try.underlying9
  a9 := Try.isAgg9
  z9 := Try.sizeOf9
  v9 := Try.zeroValue9
  i9 := by kernel_rfl
  t37 := Try.underlying64
  a37 := Try.isAgg64
  z37 := Try.sizeOf64
  v37 := Try.zeroValue64
  i37 := by kernel_rfl
  t47 := Try.underlying67
  a47 := Try.isAgg67
  z47 := Try.sizeOf67
  v47 := Try.zeroValue67
  i47 := by kernel_rfl }
def Try.renC : Go.Shelf.Ren := ⟨fun | 16 => 29 | 24 => 32 | n => n, fun | 24 => 25 | n => n, fun | n => n⟩
theorem Try.laysC : Lays2.n16 Try.prog Try.renC := {
  mixed := by kernel_rfl
  f16 := Try.func29.trans (congrArg some (by kernel_rfl))
  t4 := Try.underlying4
  a4 := Try.isAgg4
  z4 := Try.sizeOf4
  v4 := Try.zeroValue4
  t9 := Try.underlying9
  a9 := Try.isAgg9
  z9 := Try.sizeOf9
  v9 := Try.zeroValue9
  t24 := Try.underlying25
  a24 := Try.isAgg25
  z24 := Try.sizeOf25
  v24 := Try.zeroValue25
  i9 := by kernel_rfl }
theorem Try.laysD : Lays2.n24 Try.prog Try.renC := {
  mixed := by kernel_rfl
  f24 := Try.func32.trans (congrArg some (by kernel_rfl))
  t0 := Try.underlying0
  a0 := Try.isAgg0
  z0 := Try.sizeOf0
  v0 := Try.zeroValue0
  t3 := Try.underlying3
  a3 := Try.isAgg3
  z3 := Try.sizeOf3
  v3 := Try.zeroValue3
  t4 := Try.underlying4
  a4 := Try.isAgg4
  z4 := Try.sizeOf4
  v4 := Try.zeroValue4
  t9 := Try.underlying9
  a9 := Try.isAgg9
  z9 := Try.sizeOf9
  v9 := Try.zeroValue9
  t24 := Try.underlying25
  a24 := Try.isAgg25
  z24 := Try.sizeOf25
  v24 := Try.zeroValue25
  i9 := by kernel_rfl }
end Go.Proofs
namespace Go.Proofs.Ytfnedohampmnoaa
open Go.RowKit Go.Sort
set_option maxRecDepth 100000

theorem clone_any (s : ByteArray) (w : World) (hs : s.size ≤ 281474976710656) :
    Calls Try.prog 30 #[.string s] w fun e w' => e = .returned (.string s) ∧ Below w.heap.size w w' := by
  have k := fun w => hide1 (AnyPu.stringslite_Clone Try.laysB s w hs)
  change ∀ w, Hid (Calls Try.prog 36 #[.string s] w fun e w' => e = .returned (.string s) ∧ Below w.heap.size w w') at k
  go_enter Try.func30, Try.ntmps30
  go_wp2_with (go_at_call 36; refine (k _).out.mono ?_; rintro e w1 ⟨rfl, hb⟩)
  go_ret
  exact ⟨rfl, hb⟩

theorem cloneAll_any {B : Nat} {v : Value} {A : List ByteArray} {w : World} (h : Lst B w v A) (hA : A.length ≤ 64) :
    Calls Try.prog 29 #[v] w fun e w' => ∃ v', e = .returned v' ∧ Lst w.heap.size w' v' A ∧ Below w.heap.size w w' := by
  rcases id h.2 with ⟨rfl, h0⟩ | ⟨g, cap, cur, rfl, hb, hgg, _⟩
  · have hA0 : A = [] := List.eq_nil_of_length_eq_zero h0
    subst hA0
    refine (Any.slices_Clone_string_nil Try.laysC 0 0 w).mono ?_
    rintro e w' ⟨rfl, rfl⟩
    exact ⟨_, rfl, Lst.nil _ _, Below.refl _ _⟩
  · refine (Any.slices_Clone_string Try.laysC g 0 A.length cap A w (Nat.le_refl _) (by omega) (fun j hj => ?_)).mono ?_
    · rw [Nat.zero_add, World.ownsRow.cellAt h j (by omega)]
      simp [strs, List.getD, List.getElem?_eq_getElem hj]
    · rintro e w' ⟨v', rfl, ho, _, hbl⟩
      refine ⟨v', rfl, ?_, hbl⟩
      rw [List.take_length] at ho
      exact ho

theorem enc_data (b : ByteArray) : encStr b.data.toList = Value.string b := by simp [encStr]
theorem map_enc (A : List ByteArray) : (A.map fun b => b.data.toList).map encStr = strs A := by
  simp [strs, enc_data]

theorem delete_any {B : Nat} {v : Value} {A : List ByteArray} {w : World} {i : Nat} (h : Lst B w v A) (hi : i < A.length) :
    Calls Try.prog 32 #[v, .int .i64 (i : Int), .int .i64 ((i + 1 : Nat) : Int)] w fun e w' => ∃ v', e = .returned v' ∧ Lst B w' v' (A.eraseIdx i) ∧ w.grownBy w' v.ownBlock ∧ v'.ownBlock = v.ownBlock := by
  rcases id h.2 with ⟨rfl, h0⟩ | ⟨g, cap, cur, rfl, hb, hgg, hnc, hcm, hcs, htake⟩
  · omega
  · rw [Nat.mul_one] at htake hcs
    have hl : (A.map fun b => b.data.toList).length = A.length := by simp
    have hH : Holds encStr w g 0 (A.map fun b => b.data.toList).toArray := holds_of_block hgg (by rw [hl, htake, map_enc])
    have hcm' : cap ≤ 9223372036854775807 := hcm
    have k := Any.slices_Delete_string Try.laysD g 0 cap i (i + 1) (A.map fun b => b.data.toList) w hH (by rw [hl]; exact hnc) hcm' (by omega) (by rw [hl]; omega)
    rw [hl] at k
    refine k.mono ?_
    rintro e w' ⟨rfl, q, rfl⟩
    obtain ⟨ts, hts⟩ : ∃ ts, ts = (A.map fun b => b.data.toList).take i ++ (A.map fun b => b.data.toList).drop (i + 1) ++ List.replicate (i + 1 - i) [] := ⟨_, rfl⟩
    rw [← hts]
    have htl : ts.length = A.length := by rw [hts]; simp; omega
    have hrow := heap_sorted (n := q) (os := #[]) ts.toArray hgg
    have hgr := grownBy_sorted (w := w) (g := g) (n := q) (os := #[]) ts.toArray
    rw [grow_empty] at hrow hgr
    have hel : (A.eraseIdx i).length = A.length - 1 := by rw [List.length_eraseIdx, if_pos hi]
    refine ⟨_, rfl, ⟨by simp [strs], .inr ⟨g, cap, _, by rw [hel, show i + 1 - i = 1 by omega], hb, hrow, by omega, hcm, by simp [putCells, hcs], ?_⟩⟩, hgr, rfl⟩
    have e1 := take_putCells cur ts (by omega)
    have e2 : (putCells encStr 0 ts.toArray cur).toList.take ((A.eraseIdx i).length * 1) = ((putCells encStr 0 ts.toArray cur).toList.take ts.length).take ((A.eraseIdx i).length * 1) := by
      rw [List.take_take, Nat.min_eq_left (by omega)]
    rw [e2, e1, hts, ← map_enc, List.map_take.symm]
    congr 1
    rw [List.take_left' (by simp; omega), List.eraseIdx_eq_take_drop_succ]
    simp

end Go.Proofs.Ytfnedohampmnoaa
