/- What strings.Clone and slices.Delete do. -/
import Derived.Test.YtjingknkjokldaaVa
import Derived.Shelf.Pu.Clone
import Derived.Shelf.Slices.Delete
import Derived.Sort.OwnSorted
namespace Go.Proofs
open Go.Shelf
def Try.renB : Go.Shelf.Ren := ⟨fun | 25 => 30 | n => n, fun | 37 => 60 | 47 => 75 | n => n, fun | n => n⟩
theorem Try.laysB : LaysPu.n25 Try.prog Try.renB := {
  mixed := by kernel_rfl
  f25 := Try.func30.trans (congrArg some (by kernel_rfl))
  t0 := Try.underlying0
  a0 := Try.isAgg0
  z0 := Try.sizeOf0
  v0 := Try.zeroValue0
  i0 := by kernel_rfl
  t3 := Try.underlying3
  a3 := Try.isAgg3
  z3 := Try.sizeOf3
  v3 := Try.zeroValue3
  i3 := by kernel_rfl
  t4 := Try.underlying4
  a4 := Try.isAgg4
  z4 := Try.sizeOf4
  v4 := Try.zeroValue4
  i4 := by kernel_rfl
  t5 := Try.underlying5
  a5 := Try.isAgg5
  z5 := Try.sizeOf5
  v5 := Try.zeroValue5
  i5 := by kernel_rfl
  t9 := Try.underlying9
  a9 := Try.isAgg9
  z9 := Try.sizeOf9
  v9 := Try.zeroValue9
  i9 := by kernel_rfl
  t37 := Try.underlying60
  a37 := Try.isAgg60
  z37 := Try.sizeOf60
  v37 := Try.zeroValue60
  i37 := by kernel_rfl
  t47 := Try.underlying75
  a47 := Try.isAgg75
  z47 := Try.sizeOf75
  v47 := Try.zeroValue75
  i47 := by kernel_rfl }
def Try.renC : Go.Shelf.Ren := ⟨fun | 24 => 26 | n => n, fun | 24 => 27 | n => n, fun | n => n⟩
theorem Try.laysD : Lays2.n24 Try.prog Try.renC := {
  mixed := by kernel_rfl
  f24 := Try.func26.trans (congrArg some (by kernel_rfl))
  t0 := Try.underlying0
  a0 := Try.isAgg0
  z0 := Try.sizeOf0
  v0 := Try.zeroValue0
  t3 := Try.underlying3
  a3 := Try.isAgg3
  z3 := Try.sizeOf3
  v3 := Try.zeroValue3
  t4 := Try.underlying4
  a4 := Try.isAgg4
  z4 := Try.sizeOf4
  v4 := Try.zeroValue4
  t9 := Try.underlying9
  a9 := Try.isAgg9
  z9 := Try.sizeOf9
  v9 := Try.zeroValue9
  t24 := Try.underlying27
  a24 := Try.isAgg27
  z24 := Try.sizeOf27
  v24 := Try.zeroValue27
  i9 := by kernel_rfl }
end Go.Proofs
namespace Go.Proofs.Ytjingknkjokldaa
open Go.RowKit Go.Sort
set_option maxRecDepth 100000

theorem clone_any (s : ByteArray) (w : World) (hs : s.size ≤ 281474976710656) :
    Calls Try.prog 25 #[.string s] w fun e w' => e = .returned (.string s) ∧ Below w.heap.size w w' := by
  have k := fun w => hide1 (AnyPu.stringslite_Clone Try.laysB s w hs)
  change ∀ w, Hid (Calls Try.prog 30 #[.string s] w fun e w' => e = .returned (.string s) ∧ Below w.heap.size w w') at k
  go_enter Try.func25, Try.ntmps25
  go_wp2_with (go_at_call 30; refine (k _).out.mono ?_; rintro e w1 ⟨rfl, hb⟩)
  go_ret
  exact ⟨rfl, hb⟩

theorem enc_data (b : ByteArray) : encStr b.data.toList = Value.string b := by simp [encStr]
theorem map_enc (A : List ByteArray) : (A.map fun b => b.data.toList).map encStr = strs A := by
  simp [strs, enc_data]

theorem delete_any {B : Nat} {v : Value} {A : List ByteArray} {w : World} {k : Nat} (h : Lst B w v A) (hk0 : 0 < k) (hk : k ≤ A.length) :
    Calls Try.prog 26 #[v, .int .i64 0, .int .i64 (k : Int)] w fun e w' => ∃ v', e = .returned v' ∧ Lst B w' v' (A.drop k) ∧ w.grownBy w' v.ownBlock ∧ v'.ownBlock = v.ownBlock := by
  rcases id h.2 with ⟨rfl, h0⟩ | ⟨g, cap, cur, rfl, hb, hgg, hnc, hcm, hcs, htake⟩
  · omega
  · rw [Nat.mul_one] at htake hcs
    have hl : (A.map fun b => b.data.toList).length = A.length := by simp
    have hH : Holds encStr w g 0 (A.map fun b => b.data.toList).toArray := holds_of_block hgg (by rw [hl, htake, map_enc])
    have hcm' : cap ≤ 9223372036854775807 := hcm
    have kk := Any.slices_Delete_string Try.laysD g 0 cap 0 k (A.map fun b => b.data.toList) w hH (by rw [hl]; exact hnc) hcm' (by omega) (by rw [hl]; omega)
    rw [hl] at kk
    refine kk.mono ?_
    rintro e w' ⟨rfl, q, rfl⟩
    obtain ⟨ts, hts⟩ : ∃ ts, ts = (A.map fun b => b.data.toList).take 0 ++ (A.map fun b => b.data.toList).drop k ++ List.replicate (k - 0) [] := ⟨_, rfl⟩
    rw [← hts]
    have htl : ts.length = A.length := by rw [hts]; simp; omega
    have hrow := heap_sorted (n := q) (os := #[]) ts.toArray hgg
    have hgr := grownBy_sorted (w := w) (g := g) (n := q) (os := #[]) ts.toArray
    rw [grow_empty] at hrow hgr
    have hel : (A.drop k).length = A.length - k := by simp
    refine ⟨_, rfl, ⟨by simp [strs], .inr ⟨g, cap, _, by rw [hel, Nat.sub_zero], hb, hrow, by omega, hcm, by simp [putCells, hcs], ?_⟩⟩, hgr, rfl⟩
    have e1 := take_putCells cur ts (by omega)
    have e2 : (putCells encStr 0 ts.toArray cur).toList.take ((A.drop k).length * 1) = ((putCells encStr 0 ts.toArray cur).toList.take ts.length).take ((A.drop k).length * 1) := by
      rw [List.take_take, Nat.min_eq_left (by omega)]
    rw [e2, e1, hts, ← map_enc, List.map_take.symm]
    congr 1
    rw [List.take_left' (by simp)]
    simp

end Go.Proofs.Ytjingknkjokldaa
