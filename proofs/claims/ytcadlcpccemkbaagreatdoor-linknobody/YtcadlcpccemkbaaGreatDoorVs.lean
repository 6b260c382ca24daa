/- What strings.Clone and slices.Delete do. -/
import Derived.Test.YtcadlcpccemkbaaGreatDoorMQdVa
import Derived.Shelf.Pu.Clone
import Derived.Shelf.Slices.Delete
import Derived.Sort.OwnSorted
namespace Go.Proofs
open Go.Shelf
def Tryz.renB : Go.Shelf.Ren := ⟨fun | 25 => 72 | n => n, fun | 37 => 124 | 47 => 183 | n => n, fun | n => n⟩
theorem Tryz.laysB : LaysPu.n25 Tryz.prog Tryz.renB := {
  mixed := by kernel_rfl
  f25 := Tryz.func72.trans (congrArg some (by kernel_rfl))
  t0 := Tryz.underlying0
  a0 := Tryz.isAgg0
  z0 := Tryz.sizeOf0
  v0 := Tryz.zeroValue0
  i0 := by kernel_rfl
  t3 := Tryz.underlying3
  a3 := Tryz.isAgg3
  z3 := Tryz.sizeOf3
  v3 := Tryz.zeroValue3
  i3 := by kernel_rfl
  t4 := Tryz.underlying4
  a4 := Tryz.isAgg4
  z4 := Tryz.sizeOf4
  v4 := Tryz.zeroValue4
  i4 := by kernel_rfl
  t5 := Tryz.underlying5
  a5 := Tryz.isAgg5
  z5 := Tryz.sizeOf5
  v5 := Tryz.zeroValue5
  i5 := by kernel_rfl
  t9 := Tryz.underlying9
  a9 := Tryz.isAgg9
  z9 := Tryz.sizeOf9
  v9 := Tryz.zeroValue9
  i9 := by kernel_rfl
  t37 := Tryz.underlying124
  a37 := Tryz.isAgg124
  z37 := Tryz.sizeOf124
  v37 := Tryz.zeroValue124
  i37 := by kernel_rfl
  t47 := Tryz.underlying183
  a47 := Tryz.isAgg183
  z47 := Tryz.sizeOf183
  v47 := Tryz.zeroValue183
  i47 := by kernel_rfl }
def Tryz.renC : Go.Shelf.Ren := ⟨fun | 24 => 74 | n => n, fun | 24 => 32 | n => n, fun | n => n⟩
theorem Tryz.laysD : Lays2.n24 Tryz.prog Tryz.renC := {
  mixed := by kernel_rfl
  f24 := Tryz.func74.trans (congrArg some (by kernel_rfl))
  t0 := Tryz.underlying0
  a0 := Tryz.isAgg0
  z0 := Tryz.sizeOf0
  v0 := Tryz.zeroValue0
  t3 := Tryz.underlying3
  a3 := Tryz.isAgg3
  z3 := Tryz.sizeOf3
  v3 := Tryz.zeroValue3
  t4 := Tryz.underlying4
  a4 := Tryz.isAgg4
  z4 := Tryz.sizeOf4
  v4 := Tryz.zeroValue4
  t9 := Tryz.underlying9
  a9 := Tryz.isAgg9
  z9 := Tryz.sizeOf9
  v9 := Tryz.zeroValue9
  t24 := Tryz.underlying32
  a24 := Tryz.isAgg32
  z24 := Tryz.sizeOf32
  v24 := Tryz.zeroValue32
  i9 := by kernel_rfl }
end Go.Proofs
namespace Go.Proofs.YtcadlcpccemkbaaGreatDoor
open Go.RowKit Go.Sort
set_option maxRecDepth 100000

theorem clone_any (s : ByteArray) (w : World) (hs : s.size ≤ 281474976710656) :
    Calls Tryz.prog 39 #[.string s] w fun e w' => e = .returned (.string s) ∧ Below w.heap.size w w' := by
  have k := fun w => hide1 (AnyPu.stringslite_Clone Tryz.laysB s w hs)
  change ∀ w, Hid (Calls Tryz.prog 72 #[.string s] w fun e w' => e = .returned (.string s) ∧ Below w.heap.size w w') at k
  go_enter Tryz.func39, Tryz.ntmps39
  go_wp2_with (go_at_call 72; refine (k _).out.mono ?_; rintro e w1 ⟨rfl, hb⟩)
  go_ret
  exact ⟨rfl, hb⟩

theorem enc_data (b : ByteArray) : encStr b.data.toList = Value.string b := by simp [encStr]
theorem map_enc (A : List ByteArray) : (A.map fun b => b.data.toList).map encStr = strs A := by
  simp [strs, enc_data]

theorem delete_any {B : Nat} {v : Value} {A : List ByteArray} {w : World} {k : Nat} (h : Lst B w v A) (hk0 : 0 < k) (hk : k ≤ A.length) :
    Calls Tryz.prog 74 #[v, .int .i64 0, .int .i64 (k : Int)] w fun e w' => ∃ v', e = .returned v' ∧ Lst B w' v' (A.drop k) ∧ w.grownBy w' v.ownBlock ∧ v'.ownBlock = v.ownBlock := by
  rcases id h.2 with ⟨rfl, h0⟩ | ⟨g, cap, cur, rfl, hb, hgg, hnc, hcm, hcs, htake⟩
  · omega
  · rw [Nat.mul_one] at htake hcs
    have hl : (A.map fun b => b.data.toList).length = A.length := by simp
    have hH : Holds encStr w g 0 (A.map fun b => b.data.toList).toArray := holds_of_block hgg (by rw [hl, htake, map_enc])
    have hcm' : cap ≤ 9223372036854775807 := hcm
    have kk := Any.slices_Delete_string Tryz.laysD g 0 cap 0 k (A.map fun b => b.data.toList) w hH (by rw [hl]; exact hnc) hcm' (by omega) (by rw [hl]; omega)
    rw [hl] at kk
    refine kk.mono ?_
    rintro e w' ⟨rfl, q, rfl⟩
    obtain ⟨ts, hts⟩ : ∃ ts, ts = (A.map fun b => b.data.toList).take 0 ++ (A.map fun b => b.data.toList).drop k ++ List.replicate (k - 0) [] := ⟨_, rfl⟩
    rw [← hts]
    have htl : ts.length = A.length := by rw [hts]; simp; omega
    have hrow := heap_sorted (n := q) (os := #[]) ts.toArray hgg
    have hgr := grownBy_sorted (w := w) (g := g) (n := q) (os := #[]) ts.toArray
    rw [grow_empty] at hrow hgr
    have hel : (A.drop k).length = A.length - k := by simp
    refine ⟨_, rfl, ⟨by simp [strs], .inr ⟨g, cap, _, by rw [hel, Nat.sub_zero], hb, hrow, by omega, hcm, by simp [putCells, hcs], ?_⟩⟩, hgr, rfl⟩
    have e1 := take_putCells cur ts (by omega)
    have e2 : (putCells encStr 0 ts.toArray cur).toList.take ((A.drop k).length * 1) = ((putCells encStr 0 ts.toArray cur).toList.take ts.length).take ((A.drop k).length * 1) := by
      rw [List.take_take, Nat.min_eq_left (by omega)]
    rw [e2, e1, hts, ← map_enc, List.map_take.symm]
    congr 1
    rw [List.take_left' (by simp)]
    simp

end Go.Proofs.YtcadlcpccemkbaaGreatDoor
