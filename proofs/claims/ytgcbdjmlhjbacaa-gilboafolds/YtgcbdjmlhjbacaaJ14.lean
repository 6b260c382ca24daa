/- Bits told anew: Raw, With, Bools. -/
import Derived.Test.YtgcbdjmlhjbacaaJ13
namespace Go.Proofs.Ytgcbdjmlhjbacaa.T
open Go.RowKit
set_option maxRecDepth 100000
theorem field_words (x : Value) (a : Option Addr) (n c : Nat) (w : World) : (Instr.field 25 (.agg #[x, .slice a n c]) 1).run Try.prog w = .ok (.slice a n c) w := by kernel_rfl
attribute [local go_sem] not_any mf_any field_words

theorem after3 {w w1 : World} {o1 o2 o3 : Obj} (hb : Below (((w.alloc o1).alloc o2).alloc o3).heap.size (((w.alloc o1).alloc o2).alloc o3) w1) :
    w1.heap[w.heap.size]? = some o1 ∧ w1.heap[w.heap.size + 1]? = some o2 ∧ w1.heap[w.heap.size + 2]? = some o3 ∧ Below w.heap.size w w1 := by
  have h := after2 (w := w.alloc o1) hb
  simp at h
  refine ⟨?_, h.1, h.2.1, ?_⟩
  · exact (hb.block _ (by simp; omega)).trans ((Below.heap_alloc _ _ _ (by simp; omega)).trans (heap_alloc2_old _ _ _))
  · exact ((Below.refl _ _).alloc (Nat.le_refl _) _).trans (h.2.2.mono (by omega))

def brow (l : List Bool) : Obj := .cells (bools l).toArray 4 (0, 0)

theorem make_bools (m : Nat) (hm : m ≤ 4194304) (w : World) : (Instr.makeSlice 29 (.int .i64 (m : Int)) (.int .i64 (m : Int))).run Try.prog w = .ok (.slice (some ⟨w.heap.size, 0, none⟩) m m) (w.alloc (brow (List.replicate m false))) := by
  have hi : (Try.prog.info? 4).map (fun i => (i.zero, i.size, i.bytes)) = some (some (.bool false), 1, 1) := by kernel_rfl
  obtain ⟨i0, hi, hz0, hz1, hz2⟩ := info_parts hi
  have h := run_make (P := Try.prog) w 29 4 i0 _ Try.underlying29 hi hz0 .i64 .i64 (m : Int) (m : Int) (by omega) (by omega) (by rw [hz2]; omega) (by omega)
  rw [h, hz1]
  have e : madeCells (Value.bool false).cells ((m : Int).toNat * 1) = (bools (List.replicate m false)).toArray := by
    apply Array.ext
    · simp [madeCells, bools]
    · intro j h1 h2
      simp [madeCells, bools, Value.cells, Nat.mod_one]
  rw [e]
  rfl

theorem brow_cell {w : World} {g j : Nat} {x : Bool} {l : List Bool} (h : w.heap[g]? = some (brow l)) (hj : l[j]? = some x) : w.cell? ⟨g, j, none⟩ = some (.bool x) := by
  rw [cell_of_row w g j _ 4 (0, 0) h]
  simp [bools, hj]

theorem bset {w : World} {g j : Nat} {x : Bool} {l : List Bool} (h : w.heap[g]? = some (brow l)) : (w.setCell ⟨g, j, none⟩ (.bool x)).heap[g]? = some (brow (l.set j x)) := by
  rw [heap_setCell_same w g j _ 4 _ h]
  unfold brow bools
  congr 2
  simp

theorem bl_of_row {w : World} {g : Nat} {l : List Bool} (h : w.heap[g]? = some (brow l)) : Bl w l.length (some ⟨g, 0, none⟩) l :=
  ⟨rfl, fun j x hj => ⟨g, 0, rfl, by rw [Nat.zero_add]; exact brow_cell h hj⟩⟩

set_option maxHeartbeats 2000000 in
theorem bools_any (b : Nat) (w : World) (n : Nat) (a : Option Addr) (l : List Bool) (hv : Vc b w n a l) (hn : n ≤ 4194304) :
    Calls Try.prog 10 #[.agg #[.int .i64 n, .slice a (need n 64) (need n 64)]] w fun e w' => ∃ a', e = .returned (.slice a' n n) ∧ Bl w' n a' l ∧ Below w.heap.size w w' := by
  have hmk := make_bools n hn
  have HV := hide1 hv
  clear hv
  go_enter Try.func10, Try.ntmps10
  go_wp2
  clear hmk
  go_loopw [10] (fun i wr => ∃ k : Nat, k ≤ n ∧ i = .int .i64 k ∧ wr.heap[w.heap.size + 1]? = some (brow (firsts l k)) ∧ wr.heap[w.heap.size]? = some (.cells #[.int .i64 n, .slice a (need n 64) (need n 64)] 25 (0, 0)) ∧ Below w.heap.size w wr) (fun i _ => n - (intOf i).toNat)
  case atStart =>
    refine ⟨0, Nat.zero_le _, rfl, ?_, heap_alloc2_old _ _ _, ((Below.refl _ _).alloc (Nat.le_refl _) _).alloc (by simp) _⟩
    rw [firsts_zero, HV.out.len]
    exact heap_alloc2_new _ _ _
  case round =>
    obtain ⟨k, hk, rfl, hr, hx, hB⟩ := hrel
    by_cases hlt : k < n
    · obtain ⟨x, hxk⟩ : ∃ x, l[k]? = some x := ⟨_, List.getElem?_eq_getElem (by rw [HV.out.len]; exact hlt)⟩
      have HF := hide1 (firsts_succ hxk)
      have HG := hide1 (get_any b wr n a l k (HV.out.below hB (Nat.le_refl _)) hn)
      obtain ⟨d0, d1, _, _, l1⟩ := box2 hx
      rw [getI_nat, getD_of hxk] at HG
      have HR := hide1 hr
      have HX := hide1 hx
      clear hr hx hxk
      go_wp2_with (first | (go_at_call 21; refine HG.out.mono ?_; rintro e w2 ⟨rfl, hq⟩; have hb2 := gr_below hq; have r2 := hide1 ((hb2.block _ (lt_heap HR.out)).trans HR.out); have x2 := hide1 ((hb2.block _ (lt_heap HX.out)).trans HX.out); have hfz := frozen_of_row w2 (w.heap.size + 1) k _ _ r2.out; have hcc := brow_cell (j := k) r2.out (List.getElem?_eq_getElem (by rw [firsts_length, HV.out.len]; exact hlt)); clear hq))
      go_roundw
      case rel =>
        refine ⟨k + 1, by omega, by go_num, ?_, ?_, ?_⟩
        · rw [HF.out]
          exact bset r2.out
        · exact (Below.heap_setCell _ _ _ _ (by simp)).trans x2.out
        · exact (hB.trans (hb2.mono hB.size)).setCell (by simp) _
      case measure => simp [intOf]; omega
    · have : k = n := by omega
      subst this
      go_wp2
      go_ret
      refine ⟨_, rfl, ?_, hB⟩
      rw [firsts_all (by rw [HV.out.len]; omega)] at hr
      have := bl_of_row hr
      rwa [HV.out.len] at this

theorem andNot_pow {x j : Nat} (hx : x < 18446744073709551616) (hj : j < 64) : bits .andNot .u64 (x : Int) (2 ^ j) = ((x &&& (2 ^ 64 - 1 - 2 ^ j) : Nat) : Int) := by
  rw [pow_cast, u64_andNot_nat _ _ hx (pow_lt hj)]

end Go.Proofs.Ytgcbdjmlhjbacaa.T
