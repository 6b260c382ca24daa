/- Bits, and the walk of RingBits. -/
import Derived.Test.YtgcbdjmlhjbacaaJ04
import Derived.Test.YtgcbdjmlhjbacaaJ05
namespace Go.Proofs.Ytgcbdjmlhjbacaa.Ri
open Go.RowKit
set_option maxRecDepth 100000
attribute [local go_sem] not_any mf_any

/- the first k told, the others d -/
def told {α : Type} (f : Nat → α) (d : α) (m k : Nat) : List α := (List.range m).map (fun i => if i < k then f i else d)

theorem told_length {α : Type} (f : Nat → α) (d : α) (m k : Nat) : (told f d m k).length = m := by simp [told]
theorem told_get {α : Type} {f : Nat → α} {d : α} {m k j : Nat} (h : j < m) : (told f d m k)[j]? = some (if j < k then f j else d) := by
  unfold told
  rw [List.getElem?_map, List.getElem?_range h]
  rfl
theorem told_zero {α : Type} (f : Nat → α) (d : α) (m : Nat) : told f d m 0 = List.replicate m d := by
  apply List.ext_getElem
  · simp [told]
  · intro j h1 h2
    simp [told]
theorem told_succ {α : Type} (f : Nat → α) (d : α) {m k : Nat} : told f d m (k + 1) = (told f d m k).set k (f k) := by
  apply List.ext_getElem
  · simp [told]
  · intro j h1 h2
    rw [List.getElem_set]
    simp only [told, List.getElem_map, List.getElem_range]
    by_cases hj : k = j
    · subst hj
      simp
    · have : (j < k + 1) ↔ j < k := by omega
      simp [hj, this]

def bools (l : List Bool) : List Value := l.map Value.bool
def brow (l : List Bool) : Obj := .cells (bools l).toArray 4 (0, 0)

theorem make_bools (m : Nat) (hm : m ≤ 4194304) (w : World) : (Instr.makeSlice 29 (.int .i64 (m : Int)) (.int .i64 (m : Int))).run Try.prog w = .ok (.slice (some ⟨w.heap.size, 0, none⟩) m m) (w.alloc (brow (List.replicate m false))) := by
  have hi : (Try.prog.info? 4).map (fun i => (i.zero, i.size, i.bytes)) = some (some (.bool false), 1, 1) := by kernel_rfl
  obtain ⟨i0, hi, hz0, hz1, hz2⟩ := info_parts hi
  have h := run_make (P := Try.prog) w 29 4 i0 _ Try.underlying29 hi hz0 .i64 .i64 (m : Int) (m : Int) (by omega) (by omega) (by rw [hz2]; omega) (by omega)
  rw [h, hz1]
  have e : madeCells (Value.bool false).cells ((m : Int).toNat * 1) = (bools (List.replicate m false)).toArray := by
    apply Array.ext
    · simp [madeCells, bools]
    · intro j h1 h2
      simp [madeCells, bools, Value.cells, Nat.mod_one]
  rw [e]
  rfl

theorem brow_cell {w : World} {g j : Nat} {x : Bool} {l : List Bool} (h : w.heap[g]? = some (brow l)) (hj : l[j]? = some x) : w.cell? ⟨g, j, none⟩ = some (.bool x) := by
  rw [cell_of_row w g j _ 4 (0, 0) h]
  simp [bools, hj]

theorem bset {w : World} {g j : Nat} {x : Bool} {l : List Bool} (h : w.heap[g]? = some (brow l)) : (w.setCell ⟨g, j, none⟩ (.bool x)).heap[g]? = some (brow (l.set j x)) := by
  rw [heap_setCell_same w g j _ 4 _ h]
  unfold brow bools
  congr 2
  simp

def bitAt (x j : Nat) : Bool := decide (x / 2 ^ j % 2 = 1)

theorem one_any {n k : Nat} (hn : n < 18446744073709551616) : (bits .and .u64 ((n : Int) / 2 ^ k) 1 == 1) = bitAt n k := by
  have e : bits .and .u64 ((n : Int) / 2 ^ k) 1 = ((n / 2 ^ k % 2 : Nat) : Int) := by
    rw [pow_int, ← Int.natCast_ediv, show (1 : Int) = ((1 : Nat) : Int) from rfl, u64_and_nat _ _ (Nat.lt_of_le_of_lt (Nat.div_le_self _ _) hn) (by omega), Nat.and_one_is_mod]
  rw [e]
  unfold bitAt
  by_cases h : n / 2 ^ k % 2 = 1
  · rw [h]; rfl
  · rw [show n / 2 ^ k % 2 = 0 by omega]; rfl

theorem bits_no (l : Int) (x : Int) (w : World) (h : ¬ (1 ≤ l ∧ l ≤ 64)) :
    Calls Try.prog 27 #[.int .i64 l, .int .u64 x] w fun e w' => e = .returned (.slice none 0 0) ∧ w' = w := by
  have hA := fun w => hide1 (allowed_any l w)
  rw [decide_eq_false h] at hA
  go_enter Try.func27, Try.ntmps27
  go_wp2_with (first | (go_at_call 41; refine (hA _).out.mono ?_; rintro e w' ⟨rfl, rfl⟩))
  go_ret
  exact ⟨rfl, rfl⟩

set_option maxHeartbeats 1000000 in
theorem bits_any (L x : Nat) (w : World) (h1 : 1 ≤ L) (h2 : L ≤ 64) (hx : x < 18446744073709551616) :
    Calls Try.prog 27 #[.int .i64 L, .int .u64 (x : Int)] w fun e w' => e = .returned (.slice (some ⟨w.heap.size, 0, none⟩) L L) ∧ w'.heap[w.heap.size]? = some (brow (told (bitAt x) false L L)) ∧ Below w.heap.size w w' := by
  have hA := fun w => hide1 (allowed_any L w)
  rw [decide_eq_true (by omega)] at hA
  have hmk := make_bools L (by omega)
  have hbit := fun k => one_any (k := k) hx
  go_enter Try.func27, Try.ntmps27
  go_wp2_with (first | (go_at_call 41; refine (hA _).out.mono ?_; rintro e w' ⟨rfl, rfl⟩))
  clear hmk hA
  go_loopw [13] (fun i wr => ∃ k : Nat, k ≤ L ∧ i = .int .i64 k ∧ wr.heap[w'.heap.size]? = some (brow (told (bitAt x) false L k)) ∧ Below w'.heap.size w' wr) (fun i _ => L - (intOf i).toNat)
  case atStart =>
    refine ⟨0, Nat.zero_le _, rfl, ?_, (Below.refl _ _).alloc (Nat.le_refl _) _⟩
    rw [told_zero]
    exact heap_alloc_new _ _
  case round =>
    obtain ⟨k, hk, rfl, hr, hB⟩ := hrel
    by_cases hlt : k < L
    · have hc := brow_cell hr (told_get hlt)
      have hf := frozen_of_row wr w'.heap.size k _ _ hr
      have hb := hbit k
      have HR := hide1 hr
      have HB := hide1 hB
      clear hr hB hbit
      obtain ⟨t, ht⟩ : ∃ t, t = bitAt x k := ⟨_, rfl⟩
      rw [← ht] at hb
      have HT := hide1 ht
      clear ht
      go_wp2
      go_roundw
      case rel =>
        refine ⟨k + 1, by omega, by go_num, ?_, ?_⟩
        · rw [told_succ, ← HT.out]
          exact bset HR.out
        · exact HB.out.setCell (Nat.le_refl _) _
      case measure => simp [intOf]; omega
    · have : k = L := by omega
      subst this
      go_wp2
      go_ret
      exact ⟨rfl, hr, hB⟩

end Go.Proofs.Ytgcbdjmlhjbacaa.Ri
