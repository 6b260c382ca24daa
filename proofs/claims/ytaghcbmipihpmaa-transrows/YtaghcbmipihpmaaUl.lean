/- Rows. -/
import Derived.Test.YtaghcbmipihpmaaUk
namespace Go.Proofs.Ytaghcbmipihpmaa
open Go.RowKit
set_option maxRecDepth 100000
attribute [local go_sem] not_any

/- rows of the call's own -/
def rcs (R : Nat → Nat → Nat) (n : Nat) : List Value := (List.range (n * 2)).map fun x => .int .u64 (R (x / 2) (x % 2) : Nat)
def rrow (R : Nat → Nat → Nat) (n : Nat) : Obj := .cells (rcs R n).toArray 39 (0, 0)
theorem rcs_get {R : Nat → Nat → Nat} {n x : Nat} (h : x < n * 2) : (rcs R n)[x]? = some (.int .u64 (R (x / 2) (x % 2) : Nat)) := by simp [rcs, h]
theorem rcs_length (R : Nat → Nat → Nat) (n : Nat) : (rcs R n).length = n * 2 := by simp [rcs]
theorem rcs_congr {R S : Nat → Nat → Nat} {n : Nat} (h : ∀ j p, j < n → p < 2 → R j p = S j p) : rcs R n = rcs S n := List.map_congr_left fun x hx => by
  have := List.mem_range.1 hx
  rw [h (x / 2) (x % 2) (by omega) (by omega)]
theorem rcs_set {R : Nat → Nat → Nat} {n j p : Nat} (v : Nat) (hp : p < 2) : (rcs R n).set (j * 2 + p) (.int .u64 (v : Int)) = rcs (fun j' p' => if j' = j ∧ p' = p then v else R j' p') n := by
  refine List.ext_getElem? fun x => ?_
  by_cases hx : x < n * 2
  · rw [rcs_get hx, List.getElem?_set, rcs_length]
    by_cases e : j * 2 + p = x
    · rw [if_pos e, if_pos (by omega), if_pos (by omega)]
    · rw [if_neg e, rcs_get hx, if_neg (by omega)]
  · rw [List.getElem?_eq_none (by rw [List.length_set, rcs_length]; omega), List.getElem?_eq_none (by rw [rcs_length]; omega)]
theorem rrow_cell {w : World} {g j p n : Nat} {R : Nat → Nat → Nat} (h : w.heap[g]? = some (rrow R n)) (hj : j < n) (hp : p < 2) : w.cell? ⟨g, j * 2 + p, none⟩ = some (.int .u64 (R j p : Nat)) := by
  rw [cell_of_row w g _ _ _ (0, 0) h]
  simp only [List.getElem?_toArray]
  rw [rcs_get (by omega), show (j * 2 + p) / 2 = j by omega, show (j * 2 + p) % 2 = p by omega]
theorem rrow_set {w : World} {g j p v n : Nat} {R : Nat → Nat → Nat} (h : w.heap[g]? = some (rrow R n)) (hp : p < 2) : (w.setCell ⟨g, j * 2 + p, none⟩ (.int .u64 (v : Int))).heap[g]? = some (rrow (fun j' p' => if j' = j ∧ p' = p then v else R j' p') n) := by
  rw [heap_setCell_same w g _ _ _ _ h]
  unfold rrow
  rw [← rcs_set v hp]
  congr 2
  simp
theorem rrow_rws {w : World} {g n : Nat} {R : Nat → Nat → Nat} (h : w.heap[g]? = some (rrow R n)) (hlt : ∀ j p, R j p < 18446744073709551616) : Rws w n (some ⟨g, 0, none⟩) R :=
  ⟨fun j hj => ⟨g, 0, rfl, by rw [Nat.zero_add]; exact rrow_cell (p := 0) h hj (by omega), by rw [Nat.zero_add]; exact rrow_cell (p := 1) h hj (by omega)⟩, hlt⟩
theorem make_rows (m : Nat) (hm : m ≤ 65536) (w : World) : (Instr.makeSlice 22 (.int .i64 (m : Int)) (.int .i64 (m : Int))).run Try.prog w = .ok (.slice (some ⟨w.heap.size, 0, none⟩) m m) (w.alloc (rrow (fun _ _ => 0) m)) := by
  have hi : (Try.prog.info? 39).map (fun i => (i.zero, i.size, i.bytes)) = some (some (.agg #[.int .u64 0, .int .u64 0]), 2, 16) := by kernel_rfl
  obtain ⟨i0, hi, hz0, hz1, hz2⟩ := info_parts hi
  have h := run_make (P := Try.prog) w 22 39 i0 _ Try.underlying22 hi hz0 .i64 .i64 (m : Int) (m : Int) (by omega) (by omega) (by rw [hz2]; omega) (by omega)
  rw [h, hz1]
  have e : madeCells (Value.agg #[.int .u64 0, .int .u64 0]).cells ((m : Int).toNat * 2) = (rcs (fun _ _ => 0) m).toArray := by
    apply Array.ext
    · simp [madeCells, rcs]
    · intro j h1 h2
      have : j % 2 = 0 ∨ j % 2 = 1 := by omega
      rcases this with e | e <;> simp [madeCells, rcs, Value.cells, e]
  rw [e]
  rfl

def rowsTo (R : Nat → Nat → Nat) (p b : Nat) (f : Nat → Nat) (k j p' : Nat) : Nat := if p' = p ∧ b * 64 ≤ j ∧ j < b * 64 + k then f (j - b * 64) else R j p'
structure Kpr (w w' : World) (g : Nat) : Prop where
  bel : Below g w w'
  oth : ∀ k, k < w.heap.size → k ≠ g → w'.heap[k]? = w.heap[k]?

set_option maxHeartbeats 2000000 in
theorem toRows_any (t : TypeId) (w : World) (gs gr n p b : Nat) (f : Nat → Nat) (R : Nat → Nat → Nat) (hs : w.heap[gs]? = some (row64 t (sq f))) (hr : w.heap[gr]? = some (rrow R n)) (hne : gs ≠ gr) (h1 : b * 64 < n) (h2 : n ≤ 65536) (hp : p < 2) :
    Calls Try.prog 32 #[.pointer (some ⟨gs, 0, none⟩), .slice (some ⟨gr, 0, none⟩) n n, .int .i64 p, .int .i64 b] w fun e w' => e = .returned (.tuple #[]) ∧ w'.heap[gr]? = some (rrow (rowsTo R p b f 64) n) ∧ Kpr w w' gr := by
  have HI := fun w => hide1 (inBlock_any w gr 0 n n b h1 (by omega) (Nat.le_refl _))
  obtain ⟨m, hm⟩ : ∃ m, m = min 64 (n - b * 64) := ⟨_, rfl⟩
  obtain ⟨O, hO⟩ : ∃ O, O = 0 + b * 64 * 2 := ⟨_, rfl⟩
  obtain ⟨c', hc'⟩ : ∃ c', c' = n - b * 64 := ⟨_, rfl⟩
  rw [← hm, ← hO, ← hc'] at HI
  have m64 : m ≤ 64 := by omega
  have HM := hide1 hm
  have HO := hide1 hO
  have HS := hide1 hs
  have HR := hide1 hr
  clear hs hr hm hO hc'
  have hp' : (p : Int) < 2 := by omega
  go_enter Try.func32, Try.ntmps32
  go_wp2_with fail
  go_at_call 42
  refine (HI _).out.mono ?_
  rintro e w' ⟨rfl, rfl⟩
  go_wp2
  go_loopw [15] (fun i wr => ∃ k : Nat, k ≤ m ∧ i = .int .i64 k ∧ wr.heap[gr]? = some (rrow (rowsTo R p b f k) n) ∧ Kpr w' wr gr) (fun i _ => m - (intOf i).toNat)
  case atStart =>
    refine ⟨0, Nat.zero_le _, rfl, ?_, ⟨Below.refl _ _, fun _ _ _ => rfl⟩⟩
    rw [HR.out]
    unfold rrow
    rw [show rcs R n = rcs (rowsTo R p b f 0) n from rcs_congr (fun j p' _ _ => (if_neg (by omega) : rowsTo R p b f 0 j p' = R j p').symm)]
  case round =>
    obtain ⟨k, hk, rfl, hrow, hK⟩ := hrel
    have HW := hide1 hrow
    have HK := hide1 hK
    by_cases hlt : k < m
    · have hs := (hK.oth gs (lt_heap HS.out) hne).trans HS.out
      have c1 := cell64 hs (sq_get (show k < 64 by omega))
      have c2 := rrow_cell (j := b * 64 + k) hrow (by have := HM.out; omega) hp
      have eO : (b * 64 + k) * 2 + p = O + k * 2 + p := by have := HO.out; omega
      have HN := hide1 (rrow_set (j := b * 64 + k) (v := f k) hrow hp)
      rw [eO] at c2 HN
      have f2 := frozen_of_row wr gr (O + k * 2 + p) _ _ hrow
      obtain ⟨x, hx⟩ : ∃ x, x = f k := ⟨_, rfl⟩
      obtain ⟨y, hy⟩ : ∃ y, y = rowsTo R p b f k (b * 64 + k) p := ⟨_, rfl⟩
      rw [← hx] at c1 HN
      rw [← hy] at c2
      have HX := hide1 hx
      clear hrow hK hs eO hx hy
      go_wp2
      go_region
      go_wp2
      go_roundw
      case rel =>
        refine ⟨k + 1, by omega, by go_num, ?_, ⟨(HK.out.bel.drew).setCell (Nat.le_refl _) _, fun q hq hqn => ?_⟩⟩
        · have h9 := HN.out
          refine Eq.trans (b := some (rrow (fun j' p' => if j' = b * 64 + k ∧ p' = p then x else rowsTo R p b f k j' p') n)) h9 ?_
          unfold rrow
          rw [rcs_congr (fun j p' _ _ => ?_)]
          unfold rowsTo
          by_cases e : j = b * 64 + k ∧ p' = p
          · rw [if_pos e, if_pos (by omega), HX.out, e.1, Nat.add_sub_cancel_left]
          · rw [if_neg e]
            by_cases e2 : p' = p ∧ b * 64 ≤ j ∧ j < b * 64 + k
            · rw [if_pos e2, if_pos (by omega)]
            · rw [if_neg e2, if_neg (by omega)]
        · exact (heap_setCell_other wr.drew ⟨gr, O + k * 2 + p, none⟩ q _ hqn).trans (HK.out.oth q hq hqn)
      case measure => simp [intOf]; omega
    · obtain rfl : k = m := by omega
      clear hrow hK
      go_wp2
      go_end0
      refine ⟨rfl, ?_, HK.out⟩
      rw [HW.out]
      unfold rrow
      rw [rcs_congr (fun j p' hj _ => ?_)]
      unfold rowsTo
      by_cases e2 : p' = p ∧ b * 64 ≤ j ∧ j < b * 64 + k
      · rw [if_pos e2, if_pos (by omega)]
      · rw [if_neg e2, if_neg (by have := HM.out; omega)]
end Go.Proofs.Ytaghcbmipihpmaa
