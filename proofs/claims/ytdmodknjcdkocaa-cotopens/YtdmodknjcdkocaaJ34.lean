/- The document's sums and products, bit by bit: R.Fit, R.Add, R.Neg, R.Sub, R.Mul, R.Pow. Bits, and the walk of RingBits. Lists: Dot, R.Dot, Scale, AddAll, SubAll. -/
import Derived.Test.YtdmodknjcdkocaaJ33
namespace Go.Proofs.Ytdmodknjcdkocaa.Ri
open Go.RowKit
set_option maxRecDepth 100000
attribute [local go_sem] not_any mf_any

theorem pow_int (k : Nat) : ((2 : Int) ^ k) = ((2 ^ k : Nat) : Int) := by simp
theorem pow_lt64 {k : Nat} (h : k < 64) : 2 ^ k < 18446744073709551616 := Nat.pow_lt_pow_right (by omega) h
theorem wrap_pow {k : Nat} (h : k < 64) : IntKind.u64.wrap (2 ^ k) = ((2 ^ k : Nat) : Int) := by
  rw [pow_int, wrap_nat, Nat.mod_eq_of_lt (pow_lt64 h)]
theorem bit_int (x k : Nat) : ((x : Int) / 2 ^ k).tmod 2 = ((x / 2 ^ k % 2 : Nat) : Int) := by
  rw [pow_int, ← Int.natCast_ediv]
  rfl
theorem mod_int (x k : Nat) : (x : Int) % 2 ^ k = ((x % 2 ^ k : Nat) : Int) := by rw [pow_int, ← Int.natCast_emod]
theorem bit_shl {d k : Nat} (hd : d ≤ 1) (h : k < 64) : d * 2 ^ k < 18446744073709551616 := by
  have := pow_lt64 h
  obtain rfl | rfl : d = 0 ∨ d = 1 := by omega
  · omega
  · omega

theorem rfit_round {x k : Nat} (hx : x < 18446744073709551616) (h : k < 64) : bits .or .u64 ((x : Int) % 2 ^ k) (bits .and .u64 (x : Int) (IntKind.u64.wrap (2 ^ k))) = ((x % 2 ^ (k + 1) : Nat) : Int) := by
  rw [wrap_pow h, mod_int, u64_and_nat _ _ hx (pow_lt64 h), and_bit, u64_or_nat _ _ (cut_lt (by omega) x) (bit_shl (by omega) h), fit_step]

theorem add_bits (a b k : Nat) : IntKind.u64.wrap (IntKind.u64.wrap (((a : Int) / 2 ^ k).tmod 2 + ((b : Int) / 2 ^ k).tmod 2) + (car a b k : Nat)) = ((a / 2 ^ k % 2 + b / 2 ^ k % 2 + car a b k : Nat) : Int) := by
  have := car_le a b k
  rw [bit_int, bit_int, ← Int.natCast_add, wrap_nat, Nat.mod_eq_of_lt (by omega), ← Int.natCast_add, wrap_nat, Nat.mod_eq_of_lt (by omega)]

theorem radd_out {a b k : Nat} (h : k < 64) : bits .or .u64 (((a : Int) + (b : Int)) % 2 ^ k) (IntKind.u64.wrap ((IntKind.u64.wrap (IntKind.u64.wrap (((a : Int) / 2 ^ k).tmod 2 + ((b : Int) / 2 ^ k).tmod 2) + (car a b k : Nat))).tmod 2 * 2 ^ k)) = (((a + b) % 2 ^ (k + 1) : Nat) : Int) := by
  rw [add_bits, ← Int.natCast_add, mod_int, add_step, pow_int]
  obtain ⟨s, hs⟩ : ∃ s, s = a / 2 ^ k % 2 + b / 2 ^ k % 2 + car a b k := ⟨_, rfl⟩
  rw [← hs, show ((s : Nat) : Int).tmod 2 = ((s % 2 : Nat) : Int) from rfl, ← Int.natCast_mul, wrap_nat, Nat.mod_eq_of_lt (bit_shl (by omega) h), u64_or_nat _ _ (cut_lt (by omega) _) (bit_shl (by omega) h)]

theorem radd_car {a b k : Nat} : IntKind.u64.wrap ((IntKind.u64.wrap (IntKind.u64.wrap (((a : Int) / 2 ^ k).tmod 2 + ((b : Int) / 2 ^ k).tmod 2) + (car a b k : Nat))).tdiv 2) = (car a b (k + 1) : Nat) := by
  have := car_le a b k
  rw [add_bits, car_step]
  obtain ⟨s, hs⟩ : ∃ s, s = a / 2 ^ k % 2 + b / 2 ^ k % 2 + car a b k := ⟨_, rfl⟩
  rw [← hs, show ((s : Nat) : Int).tdiv 2 = ((s / 2 : Nat) : Int) from rfl, wrap_nat, Nat.mod_eq_of_lt (by omega)]

set_option maxHeartbeats 1000000 in
theorem rfit_any (L x : Nat) (w : World) (h1 : 1 ≤ L) (h2 : L ≤ 64) (hx : x < 18446744073709551616) :
    Calls Try.prog 15 #[.int .i64 L, .int .u64 (x : Int)] w fun e w' => e = .returned (.int .u64 ((x % 2 ^ L : Nat) : Int)) ∧ w' = w := by
  go_enter Try.func15, Try.ntmps15
  go_wp2
  go_loopw [5, 6] (fun o i wr => ∃ k : Nat, k ≤ L ∧ i = .int .i64 k ∧ o = .int .u64 ((x % 2 ^ k : Nat) : Int) ∧ wr = w) (fun _ i _ => L - (intOf i).toNat)
  case atStart => exact ⟨0, Nat.zero_le _, rfl, by simp [Nat.mod_one], rfl⟩
  case round =>
    obtain ⟨k, hk, rfl, rfl, rfl⟩ := hrel
    by_cases hlt : k < L
    · go_wp2
      go_roundw
      case rel => exact ⟨k + 1, by omega, by go_num, by rw [rfit_round hx (by omega)], by trivial⟩
      case measure => simp [intOf]; omega
    · have : k = L := by omega
      subst this
      go_wp2
      all_goals go_ret
      all_goals exact ⟨rfl, rfl⟩

set_option maxHeartbeats 1000000 in
theorem radd_any (L a b : Nat) (w : World) (h1 : 1 ≤ L) (h2 : L ≤ 64) (_ha : a < 18446744073709551616) (_hb : b < 18446744073709551616) :
    Calls Try.prog 29 #[.int .i64 L, .int .u64 (a : Int), .int .u64 (b : Int)] w fun e w' => e = .returned (.int .u64 (((a + b) % 2 ^ L : Nat) : Int)) ∧ w' = w := by
  go_enter Try.func29, Try.ntmps29
  go_wp2
  go_loopw [7, 8, 9] (fun o c i wr => ∃ k : Nat, k ≤ L ∧ i = .int .i64 k ∧ o = .int .u64 (((a + b) % 2 ^ k : Nat) : Int) ∧ c = .int .u64 (car a b k : Nat) ∧ wr = w) (fun _ _ i _ => L - (intOf i).toNat)
  case atStart => exact ⟨0, Nat.zero_le _, rfl, by simp [Nat.mod_one], by simp [car_zero], rfl⟩
  case round =>
    obtain ⟨k, hk, rfl, rfl, rfl, rfl⟩ := hrel
    by_cases hlt : k < L
    · go_wp2
      go_roundw
      case rel => exact ⟨k + 1, by omega, by go_num, by rw [radd_out (by omega)], by rw [radd_car], by trivial⟩
      case measure => simp [intOf]; omega
    · have : k = L := by omega
      subst this
      go_wp2
      all_goals go_ret
      all_goals exact ⟨rfl, rfl⟩

theorem rneg_any (a : Nat) (w : World) (ha : a < 18446744073709551616) :
    Calls Try.prog 43 #[.int .i64 64, .int .u64 (a : Int)] w fun e w' => e = .returned (.int .u64 (((18446744073709551616 - a) % 18446744073709551616 : Nat) : Int)) ∧ w' = w := by
  have e : IntKind.u64.wrap (18446744073709551615 - (a : Int)) = ((18446744073709551615 - a : Nat) : Int) := by rw [wrap_mod]; omega
  have hA := fun w => hide1 (radd_any 64 (18446744073709551615 - a) 1 w (by omega) (by omega) (by omega) (by omega))
  rw [show 18446744073709551615 - a + 1 = 18446744073709551616 - a by omega, show (2 : Nat) ^ 64 = 18446744073709551616 from rfl] at hA
  obtain ⟨z, hz⟩ : ∃ z, z = ((18446744073709551615 - a : Nat) : Int) := ⟨_, rfl⟩
  rw [← hz] at hA e
  clear hz
  go_enter Try.func43, Try.ntmps43
  go_wp2_with (first | (go_at_call 29; refine (hA _).out.mono ?_; rintro e w' ⟨rfl, rfl⟩))
  go_ret
  exact ⟨by trivial, rfl⟩

theorem rsub_any (L a b : Nat) (w : World) (h1 : 1 ≤ L) (h2 : L ≤ 64) (ha : a < 18446744073709551616) (hb : b < 18446744073709551616) :
    Calls Try.prog 28 #[.int .i64 L, .int .u64 (a : Int), .int .u64 (b : Int)] w fun e w' => e = .returned (.int .u64 (((a + (18446744073709551616 - b)) % 2 ^ L : Nat) : Int)) ∧ w' = w := by
  have hN := fun w => hide1 (rneg_any b w hb)
  have hA := fun w => hide1 (radd_any L a ((18446744073709551616 - b) % 18446744073709551616) w h1 h2 ha (by omega))
  rw [sub_cut L h2] at hA
  obtain ⟨z, hz⟩ : ∃ z, z = (18446744073709551616 - b) % 18446744073709551616 := ⟨_, rfl⟩
  rw [← hz] at hA hN
  clear hz
  go_enter Try.func28, Try.ntmps28
  go_wp2_with (first | (go_at_call 43; refine (hN _).out.mono ?_; rintro e w' ⟨rfl, rfl⟩) | (go_at_call 29; refine (hA _).out.mono ?_; rintro e w' ⟨rfl, rfl⟩))
  go_ret
  exact ⟨by trivial, rfl⟩

theorem bit_is {x k : Nat} (h : x / 2 ^ k % 2 = 1) : (((x : Int) / 2 ^ k).tmod 2 == 1) = true := by rw [bit_int, h]; rfl
theorem bit_isnt {x k : Nat} (h : ¬ x / 2 ^ k % 2 = 1) : (((x : Int) / 2 ^ k).tmod 2 == 1) = false := by
  rw [bit_int, show x / 2 ^ k % 2 = 0 by omega]
  rfl

end Go.Proofs.Ytdmodknjcdkocaa.Ri

namespace Go.Proofs.Ytdmodknjcdkocaa.Ri
open Go.RowKit
set_option maxRecDepth 100000
attribute [local go_sem] not_any mf_any

/- the first k told, the others d -/
def told {α : Type} (f : Nat → α) (d : α) (m k : Nat) : List α := (List.range m).map (fun i => if i < k then f i else d)

theorem told_length {α : Type} (f : Nat → α) (d : α) (m k : Nat) : (told f d m k).length = m := by simp [told]
theorem told_get {α : Type} {f : Nat → α} {d : α} {m k j : Nat} (h : j < m) : (told f d m k)[j]? = some (if j < k then f j else d) := by
  unfold told
  rw [List.getElem?_map, List.getElem?_range h]
  rfl
theorem told_zero {α : Type} (f : Nat → α) (d : α) (m : Nat) : told f d m 0 = List.replicate m d := by
  apply List.ext_getElem
  · simp [told]
  · intro j h1 h2
    simp [told]
theorem told_succ {α : Type} (f : Nat → α) (d : α) {m k : Nat} : told f d m (k + 1) = (told f d m k).set k (f k) := by
  apply List.ext_getElem
  · simp [told]
  · intro j h1 h2
    rw [List.getElem_set]
    simp only [told, List.getElem_map, List.getElem_range]
    by_cases hj : k = j
    · subst hj
      simp
    · have : (j < k + 1) ↔ j < k := by omega
      simp [hj, this]

def bools (l : List Bool) : List Value := l.map Value.bool
def brow (l : List Bool) : Obj := .cells (bools l).toArray 4 (0, 0)

theorem make_bools (m : Nat) (hm : m ≤ 4194304) (w : World) : (Instr.makeSlice 35 (.int .i64 (m : Int)) (.int .i64 (m : Int))).run Try.prog w = .ok (.slice (some ⟨w.heap.size, 0, none⟩) m m) (w.alloc (brow (List.replicate m false))) := by
  have hi : (Try.prog.info? 4).map (fun i => (i.zero, i.size, i.bytes)) = some (some (.bool false), 1, 1) := by kernel_rfl
  obtain ⟨i0, hi, hz0, hz1, hz2⟩ := info_parts hi
  have h := run_make (P := Try.prog) w 35 4 i0 _ Try.underlying35 hi hz0 .i64 .i64 (m : Int) (m : Int) (by omega) (by omega) (by rw [hz2]; omega) (by omega)
  rw [h, hz1]
  have e : madeCells (Value.bool false).cells ((m : Int).toNat * 1) = (bools (List.replicate m false)).toArray := by
    apply Array.ext
    · simp [madeCells, bools]
    · intro j h1 h2
      simp [madeCells, bools, Value.cells, Nat.mod_one]
  rw [e]
  rfl

theorem brow_cell {w : World} {g j : Nat} {x : Bool} {l : List Bool} (h : w.heap[g]? = some (brow l)) (hj : l[j]? = some x) : w.cell? ⟨g, j, none⟩ = some (.bool x) := by
  rw [cell_of_row w g j _ 4 (0, 0) h]
  simp [bools, hj]

theorem bset {w : World} {g j : Nat} {x : Bool} {l : List Bool} (h : w.heap[g]? = some (brow l)) : (w.setCell ⟨g, j, none⟩ (.bool x)).heap[g]? = some (brow (l.set j x)) := by
  rw [heap_setCell_same w g j _ 4 _ h]
  unfold brow bools
  congr 2
  simp

def bitAt (x j : Nat) : Bool := decide (x / 2 ^ j % 2 = 1)

theorem one_any {n k : Nat} (hn : n < 18446744073709551616) : (bits .and .u64 ((n : Int) / 2 ^ k) 1 == 1) = bitAt n k := by
  have e : bits .and .u64 ((n : Int) / 2 ^ k) 1 = ((n / 2 ^ k % 2 : Nat) : Int) := by
    rw [pow_int, ← Int.natCast_ediv, show (1 : Int) = ((1 : Nat) : Int) from rfl, u64_and_nat _ _ (Nat.lt_of_le_of_lt (Nat.div_le_self _ _) hn) (by omega), Nat.and_one_is_mod]
  rw [e]
  unfold bitAt
  by_cases h : n / 2 ^ k % 2 = 1
  · rw [h]; rfl
  · rw [show n / 2 ^ k % 2 = 0 by omega]; rfl

end Go.Proofs.Ytdmodknjcdkocaa.Ri

namespace Go.Proofs.Ytdmodknjcdkocaa.Ri
open Go.RowKit
set_option maxRecDepth 100000
attribute [local go_sem] not_any mf_any

def at0 (ws : List Nat) (j : Nat) : Nat := ws.getD j 0

theorem at0_eq {ws : List Nat} {j x : Nat} (h : ws[j]? = some x) : at0 ws j = x := by simp [at0, h]

/- as Nl.get, the number by its place -/
theorem Nl.val {w : World} {m : Nat} {a : Option Addr} {ws : List Nat} (h : Nl w m a ws) {k : Nat} (hk : k < m) : ∃ g o, a = some ⟨g, o, none⟩ ∧ w.cell? ⟨g, o + k, none⟩ = some (.int .u64 (at0 ws k : Nat)) := by
  obtain ⟨x, hx⟩ : ∃ x, ws[k]? = some x := ⟨_, List.getElem?_eq_getElem (by rw [h.len]; exact hk)⟩
  obtain ⟨g, o, h1, h2⟩ := h.at' k x hx
  exact ⟨g, o, h1, by rw [at0_eq hx]; exact h2⟩

theorem Small.at0 {ws : List Nat} (h : Small ws) (k : Nat) : at0 ws k < 18446744073709551616 := by
  unfold Ytdmodknjcdkocaa.Ri.at0
  rw [List.getD_eq_getElem?_getD]
  cases hk : ws[k]? with
  | none => simp
  | some x => exact h k x hk

theorem make_words (m : Nat) (hm : m ≤ 4194304) (w : World) : (Instr.makeSlice 23 (.int .i64 (m : Int)) (.int .i64 (m : Int))).run Try.prog w = .ok (.slice (some ⟨w.heap.size, 0, none⟩) m m) (w.alloc (wrow (List.replicate m 0))) := by
  have hi : (Try.prog.info? 49).map (fun i => (i.zero, i.size, i.bytes)) = some (some (.int .u64 0), 1, 8) := by kernel_rfl
  obtain ⟨i0, hi, hz0, hz1, hz2⟩ := info_parts hi
  have h := run_make (P := Try.prog) w 23 49 i0 _ Try.underlying23 hi hz0 .i64 .i64 (m : Int) (m : Int) (by omega) (by omega) (by rw [hz2]; omega) (by omega)
  rw [h, hz1]
  have e : madeCells (Value.int IntKind.u64 0).cells ((m : Int).toNat * 1) = (u64s (List.replicate m 0)).toArray := by
    apply Array.ext
    · simp [madeCells, u64s]
    · intro j h1 h2
      simp [madeCells, u64s, Value.cells, Nat.mod_one]
  rw [e]
  rfl

theorem wset {w : World} {g j x : Nat} {ws : List Nat} (h : w.heap[g]? = some (wrow ws)) : (w.setCell ⟨g, j, none⟩ (.int .u64 (x : Int))).heap[g]? = some (wrow (ws.set j x)) := by
  rw [heap_setCell_same w g j _ 49 _ h]
  unfold wrow u64s
  congr 2
  simp

theorem wrap_add (x y : Nat) : IntKind.u64.wrap ((x : Int) + (y : Int)) = (((x + y) % 18446744073709551616 : Nat) : Int) := by rw [← Int.natCast_add, wrap_nat]
theorem wrap_mulN (x y : Nat) : IntKind.u64.wrap ((x : Int) * (y : Int)) = ((x * y % 18446744073709551616 : Nat) : Int) := by rw [← Int.natCast_mul, wrap_nat]

def prods (xs ys : List Nat) (j : Nat) : Nat := at0 xs j * at0 ys j

theorem dot_step (xs ys : List Nat) (k m : Nat) : (sumTo (prods xs ys) k % m + at0 xs k * at0 ys k % m) % m = sumTo (prods xs ys) (k + 1) % m := by
  rw [← Nat.add_mod]
  rfl

end Go.Proofs.Ytdmodknjcdkocaa.Ri
