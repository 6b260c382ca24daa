/- Lists: Dot, R.Dot, Scale, AddAll, SubAll. -/
import Derived.Test.YtgcbdjmlhjbacaaJ06
namespace Go.Proofs.Ytgcbdjmlhjbacaa.Ri
open Go.RowKit
set_option maxRecDepth 100000
attribute [local go_sem] not_any mf_any

def at0 (ws : List Nat) (j : Nat) : Nat := ws.getD j 0

theorem at0_eq {ws : List Nat} {j x : Nat} (h : ws[j]? = some x) : at0 ws j = x := by simp [at0, h]

/- as Nl.get, the number by its place -/
theorem Nl.val {w : World} {m : Nat} {a : Option Addr} {ws : List Nat} (h : Nl w m a ws) {k : Nat} (hk : k < m) : ∃ g o, a = some ⟨g, o, none⟩ ∧ w.cell? ⟨g, o + k, none⟩ = some (.int .u64 (at0 ws k : Nat)) := by
  obtain ⟨x, hx⟩ : ∃ x, ws[k]? = some x := ⟨_, List.getElem?_eq_getElem (by rw [h.len]; exact hk)⟩
  obtain ⟨g, o, h1, h2⟩ := h.at' k x hx
  exact ⟨g, o, h1, by rw [at0_eq hx]; exact h2⟩

theorem Small.at0 {ws : List Nat} (h : Small ws) (k : Nat) : at0 ws k < 18446744073709551616 := by
  unfold Ytgcbdjmlhjbacaa.Ri.at0
  rw [List.getD_eq_getElem?_getD]
  cases hk : ws[k]? with
  | none => simp
  | some x => exact h k x hk

theorem make_words (m : Nat) (hm : m ≤ 4194304) (w : World) : (Instr.makeSlice 22 (.int .i64 (m : Int)) (.int .i64 (m : Int))).run Try.prog w = .ok (.slice (some ⟨w.heap.size, 0, none⟩) m m) (w.alloc (wrow (List.replicate m 0))) := by
  have hi : (Try.prog.info? 44).map (fun i => (i.zero, i.size, i.bytes)) = some (some (.int .u64 0), 1, 8) := by kernel_rfl
  obtain ⟨i0, hi, hz0, hz1, hz2⟩ := info_parts hi
  have h := run_make (P := Try.prog) w 22 44 i0 _ Try.underlying22 hi hz0 .i64 .i64 (m : Int) (m : Int) (by omega) (by omega) (by rw [hz2]; omega) (by omega)
  rw [h, hz1]
  have e : madeCells (Value.int IntKind.u64 0).cells ((m : Int).toNat * 1) = (u64s (List.replicate m 0)).toArray := by
    apply Array.ext
    · simp [madeCells, u64s]
    · intro j h1 h2
      simp [madeCells, u64s, Value.cells, Nat.mod_one]
  rw [e]
  rfl

theorem wset {w : World} {g j x : Nat} {ws : List Nat} (h : w.heap[g]? = some (wrow ws)) : (w.setCell ⟨g, j, none⟩ (.int .u64 (x : Int))).heap[g]? = some (wrow (ws.set j x)) := by
  rw [heap_setCell_same w g j _ 44 _ h]
  unfold wrow u64s
  congr 2
  simp

theorem wrap_add (x y : Nat) : IntKind.u64.wrap ((x : Int) + (y : Int)) = (((x + y) % 18446744073709551616 : Nat) : Int) := by rw [← Int.natCast_add, wrap_nat]
theorem wrap_mulN (x y : Nat) : IntKind.u64.wrap ((x : Int) * (y : Int)) = ((x * y % 18446744073709551616 : Nat) : Int) := by rw [← Int.natCast_mul, wrap_nat]

def prods (xs ys : List Nat) (j : Nat) : Nat := at0 xs j * at0 ys j

theorem dot_step (xs ys : List Nat) (k m : Nat) : (sumTo (prods xs ys) k % m + at0 xs k * at0 ys k % m) % m = sumTo (prods xs ys) (k + 1) % m := by
  rw [← Nat.add_mod]
  rfl

set_option maxHeartbeats 1000000 in
theorem scale_any (l : Int) (k0 : Nat) (w : World) (m ca : Nat) (a : Option Addr) (xs : List Nat) (ha : Nl w m a xs) (hm : m ≤ 4194304) :
    Calls Try.prog 32 #[.int .i64 l, .int .u64 (k0 : Int), .slice a m ca] w fun e w' => e = .returned (.slice (some ⟨w.heap.size, 0, none⟩) m m) ∧ w'.heap[w.heap.size]? = some (wrow (told (fun j => fit l (k0 * at0 xs j)) 0 m m)) ∧ Below w.heap.size w w' := by
  have HA := hide1 ha
  clear ha
  have hmk := make_words m hm
  go_enter Try.func32, Try.ntmps32
  go_wp2
  clear hmk
  go_loopw [14] (fun i wr => ∃ k : Nat, k ≤ m ∧ i = .int .i64 k ∧ wr.heap[w.heap.size]? = some (wrow (told (fun j => fit l (k0 * at0 xs j)) 0 m k)) ∧ Below w.heap.size w wr) (fun i _ => m - (intOf i).toNat)
  case atStart =>
    refine ⟨0, Nat.zero_le _, rfl, ?_, (Below.refl _ _).alloc (Nat.le_refl _) _⟩
    rw [told_zero]
    exact heap_alloc_new _ _
  case round =>
    obtain ⟨k, hk, rfl, hr, hB⟩ := hrel
    by_cases hlt : k < m
    · obtain ⟨g, o, rfl, hc⟩ := (HA.out.below hB (Nat.le_refl _)).val hlt
      have hf := frozen_of_row wr w.heap.size k _ _ hr
      have hc2 := row_cell hr (told_get hlt)
      have hM := fun w => hide1 (mul_any l k0 (at0 xs k) w)
      have HR := hide1 hr
      have HB := hide1 hB
      have HT := hide1 (told_succ (fun j => fit l (k0 * at0 xs j)) 0 (m := m) (k := k))
      obtain ⟨t, ht⟩ : ∃ t, t = fit l (k0 * at0 xs k) := ⟨_, rfl⟩
      rw [← ht] at hM HT
      obtain ⟨x, hx⟩ : ∃ x, x = at0 xs k := ⟨_, rfl⟩
      rw [← hx] at hc hM
      clear hr hB ht hx
      go_wp2_with (first | (go_at_call 43; refine (hM _).out.mono ?_; rintro e w' ⟨rfl, rfl⟩))
      go_roundw
      case rel =>
        refine ⟨k + 1, by omega, by go_num, ?_, ?_⟩
        · rw [HT.out]
          exact wset HR.out
        · exact HB.out.setCell (Nat.le_refl _) _
      case measure => simp [intOf]; omega
    · have : k = m := by omega
      subst this
      go_wp2
      go_ret
      exact ⟨rfl, hr, hB⟩

end Go.Proofs.Ytgcbdjmlhjbacaa.Ri
