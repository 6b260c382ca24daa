/- Bits told, one by one: Len, Get. -/
import Derived.Test.YtgcbdjmlhjbacaaJ10
import Derived.Deep.RegionWith
import Derived.Shelf.SlSortCmp.QuietGrown
import Derived.BigQuiet
namespace Go.Proofs.Ytgcbdjmlhjbacaa.T
open Go.RowKit
set_option maxRecDepth 100000
attribute [local go_sem] not_any mf_any

theorem len_any (n : Int) (s : Value) (w : World) (_hs : s.oneCell' = true) :
    Calls Try.prog 20 #[.agg #[.int .i64 n, s]] w fun e w' => e = .returned (.int .i64 n) ∧ w' = w.alloc (.cells #[.int .i64 n, s] 25) := by
  go_enter Try.func20, Try.ntmps20
  go_wp2
  go_ret
  exact ⟨rfl, rfl⟩

theorem has_any (n i : Int) (s : Value) (w : World) :
    Calls Try.prog 35 #[.agg #[.int .i64 n, s], .int .i64 i] w fun e w' => e = .returned (.bool (decide (0 ≤ i) && decide (i < n))) ∧ w' = w.alloc (.cells #[.int .i64 n, s] 25) := by
  go_enter Try.func35, Try.ntmps35
  by_cases h : 0 ≤ i
  · go_wp2
    go_ret
    exact ⟨by simp [h], rfl⟩
  · have h' : i < 0 := by omega
    go_wp2
    go_ret
    exact ⟨by simp; omega, rfl⟩

def getI (l : List Bool) (i : Int) : Bool := decide (0 ≤ i) && l.getD i.toNat false

theorem getI_nat (l : List Bool) (i : Nat) : getI l (i : Int) = l.getD i false := by simp [getI]

theorem getI_out {l : List Bool} {i : Int} (h : i < 0 ∨ (l.length : Int) ≤ i) : getI l i = false := by
  unfold getI
  rcases h with h | h
  · have : ¬ 0 ≤ i := by omega
    simp [this]
  · by_cases h0 : 0 ≤ i
    · rw [List.getD_eq_getElem?_getD, List.getElem?_eq_none (by omega)]
      simp
    · simp [h0]

theorem mixed : Try.prog.follows .mixedOrders = true := by kernel_rfl

theorem heap_gr {w : World} {g : Nat} {o : Obj} (h : w.heap[g]? = some o) (n : Nat) (os : Array Obj) : (Sort.grow (w.drewN n) os).heap[g]? = some o :=
  (Sort.heap_grow_old (w.drewN n) os (lt_heap h)).trans h

theorem load_box {w : World} {g : Nat} {x y : Value} (h : w.heap[g]? = some (.cells #[x, y] 25 (0, 0))) (n : Nat) (os : Array Obj) :
    (loadVar 25 ⟨g, 0, none⟩).run Try.prog (Sort.grow (w.drewN n) os) = .ok (.agg #[x, y]) (Sort.grow (w.drewN n) os) :=
  run_loadVar_row (P := Try.prog) _ g 25 25 #[x, y] (0, 0) _ (heap_gr h n os) Try.underlying25 rfl (by kernel_rfl)

theorem gr_refl (w : World) : ∃ q os, w = Sort.grow (w.drewN q) os := ⟨0, #[], by rw [Sort.grow_empty]; rfl⟩
theorem gr_alloc (w : World) (o : Obj) : ∃ q os, w.alloc o = Sort.grow (w.drewN q) os := ⟨0, #[o], Sort.alloc_eq_grow w o⟩
theorem gr_trans {a b c : World} (h : ∃ q os, b = Sort.grow (a.drewN q) os) (h' : ∃ q os, c = Sort.grow (b.drewN q) os) : ∃ q os, c = Sort.grow (a.drewN q) os := by
  obtain ⟨q, os, rfl⟩ := h
  obtain ⟨q', os', rfl⟩ := h'
  refine ⟨q + q', os ++ os', ?_⟩
  show Sort.grow (Sort.grow ((a.drewN q).drewN q') os) os' = _
  rw [Sort.grow_grow, World.drewN_drewN]
theorem gr_below {w w' : World} (h : ∃ q os, w' = Sort.grow (w.drewN q) os) : Below w.heap.size w w' := by
  obtain ⟨q, os, rfl⟩ := h
  exact ⟨rfl, rfl, rfl, by simp [Sort.grow], fun k hk => Sort.heap_grow_old (w.drewN q) os hk⟩

theorem has_gr (n i : Int) (s : Value) (w : World) (t : Bool) (ht : (decide (0 ≤ i) && decide (i < n)) = t) :
    Calls Try.prog 35 #[.agg #[.int .i64 n, s], .int .i64 i] w fun e w' => e = .returned (.bool t) ∧ ∃ q os, w' = Sort.grow (w.drewN q) os := by
  refine (has_any n i s w).mono ?_
  rintro e w' ⟨rfl, rfl⟩
  exact ⟨by rw [ht], gr_alloc _ _⟩

theorem single_gr (i : Nat) (w : World) (hi : i ≤ 4194304) :
    Calls Try.prog 36 #[.int .i64 i] w fun e w' => e = .returned (.int .u64 ((2 ^ (i % 64) : Nat) : Int)) ∧ ∃ q os, w' = Sort.grow (w.drewN q) os := by
  refine (single_any i w hi).mono ?_
  rintro e w' ⟨rfl, rfl⟩
  exact ⟨rfl, gr_refl _⟩

theorem pow_lt {j : Nat} (h : j < 64) : 2 ^ j < 18446744073709551616 := Nat.pow_lt_pow_right (by omega) h
theorem pow_cast (j : Nat) : (2 : Int) ^ j = ((2 ^ j : Nat) : Int) := by simp

theorem and_pow {x j : Nat} (hx : x < 18446744073709551616) (hj : j < 64) : (bits .and .u64 (x : Int) (2 ^ j) != 0) = x.testBit j := by
  have e : x &&& 2 ^ j = if x.testBit j then 2 ^ j else 0 := by
    apply Nat.eq_of_testBit_eq
    intro i
    rw [Nat.testBit_and, Nat.testBit_two_pow]
    by_cases h : j = i
    · subst h
      cases hb : x.testBit j <;> simp
    · split
      · simp [h]
      · simp [h]
  rw [pow_cast, u64_and_nat _ _ hx (pow_lt hj), e]
  have := Nat.two_pow_pos j
  cases x.testBit j
  · simp
  · simp only [if_true]
    rw [bne_iff_ne]
    omega

set_option maxHeartbeats 1000000 in
theorem get_any (b : Nat) (w : World) (n : Nat) (a : Option Addr) (l : List Bool) (i : Int) (hv : Vc b w n a l) (hn : n ≤ 4194304) :
    Calls Try.prog 21 #[.agg #[.int .i64 n, .slice a (need n 64) (need n 64)], .int .i64 i] w fun e w' => e = .returned (.bool (getI l i)) ∧ ∃ q os, w' = Sort.grow (w.drewN q) os := by
  have mixed := mixed
  by_cases h : 0 ≤ i ∧ i < n
  · obtain ⟨k, rfl⟩ : ∃ k : Nat, i = k := ⟨i.toNat, by omega⟩
    have hk : k < n := by omega
    have hS := fun w => hide1 (single_gr k w (by omega))
    have hkd : k / 64 < need n 64 := by rw [need64]; omega
    obtain ⟨g, rfl, hb, hg, hc⟩ := hv.cell hkd
    have hH := fun w => hide1 (has_gr n k (.slice (some ⟨g, 0, none⟩) (need n 64) (need n 64)) w true (by simp; omega))
    have hk0 : (0 : Int) ≤ (k : Int) / 64 := by omega
    have hk1 : (k : Int) / 64 < (need n 64 : Int) := by omega
    have hk2 : ((k : Int) / 64).toNat = k / 64 := by omega
    have hkw : IntKind.i64.wrap ((k : Int) / 64) = (k : Int) / 64 := by rw [IntKind.wrap_i64]; omega
    obtain ⟨W, hW⟩ : ∃ W, w.alloc (.cells #[.int .i64 n, .slice (some ⟨g, 0, none⟩) (need n 64) (need n 64)] 25) = W := ⟨_, rfl⟩
    have hbx : W.heap[w.heap.size]? = some (.cells #[.int .i64 n, .slice (some ⟨g, 0, none⟩) (need n 64) (need n 64)] 25 (0, 0)) := by rw [← hW]; exact heap_alloc_new _ _
    have c0 := cell_grown (lt_heap hbx) (box2 hbx).1
    have c1 := cell_grown (lt_heap hbx) (box2 hbx).2.1
    have hgW : W.heap[g]? = some (wrow (chunks 64 l)) := by rw [← hW]; exact (Below.heap_alloc _ _ _ (lt_heap hg)).trans hg
    have c2 := cell_grown (lt_heap hgW) (row_cell hgW (chunks_get (by rw [hv.len]; exact hkd)))
    have HW := hide1 hW
    clear hW hgW hbx hc
    go_enter Try.func21, Try.ntmps21
    go_wp2
    rw [HW.out]
    go_quiet_grown (first | (go_at_call 35; exact Calls.grown_of (hH _).out) | (go_at_call 36; exact Calls.grown_of (hS _).out))
    go_wp2
    go_ret
    refine ⟨?_, gr_trans ⟨0, _, by rw [← HW.out]; exact Sort.alloc_eq_grow _ _⟩ ⟨nq, osq, rfl⟩⟩
    rw [getI_nat]
    show Ending.returned (.bool (bits .and .u64 ((chunk 64 l (k / 64) : Nat) : Int) (2 ^ (k % 64)) != 0)) = _
    rw [and_pow (chunk64_lt _ _) (Nat.mod_lt _ (by omega)), chunk_testBit, Nat.div_add_mod]
    simp [Nat.mod_lt]
  · have hH := fun w => hide1 (has_gr n i (.slice a (need n 64) (need n 64)) w false (by simp; omega))
    rw [getI_out (by rw [hv.len]; omega)]
    obtain ⟨W, hW⟩ : ∃ W, w.alloc (.cells #[.int .i64 n, .slice a (need n 64) (need n 64)] 25) = W := ⟨_, rfl⟩
    have hbx : W.heap[w.heap.size]? = some (.cells #[.int .i64 n, .slice a (need n 64) (need n 64)] 25 (0, 0)) := by rw [← hW]; exact heap_alloc_new _ _
    have c0 := cell_grown (lt_heap hbx) (box2 hbx).1
    have c1 := cell_grown (lt_heap hbx) (box2 hbx).2.1
    have HW := hide1 hW
    clear hW hbx h
    go_enter Try.func21, Try.ntmps21
    go_wp2
    rw [HW.out]
    refine wp_region_quiet_grown (by assumption) (by kernel_rfl) ?_
    iterate 2 quiet_step (fail)
    quiet_step ((go_at_call 35; exact Calls.grown_of (hH _).out))
    quiet_step (fail)
    iterate 10 go_big_quiet_skip
    iterate 2 quiet_step (fail)
    refine wpQuiet_nil ?_
    intro w1 hw1
    obtain ⟨⟨nq, osq⟩, rfl⟩ := hw1
    go_wp2
    go_ret
    exact ⟨rfl, gr_trans ⟨0, _, by rw [← HW.out]; exact Sort.alloc_eq_grow _ _⟩ ⟨nq, osq, rfl⟩⟩

end Go.Proofs.Ytgcbdjmlhjbacaa.T
