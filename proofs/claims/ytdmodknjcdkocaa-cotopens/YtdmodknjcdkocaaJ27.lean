/- Bits told, one by one: Len, Get. Bits of truths: Of. -/
import Derived.Test.YtdmodknjcdkocaaJ26
import Derived.Deep.RegionWith
import Derived.Shelf.SlSortCmp.QuietGrown
import Derived.BigQuiet
import Derived.Deep.RegionHeld3
namespace Go.Proofs.Ytdmodknjcdkocaa.T
open Go.RowKit
set_option maxRecDepth 100000
attribute [local go_sem] not_any mf_any

theorem len_any (n : Int) (s : Value) (w : World) (_hs : s.oneCell' = true) :
    Calls Try.prog 32 #[.agg #[.int .i64 n, s]] w fun e w' => e = .returned (.int .i64 n) ∧ w' = w.alloc (.cells #[.int .i64 n, s] 37) := by
  go_enter Try.func32, Try.ntmps32
  go_wp2
  go_ret
  exact ⟨rfl, rfl⟩

theorem has_any (n i : Int) (s : Value) (w : World) :
    Calls Try.prog 46 #[.agg #[.int .i64 n, s], .int .i64 i] w fun e w' => e = .returned (.bool (decide (0 ≤ i) && decide (i < n))) ∧ w' = w.alloc (.cells #[.int .i64 n, s] 37) := by
  go_enter Try.func46, Try.ntmps46
  by_cases h : 0 ≤ i
  · go_wp2
    go_ret
    exact ⟨by simp [h], rfl⟩
  · have h' : i < 0 := by omega
    go_wp2
    go_ret
    exact ⟨by simp; omega, rfl⟩

def getI (l : List Bool) (i : Int) : Bool := decide (0 ≤ i) && l.getD i.toNat false

theorem getI_nat (l : List Bool) (i : Nat) : getI l (i : Int) = l.getD i false := by simp [getI]

theorem getI_out {l : List Bool} {i : Int} (h : i < 0 ∨ (l.length : Int) ≤ i) : getI l i = false := by
  unfold getI
  rcases h with h | h
  · have : ¬ 0 ≤ i := by omega
    simp [this]
  · by_cases h0 : 0 ≤ i
    · rw [List.getD_eq_getElem?_getD, List.getElem?_eq_none (by omega)]
      simp
    · simp [h0]

theorem mixed : Try.prog.follows .mixedOrders = true := by kernel_rfl

theorem heap_gr {w : World} {g : Nat} {o : Obj} (h : w.heap[g]? = some o) (n : Nat) (os : Array Obj) : (Sort.grow (w.drewN n) os).heap[g]? = some o :=
  (Sort.heap_grow_old (w.drewN n) os (lt_heap h)).trans h

theorem load_box {w : World} {g : Nat} {x y : Value} (h : w.heap[g]? = some (.cells #[x, y] 37 (0, 0))) (n : Nat) (os : Array Obj) :
    (loadVar 37 ⟨g, 0, none⟩).run Try.prog (Sort.grow (w.drewN n) os) = .ok (.agg #[x, y]) (Sort.grow (w.drewN n) os) :=
  run_loadVar_row (P := Try.prog) _ g 37 37 #[x, y] (0, 0) _ (heap_gr h n os) Try.underlying37 rfl (by kernel_rfl)

theorem gr_refl (w : World) : ∃ q os, w = Sort.grow (w.drewN q) os := ⟨0, #[], by rw [Sort.grow_empty]; rfl⟩
theorem gr_alloc (w : World) (o : Obj) : ∃ q os, w.alloc o = Sort.grow (w.drewN q) os := ⟨0, #[o], Sort.alloc_eq_grow w o⟩
theorem gr_trans {a b c : World} (h : ∃ q os, b = Sort.grow (a.drewN q) os) (h' : ∃ q os, c = Sort.grow (b.drewN q) os) : ∃ q os, c = Sort.grow (a.drewN q) os := by
  obtain ⟨q, os, rfl⟩ := h
  obtain ⟨q', os', rfl⟩ := h'
  refine ⟨q + q', os ++ os', ?_⟩
  show Sort.grow (Sort.grow ((a.drewN q).drewN q') os) os' = _
  rw [Sort.grow_grow, World.drewN_drewN]
theorem gr_below {w w' : World} (h : ∃ q os, w' = Sort.grow (w.drewN q) os) : Below w.heap.size w w' := by
  obtain ⟨q, os, rfl⟩ := h
  exact ⟨rfl, rfl, rfl, by simp [Sort.grow], fun k hk => Sort.heap_grow_old (w.drewN q) os hk⟩

theorem has_gr (n i : Int) (s : Value) (w : World) (t : Bool) (ht : (decide (0 ≤ i) && decide (i < n)) = t) :
    Calls Try.prog 46 #[.agg #[.int .i64 n, s], .int .i64 i] w fun e w' => e = .returned (.bool t) ∧ ∃ q os, w' = Sort.grow (w.drewN q) os := by
  refine (has_any n i s w).mono ?_
  rintro e w' ⟨rfl, rfl⟩
  exact ⟨by rw [ht], gr_alloc _ _⟩

theorem single_gr (i : Nat) (w : World) (hi : i ≤ 4194304) :
    Calls Try.prog 31 #[.int .i64 i] w fun e w' => e = .returned (.int .u64 ((2 ^ (i % 64) : Nat) : Int)) ∧ ∃ q os, w' = Sort.grow (w.drewN q) os := by
  refine (single_any i w hi).mono ?_
  rintro e w' ⟨rfl, rfl⟩
  exact ⟨rfl, gr_refl _⟩

theorem pow_lt {j : Nat} (h : j < 64) : 2 ^ j < 18446744073709551616 := Nat.pow_lt_pow_right (by omega) h
theorem pow_cast (j : Nat) : (2 : Int) ^ j = ((2 ^ j : Nat) : Int) := by simp

theorem and_pow {x j : Nat} (hx : x < 18446744073709551616) (hj : j < 64) : (bits .and .u64 (x : Int) (2 ^ j) != 0) = x.testBit j := by
  have e : x &&& 2 ^ j = if x.testBit j then 2 ^ j else 0 := by
    apply Nat.eq_of_testBit_eq
    intro i
    rw [Nat.testBit_and, Nat.testBit_two_pow]
    by_cases h : j = i
    · subst h
      cases hb : x.testBit j <;> simp
    · split
      · simp [h]
      · simp [h]
  rw [pow_cast, u64_and_nat _ _ hx (pow_lt hj), e]
  have := Nat.two_pow_pos j
  cases x.testBit j
  · simp
  · simp only [if_true]
    rw [bne_iff_ne]
    omega

set_option maxHeartbeats 1000000 in
theorem get_any (b : Nat) (w : World) (n : Nat) (a : Option Addr) (l : List Bool) (i : Int) (hv : Vc b w n a l) (hn : n ≤ 4194304) :
    Calls Try.prog 34 #[.agg #[.int .i64 n, .slice a (need n 64) (need n 64)], .int .i64 i] w fun e w' => e = .returned (.bool (getI l i)) ∧ ∃ q os, w' = Sort.grow (w.drewN q) os := by
  have mixed := mixed
  by_cases h : 0 ≤ i ∧ i < n
  · obtain ⟨k, rfl⟩ : ∃ k : Nat, i = k := ⟨i.toNat, by omega⟩
    have hk : k < n := by omega
    have hS := fun w => hide1 (single_gr k w (by omega))
    have hkd : k / 64 < need n 64 := by rw [need64]; omega
    obtain ⟨g, rfl, hb, hg, hc⟩ := hv.cell hkd
    have hH := fun w => hide1 (has_gr n k (.slice (some ⟨g, 0, none⟩) (need n 64) (need n 64)) w true (by simp; omega))
    have hk0 : (0 : Int) ≤ (k : Int) / 64 := by omega
    have hk1 : (k : Int) / 64 < (need n 64 : Int) := by omega
    have hk2 : ((k : Int) / 64).toNat = k / 64 := by omega
    have hkw : IntKind.i64.wrap ((k : Int) / 64) = (k : Int) / 64 := by rw [IntKind.wrap_i64]; omega
    obtain ⟨W, hW⟩ : ∃ W, w.alloc (.cells #[.int .i64 n, .slice (some ⟨g, 0, none⟩) (need n 64) (need n 64)] 37) = W := ⟨_, rfl⟩
    have hbx : W.heap[w.heap.size]? = some (.cells #[.int .i64 n, .slice (some ⟨g, 0, none⟩) (need n 64) (need n 64)] 37 (0, 0)) := by rw [← hW]; exact heap_alloc_new _ _
    have c0 := cell_grown (lt_heap hbx) (box2 hbx).1
    have c1 := cell_grown (lt_heap hbx) (box2 hbx).2.1
    have hgW : W.heap[g]? = some (wrow (chunks 64 l)) := by rw [← hW]; exact (Below.heap_alloc _ _ _ (lt_heap hg)).trans hg
    have c2 := cell_grown (lt_heap hgW) (row_cell hgW (chunks_get (by rw [hv.len]; exact hkd)))
    have HW := hide1 hW
    clear hW hgW hbx hc
    go_enter Try.func34, Try.ntmps34
    go_wp2
    rw [HW.out]
    go_quiet_grown (first | (go_at_call 46; exact Calls.grown_of (hH _).out) | (go_at_call 31; exact Calls.grown_of (hS _).out))
    go_wp2
    go_ret
    refine ⟨?_, gr_trans ⟨0, _, by rw [← HW.out]; exact Sort.alloc_eq_grow _ _⟩ ⟨nq, osq, rfl⟩⟩
    rw [getI_nat]
    show Ending.returned (.bool (bits .and .u64 ((chunk 64 l (k / 64) : Nat) : Int) (2 ^ (k % 64)) != 0)) = _
    rw [and_pow (chunk64_lt _ _) (Nat.mod_lt _ (by omega)), chunk_testBit, Nat.div_add_mod]
    simp [Nat.mod_lt]
  · have hH := fun w => hide1 (has_gr n i (.slice a (need n 64) (need n 64)) w false (by simp; omega))
    rw [getI_out (by rw [hv.len]; omega)]
    obtain ⟨W, hW⟩ : ∃ W, w.alloc (.cells #[.int .i64 n, .slice a (need n 64) (need n 64)] 37) = W := ⟨_, rfl⟩
    have hbx : W.heap[w.heap.size]? = some (.cells #[.int .i64 n, .slice a (need n 64) (need n 64)] 37 (0, 0)) := by rw [← hW]; exact heap_alloc_new _ _
    have c0 := cell_grown (lt_heap hbx) (box2 hbx).1
    have c1 := cell_grown (lt_heap hbx) (box2 hbx).2.1
    have HW := hide1 hW
    clear hW hbx h
    go_enter Try.func34, Try.ntmps34
    go_wp2
    rw [HW.out]
    refine wp_region_quiet_grown (by assumption) (by kernel_rfl) ?_
    iterate 2 quiet_step (fail)
    quiet_step ((go_at_call 46; exact Calls.grown_of (hH _).out))
    quiet_step (fail)
    iterate 10 go_big_quiet_skip
    iterate 2 quiet_step (fail)
    refine wpQuiet_nil ?_
    intro w1 hw1
    obtain ⟨⟨nq, osq⟩, rfl⟩ := hw1
    go_wp2
    go_ret
    exact ⟨rfl, gr_trans ⟨0, _, by rw [← HW.out]; exact Sort.alloc_eq_grow _ _⟩ ⟨nq, osq, rfl⟩⟩

end Go.Proofs.Ytdmodknjcdkocaa.T

namespace Go.Proofs.Ytdmodknjcdkocaa.T
open Go.RowKit
set_option maxRecDepth 100000
attribute [local go_sem] not_any mf_any

/- truths in memory -/
structure Bl (w : World) (n : Nat) (a : Option Addr) (l : List Bool) : Prop where
  len : l.length = n
  at' : ∀ (j : Nat) (x : Bool), l[j]? = some x → ∃ g o, a = some ⟨g, o, none⟩ ∧ w.cell? ⟨g, o + j, none⟩ = some (.bool x)

theorem lt_cell {w : World} {b o : Nat} {v : Value} (h : w.cell? ⟨b, o, none⟩ = some v) : b < w.heap.size := block_lt_of_cell h

theorem Bl.below {B : Nat} {w w' : World} {n : Nat} {a : Option Addr} {l : List Bool} (h : Bl w n a l) (hB : Below B w w') (hs : w.heap.size ≤ B) : Bl w' n a l :=
  ⟨h.len, fun j x hj => by
    obtain ⟨g, o, h1, h2⟩ := h.at' j x hj
    exact ⟨g, o, h1, (hB.cell (p := ⟨g, o + j, none⟩) (by have := lt_cell h2; simp; omega)).trans h2⟩⟩

theorem wrow_set (ws : List Nat) (j x : Nat) : Obj.cells ((u64s ws).toArray.setIfInBounds j (.int .u64 (x : Int))) 49 (0, 0) = wrow (ws.set j x) := by
  unfold wrow u64s
  congr 1
  simp

theorem wset {w : World} {g j x : Nat} {ws : List Nat} (h : w.heap[g]? = some (wrow ws)) : (w.setCell ⟨g, j, none⟩ (.int .u64 (x : Int))).heap[g]? = some (wrow (ws.set j x)) := by
  rw [heap_setCell_same w g j _ 49 _ h, wrow_set]

theorem bool_ext {l l' : List Bool} (h : l.length = l'.length) (h' : ∀ j, j < l.length → l.getD j false = l'.getD j false) : l = l' := by
  apply List.ext_getElem h
  intro j h1 h2
  have := h' j h1
  rw [List.getD_eq_getElem?_getD, List.getD_eq_getElem?_getD, List.getElem?_eq_getElem h1, List.getElem?_eq_getElem h2] at this
  exact this

theorem getD_of {l : List Bool} {k : Nat} {b : Bool} (h : l[k]? = some b) : l.getD k false = b := by rw [List.getD_eq_getElem?_getD, h]; rfl

/- the first k as they are, the others 0 -/
def firsts (l : List Bool) (k : Nat) : List Bool := (List.range l.length).map (fun j => decide (j < k) && l.getD j false)

theorem firsts_length (l : List Bool) (k : Nat) : (firsts l k).length = l.length := by simp [firsts]

theorem firsts_getD (l : List Bool) (k j : Nat) : (firsts l k).getD j false = (decide (j < k) && l.getD j false) := by
  rw [List.getD_eq_getElem?_getD]
  unfold firsts
  rw [List.getElem?_map]
  by_cases h : j < l.length
  · rw [List.getElem?_range h]
    rfl
  · rw [List.getElem?_eq_none (by simp; omega), List.getD_eq_getElem?_getD, List.getElem?_eq_none (by omega)]
    simp

theorem firsts_zero (l : List Bool) : firsts l 0 = List.replicate l.length false := by
  apply bool_ext
  · simp [firsts]
  · intro j hj
    rw [firsts_getD]
    simp [List.getD_eq_getElem?_getD, List.getElem?_replicate]
    split <;> rfl

theorem firsts_all {l : List Bool} {k : Nat} (h : l.length ≤ k) : firsts l k = l := by
  apply bool_ext (firsts_length _ _)
  intro j hj
  rw [firsts_length] at hj
  rw [firsts_getD]
  have : j < k := by omega
  simp [this]

theorem firsts_succ {l : List Bool} {k : Nat} {b : Bool} (h : l[k]? = some b) : firsts l (k + 1) = (firsts l k).set k b := by
  have hk : k < l.length := (List.getElem?_eq_some_iff.1 h).1
  apply bool_ext (by simp [firsts_length])
  intro j hj
  rw [getD_set _ _ _ _ (by rw [firsts_length]; exact hk), firsts_getD, firsts_getD]
  by_cases h1 : j = k
  · subst h1
    rw [if_pos rfl, getD_of h]
    simp
  · rw [if_neg h1]
    have : (j < k + 1) ↔ j < k := by omega
    simp [this]

theorem firsts_false {l : List Bool} {k : Nat} (h : l[k]? = some false) : firsts l (k + 1) = firsts l k := by
  apply bool_ext (by simp [firsts_length])
  intro j hj
  rw [firsts_getD, firsts_getD]
  by_cases h1 : j = k
  · subst h1
    rw [getD_of h]
    simp
  · have : (j < k + 1) ↔ j < k := by omega
    simp [this]

theorem Vc.set {b : Nat} {w : World} {n g k x : Nat} {l : List Bool} (h : Vc b w n (some ⟨g, 0, none⟩) l) (l' : List Bool) (hl : l'.length = n) (hx : chunks 64 l' = (chunks 64 l).set k x) : Vc b (w.setCell ⟨g, k, none⟩ (.int .u64 (x : Int))) n (some ⟨g, 0, none⟩) l' := by
  obtain ⟨_, h | ⟨g', h1, h2, h3⟩⟩ := h
  · cases h.2
  · cases h1
    refine ⟨hl, .inr ⟨g, rfl, h2, ?_⟩⟩
    rw [hx]
    exact wset h3

theorem Vc.drew {b : Nat} {w : World} {n : Nat} {a : Option Addr} {l : List Bool} (h : Vc b w n a l) : Vc b w.drew n a l := ⟨h.len, h.at'⟩
theorem Vc.drewN {b : Nat} {w : World} {n : Nat} {a : Option Addr} {l : List Bool} (h : Vc b w n a l) (k : Nat) : Vc b (w.drewN k) n a l := ⟨h.len, h.at'⟩

/- the block that a slice lies in -/
def blk (a : Option Addr) : Option Nat := a.map (·.block)

theorem Vc.blk {b : Nat} {w : World} {n : Nat} {a : Option Addr} {l : List Bool} (h : Vc b w n a l) : ∀ k, blk a = some k → b ≤ k ∧ k < w.heap.size := by
  intro k hk
  obtain ⟨_, h | ⟨g, h1, h2, h3⟩⟩ := h
  · rw [h.2] at hk; cases hk
  · rw [h1] at hk
    cases hk
    exact ⟨h2, lt_heap h3⟩

theorem or_pow {x j : Nat} (hx : x < 18446744073709551616) (hj : j < 64) : bits .or .u64 (x : Int) (2 ^ j) = ((x ||| 2 ^ j : Nat) : Int) := by
  rw [pow_cast, u64_or_nat _ _ hx (pow_lt hj)]

set_option maxHeartbeats 2000000 in
theorem of_any (w : World) (n cap : Nat) (a : Option Addr) (l : List Bool) (hl : Bl w n a l) (hn : n ≤ 4194304) :
    Calls Try.prog 12 #[.slice a n cap] w fun e w' => ∃ av, e = .returned (.tuple #[.agg #[.int .i64 n, .slice av (need n 64) (need n 64)], .int .i64 0]) ∧ Vc w.heap.size w' n av l ∧ Below w.heap.size w w' := by
  have hN := fun w => hide1 (new_any n w hn)
  have HL := hide1 hl
  have hS := fun k w h => hide1 (single_any k w h)
  clear hl
  go_enter Try.func12, Try.ntmps12
  go_wp2_with (first | (go_at_call 30; refine (hN _).out.mono ?_; rintro e w1 ⟨av, rfl, hv, hb⟩))
  have hbx := after_alloc hb
  have l0 := lt_heap hbx
  have HG : Hid (∀ g, av = some ⟨g, 0, none⟩ → w.heap.size < g ∧ g < w1.heap.size) := by
    intro g hg
    obtain ⟨_, h | ⟨g', h1, h2, h3⟩⟩ := hv
    · rw [h.2] at hg; cases hg
    · rw [h1] at hg
      cases hg
      exact ⟨by simp at h2; omega, lt_heap h3⟩
  go_loopw [20] (fun i wr => ∃ k : Nat, k ≤ n ∧ i = .int .i64 k ∧ Vc (w.heap.size + 1) wr n av (firsts l k) ∧ wr.heap[w.heap.size]? = some (.cells #[.int .i64 0, .slice none 0 0] 37 (0, 0)) ∧
      wr.heap[w1.heap.size]? = some (.cells #[.int .i64 n, .slice av (need n 64) (need n 64)] 37 (0, 0)) ∧ Below w.heap.size w wr) (fun i _ => n - (intOf i).toNat)
  case atStart =>
    refine ⟨0, Nat.zero_le _, rfl, ?_, (Below.heap_alloc _ _ _ l0).trans hbx, heap_alloc_new _ _, (below_after hb).alloc (by omega) _⟩
    rw [firsts_zero, HL.out.len]
    simpa using hv.alloc _
  case round =>
    obtain ⟨k, hk, rfl, hV, hs, ht, hB⟩ := hrel
    by_cases hlt : k < n
    · obtain ⟨x, hx⟩ : ∃ x, l[k]? = some x := ⟨_, List.getElem?_eq_getElem (by rw [HL.out.len]; exact hlt)⟩
      obtain ⟨gl, o, rfl, hcl⟩ := (HL.out.below hB (Nat.le_refl _)).at' k x hx
      cases x with
      | false =>
        have HF := hide1 (firsts_false hx)
        have HV := hide1 hV
        have HS := hide1 hs
        have HT := hide1 ht
        clear hx hV hs ht
        go_wp2
        go_roundw
        case rel => exact ⟨k + 1, by omega, by go_num, by rw [HF.out]; exact HV.out, HS.out, HT.out, hB⟩
        case measure => simp [intOf]; omega
      | true =>
        have HF := hide1 (firsts_succ hx)
        have hkd : k / 64 < need n 64 := by rw [need64]; omega
        obtain ⟨g, rfl, hbg, hg, hc⟩ := hV.cell hkd
        have hgg := HG.out g rfl
        have hfz : wr.frozen? ⟨g, k / 64, none⟩ = false := frozen_of_row wr g _ _ _ hg
        obtain ⟨d0, d1, _, _, ltt⟩ := box2 ht
        have hk0 : (0 : Int) ≤ (k : Int) / 64 := by omega
        have hk1 : (k : Int) / 64 < (need n 64 : Int) := by omega
        have hk2 : ((k : Int) / 64).toNat = k / 64 := by omega
        have hkw : IntKind.i64.wrap ((k : Int) / 64) = (k : Int) / 64 := by rw [IntKind.wrap_i64]; omega
        have HV := hide1 hV
        have HS := hide1 hs
        have HT := hide1 ht
        have hSk := fun w => hS k w (by omega)
        clear hx hV hs ht hg hS
        go_wp2
        go_region_with (first | (go_at_call 31; refine (hSk _).out.mono ?_; rintro e w' ⟨rfl, rfl⟩))
        all_goals
          go_wp2
          go_roundw
          case rel =>
            rw [or_pow (chunk64_lt _ _) (Nat.mod_lt _ (by omega))]
            refine ⟨k + 1, by omega, by go_num, ?_, ?_, ?_, ?_⟩
            · refine (HV.out.set (firsts l (k + 1)) (by rw [firsts_length]; exact HL.out.len) ?_).drew
              rw [HF.out]
              exact chunks_set_true (by omega) _ _ (by rw [firsts_length, HL.out.len]; exact hlt)
            · exact (Below.heap_setCell _ _ _ _ (by simp; omega)).trans HS.out
            · exact (Below.heap_setCell _ _ _ _ (by simp; omega)).trans HT.out
            · exact (hB.setCell (by simp; omega) _).drew
          case measure => simp [intOf]; omega
    · have : k = n := by omega
      subst this
      obtain ⟨d0, d1, _, _, ltt⟩ := box2 ht
      obtain ⟨e0, e1, e2, e3, lts⟩ := box2 hs
      have HV := hide1 hV
      have HS := hide1 hs
      clear hV hs
      go_wp2
      refine ret_vec2 Try.results12 w.heap.size _ _ _ rfl rfl (set_box2 HS.out) rfl ⟨_, rfl, ?_, ?_⟩
      · rw [firsts_all (by rw [HL.out.len]; omega)] at HV
        exact ((HV.out.setCell (by simp) _).setCell (by simp) _).mono (by omega)
      · exact (hB.setCell (Nat.le_refl _) _).setCell (Nat.le_refl _) _

end Go.Proofs.Ytdmodknjcdkocaa.T
