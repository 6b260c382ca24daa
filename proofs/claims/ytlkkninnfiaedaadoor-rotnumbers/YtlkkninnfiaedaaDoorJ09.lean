/- The small functions of package bits: what each call does to the world. Bits told, one by one: Len, Get. Bits of truths: Of. Bits made word by word, and what is behind the last one cleared. -/
import Derived.Test.YtlkkninnfiaedaaDoorRows
import Derived.Test.YtlkkninnfiaedaaDoorJ08
import Derived.WalkKit
import Derived.WalkSpells
import Derived.WalkLawsBesides
import Derived.Deep.QuietTactic
import Derived.Deep.RegionWith
import Derived.Shelf.SlSortCmp.QuietGrown
import Derived.BigQuiet
import Derived.Deep.RegionHeld3
namespace Go.Proofs.YtlkkninnfiaedaaDoor.Pg.V
open Go.RowKit
set_option maxRecDepth 100000

theorem hide1 {p : Prop} (h : p) : Hid p := h
theorem not_any (x : Bool) (w : World) : (Op.unary .not (.bool x)).run Tryd.prog w = .ok (.bool (!x)) w := rfl
theorem mf_any (fn : Fn) (first cap : Array Value) (w : World) : (Instr.makeFunc fn first cap).run Tryd.prog w = .ok (.func fn first cap) w := rfl
attribute [local go_sem] not_any mf_any

theorem wrap_pow {j : Nat} (h : j < 64) : IntKind.u64.wrap (2 ^ j) = ((2 ^ j : Nat) : Int) := by
  rw [IntKind.wrap_u64]
  have : 2 ^ j < 2 ^ 64 := Nat.pow_lt_pow_right (by omega) h
  have e : ((2 : Int) ^ j) = ((2 ^ j : Nat) : Int) := by simp
  rw [e]
  obtain ⟨p, hp⟩ : ∃ p, p = 2 ^ j := ⟨_, rfl⟩
  rw [← hp] at this ⊢
  omega

theorem single_any (i : Nat) (w : World) (hi : i ≤ 4194304) :
    Calls Tryd.prog 39 #[.int .i64 i] w fun e w' => e = .returned (.int .u64 ((2 ^ (i % 64) : Nat) : Int)) ∧ w' = w := by
  go_enter Tryd.func39, Tryd.ntmps39
  go_wp2
  go_ret
  refine ⟨?_, rfl⟩
  show Ending.returned (.int .u64 (IntKind.u64.wrap (2 ^ (i % 64)))) = _
  rw [wrap_pow (Nat.mod_lt _ (by omega))]

theorem allowed_any (n : Int) (w : World) :
    Calls Tryd.prog 57 #[.int .i64 n] w fun e w' => e = .returned (.bool (decide (0 ≤ n) && decide (n ≤ 4194304))) ∧ w' = w := by
  go_enter Tryd.func57, Tryd.ntmps57
  go_wp2
  all_goals go_ret
  · exact ⟨by simp [*], rfl⟩
  · refine ⟨?_, rfl⟩
    have : ¬ 0 ≤ n := by omega
    simp [this]

theorem needed_any (n s : Nat) (w : World) (hn : n ≤ 4194304) (hs : s = 8 ∨ s = 64) :
    Calls Tryd.prog 83 #[.int .i64 n, .int .i64 s] w fun e w' => e = .returned (.int .i64 (need n s)) ∧ w' = w := by
  rcases hs with rfl | rfl
  · go_enter Tryd.func83, Tryd.ntmps83
    go_wp2
    go_ret
    refine ⟨?_, rfl⟩
    show Ending.returned (.int .i64 (((n : Int) + 8 - 1) / 8)) = _
    rw [need8, show ((n : Int) + 8 - 1) / 8 = (((n + 7) / 8 : Nat) : Int) by omega]
  · go_enter Tryd.func83, Tryd.ntmps83
    go_wp2
    go_ret
    refine ⟨?_, rfl⟩
    show Ending.returned (.int .i64 (((n : Int) + 64 - 1) / 64)) = _
    rw [need64, show ((n : Int) + 64 - 1) / 64 = (((n + 63) / 64 : Nat) : Int) by omega]

theorem bytePlace_any (i : Nat) (w : World) (hi : i ≤ 4194304) :
    Calls Tryd.prog 106 #[.int .i64 i] w fun e w' => e = .returned (.tuple #[.int .i64 ((i / 8 : Nat) : Int), .int .i64 ((8 * (i % 8) : Nat) : Int)]) ∧ w' = w := by
  go_enter Tryd.func106, Tryd.ntmps106
  go_wp2
  go_ret2
  refine ⟨?_, rfl⟩
  show Ending.returned (.tuple #[.int .i64 ((i : Int) * 8 / 64), .int .i64 ((i : Int) * 8 % 64)]) = _
  rw [show (i : Int) * 8 / 64 = ((i / 8 : Nat) : Int) by omega, show (i : Int) * 8 % 64 = ((8 * (i % 8) : Nat) : Int) by omega]

/- words in memory -/
def u64s (ws : List Nat) : List Value := ws.map (fun n : Nat => Value.int .u64 (n : Int))
def bools (l : List Bool) : List Value := l.map Value.bool
def wrow (ws : List Nat) : Obj := .cells (u64s ws).toArray 22 (0, 0)

/- bits: how many, and their words, in a block from b on -/
structure Vc (b : Nat) (w : World) (n : Nat) (a : Option Addr) (l : List Bool) : Prop where
  len : l.length = n
  at' : (n = 0 ∧ a = none) ∨ ∃ g, a = some ⟨g, 0, none⟩ ∧ b ≤ g ∧ w.heap[g]? = some (wrow (chunks 64 l))

theorem lt_heap {w : World} {k : Nat} {o : Obj} (h : w.heap[k]? = some o) : k < w.heap.size := (Array.getElem?_eq_some_iff.1 h).1

theorem row_cell {w : World} {g j x : Nat} {ws : List Nat} (h : w.heap[g]? = some (wrow ws)) (hj : ws[j]? = some x) : w.cell? ⟨g, j, none⟩ = some (.int .u64 (x : Int)) := by
  rw [cell_of_row w g j _ 22 (0, 0) h]
  simp [u64s, hj]

theorem Vc.mono {b b' : Nat} {w : World} {n : Nat} {a : Option Addr} {l : List Bool} (h : Vc b w n a l) (hb : b' ≤ b) : Vc b' w n a l := by
  obtain ⟨hl, h | ⟨g, h1, h2, h3⟩⟩ := h
  · exact ⟨hl, .inl h⟩
  · exact ⟨hl, .inr ⟨g, h1, by omega, h3⟩⟩

theorem Vc.below {b B : Nat} {w w' : World} {n : Nat} {a : Option Addr} {l : List Bool} (h : Vc b w n a l) (hB : Below B w w') (hs : w.heap.size ≤ B) : Vc b w' n a l := by
  obtain ⟨hl, h | ⟨g, h1, h2, h3⟩⟩ := h
  · exact ⟨hl, .inl h⟩
  · exact ⟨hl, .inr ⟨g, h1, h2, (hB.block g (by have := lt_heap h3; omega)).trans h3⟩⟩

theorem Vc.setCell {b : Nat} {w : World} {n : Nat} {a : Option Addr} {l : List Bool} (h : Vc b w n a l) {p : Addr} (hp : p.block < b) (u : Value) : Vc b (w.setCell p u) n a l := by
  obtain ⟨hl, h | ⟨g, h1, h2, h3⟩⟩ := h
  · exact ⟨hl, .inl h⟩
  · exact ⟨hl, .inr ⟨g, h1, h2, (Below.heap_setCell _ _ _ _ (by omega)).trans h3⟩⟩

theorem Vc.alloc {b : Nat} {w : World} {n : Nat} {a : Option Addr} {l : List Bool} (h : Vc b w n a l) (o : Obj) : Vc b (w.alloc o) n a l :=
  h.below (B := w.heap.size) ((Below.refl _ _).alloc (Nat.le_refl _) _) (Nat.le_refl _)

theorem below_after {w w1 : World} {o : Obj} (hb : Below (w.alloc o).heap.size (w.alloc o) w1) : Below w.heap.size w w1 :=
  ((Below.refl _ _).alloc (Nat.le_refl _) _).trans (hb.mono (by simp))

theorem after_alloc {w w1 : World} {o : Obj} (hb : Below (w.alloc o).heap.size (w.alloc o) w1) : w1.heap[w.heap.size]? = some o :=
  (hb.block w.heap.size (by simp)).trans (heap_alloc_new _ _)

theorem Vc.cell {b : Nat} {w : World} {n : Nat} {a : Option Addr} {l : List Bool} (h : Vc b w n a l) {j : Nat} (hj : j < need n 64) : ∃ g, a = some ⟨g, 0, none⟩ ∧ b ≤ g ∧ w.heap[g]? = some (wrow (chunks 64 l)) ∧ w.cell? ⟨g, j, none⟩ = some (.int .u64 (chunk 64 l j : Nat)) := by
  obtain ⟨hl, h | ⟨g, h1, h2, h3⟩⟩ := h
  · obtain ⟨rfl, _⟩ := h
    simp [need64] at hj
  · exact ⟨g, h1, h2, h3, row_cell h3 (chunks_get (by rw [hl]; exact hj))⟩

theorem box2 {w : World} {g : Nat} {x y : Value} {t : TypeId} (h : w.heap[g]? = some (.cells #[x, y] t (0, 0))) :
    w.cell? ⟨g, 0, none⟩ = some x ∧ w.cell? ⟨g, 1, none⟩ = some y ∧ w.frozen? ⟨g, 0, none⟩ = false ∧ w.frozen? ⟨g, 1, none⟩ = false ∧ g < w.heap.size :=
  ⟨by rw [cell_of_row w g 0 _ _ _ h]; rfl, by rw [cell_of_row w g 1 _ _ _ h]; rfl, frozen_of_row w g 0 _ _ h, frozen_of_row w g 1 _ _ h, lt_heap h⟩

theorem set_box2 {w : World} {g : Nat} {x y x' y' : Value} {t : TypeId} (h : w.heap[g]? = some (.cells #[x, y] t (0, 0))) : ((w.setCell ⟨g, 0, none⟩ x').setCell ⟨g, 1, none⟩ y').heap[g]? = some (.cells #[x', y'] t (0, 0)) := by
  rw [heap_setCell_same _ g 1 _ t y' (heap_setCell_same w g 0 _ t x' h)]
  rfl

theorem make_words (m : Nat) (hm : m ≤ 4194304) (w : World) : (Instr.makeSlice 39 (.int .i64 (m : Int)) (.int .i64 (m : Int))).run Tryd.prog w = .ok (.slice (some ⟨w.heap.size, 0, none⟩) m m) (w.alloc (wrow (List.replicate m 0))) := by
  have hi : (Tryd.prog.info? 22).map (fun i => (i.zero, i.size, i.bytes)) = some (some (.int .u64 0), 1, 8) := by kernel_rfl
  obtain ⟨i0, hi, hz0, hz1, hz2⟩ := info_parts hi
  have h := run_make (P := Tryd.prog) w 39 22 i0 _ Tryd.underlying39 hi hz0 .i64 .i64 (m : Int) (m : Int) (by omega) (by omega) (by rw [hz2]; omega) (by omega)
  rw [h, hz1]
  have e : madeCells (Value.int IntKind.u64 0).cells ((m : Int).toNat * 1) = (u64s (List.replicate m 0)).toArray := by
    apply Array.ext
    · simp [madeCells, u64s]
    · intro j h1 h2
      simp [madeCells, u64s, Value.cells, Nat.mod_one]
  rw [e]
  rfl

theorem ret_vec {fn : Func} {p : Tmp} (h : fn.results = #[.cell p 41]) {R : Ending → World → Prop} {a : Act} {w : World} (g : Nat) (x y : Value) (hp : a.tmps.getD p undef = .pointer (some ⟨g, 0, none⟩))
    (hg : w.heap[g]? = some (.cells #[x, y] 41 (0, 0))) (hd : a.defers = []) (hR : R (.returned (.agg #[x, y])) w) : bodyPost Tryd.prog fn R .ret a w :=
  bodyPost_ret_by (results_cell_row (P := Tryd.prog) h _ w g 41 #[x, y] (0, 0) _ hp hg Tryd.underlying41 rfl (by kernel_rfl)) hd hR

theorem ret_vec2 {fn : Func} {p u : Tmp} (h : fn.results = #[.cell p 41, .tmp u]) {R : Ending → World → Prop} {a : Act} {w : World} (g : Nat) (x y z : Value) (hp : a.tmps.getD p undef = .pointer (some ⟨g, 0, none⟩))
    (hu : a.tmps.getD u undef = z) (hg : w.heap[g]? = some (.cells #[x, y] 41 (0, 0))) (hd : a.defers = []) (hR : R (.returned (.tuple #[.agg #[x, y], z])) w) : bodyPost Tryd.prog fn R .ret a w := by
  refine bodyPost_ret_by (v := .tuple #[.agg #[x, y], z]) ?_ hd hR
  have hl := run_loadVar_row (P := Tryd.prog) w g 41 41 #[x, y] (0, 0) _ hg Tryd.underlying41 rfl (by kernel_rfl)
  rw [results_cell_tmp h, hp, hu]
  simp [asAddr, hl, Result.andThen]

theorem falses_at {w : World} {n g b : Nat} (hb : b ≤ g) (hg : w.heap[g]? = some (wrow (List.replicate (need n 64) 0))) :
    Vc b w n (some ⟨g, 0, none⟩) (List.replicate n false) := by
  refine ⟨by simp, .inr ⟨g, rfl, hb, ?_⟩⟩
  rw [chunks_falses]
  exact hg

theorem nil_at (b : Nat) (w : World) : Vc b w 0 none [] := ⟨rfl, .inl ⟨rfl, rfl⟩⟩

theorem blank_any (n : Nat) (w : World) (hn : n ≤ 4194304) :
    Calls Tryd.prog 58 #[.int .i64 n] w fun e w' => ∃ a, e = .returned (.agg #[.int .i64 n, .slice a (need n 64) (need n 64)]) ∧ Vc w.heap.size w' n a (List.replicate n false) ∧ Below w.heap.size w w' := by
  have hN := fun w => hide1 (needed_any n 64 w hn (.inr rfl))
  have hmk := make_words (need n 64) (by rw [need64]; omega)
  go_enter Tryd.func58, Tryd.ntmps58
  go_wp2_with (go_at_call 83; refine (hN _).out.mono ?_; rintro e w' ⟨rfl, rfl⟩)
  · rename_i h0
    have hn0 : n = 0 := by simpa using h0
    subst hn0
    refine ret_vec Tryd.results58 w.heap.size _ _ rfl (heap_alloc_new _ _) rfl ⟨_, rfl, nil_at _ _, (Below.refl _ _).alloc (Nat.le_refl _) _⟩
  · rename_i h0
    refine ret_vec Tryd.results58 w.heap.size _ _ rfl (heap_alloc2_old _ _ _) rfl ⟨_, rfl, falses_at (by omega) (heap_alloc2_new _ _ _), ((Below.refl _ _).alloc (Nat.le_refl _) _).alloc (by simp) _⟩

theorem new_any (n : Nat) (w : World) (hn : n ≤ 4194304) :
    Calls Tryd.prog 40 #[.int .i64 n] w fun e w' => ∃ a, e = .returned (.tuple #[.agg #[.int .i64 n, .slice a (need n 64) (need n 64)], .int .i64 0]) ∧ Vc w.heap.size w' n a (List.replicate n false) ∧ Below w.heap.size w w' := by
  have hA := fun w => hide1 (allowed_any n w)
  have hB := fun w => hide1 (blank_any n w hn)
  have e : (decide ((0 : Int) ≤ n) && decide ((n : Int) ≤ 4194304)) = true := by simp; omega
  rw [e] at hA
  clear e
  go_enter Tryd.func40, Tryd.ntmps40
  go_wp2_with (first | (go_at_call 57; refine (hA _).out.mono ?_; rintro e w' ⟨rfl, rfl⟩) | (go_at_call 58; refine (hB _).out.mono ?_; rintro e w1 ⟨a, rfl, hv, hb⟩; have hbx := after_alloc hb; obtain ⟨c0, c1, f0, f1, l0⟩ := box2 hbx))
  refine ret_vec2 Tryd.results40 w.heap.size _ _ _ rfl rfl (set_box2 hbx) rfl ⟨_, rfl, ?_, ?_⟩
  · exact ((hv.setCell (by simp) _).setCell (by simp) _).mono (by simp)
  · exact ((below_after hb).setCell (Nat.le_refl _) _).setCell (Nat.le_refl _) _

theorem new_no (n : Int) (w : World) (hn : n < 0 ∨ 4194304 < n) :
    Calls Tryd.prog 40 #[.int .i64 n] w fun e w' => e = .returned (.tuple #[.agg #[.int .i64 0, .slice none 0 0], .int .i64 2]) ∧ Below w.heap.size w w' := by
  have hA := fun w => hide1 (allowed_any n w)
  have e : (decide ((0 : Int) ≤ n) && decide ((n : Int) ≤ 4194304)) = false := by simp; omega
  rw [e] at hA
  go_enter Tryd.func40, Tryd.ntmps40
  go_wp2_with (first | (go_at_call 57; refine (hA _).out.mono ?_; rintro e w' ⟨rfl, rfl⟩))
  refine ret_vec2 Tryd.results40 w.heap.size _ _ _ rfl rfl (heap_alloc_new _ _) rfl ⟨rfl, (Below.refl _ _).alloc (Nat.le_refl _) _⟩

end Go.Proofs.YtlkkninnfiaedaaDoor.Pg.V

namespace Go.Proofs.YtlkkninnfiaedaaDoor.Pg.V
open Go.RowKit
set_option maxRecDepth 100000
attribute [local go_sem] not_any mf_any

theorem has_any (n i : Int) (s : Value) (w : World) :
    Calls Tryd.prog 38 #[.agg #[.int .i64 n, s], .int .i64 i] w fun e w' => e = .returned (.bool (decide (0 ≤ i) && decide (i < n))) ∧ w' = w.alloc (.cells #[.int .i64 n, s] 41) := by
  go_enter Tryd.func38, Tryd.ntmps38
  by_cases h : 0 ≤ i
  · go_wp2
    go_ret
    exact ⟨by simp [h], rfl⟩
  · have h' : i < 0 := by omega
    go_wp2
    go_ret
    exact ⟨by simp; omega, rfl⟩

def getI (l : List Bool) (i : Int) : Bool := decide (0 ≤ i) && l.getD i.toNat false

theorem getI_nat (l : List Bool) (i : Nat) : getI l (i : Int) = l.getD i false := by simp [getI]

theorem getI_out {l : List Bool} {i : Int} (h : i < 0 ∨ (l.length : Int) ≤ i) : getI l i = false := by
  unfold getI
  rcases h with h | h
  · have : ¬ 0 ≤ i := by omega
    simp [this]
  · by_cases h0 : 0 ≤ i
    · rw [List.getD_eq_getElem?_getD, List.getElem?_eq_none (by omega)]
      simp
    · simp [h0]

theorem mixed : Tryd.prog.follows .mixedOrders = true := by kernel_rfl

theorem heap_gr {w : World} {g : Nat} {o : Obj} (h : w.heap[g]? = some o) (n : Nat) (os : Array Obj) : (Sort.grow (w.drewN n) os).heap[g]? = some o :=
  (Sort.heap_grow_old (w.drewN n) os (lt_heap h)).trans h

theorem load_box {w : World} {g : Nat} {x y : Value} (h : w.heap[g]? = some (.cells #[x, y] 41 (0, 0))) (n : Nat) (os : Array Obj) :
    (loadVar 41 ⟨g, 0, none⟩).run Tryd.prog (Sort.grow (w.drewN n) os) = .ok (.agg #[x, y]) (Sort.grow (w.drewN n) os) :=
  run_loadVar_row (P := Tryd.prog) _ g 41 41 #[x, y] (0, 0) _ (heap_gr h n os) Tryd.underlying41 rfl (by kernel_rfl)

theorem gr_refl (w : World) : ∃ q os, w = Sort.grow (w.drewN q) os := ⟨0, #[], by rw [Sort.grow_empty]; rfl⟩
theorem gr_alloc (w : World) (o : Obj) : ∃ q os, w.alloc o = Sort.grow (w.drewN q) os := ⟨0, #[o], Sort.alloc_eq_grow w o⟩
theorem gr_trans {a b c : World} (h : ∃ q os, b = Sort.grow (a.drewN q) os) (h' : ∃ q os, c = Sort.grow (b.drewN q) os) : ∃ q os, c = Sort.grow (a.drewN q) os := by
  obtain ⟨q, os, rfl⟩ := h
  obtain ⟨q', os', rfl⟩ := h'
  refine ⟨q + q', os ++ os', ?_⟩
  show Sort.grow (Sort.grow ((a.drewN q).drewN q') os) os' = _
  rw [Sort.grow_grow, World.drewN_drewN]
theorem gr_below {w w' : World} (h : ∃ q os, w' = Sort.grow (w.drewN q) os) : Below w.heap.size w w' := by
  obtain ⟨q, os, rfl⟩ := h
  exact ⟨rfl, rfl, rfl, by simp [Sort.grow], fun k hk => Sort.heap_grow_old (w.drewN q) os hk⟩

theorem has_gr (n i : Int) (s : Value) (w : World) (t : Bool) (ht : (decide (0 ≤ i) && decide (i < n)) = t) :
    Calls Tryd.prog 38 #[.agg #[.int .i64 n, s], .int .i64 i] w fun e w' => e = .returned (.bool t) ∧ ∃ q os, w' = Sort.grow (w.drewN q) os := by
  refine (has_any n i s w).mono ?_
  rintro e w' ⟨rfl, rfl⟩
  exact ⟨by rw [ht], gr_alloc _ _⟩

theorem single_gr (i : Nat) (w : World) (hi : i ≤ 4194304) :
    Calls Tryd.prog 39 #[.int .i64 i] w fun e w' => e = .returned (.int .u64 ((2 ^ (i % 64) : Nat) : Int)) ∧ ∃ q os, w' = Sort.grow (w.drewN q) os := by
  refine (single_any i w hi).mono ?_
  rintro e w' ⟨rfl, rfl⟩
  exact ⟨rfl, gr_refl _⟩

theorem pow_lt {j : Nat} (h : j < 64) : 2 ^ j < 18446744073709551616 := Nat.pow_lt_pow_right (by omega) h
theorem pow_cast (j : Nat) : (2 : Int) ^ j = ((2 ^ j : Nat) : Int) := by simp

theorem and_pow {x j : Nat} (hx : x < 18446744073709551616) (hj : j < 64) : (bits .and .u64 (x : Int) (2 ^ j) != 0) = x.testBit j := by
  have e : x &&& 2 ^ j = if x.testBit j then 2 ^ j else 0 := by
    apply Nat.eq_of_testBit_eq
    intro i
    rw [Nat.testBit_and, Nat.testBit_two_pow]
    by_cases h : j = i
    · subst h
      cases hb : x.testBit j <;> simp
    · split
      · simp [h]
      · simp [h]
  rw [pow_cast, u64_and_nat _ _ hx (pow_lt hj), e]
  have := Nat.two_pow_pos j
  cases x.testBit j
  · simp
  · simp only [if_true]
    rw [bne_iff_ne]
    omega

set_option maxHeartbeats 1000000 in
theorem get_any (b : Nat) (w : World) (n : Nat) (a : Option Addr) (l : List Bool) (i : Int) (hv : Vc b w n a l) (hn : n ≤ 4194304) :
    Calls Tryd.prog 21 #[.agg #[.int .i64 n, .slice a (need n 64) (need n 64)], .int .i64 i] w fun e w' => e = .returned (.bool (getI l i)) ∧ ∃ q os, w' = Sort.grow (w.drewN q) os := by
  have mixed := mixed
  by_cases h : 0 ≤ i ∧ i < n
  · obtain ⟨k, rfl⟩ : ∃ k : Nat, i = k := ⟨i.toNat, by omega⟩
    have hk : k < n := by omega
    have hS := fun w => hide1 (single_gr k w (by omega))
    have hkd : k / 64 < need n 64 := by rw [need64]; omega
    obtain ⟨g, rfl, hb, hg, hc⟩ := hv.cell hkd
    have hH := fun w => hide1 (has_gr n k (.slice (some ⟨g, 0, none⟩) (need n 64) (need n 64)) w true (by simp; omega))
    have hk0 : (0 : Int) ≤ (k : Int) / 64 := by omega
    have hk1 : (k : Int) / 64 < (need n 64 : Int) := by omega
    have hk2 : ((k : Int) / 64).toNat = k / 64 := by omega
    have hkw : IntKind.i64.wrap ((k : Int) / 64) = (k : Int) / 64 := by rw [IntKind.wrap_i64]; omega
    obtain ⟨W, hW⟩ : ∃ W, w.alloc (.cells #[.int .i64 n, .slice (some ⟨g, 0, none⟩) (need n 64) (need n 64)] 41) = W := ⟨_, rfl⟩
    have hbx : W.heap[w.heap.size]? = some (.cells #[.int .i64 n, .slice (some ⟨g, 0, none⟩) (need n 64) (need n 64)] 41 (0, 0)) := by rw [← hW]; exact heap_alloc_new _ _
    have c0 := cell_grown (lt_heap hbx) (box2 hbx).1
    have c1 := cell_grown (lt_heap hbx) (box2 hbx).2.1
    have hgW : W.heap[g]? = some (wrow (chunks 64 l)) := by rw [← hW]; exact (Below.heap_alloc _ _ _ (lt_heap hg)).trans hg
    have c2 := cell_grown (lt_heap hgW) (row_cell hgW (chunks_get (by rw [hv.len]; exact hkd)))
    have HW := hide1 hW
    clear hW hgW hbx hc
    go_enter Tryd.func21, Tryd.ntmps21
    go_wp2
    rw [HW.out]
    go_quiet_grown (first | (go_at_call 38; exact Calls.grown_of (hH _).out) | (go_at_call 39; exact Calls.grown_of (hS _).out))
    go_wp2
    go_ret
    refine ⟨?_, gr_trans ⟨0, _, by rw [← HW.out]; exact Sort.alloc_eq_grow _ _⟩ ⟨nq, osq, rfl⟩⟩
    rw [getI_nat]
    show Ending.returned (.bool (bits .and .u64 ((chunk 64 l (k / 64) : Nat) : Int) (2 ^ (k % 64)) != 0)) = _
    rw [and_pow (chunk64_lt _ _) (Nat.mod_lt _ (by omega)), chunk_testBit, Nat.div_add_mod]
    simp [Nat.mod_lt]
  · have hH := fun w => hide1 (has_gr n i (.slice a (need n 64) (need n 64)) w false (by simp; omega))
    rw [getI_out (by rw [hv.len]; omega)]
    obtain ⟨W, hW⟩ : ∃ W, w.alloc (.cells #[.int .i64 n, .slice a (need n 64) (need n 64)] 41) = W := ⟨_, rfl⟩
    have hbx : W.heap[w.heap.size]? = some (.cells #[.int .i64 n, .slice a (need n 64) (need n 64)] 41 (0, 0)) := by rw [← hW]; exact heap_alloc_new _ _
    have c0 := cell_grown (lt_heap hbx) (box2 hbx).1
    have c1 := cell_grown (lt_heap hbx) (box2 hbx).2.1
    have HW := hide1 hW
    clear hW hbx h
    go_enter Tryd.func21, Tryd.ntmps21
    go_wp2
    rw [HW.out]
    refine wp_region_quiet_grown (by assumption) (by kernel_rfl) ?_
    iterate 2 quiet_step (fail)
    quiet_step ((go_at_call 38; exact Calls.grown_of (hH _).out))
    quiet_step (fail)
    iterate 10 go_big_quiet_skip
    iterate 2 quiet_step (fail)
    refine wpQuiet_nil ?_
    intro w1 hw1
    obtain ⟨⟨nq, osq⟩, rfl⟩ := hw1
    go_wp2
    go_ret
    exact ⟨rfl, gr_trans ⟨0, _, by rw [← HW.out]; exact Sort.alloc_eq_grow _ _⟩ ⟨nq, osq, rfl⟩⟩

end Go.Proofs.YtlkkninnfiaedaaDoor.Pg.V

namespace Go.Proofs.YtlkkninnfiaedaaDoor.Pg.V
open Go.RowKit
set_option maxRecDepth 100000
attribute [local go_sem] not_any mf_any

/- truths in memory -/
structure Bl (w : World) (n : Nat) (a : Option Addr) (l : List Bool) : Prop where
  len : l.length = n
  at' : ∀ (j : Nat) (x : Bool), l[j]? = some x → ∃ g o, a = some ⟨g, o, none⟩ ∧ w.cell? ⟨g, o + j, none⟩ = some (.bool x)

theorem lt_cell {w : World} {b o : Nat} {v : Value} (h : w.cell? ⟨b, o, none⟩ = some v) : b < w.heap.size := block_lt_of_cell h

theorem Bl.below {B : Nat} {w w' : World} {n : Nat} {a : Option Addr} {l : List Bool} (h : Bl w n a l) (hB : Below B w w') (hs : w.heap.size ≤ B) : Bl w' n a l :=
  ⟨h.len, fun j x hj => by
    obtain ⟨g, o, h1, h2⟩ := h.at' j x hj
    exact ⟨g, o, h1, (hB.cell (p := ⟨g, o + j, none⟩) (by have := lt_cell h2; simp; omega)).trans h2⟩⟩

theorem wrow_set (ws : List Nat) (j x : Nat) : Obj.cells ((u64s ws).toArray.setIfInBounds j (.int .u64 (x : Int))) 22 (0, 0) = wrow (ws.set j x) := by
  unfold wrow u64s
  congr 1
  simp

theorem wset {w : World} {g j x : Nat} {ws : List Nat} (h : w.heap[g]? = some (wrow ws)) : (w.setCell ⟨g, j, none⟩ (.int .u64 (x : Int))).heap[g]? = some (wrow (ws.set j x)) := by
  rw [heap_setCell_same w g j _ 22 _ h, wrow_set]

theorem bool_ext {l l' : List Bool} (h : l.length = l'.length) (h' : ∀ j, j < l.length → l.getD j false = l'.getD j false) : l = l' := by
  apply List.ext_getElem h
  intro j h1 h2
  have := h' j h1
  rw [List.getD_eq_getElem?_getD, List.getD_eq_getElem?_getD, List.getElem?_eq_getElem h1, List.getElem?_eq_getElem h2] at this
  exact this

theorem getD_of {l : List Bool} {k : Nat} {b : Bool} (h : l[k]? = some b) : l.getD k false = b := by rw [List.getD_eq_getElem?_getD, h]; rfl

/- the first k as they are, the others 0 -/
def firsts (l : List Bool) (k : Nat) : List Bool := (List.range l.length).map (fun j => decide (j < k) && l.getD j false)

theorem firsts_length (l : List Bool) (k : Nat) : (firsts l k).length = l.length := by simp [firsts]

theorem firsts_getD (l : List Bool) (k j : Nat) : (firsts l k).getD j false = (decide (j < k) && l.getD j false) := by
  rw [List.getD_eq_getElem?_getD]
  unfold firsts
  rw [List.getElem?_map]
  by_cases h : j < l.length
  · rw [List.getElem?_range h]
    rfl
  · rw [List.getElem?_eq_none (by simp; omega), List.getD_eq_getElem?_getD, List.getElem?_eq_none (by omega)]
    simp

theorem firsts_zero (l : List Bool) : firsts l 0 = List.replicate l.length false := by
  apply bool_ext
  · simp [firsts]
  · intro j hj
    rw [firsts_getD]
    simp [List.getD_eq_getElem?_getD, List.getElem?_replicate]
    split <;> rfl

theorem firsts_all {l : List Bool} {k : Nat} (h : l.length ≤ k) : firsts l k = l := by
  apply bool_ext (firsts_length _ _)
  intro j hj
  rw [firsts_length] at hj
  rw [firsts_getD]
  have : j < k := by omega
  simp [this]

theorem firsts_succ {l : List Bool} {k : Nat} {b : Bool} (h : l[k]? = some b) : firsts l (k + 1) = (firsts l k).set k b := by
  have hk : k < l.length := (List.getElem?_eq_some_iff.1 h).1
  apply bool_ext (by simp [firsts_length])
  intro j hj
  rw [getD_set _ _ _ _ (by rw [firsts_length]; exact hk), firsts_getD, firsts_getD]
  by_cases h1 : j = k
  · subst h1
    rw [if_pos rfl, getD_of h]
    simp
  · rw [if_neg h1]
    have : (j < k + 1) ↔ j < k := by omega
    simp [this]

theorem firsts_false {l : List Bool} {k : Nat} (h : l[k]? = some false) : firsts l (k + 1) = firsts l k := by
  apply bool_ext (by simp [firsts_length])
  intro j hj
  rw [firsts_getD, firsts_getD]
  by_cases h1 : j = k
  · subst h1
    rw [getD_of h]
    simp
  · have : (j < k + 1) ↔ j < k := by omega
    simp [this]

theorem Vc.set {b : Nat} {w : World} {n g k x : Nat} {l : List Bool} (h : Vc b w n (some ⟨g, 0, none⟩) l) (l' : List Bool) (hl : l'.length = n) (hx : chunks 64 l' = (chunks 64 l).set k x) : Vc b (w.setCell ⟨g, k, none⟩ (.int .u64 (x : Int))) n (some ⟨g, 0, none⟩) l' := by
  obtain ⟨_, h | ⟨g', h1, h2, h3⟩⟩ := h
  · cases h.2
  · cases h1
    refine ⟨hl, .inr ⟨g, rfl, h2, ?_⟩⟩
    rw [hx]
    exact wset h3

theorem Vc.drew {b : Nat} {w : World} {n : Nat} {a : Option Addr} {l : List Bool} (h : Vc b w n a l) : Vc b w.drew n a l := ⟨h.len, h.at'⟩
theorem Vc.drewN {b : Nat} {w : World} {n : Nat} {a : Option Addr} {l : List Bool} (h : Vc b w n a l) (k : Nat) : Vc b (w.drewN k) n a l := ⟨h.len, h.at'⟩

/- the block that a slice lies in -/
def blk (a : Option Addr) : Option Nat := a.map (·.block)

theorem Vc.blk {b : Nat} {w : World} {n : Nat} {a : Option Addr} {l : List Bool} (h : Vc b w n a l) : ∀ k, blk a = some k → b ≤ k ∧ k < w.heap.size := by
  intro k hk
  obtain ⟨_, h | ⟨g, h1, h2, h3⟩⟩ := h
  · rw [h.2] at hk; cases hk
  · rw [h1] at hk
    cases hk
    exact ⟨h2, lt_heap h3⟩

theorem or_pow {x j : Nat} (hx : x < 18446744073709551616) (hj : j < 64) : bits .or .u64 (x : Int) (2 ^ j) = ((x ||| 2 ^ j : Nat) : Int) := by
  rw [pow_cast, u64_or_nat _ _ hx (pow_lt hj)]

end Go.Proofs.YtlkkninnfiaedaaDoor.Pg.V

namespace Go.Proofs.YtlkkninnfiaedaaDoor.Pg.V
open Go.RowKit
set_option maxRecDepth 100000
attribute [local go_sem] not_any mf_any

theorem mask_and {x j : Nat} (hx : x < 18446744073709551616) (hj : j < 64) : bits .and .u64 (x : Int) (2 ^ j - 1) = ((x &&& (2 ^ j - 1) : Nat) : Int) := by
  have h1 := pow_lt hj
  have h2 := Nat.two_pow_pos j
  rw [show ((2 : Int) ^ j - 1) = ((2 ^ j - 1 : Nat) : Int) by rw [pow_cast]; omega, u64_and_nat _ _ hx (by omega)]

/- words in a block from b on: any, not yet cleared behind the last bit -/
structure Wr (b : Nat) (w : World) (n : Nat) (a : Option Addr) (ws : List Nat) : Prop where
  len : ws.length = need n 64
  lt : ∀ (k : Nat) (x : Nat), ws[k]? = some x → x < 18446744073709551616
  at' : (n = 0 ∧ a = none) ∨ ∃ g, a = some ⟨g, 0, none⟩ ∧ b ≤ g ∧ w.heap[g]? = some (wrow ws)

theorem Vc.wr {b : Nat} {w : World} {n : Nat} {a : Option Addr} {l : List Bool} (h : Vc b w n a l) : Wr b w n a (chunks 64 l) :=
  ⟨by rw [chunks_length, h.len], fun k x hx => by rw [(chunks_get' hx).2]; exact chunk64_lt _ _, h.at'⟩

theorem Wr.vc {b : Nat} {w : World} {n : Nat} {a : Option Addr} {l : List Bool} (h : Wr b w n a (chunks 64 l)) (hl : l.length = n) : Vc b w n a l := ⟨hl, h.at'⟩

theorem Wr.block {b : Nat} {w : World} {n j : Nat} {a : Option Addr} {ws : List Nat} (h : Wr b w n a ws) (hj : j < need n 64) : ∃ g, a = some ⟨g, 0, none⟩ ∧ b ≤ g ∧ w.heap[g]? = some (wrow ws) := by
  obtain ⟨_, _, h | h⟩ := h
  · obtain ⟨rfl, _⟩ := h
    simp [need64] at hj
  · exact h

theorem Wr.kept {b : Nat} {w w' : World} {n : Nat} {a : Option Addr} {ws : List Nat} (h : Wr b w n a ws) (hk : ∀ g, a = some ⟨g, 0, none⟩ → w'.heap[g]? = w.heap[g]?) : Wr b w' n a ws := by
  obtain ⟨h1, h2, h | ⟨g, h3, h4, h5⟩⟩ := h
  · exact ⟨h1, h2, .inl h⟩
  · exact ⟨h1, h2, .inr ⟨g, h3, h4, (hk g h3).trans h5⟩⟩

theorem Vc.kept {b : Nat} {w w' : World} {n : Nat} {a : Option Addr} {l : List Bool} (h : Vc b w n a l) (hk : ∀ g, a = some ⟨g, 0, none⟩ → w'.heap[g]? = w.heap[g]?) : Vc b w' n a l := by
  obtain ⟨h1, h | ⟨g, h3, h4, h5⟩⟩ := h
  · exact ⟨h1, .inl h⟩
  · exact ⟨h1, .inr ⟨g, h3, h4, (hk g h3).trans h5⟩⟩

theorem Wr.below {b B : Nat} {w w' : World} {n : Nat} {a : Option Addr} {ws : List Nat} (h : Wr b w n a ws) (hB : Below B w w') (hs : w.heap.size ≤ B) : Wr b w' n a ws := by
  obtain ⟨h1, h2, h | ⟨g, h3, h4, h5⟩⟩ := h
  · exact ⟨h1, h2, .inl h⟩
  · exact ⟨h1, h2, .inr ⟨g, h3, h4, (hB.block g (by have := lt_heap h5; omega)).trans h5⟩⟩

theorem Wr.alloc {b : Nat} {w : World} {n : Nat} {a : Option Addr} {ws : List Nat} (h : Wr b w n a ws) (o : Obj) : Wr b (w.alloc o) n a ws :=
  h.below (B := w.heap.size) ((Below.refl _ _).alloc (Nat.le_refl _) _) (Nat.le_refl _)

theorem Wr.blk {b : Nat} {w : World} {n : Nat} {a : Option Addr} {ws : List Nat} (h : Wr b w n a ws) : ∀ k, blk a = some k → b ≤ k ∧ k < w.heap.size := by
  intro k hk
  obtain ⟨_, _, h | ⟨g, h1, h2, h3⟩⟩ := h
  · rw [h.2] at hk; cases hk
  · rw [h1] at hk
    cases hk
    exact ⟨h2, lt_heap h3⟩

theorem Wr.set {b : Nat} {w : World} {n g k x : Nat} {ws : List Nat} (h : Wr b w n (some ⟨g, 0, none⟩) ws) (hx : x < 18446744073709551616) : Wr b (w.setCell ⟨g, k, none⟩ (.int .u64 (x : Int))) n (some ⟨g, 0, none⟩) (ws.set k x) := by
  obtain ⟨h1, h2, h | ⟨g', h3, h4, h5⟩⟩ := h
  · cases h.2
  · cases h3
    refine ⟨by simpa using h1, fun j y hy => ?_, .inr ⟨g, rfl, h4, wset h5⟩⟩
    rw [List.getElem?_set] at hy
    split at hy
    · split at hy
      · cases hy; exact hx
      · cases hy
    · exact h2 j y hy

set_option maxHeartbeats 1000000 in
theorem trim_any (b : Nat) (w : World) (n : Nat) (a : Option Addr) (ws : List Nat) (hn : n ≤ 4194304) (hw : Wr b w n a ws) :
    Calls Tryd.prog 117 #[.agg #[.int .i64 n, .slice a (need n 64) (need n 64)]] w fun e w' => e = .returned (.tuple #[]) ∧ Wr b w' n a (trimmed n ws) ∧ w.grownBy w' (blk a) := by
  by_cases h0 : 0 < n % 64
  · have hm : need n 64 - 1 < need n 64 := by rw [need64]; omega
    obtain ⟨g, rfl, hbg, hg⟩ := hw.block hm
    obtain ⟨hl, hb, _⟩ := hw
    obtain ⟨x, hx⟩ : ∃ x, ws[need n 64 - 1]? = some x := ⟨_, List.getElem?_eq_getElem (by omega)⟩
    have hc := row_cell hg hx
    have hfz := frozen_of_row w g (need n 64 - 1) _ _ hg
    have hgl := lt_heap hg
    have hxl := hb _ _ hx
    have h1 : (0 : Int) < (n : Int) % 64 := by omega
    have HT : Hid (trimmed n ws = ws.set (need n 64 - 1) (x &&& (2 ^ (n % 64) - 1))) := by
      unfold Hid trimmed
      rw [if_pos h0, hl, List.getD_eq_getElem?_getD, hx]
      rfl
    have HG := hide1 hg
    have hk0 : (0 : Int) ≤ (need n 64 : Int) - 1 := by omega
    have hk1 : (need n 64 : Int) - 1 < (need n 64 : Int) := by omega
    have hk2 : ((need n 64 : Int) - 1).toNat = need n 64 - 1 := by omega
    have hmm : need n 64 ≤ 65536 := by rw [need64]; omega
    have hkw : IntKind.i64.wrap ((need n 64 : Int) - 1) = (need n 64 : Int) - 1 := by rw [IntKind.wrap_i64]; omega
    have hpw : IntKind.u64.wrap (2 ^ (n % 64)) = 2 ^ (n % 64) := by rw [wrap_pow (Nat.mod_lt _ (by omega))]; simp
    have hpw2 : IntKind.u64.wrap (2 ^ (n % 64) - 1) = 2 ^ (n % 64) - 1 := by
      have h1 := pow_lt (Nat.mod_lt n (show 64 > 0 by omega))
      have h2 := Nat.two_pow_pos (n % 64)
      rw [pow_cast, IntKind.wrap_u64]
      omega
    have hl' := hl
    have hb' := hide1 hb
    clear hg hx hl hb
    go_enter Tryd.func117, Tryd.ntmps117
    go_wp2
    go_region
    rw [mask_and hxl (Nat.mod_lt _ (by omega))]
    go_end0
    refine ⟨rfl, ?_, ?_⟩
    · rw [HT.out]
      refine Wr.kept (w := w.setCell ⟨g, need n 64 - 1, none⟩ (.int .u64 ((x &&& (2 ^ (n % 64) - 1) : Nat) : Int))) (Wr.set ⟨hl', hb'.out, .inr ⟨g, rfl, hbg, HG.out⟩⟩ (Nat.lt_of_le_of_lt Nat.and_le_left hxl)) ?_
      intro g' hg'
      cases hg'
      exact Below.heap_alloc _ _ _ (by simp; exact hgl)
    · refine ⟨rfl, rfl, rfl, by simp, fun k hk hne => ?_⟩
      exact (Below.heap_alloc _ _ _ (by simp; exact hk)).trans (Below.heap_setCell _ _ _ _ (fun e => hne (by simp [YtlkkninnfiaedaaDoor.Pg.V.blk, e])))
  · have h1 : ¬ (0 : Int) < (n : Int) % 64 := by omega
    go_enter Tryd.func117, Tryd.ntmps117
    go_wp2
    go_end0
    refine ⟨rfl, ?_, World.grownBy_alloc _ _ _⟩
    rw [trimmed, if_neg h0]
    exact hw.alloc _

end Go.Proofs.YtlkkninnfiaedaaDoor.Pg.V
