/- The small functions of package bits: what each call does to the world. -/
import Derived.Test.YtgcbdjmlhjbacaaRows
import Derived.Test.YtgcbdjmlhjbacaaJ09
import Derived.WalkKit
import Derived.WalkSpells
import Derived.WalkLawsBesides
import Derived.Deep.QuietTactic
namespace Go.Proofs.Ytgcbdjmlhjbacaa.T
open Go.RowKit
set_option maxRecDepth 100000

theorem hide1 {p : Prop} (h : p) : Hid p := h
theorem not_any (x : Bool) (w : World) : (Op.unary .not (.bool x)).run Try.prog w = .ok (.bool (!x)) w := rfl
theorem mf_any (fn : Fn) (first cap : Array Value) (w : World) : (Instr.makeFunc fn first cap).run Try.prog w = .ok (.func fn first cap) w := rfl
attribute [local go_sem] not_any mf_any

theorem wrap_pow {j : Nat} (h : j < 64) : IntKind.u64.wrap (2 ^ j) = ((2 ^ j : Nat) : Int) := by
  rw [IntKind.wrap_u64]
  have : 2 ^ j < 2 ^ 64 := Nat.pow_lt_pow_right (by omega) h
  have e : ((2 : Int) ^ j) = ((2 ^ j : Nat) : Int) := by simp
  rw [e]
  obtain ⟨p, hp⟩ : ∃ p, p = 2 ^ j := ⟨_, rfl⟩
  rw [← hp] at this ⊢
  omega

theorem single_any (i : Nat) (w : World) (hi : i ≤ 4194304) :
    Calls Try.prog 36 #[.int .i64 i] w fun e w' => e = .returned (.int .u64 ((2 ^ (i % 64) : Nat) : Int)) ∧ w' = w := by
  go_enter Try.func36, Try.ntmps36
  go_wp2
  go_ret
  refine ⟨?_, rfl⟩
  show Ending.returned (.int .u64 (IntKind.u64.wrap (2 ^ (i % 64)))) = _
  rw [wrap_pow (Nat.mod_lt _ (by omega))]

theorem allowed_any (n : Int) (w : World) :
    Calls Try.prog 39 #[.int .i64 n] w fun e w' => e = .returned (.bool (decide (0 ≤ n) && decide (n ≤ 4194304))) ∧ w' = w := by
  go_enter Try.func39, Try.ntmps39
  go_wp2
  all_goals go_ret
  · exact ⟨by simp [*], rfl⟩
  · refine ⟨?_, rfl⟩
    have : ¬ 0 ≤ n := by omega
    simp [this]

theorem needed_any (n s : Nat) (w : World) (hn : n ≤ 4194304) (hs : s = 8 ∨ s = 64) :
    Calls Try.prog 46 #[.int .i64 n, .int .i64 s] w fun e w' => e = .returned (.int .i64 (need n s)) ∧ w' = w := by
  rcases hs with rfl | rfl
  · go_enter Try.func46, Try.ntmps46
    go_wp2
    go_ret
    refine ⟨?_, rfl⟩
    show Ending.returned (.int .i64 (((n : Int) + 8 - 1) / 8)) = _
    rw [need8, show ((n : Int) + 8 - 1) / 8 = (((n + 7) / 8 : Nat) : Int) by omega]
  · go_enter Try.func46, Try.ntmps46
    go_wp2
    go_ret
    refine ⟨?_, rfl⟩
    show Ending.returned (.int .i64 (((n : Int) + 64 - 1) / 64)) = _
    rw [need64, show ((n : Int) + 64 - 1) / 64 = (((n + 63) / 64 : Nat) : Int) by omega]

/- words in memory -/
def u64s (ws : List Nat) : List Value := ws.map (fun n : Nat => Value.int .u64 (n : Int))
def bools (l : List Bool) : List Value := l.map Value.bool
def wrow (ws : List Nat) : Obj := .cells (u64s ws).toArray 44 (0, 0)

/- bits: how many, and their words, in a block from b on -/
structure Vc (b : Nat) (w : World) (n : Nat) (a : Option Addr) (l : List Bool) : Prop where
  len : l.length = n
  at' : (n = 0 ∧ a = none) ∨ ∃ g, a = some ⟨g, 0, none⟩ ∧ b ≤ g ∧ w.heap[g]? = some (wrow (chunks 64 l))

theorem lt_heap {w : World} {k : Nat} {o : Obj} (h : w.heap[k]? = some o) : k < w.heap.size := (Array.getElem?_eq_some_iff.1 h).1

theorem row_cell {w : World} {g j x : Nat} {ws : List Nat} (h : w.heap[g]? = some (wrow ws)) (hj : ws[j]? = some x) : w.cell? ⟨g, j, none⟩ = some (.int .u64 (x : Int)) := by
  rw [cell_of_row w g j _ 44 (0, 0) h]
  simp [u64s, hj]

theorem Vc.mono {b b' : Nat} {w : World} {n : Nat} {a : Option Addr} {l : List Bool} (h : Vc b w n a l) (hb : b' ≤ b) : Vc b' w n a l := by
  obtain ⟨hl, h | ⟨g, h1, h2, h3⟩⟩ := h
  · exact ⟨hl, .inl h⟩
  · exact ⟨hl, .inr ⟨g, h1, by omega, h3⟩⟩

theorem Vc.below {b B : Nat} {w w' : World} {n : Nat} {a : Option Addr} {l : List Bool} (h : Vc b w n a l) (hB : Below B w w') (hs : w.heap.size ≤ B) : Vc b w' n a l := by
  obtain ⟨hl, h | ⟨g, h1, h2, h3⟩⟩ := h
  · exact ⟨hl, .inl h⟩
  · exact ⟨hl, .inr ⟨g, h1, h2, (hB.block g (by have := lt_heap h3; omega)).trans h3⟩⟩

theorem Vc.setCell {b : Nat} {w : World} {n : Nat} {a : Option Addr} {l : List Bool} (h : Vc b w n a l) {p : Addr} (hp : p.block < b) (u : Value) : Vc b (w.setCell p u) n a l := by
  obtain ⟨hl, h | ⟨g, h1, h2, h3⟩⟩ := h
  · exact ⟨hl, .inl h⟩
  · exact ⟨hl, .inr ⟨g, h1, h2, (Below.heap_setCell _ _ _ _ (by omega)).trans h3⟩⟩

theorem Vc.alloc {b : Nat} {w : World} {n : Nat} {a : Option Addr} {l : List Bool} (h : Vc b w n a l) (o : Obj) : Vc b (w.alloc o) n a l :=
  h.below (B := w.heap.size) ((Below.refl _ _).alloc (Nat.le_refl _) _) (Nat.le_refl _)

theorem below_after {w w1 : World} {o : Obj} (hb : Below (w.alloc o).heap.size (w.alloc o) w1) : Below w.heap.size w w1 :=
  ((Below.refl _ _).alloc (Nat.le_refl _) _).trans (hb.mono (by simp))

theorem after_alloc {w w1 : World} {o : Obj} (hb : Below (w.alloc o).heap.size (w.alloc o) w1) : w1.heap[w.heap.size]? = some o :=
  (hb.block w.heap.size (by simp)).trans (heap_alloc_new _ _)

theorem Vc.cell {b : Nat} {w : World} {n : Nat} {a : Option Addr} {l : List Bool} (h : Vc b w n a l) {j : Nat} (hj : j < need n 64) : ∃ g, a = some ⟨g, 0, none⟩ ∧ b ≤ g ∧ w.heap[g]? = some (wrow (chunks 64 l)) ∧ w.cell? ⟨g, j, none⟩ = some (.int .u64 (chunk 64 l j : Nat)) := by
  obtain ⟨hl, h | ⟨g, h1, h2, h3⟩⟩ := h
  · obtain ⟨rfl, _⟩ := h
    simp [need64] at hj
  · exact ⟨g, h1, h2, h3, row_cell h3 (chunks_get (by rw [hl]; exact hj))⟩

theorem box2 {w : World} {g : Nat} {x y : Value} {t : TypeId} (h : w.heap[g]? = some (.cells #[x, y] t (0, 0))) :
    w.cell? ⟨g, 0, none⟩ = some x ∧ w.cell? ⟨g, 1, none⟩ = some y ∧ w.frozen? ⟨g, 0, none⟩ = false ∧ w.frozen? ⟨g, 1, none⟩ = false ∧ g < w.heap.size :=
  ⟨by rw [cell_of_row w g 0 _ _ _ h]; rfl, by rw [cell_of_row w g 1 _ _ _ h]; rfl, frozen_of_row w g 0 _ _ h, frozen_of_row w g 1 _ _ h, lt_heap h⟩

theorem set_box2 {w : World} {g : Nat} {x y x' y' : Value} {t : TypeId} (h : w.heap[g]? = some (.cells #[x, y] t (0, 0))) : ((w.setCell ⟨g, 0, none⟩ x').setCell ⟨g, 1, none⟩ y').heap[g]? = some (.cells #[x', y'] t (0, 0)) := by
  rw [heap_setCell_same _ g 1 _ t y' (heap_setCell_same w g 0 _ t x' h)]
  rfl

theorem make_words (m : Nat) (hm : m ≤ 4194304) (w : World) : (Instr.makeSlice 22 (.int .i64 (m : Int)) (.int .i64 (m : Int))).run Try.prog w = .ok (.slice (some ⟨w.heap.size, 0, none⟩) m m) (w.alloc (wrow (List.replicate m 0))) := by
  have hi : (Try.prog.info? 44).map (fun i => (i.zero, i.size, i.bytes)) = some (some (.int .u64 0), 1, 8) := by kernel_rfl
  obtain ⟨i0, hi, hz0, hz1, hz2⟩ := info_parts hi
  have h := run_make (P := Try.prog) w 22 44 i0 _ Try.underlying22 hi hz0 .i64 .i64 (m : Int) (m : Int) (by omega) (by omega) (by rw [hz2]; omega) (by omega)
  rw [h, hz1]
  have e : madeCells (Value.int IntKind.u64 0).cells ((m : Int).toNat * 1) = (u64s (List.replicate m 0)).toArray := by
    apply Array.ext
    · simp [madeCells, u64s]
    · intro j h1 h2
      simp [madeCells, u64s, Value.cells, Nat.mod_one]
  rw [e]
  rfl

theorem ret_vec {fn : Func} {p : Tmp} (h : fn.results = #[.cell p 25]) {R : Ending → World → Prop} {a : Act} {w : World} (g : Nat) (x y : Value) (hp : a.tmps.getD p undef = .pointer (some ⟨g, 0, none⟩))
    (hg : w.heap[g]? = some (.cells #[x, y] 25 (0, 0))) (hd : a.defers = []) (hR : R (.returned (.agg #[x, y])) w) : bodyPost Try.prog fn R .ret a w :=
  bodyPost_ret_by (results_cell_row (P := Try.prog) h _ w g 25 #[x, y] (0, 0) _ hp hg Try.underlying25 rfl (by kernel_rfl)) hd hR

theorem ret_vec2 {fn : Func} {p u : Tmp} (h : fn.results = #[.cell p 25, .tmp u]) {R : Ending → World → Prop} {a : Act} {w : World} (g : Nat) (x y z : Value) (hp : a.tmps.getD p undef = .pointer (some ⟨g, 0, none⟩))
    (hu : a.tmps.getD u undef = z) (hg : w.heap[g]? = some (.cells #[x, y] 25 (0, 0))) (hd : a.defers = []) (hR : R (.returned (.tuple #[.agg #[x, y], z])) w) : bodyPost Try.prog fn R .ret a w := by
  refine bodyPost_ret_by (v := .tuple #[.agg #[x, y], z]) ?_ hd hR
  have hl := run_loadVar_row (P := Try.prog) w g 25 25 #[x, y] (0, 0) _ hg Try.underlying25 rfl (by kernel_rfl)
  rw [results_cell_tmp h, hp, hu]
  simp [asAddr, hl, Result.andThen]

theorem falses_at {w : World} {n g b : Nat} (hb : b ≤ g) (hg : w.heap[g]? = some (wrow (List.replicate (need n 64) 0))) :
    Vc b w n (some ⟨g, 0, none⟩) (List.replicate n false) := by
  refine ⟨by simp, .inr ⟨g, rfl, hb, ?_⟩⟩
  rw [chunks_falses]
  exact hg

theorem nil_at (b : Nat) (w : World) : Vc b w 0 none [] := ⟨rfl, .inl ⟨rfl, rfl⟩⟩

theorem blank_any (n : Nat) (w : World) (hn : n ≤ 4194304) :
    Calls Try.prog 40 #[.int .i64 n] w fun e w' => ∃ a, e = .returned (.agg #[.int .i64 n, .slice a (need n 64) (need n 64)]) ∧ Vc w.heap.size w' n a (List.replicate n false) ∧ Below w.heap.size w w' := by
  have hN := fun w => hide1 (needed_any n 64 w hn (.inr rfl))
  have hmk := make_words (need n 64) (by rw [need64]; omega)
  go_enter Try.func40, Try.ntmps40
  go_wp2_with (go_at_call 46; refine (hN _).out.mono ?_; rintro e w' ⟨rfl, rfl⟩)
  · rename_i h0
    have hn0 : n = 0 := by simpa using h0
    subst hn0
    refine ret_vec Try.results40 w.heap.size _ _ rfl (heap_alloc_new _ _) rfl ⟨_, rfl, nil_at _ _, (Below.refl _ _).alloc (Nat.le_refl _) _⟩
  · rename_i h0
    refine ret_vec Try.results40 w.heap.size _ _ rfl (heap_alloc2_old _ _ _) rfl ⟨_, rfl, falses_at (by omega) (heap_alloc2_new _ _ _), ((Below.refl _ _).alloc (Nat.le_refl _) _).alloc (by simp) _⟩

theorem new_any (n : Nat) (w : World) (hn : n ≤ 4194304) :
    Calls Try.prog 26 #[.int .i64 n] w fun e w' => ∃ a, e = .returned (.tuple #[.agg #[.int .i64 n, .slice a (need n 64) (need n 64)], .int .i64 0]) ∧ Vc w.heap.size w' n a (List.replicate n false) ∧ Below w.heap.size w w' := by
  have hA := fun w => hide1 (allowed_any n w)
  have hB := fun w => hide1 (blank_any n w hn)
  have e : (decide ((0 : Int) ≤ n) && decide ((n : Int) ≤ 4194304)) = true := by simp; omega
  rw [e] at hA
  clear e
  go_enter Try.func26, Try.ntmps26
  go_wp2_with (first | (go_at_call 39; refine (hA _).out.mono ?_; rintro e w' ⟨rfl, rfl⟩) | (go_at_call 40; refine (hB _).out.mono ?_; rintro e w1 ⟨a, rfl, hv, hb⟩; have hbx := after_alloc hb; obtain ⟨c0, c1, f0, f1, l0⟩ := box2 hbx))
  refine ret_vec2 Try.results26 w.heap.size _ _ _ rfl rfl (set_box2 hbx) rfl ⟨_, rfl, ?_, ?_⟩
  · exact ((hv.setCell (by simp) _).setCell (by simp) _).mono (by simp)
  · exact ((below_after hb).setCell (Nat.le_refl _) _).setCell (Nat.le_refl _) _

theorem new_no (n : Int) (w : World) (hn : n < 0 ∨ 4194304 < n) :
    Calls Try.prog 26 #[.int .i64 n] w fun e w' => e = .returned (.tuple #[.agg #[.int .i64 0, .slice none 0 0], .int .i64 2]) ∧ Below w.heap.size w w' := by
  have hA := fun w => hide1 (allowed_any n w)
  have e : (decide ((0 : Int) ≤ n) && decide ((n : Int) ≤ 4194304)) = false := by simp; omega
  rw [e] at hA
  go_enter Try.func26, Try.ntmps26
  go_wp2_with (first | (go_at_call 39; refine (hA _).out.mono ?_; rintro e w' ⟨rfl, rfl⟩))
  refine ret_vec2 Try.results26 w.heap.size _ _ _ rfl rfl (heap_alloc_new _ _) rfl ⟨rfl, (Below.refl _ _).alloc (Nat.le_refl _) _⟩

end Go.Proofs.Ytgcbdjmlhjbacaa.T
