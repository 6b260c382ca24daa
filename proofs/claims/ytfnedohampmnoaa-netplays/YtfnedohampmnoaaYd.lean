/- The document's network: To, With, Wrong. -/
import Derived.Test.YtfnedohampmnoaaYx
namespace Go.Proofs.Ytfnedohampmnoaa
open Go.RowKit
set_option maxRecDepth 100000
attribute [local go_sem] not_any

theorem ret_n1 {fn : Func} {p : Tmp} (h : fn.results = #[.cell p 27]) {R : Ending → World → Prop} {a : Act} {w : World} (g : Nat) (x y : Value) (hp : a.tmps.getD p undef = .pointer (some ⟨g, 0, none⟩))
    (hg : w.heap[g]? = some (.cells #[x, y] 27 (0, 0))) (hd : a.defers = []) (hR : R (.returned (.agg #[x, y])) w) : bodyPost Try.prog fn R .ret a w :=
  bodyPost_ret_by (results_cell_row h a.tmps w g 27 #[x, y] (0, 0) _ hp hg Try.underlying27 rfl (by kernel_rfl)) hd hR
theorem ret_n2 {fn : Func} {p u : Tmp} (h : fn.results = #[.cell p 27, .tmp u]) {R : Ending → World → Prop} {a : Act} {w : World} (g : Nat) (x y v : Value) (hp : a.tmps.getD p undef = .pointer (some ⟨g, 0, none⟩))
    (hu : a.tmps.getD u undef = v) (hg : w.heap[g]? = some (.cells #[x, y] 27 (0, 0))) (hd : a.defers = []) (hR : R (.returned (.tuple #[.agg #[x, y], v])) w) : bodyPost Try.prog fn R .ret a w := by
  refine bodyPost_ret_by (v := .tuple #[.agg #[x, y], v]) ?_ hd hR
  have hl := run_loadVar_row (P := Try.prog) w g 27 27 #[x, y] (0, 0) _ hg Try.underlying27 rfl (by kernel_rfl)
  rw [results_cell_tmp h, hp, hu]
  simp [asAddr, hl, Result.andThen]

theorem to_any0 (a0 a1 : Option Addr) (n0 c0 n1 c1 : Nat) (w : World) : Calls Try.prog 33 #[.agg #[.slice a0 n0 c0, .slice a1 n1 c1], .int .i64 0] w fun e w' => e = .returned (.slice a0 n0 c0) ∧ Below w.heap.size w w' := by
  go_enter Try.func33, Try.ntmps33
  go_wp2
  go_ret
  exact ⟨rfl, below1 _⟩
theorem to_any1 (a0 a1 : Option Addr) (n0 c0 n1 c1 : Nat) (w : World) : Calls Try.prog 33 #[.agg #[.slice a0 n0 c0, .slice a1 n1 c1], .int .i64 1] w fun e w' => e = .returned (.slice a1 n1 c1) ∧ Below w.heap.size w w' := by
  go_enter Try.func33, Try.ntmps33
  go_wp2
  go_ret
  exact ⟨rfl, below1 _⟩
theorem alloc2 (w : World) (a b : Obj) : ((w.alloc a).alloc b).heap[w.heap.size + 1]? = some b := by
  have s1 : (w.alloc a).heap.size = w.heap.size + 1 := by simp
  rw [← s1, heap_alloc_new]
theorem below2 {w : World} (a b : Obj) : Below w.heap.size w ((w.alloc a).alloc b) := (below1 a).alloc (by simp) _
theorem three_new (w : World) (a b c : Obj) : (((w.alloc a).alloc b).alloc c).heap[w.heap.size]? = some a ∧ (((w.alloc a).alloc b).alloc c).heap[w.heap.size + 1]? = some b ∧ (((w.alloc a).alloc b).alloc c).heap[w.heap.size + 2]? = some c := by
  have s1 : (w.alloc a).heap.size = w.heap.size + 1 := by simp
  have s2 : ((w.alloc a).alloc b).heap.size = w.heap.size + 2 := by simp
  refine ⟨?_, ?_, ?_⟩
  · rw [Below.heap_alloc _ _ _ (by omega), Below.heap_alloc _ _ _ (by omega), heap_alloc_new]
  · rw [Below.heap_alloc _ _ _ (by omega), ← s1, heap_alloc_new]
  · rw [← s2, heap_alloc_new]
theorem with_any0 (a0 a1 a : Option Addr) (n0 c0 n1 c1 n c : Nat) (w : World) : Calls Try.prog 27 #[.agg #[.slice a0 n0 c0, .slice a1 n1 c1], .int .i64 0, .slice a n c] w fun e w' => e = .returned (.agg #[.slice a n c, .slice a1 n1 c1]) ∧ Below w.heap.size w w' := by
  go_enter Try.func27, Try.ntmps27
  go_wp2
  exact ret_n1 Try.results27 (w.heap.size + 1) _ _ rfl (alloc2 _ _ _) rfl ⟨rfl, below2 _ _⟩
theorem with_any1 (a0 a1 a : Option Addr) (n0 c0 n1 c1 n c : Nat) (w : World) : Calls Try.prog 27 #[.agg #[.slice a0 n0 c0, .slice a1 n1 c1], .int .i64 1, .slice a n c] w fun e w' => e = .returned (.agg #[.slice a0 n0 c0, .slice a n c]) ∧ Below w.heap.size w w' := by
  go_enter Try.func27, Try.ntmps27
  go_wp2
  exact ret_n1 Try.results27 (w.heap.size + 1) _ _ rfl (alloc2 _ _ _) rfl ⟨rfl, below2 _ _⟩
theorem wrong_any {N : Nat → List ByteArray} (a0 a1 : Option Addr) (c0 c1 : Nat) (q i : Int) (w : World) :
    Calls Try.prog 34 #[.agg #[.slice a0 (N 0).length c0, .slice a1 (N 1).length c1], .int .i64 q, .int .i64 i] w fun e w' => e = .returned (.int .i64 (plc N q i)) ∧ Below w.heap.size w w' := by
  unfold plc
  by_cases hb : q < 0 ∨ 1 < q
  · rw [if_pos hb]
    generalize (N 0).length = n0
    generalize (N 1).length = n1
    by_cases h0 : q < 0
    · go_enter Try.func34, Try.ntmps34
      go_wp2
      go_ret
      exact ⟨rfl, below1 _⟩
    · have h1 : 1 < q := by omega
      go_enter Try.func34, Try.ntmps34
      go_wp2
      go_ret
      exact ⟨rfl, below1 _⟩
  · rw [if_neg hb]
    have h0 : ¬ q < 0 := fun h => hb (.inl h)
    have h1 : ¬ 1 < q := fun h => hb (.inr h)
    by_cases hi : i < 0
    · rw [if_pos (.inl hi)]
      generalize (N 0).length = n0
      generalize (N 1).length = n1
      go_enter Try.func34, Try.ntmps34
      go_wp2
      go_ret
      exact ⟨rfl, below1 _⟩
    · rcases (show q = 0 ∨ q = 1 by omega) with rfl | rfl
      · change Calls _ _ _ _ (fun e w' => e = .returned (.int .i64 (if i < 0 ∨ ((N 0).length : Int) ≤ i then 6 else 0)) ∧ _)
        generalize (N 0).length = n0
        generalize (N 1).length = n1
        have kT := fun w => hide1 (to_any0 a0 a1 n0 c0 n1 c1 w)
        by_cases hn : (n0 : Int) ≤ i
        · rw [if_pos (.inr hn)]
          go_enter Try.func34, Try.ntmps34
          go_wp2_with (go_at_call 33; refine (kT _).out.mono ?_; rintro e w1 ⟨rfl, hb1⟩)
          go_ret
          exact ⟨rfl, (below1 _).trans (hb1.mono (below1 _).size)⟩
        · rw [if_neg (by omega)]
          go_enter Try.func34, Try.ntmps34
          go_wp2_with (go_at_call 33; refine (kT _).out.mono ?_; rintro e w1 ⟨rfl, hb1⟩)
          go_ret
          exact ⟨rfl, (below1 _).trans (hb1.mono (below1 _).size)⟩
      · change Calls _ _ _ _ (fun e w' => e = .returned (.int .i64 (if i < 0 ∨ ((N 1).length : Int) ≤ i then 6 else 0)) ∧ _)
        generalize (N 0).length = n0
        generalize (N 1).length = n1
        have kT := fun w => hide1 (to_any1 a0 a1 n0 c0 n1 c1 w)
        by_cases hn : (n1 : Int) ≤ i
        · rw [if_pos (.inr hn)]
          go_enter Try.func34, Try.ntmps34
          go_wp2_with (go_at_call 33; refine (kT _).out.mono ?_; rintro e w1 ⟨rfl, hb1⟩)
          go_ret
          exact ⟨rfl, (below1 _).trans (hb1.mono (below1 _).size)⟩
        · rw [if_neg (by omega)]
          go_enter Try.func34, Try.ntmps34
          go_wp2_with (go_at_call 33; refine (kT _).out.mono ?_; rintro e w1 ⟨rfl, hb1⟩)
          go_ret
          exact ⟨rfl, (below1 _).trans (hb1.mono (below1 _).size)⟩

end Go.Proofs.Ytfnedohampmnoaa
