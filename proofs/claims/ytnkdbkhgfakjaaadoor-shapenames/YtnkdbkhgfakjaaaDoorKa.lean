/- Classes: which may be. -/
import Derived.Test.YtnkdbkhgfakjaaaDoorRows
import Derived.WalkKit
import Derived.WalkSpells
import Derived.WalkLawsBesides
import Derived.Deep.QuietTactic
import Derived.Deep.RegionWith
import Derived.Shelf.SlSortCmp.QuietGrown
import Derived.BigQuiet
import Derived.Laws.Rows
import Derived.Laws.NewBlocks
import Derived.Lib.Hide
import Derived.Deep.Cut
import Derived.Deep.CutBlock
import Derived.Deep.DeepCutAuto
import Derived.Deep.DeepMust
import Derived.Deep.RegionHeld3
import Derived.Laws.MakeOwn
namespace Go.Proofs.YtnkdbkhgfakjaaaDoor
open Go.RowKit
set_option maxRecDepth 100000
theorem hide1 {p : Prop} (h : p) : Hid p := h
theorem not_any (x : Bool) (w : World) : (Op.unary .not (.bool x)).run Tryd.prog w = .ok (.bool (!x)) w := rfl
theorem mf_any (fn : Fn) (first cap : Array Value) (w : World) : (Instr.makeFunc fn first cap).run Tryd.prog w = .ok (.func fn first cap) w := rfl
theorem mixed : Tryd.prog.follows .mixedOrders = true := rfl
structure Shy (p : Prop) : Prop where
  out : p
theorem lt_heap {w : World} {b : Nat} {o : Obj} (h : w.heap[b]? = some o) : b < w.heap.size := by
  rcases Nat.lt_or_ge b w.heap.size with h' | h'
  · exact h'
  · rw [Array.getElem?_eq_none h'] at h; cases h
attribute [local go_sem] not_any mf_any

/- a class -/
def cls (k b m q n : Int) : Value := .agg #[.int .i64 k, .int .i64 b, .int .i64 m, .int .i64 q, .int .i64 n]
def crow (k b m q n : Int) : Obj := .cells #[.int .i64 k, .int .i64 b, .int .i64 m, .int .i64 q, .int .i64 n] 23 (0, 0)

def May (k b m q n : Int) : Prop := (1 ≤ k ∧ k ≤ 4) ∧ (1 ≤ b ∧ b ≤ 64) ∧ (k = 3 → b = 1) ∧ (k = 2 → (1 ≤ m ∧ m ≤ 6) ∧ (1 ≤ q ∧ q ≤ 6) ∧ (1 ≤ n ∧ n ≤ 6)) ∧ (k ≠ 2 → m = 0 ∧ q = 0 ∧ n = 0)
instance (k b m q n : Int) : Decidable (May k b m q n) := by unfold May; infer_instance
def chk (k b m q n : Int) : Int := if May k b m q n then 0 else if 1 ≤ k ∧ k ≤ 4 then 11 else 15
theorem chk_ok {k b m q n : Int} (h : May k b m q n) : chk k b m q n = 0 := if_pos h
theorem chk_11 {k b m q n : Int} (h : ¬ May k b m q n) (h' : 1 ≤ k ∧ k ≤ 4) : chk k b m q n = 11 := by rw [chk, if_neg h, if_pos h']
theorem chk_15 {k b m q n : Int} (h' : ¬ (1 ≤ k ∧ k ≤ 4)) : chk k b m q n = 15 := by rw [chk, if_neg (fun h => h' h.1), if_neg h']
theorem chk_not {k b m q n : Int} (h : ¬ May k b m q n) : chk k b m q n ≠ 0 := by rw [chk, if_neg h]; split <;> omega

theorem below1 {w : World} (o : Obj) : Below w.heap.size w (w.alloc o) := (Below.refl _ _).alloc (Nat.le_refl _) _

set_option maxHeartbeats 1000000 in
theorem check_any (k b m q n : Int) (w : World) :
    Calls Tryd.prog 15 #[cls k b m q n] w fun e w' => e = .returned (.int .i64 (chk k b m q n)) ∧ Below w.heap.size w w' := by
  unfold cls
  go_enter Tryd.func15, Tryd.ntmps15
  go_wp2_with (first | go_in)
  all_goals go_ret
  all_goals refine ⟨?_, ?_⟩
  all_goals first
    | exact below1 _
    | exact (below1 _).drew
    | (simp only [beq_iff_eq, beq_eq_false_iff_ne, bne_iff_ne, bne_eq_false_iff_eq, ne_eq, Bool.not_eq_eq_eq_not, Bool.not_true, Bool.not_false, decide_eq_true_eq, decide_eq_false_iff_not] at *
       first
        | (rw [chk_15 (by omega)]; rfl)
        | (rw [chk_ok (by unfold May; omega)]; rfl)
        | (rw [chk_11 (by unfold May; omega) (by omega)]; rfl))

set_option maxHeartbeats 1000000 in
theorem rcheck_any (k b m q n : Int) (w : World) :
    Calls Tryd.prog 10 #[cls k b m q n] w fun e w' => e = .returned (.int .i64 (chk k b m q n)) ∧ Below w.heap.size w w' := by
  unfold cls
  go_enter Tryd.func10, Tryd.ntmps10
  go_wp2_with (first | go_in)
  all_goals go_ret
  all_goals refine ⟨?_, ?_⟩
  all_goals first
    | exact below1 _
    | exact (below1 _).drew
    | (simp only [bne_iff_ne, bne_eq_false_iff_eq, ne_eq, Bool.not_eq_eq_eq_not, Bool.not_true, Bool.not_false, decide_eq_true_eq, decide_eq_false_iff_not] at *
       first
        | (rw [chk_15 (by omega)]; rfl)
        | (rw [chk_ok (by unfold May; omega)]; rfl)
        | (rw [chk_11 (by unfold May; omega) (by omega)]; rfl))

end Go.Proofs.YtnkdbkhgfakjaaaDoor
