/- Classes: which may be. -/
import Derived.Test.YtnkdbkhgfakjaaaGreatDoorSd
namespace Go.Proofs.YtnkdbkhgfakjaaaGreatDoor
open Go.RowKit
set_option maxRecDepth 100000
attribute [local go_sem] not_any mf_any

/- a class -/
def cls (k b m q n : Int) : Value := .agg #[.int .i64 k, .int .i64 b, .int .i64 m, .int .i64 q, .int .i64 n]
def crow (k b m q n : Int) : Obj := .cells #[.int .i64 k, .int .i64 b, .int .i64 m, .int .i64 q, .int .i64 n] 26 (0, 0)

def May (k b m q n : Int) : Prop := (1 ≤ k ∧ k ≤ 4) ∧ (1 ≤ b ∧ b ≤ 64) ∧ (k = 3 → b = 1) ∧ (k = 2 → (1 ≤ m ∧ m ≤ 6) ∧ (1 ≤ q ∧ q ≤ 6) ∧ (1 ≤ n ∧ n ≤ 6)) ∧ (k ≠ 2 → m = 0 ∧ q = 0 ∧ n = 0)
instance (k b m q n : Int) : Decidable (May k b m q n) := by unfold May; infer_instance
def chk (k b m q n : Int) : Int := if May k b m q n then 0 else if 1 ≤ k ∧ k ≤ 4 then 11 else 15
theorem chk_ok {k b m q n : Int} (h : May k b m q n) : chk k b m q n = 0 := if_pos h
theorem chk_11 {k b m q n : Int} (h : ¬ May k b m q n) (h' : 1 ≤ k ∧ k ≤ 4) : chk k b m q n = 11 := by rw [chk, if_neg h, if_pos h']
theorem chk_15 {k b m q n : Int} (h' : ¬ (1 ≤ k ∧ k ≤ 4)) : chk k b m q n = 15 := by rw [chk, if_neg (fun h => h' h.1), if_neg h']
theorem chk_not {k b m q n : Int} (h : ¬ May k b m q n) : chk k b m q n ≠ 0 := by rw [chk, if_neg h]; split <;> omega

theorem below1 {w : World} (o : Obj) : Below w.heap.size w (w.alloc o) := (Below.refl _ _).alloc (Nat.le_refl _) _

set_option maxHeartbeats 1000000 in
theorem check_any (k b m q n : Int) (w : World) :
    Calls Tryz.prog 18 #[cls k b m q n] w fun e w' => e = .returned (.int .i64 (chk k b m q n)) ∧ Below w.heap.size w w' := by
  unfold cls
  go_enter Tryz.func18, Tryz.ntmps18
  go_wp2_with (first | go_in)
  all_goals go_ret
  all_goals refine ⟨?_, ?_⟩
  all_goals first
    | exact below1 _
    | exact (below1 _).drew
    | (simp only [beq_iff_eq, beq_eq_false_iff_ne, bne_iff_ne, bne_eq_false_iff_eq, ne_eq, Bool.not_eq_eq_eq_not, Bool.not_true, Bool.not_false, decide_eq_true_eq, decide_eq_false_iff_not] at *
       first
        | (rw [chk_15 (by omega)]; rfl)
        | (rw [chk_ok (by unfold May; omega)]; rfl)
        | (rw [chk_11 (by unfold May; omega) (by omega)]; rfl))

set_option maxHeartbeats 1000000 in
theorem rcheck_any (k b m q n : Int) (w : World) :
    Calls Tryz.prog 21 #[cls k b m q n] w fun e w' => e = .returned (.int .i64 (chk k b m q n)) ∧ Below w.heap.size w w' := by
  unfold cls
  go_enter Tryz.func21, Tryz.ntmps21
  go_wp2_with (first | go_in)
  all_goals go_ret
  all_goals refine ⟨?_, ?_⟩
  all_goals first
    | exact below1 _
    | exact (below1 _).drew
    | (simp only [bne_iff_ne, bne_eq_false_iff_eq, ne_eq, Bool.not_eq_eq_eq_not, Bool.not_true, Bool.not_false, decide_eq_true_eq, decide_eq_false_iff_not] at *
       first
        | (rw [chk_15 (by omega)]; rfl)
        | (rw [chk_ok (by unfold May; omega)]; rfl)
        | (rw [chk_11 (by unfold May; omega) (by omega)]; rfl))

end Go.Proofs.YtnkdbkhgfakjaaaGreatDoor
