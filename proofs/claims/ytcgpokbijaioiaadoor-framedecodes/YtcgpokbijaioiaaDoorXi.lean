/- The document's Check. -/
import Derived.Test.YtcgpokbijaioiaaDoorXd
namespace Go.Proofs.YtcgpokbijaioiaaDoor
open Go.RowKit
set_option maxRecDepth 100000
attribute [local go_sem] not_any mf_any

set_option maxHeartbeats 4000000 in
theorem rcheck_any (k o p q a : Int) (b : ByteArray) (w : World) :
    Calls Tryd.prog 10 #[fra k o p q a b] w fun e w' => e = .returned (.int .i64 (chk k o p q a b.size)) ∧ Below w.heap.size w w' := by
  have hE := isEmpty_size b
  unfold fra at *
  by_cases hz : b.size = 0
  · have hE' : b.toList.isEmpty = true := by rw [hE]; exact decide_eq_true hz
    have hM : ∀ {n : Nat}, n = 0 → (Mis k q a n ↔ (k = 1 ∧ (q ≠ 0 ∨ a ≠ 0)) ∨ (k = 2 ∧ q = 0)) := fun h => by unfold Mis; omega
    have HM := hide1 (hM hz)
    have HZ : Shy (b.size = 0) := ⟨hz⟩
    clear hE hM hz
    go_enter Tryd.func10, Tryd.ntmps10
    go_wp2_with (first | go_in)
    all_goals go_ret
    all_goals refine ⟨ret_int ?_, ?_⟩
    all_goals first
      | exact below1 _
      | (have hm := HM.out
         have hz := HZ.out
         clear HM HZ
         simp only [beq_iff_eq, beq_eq_false_iff_ne, bne_iff_ne, bne_eq_false_iff_eq, ne_eq] at *
         first
          | exact chk_15 (by omega)
          | exact chk_mis (by omega) (hm.2 (by omega))
          | exact chk_20 (by omega) (fun h => by have := hm.1 h; omega) (by omega)
          | exact chk_13 (by omega) (fun h => by have := hm.1 h; omega) (by omega) (by omega)
          | exact chk_2 (by omega) (fun h => by have := hm.1 h; omega) (by omega) (by omega) (by omega)
          | exact chk_0 (by omega) (fun h => by have := hm.1 h; omega) (by omega) (by omega) (by omega))
  · have hE' : b.toList.isEmpty = false := by rw [hE]; exact decide_eq_false hz
    have hM : ∀ {n : Nat}, n ≠ 0 → (Mis k q a n ↔ k = 1 ∨ (k = 2 ∧ q = 0) ∨ (k ≠ 1 ∧ k ≠ 2)) := fun h => by unfold Mis; omega
    have HM := hide1 (hM hz)
    have HZ : Shy (b.size ≠ 0) := ⟨hz⟩
    clear hE hM hz
    go_enter Tryd.func10, Tryd.ntmps10
    go_wp2_with (first | go_in)
    all_goals go_ret
    all_goals refine ⟨ret_int ?_, ?_⟩
    all_goals first
      | exact below1 _
      | (have hm := HM.out
         have hz := HZ.out
         clear HM HZ
         simp only [beq_iff_eq, beq_eq_false_iff_ne, ne_eq] at *
         first
          | exact chk_15 (by omega)
          | exact chk_mis (by omega) (hm.2 (by omega))
          | exact chk_20 (by omega) (fun h => by have := hm.1 h; omega) (by omega)
          | exact chk_13 (by omega) (fun h => by have := hm.1 h; omega) (by omega) (by omega)
          | exact chk_2 (by omega) (fun h => by have := hm.1 h; omega) (by omega) (by omega) (by omega)
          | exact chk_0 (by omega) (fun h => by have := hm.1 h; omega) (by omega) (by omega) (by omega))
end Go.Proofs.YtcgpokbijaioiaaDoor
