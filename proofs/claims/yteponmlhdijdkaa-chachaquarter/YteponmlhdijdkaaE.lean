/- The walk of ChachaQuarter. -/
import Derived.Test.YteponmlhdijdkaaD
namespace Go.Proofs.Yteponmlhdijdkaa
open Go.RowKit
set_option maxRecDepth 100000
attribute [local go_sem] not_any

set_option maxHeartbeats 2000000 in
theorem quarter_all (W : World) (a b c d : Nat) (ha : a < 4294967296) (hb : b < 4294967296) (hc : c < 4294967296) (hd : d < 4294967296) :
    Calls Try.prog 3 #[.int .u32 (a : Int), .int .u32 (b : Int), .int .u32 (c : Int), .int .u32 (d : Int)] W fun e w' => e = .returned (.bool true) ∧ Below W.heap.size W w' := by
  have k1 := fun w => hide1 (quarter_any a b c d w ha hb hc hd)
  have k2 := fun w => hide1 (rquarter_any a b c d w ha hb hc hd)
  have HQ : Shy (bs (qP a b c d) 4 = [a, b, c, d]) := ⟨bs_qs rfl (lt4 ha hb hc hd)⟩
  have HL := hide1 (qP_lt ha hb hc hd)
  have Hn : Hid ((qP a b c d).length = 4) := qP_length a b c d
  obtain ⟨q0, q1, q2, q3, hq⟩ := list4 _ (qP_length a b c d)
  rw [hq] at k1 k2 HQ HL Hn
  clear hq ha hb hc hd
  simp only [at0, List.getElem?_cons_succ, List.getElem?_cons_zero, Option.getD_some] at k1
  go_enter Try.func3, Try.ntmps3
  go_wp2_with fail
  go_at_call 8
  refine (k1 _).out.mono ?_
  rintro e w' ⟨rfl, hw⟩
  cases hw
  clear k1
  go_wp2_with fail
  go_at_call 9
  refine (k2 _).out.mono ?_
  rintro e w1 ⟨rfl, h1, h2⟩
  clear k2
  have H1 := hide1 h1
  have H2 := hide1 h2
  clear h1 h2
  go_wp2_with fail
  go_at_call 10
  obtain ⟨X, hX⟩ : ∃ X, w1.alloc (row32 22 [q0, q1, q2, q3]) = X := ⟨_, rfl⟩
  have x1 : X.heap[w1.heap.size]? = some (row32 22 [q0, q1, q2, q3]) := by rw [← hX]; exact heap_alloc_new _ _
  have x2 : Below w1.heap.size w1 X := by rw [← hX]; exact (Below.refl _ _).alloc (Nat.le_refl _) _
  have hb := back_any [q0, q1, q2, q3] w1.heap.size 4 X rfl HL.out (fun j hj => cell32 x1 hj)
  have hX' : w1.alloc (.cells #[.int .u32 (q0 : Int), .int .u32 (q1 : Int), .int .u32 (q2 : Int), .int .u32 (q3 : Int)] 22) = X := hX
  rw [hX']
  refine hb.mono ?_
  rintro e w3 ⟨g, cap, rfl, m1, m2⟩
  rw [HQ.out] at m1
  have b3 : Below w1.heap.size w1 w3 := x2.trans (m2.mono (by rw [← hX]; simp))
  have r1 : w3.heap[W.heap.size + 1]? = some (row32 22 [q0, q1, q2, q3]) := (b3.block _ (lt_heap H1.out)).trans H1.out
  have hB : Below W.heap.size W w3 := H2.out.trans (b3.mono H2.out.size)
  have c0 : w3.cell? ⟨W.heap.size + 1, 0, none⟩ = some (.int .u32 (q0 : Int)) := cell32 r1 (j := 0) (by simp)
  have c1 : w3.cell? ⟨W.heap.size + 1, 1, none⟩ = some (.int .u32 (q1 : Int)) := cell32 r1 (j := 1) (by simp)
  have c2 : w3.cell? ⟨W.heap.size + 1, 2, none⟩ = some (.int .u32 (q2 : Int)) := cell32 r1 (j := 2) (by simp)
  have c3 : w3.cell? ⟨W.heap.size + 1, 3, none⟩ = some (.int .u32 (q3 : Int)) := cell32 r1 (j := 3) (by simp)
  have d0 : w3.cell? ⟨g, 0, none⟩ = some (.int .u32 (a : Int)) := m1.cell (j := 0) (by simp)
  have d1 : w3.cell? ⟨g, 1, none⟩ = some (.int .u32 (b : Int)) := m1.cell (j := 1) (by simp)
  have d2 : w3.cell? ⟨g, 2, none⟩ = some (.int .u32 (c : Int)) := m1.cell (j := 2) (by simp)
  have d3 : w3.cell? ⟨g, 3, none⟩ = some (.int .u32 (d : Int)) := m1.cell (j := 3) (by simp)
  have HB := hide1 hB
  clear m1 m2 b3 r1 hB hb hX hX' x1 x2 HQ HL Hn H1 H2
  go_wp2_with (go_at_call 11; refine (awake_any _).mono ?_; rintro e w' ⟨rfl, rfl⟩)
  go_ret
  exact ⟨rfl, HB.out⟩
end Go.Proofs.Yteponmlhdijdkaa
