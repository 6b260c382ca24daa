/- The document's Order, and ShapeOrders. -/
import Derived.Test.YtnkdbkhgfakjaaaKr
namespace Go.Proofs.Ytnkdbkhgfakjaaa
open Go.RowKit
set_option maxRecDepth 100000
attribute [local go_sem] not_any mf_any

theorem ord_drop {xs ys : List Int} {k : Nat} {x y : Int} (hx : xs[k]? = some x) (hy : ys[k]? = some y) : ordF (xs.drop k) (ys.drop k) = if x < y then -1 else if y < x then 1 else ordF (xs.drop (k + 1)) (ys.drop (k + 1)) := by
  rw [drop_at hx, drop_at hy, ordF]

set_option maxHeartbeats 2000000 in
theorem rorder_any (a0 a1 a2 a3 a4 v0 v1 v2 v3 v4 : Int) (w : World) :
    Calls Try.prog 20 #[cls a0 a1 a2 a3 a4, cls v0 v1 v2 v3 v4] w fun e w' => e = .returned (.int .i64 (ordF [a0, a1, a2, a3, a4] [v0, v1, v2, v3, v4])) ∧ Below w.heap.size w w' := by
  have mx := mixed
  obtain ⟨xs, hxs⟩ : ∃ xs, xs = [a0, a1, a2, a3, a4] := ⟨_, rfl⟩
  obtain ⟨ys, hys⟩ : ∃ ys, ys = [v0, v1, v2, v3, v4] := ⟨_, rfl⟩
  have XS : Shy (xs = [a0, a1, a2, a3, a4]) := ⟨hxs⟩
  have YS : Shy (ys = [v0, v1, v2, v3, v4]) := ⟨hys⟩
  rw [← hxs, ← hys]
  clear hxs hys
  unfold cls
  go_enter Try.func20, Try.ntmps20
  go_upto_region 3 with (fail)
  generalize hX : World.alloc (World.alloc (World.alloc (World.alloc w _) _) _) _ = X
  have HX : Hid (Below w.heap.size w X) := by rw [← hX]; exact (((((Below.refl _ _).alloc (Nat.le_refl _) _).alloc (by simp) _).alloc (by simp; omega) _).alloc (by simp; omega) _)
  have H1 : Hid (X.heap[w.heap.size + 1 + 1]? = some (irow xs)) := by
    have h := heap_alloc2_old ((w.alloc (crow a0 a1 a2 a3 a4)).alloc (crow v0 v1 v2 v3 v4)) (irow [a0, a1, a2, a3, a4]) (irow [v0, v1, v2, v3, v4])
    rw [show ((w.alloc (crow a0 a1 a2 a3 a4)).alloc (crow v0 v1 v2 v3 v4)).heap.size = w.heap.size + 1 + 1 by simp] at h
    rw [← hX, XS.out]
    exact h
  have H2 : Hid (X.heap[w.heap.size + 1 + 1 + 1]? = some (irow ys)) := by
    have h := heap_alloc2_new ((w.alloc (crow a0 a1 a2 a3 a4)).alloc (crow v0 v1 v2 v3 v4)) (irow [a0, a1, a2, a3, a4]) (irow [v0, v1, v2, v3, v4])
    rw [show ((w.alloc (crow a0 a1 a2 a3 a4)).alloc (crow v0 v1 v2 v3 v4)).heap.size = w.heap.size + 1 + 1 by simp] at h
    rw [← hX, YS.out]
    exact h
  obtain ⟨b1, hb1⟩ : ∃ b, w.heap.size + 1 + 1 = b := ⟨_, rfl⟩
  obtain ⟨b2, hb2⟩ : ∃ b, w.heap.size + 1 + 1 + 1 = b := ⟨_, rfl⟩
  rw [hb2] at H2 ⊢
  rw [hb1] at H1 ⊢
  have L1 := lt_heap H1.out
  have L2 := lt_heap H2.out
  have lx : xs.length = 5 := by rw [XS.out]; rfl
  have ly : ys.length = 5 := by rw [YS.out]; rfl
  clear hX hb1 hb2 XS YS
  go_wp2_with fail
  go_loopw [7] (fun i wr => ∃ k : Nat, k ≤ 5 ∧ i = .int .i64 k ∧ Below X.heap.size X wr ∧ ordF xs ys = ordF (xs.drop k) (ys.drop k)) (fun i _ => 5 - (intOf i).toNat)
  case atStart => exact ⟨0, Nat.zero_le _, rfl, Below.refl _ _, rfl⟩
  case round =>
    obtain ⟨k, hk, rfl, hB, he⟩ := hrel
    have HB := hide1 hB
    have l1 : b1 < wr.heap.size := Nat.lt_of_lt_of_le L1 hB.size
    have l2 : b2 < wr.heap.size := Nat.lt_of_lt_of_le L2 hB.size
    by_cases hlt : k < 5
    · obtain ⟨x, hx⟩ := get_lt (l := xs) (k := k) (by omega)
      obtain ⟨y, hy⟩ := get_lt (l := ys) (k := k) (by omega)
      have c1 := irow_cell ((hB.block _ L1).trans H1.out) hx
      have c2 := irow_cell ((hB.block _ L2).trans H2.out) hy
      rw [ord_drop hx hy] at he
      have HE : Shy (ordF xs ys = if x < y then -1 else if y < x then 1 else ordF (xs.drop (k + 1)) (ys.drop (k + 1))) := ⟨he⟩
      clear he hx hy hB
      by_cases h1 : x < y
      · have h1' : decide (x < y) = true := decide_eq_true h1
        go_wp2
        go_quiet (fail)
        go_wp2
        go_ret
        rw [HE.out, if_pos (show x < y by omega)]
        exact ⟨rfl, HX.out.trans ((belowN HB.out _).mono HX.out.size)⟩
      · have h1' : decide (x < y) = false := decide_eq_false h1
        have K1 : Shy (¬ x < y) := ⟨h1⟩
        by_cases h2 : y < x
        · have h2' : decide (y < x) = true := decide_eq_true h2
          go_wp2
          go_quiet (fail)
          go_wp2
          go_quiet (fail)
          go_wp2
          go_ret
          rw [HE.out, if_neg (show ¬ x < y by have := K1.out; omega), if_pos (show y < x by omega)]
          exact ⟨rfl, HX.out.trans ((belowN (belowN HB.out _) _).mono HX.out.size)⟩
        · have h2' : decide (y < x) = false := decide_eq_false h2
          have K2 : Shy (¬ y < x) := ⟨h2⟩
          go_wp2
          go_quiet (fail)
          go_wp2
          go_quiet (fail)
          go_wp2
          go_roundw
          case rel => exact ⟨k + 1, by omega, by go_num, belowN HB.out _, by rw [HE.out, if_neg (show ¬ x < y by have := K1.out; omega), if_neg (show ¬ y < x by have := K2.out; omega)]⟩
          case measure => simp [intOf]; omega
    · obtain rfl : k = 5 := by omega
      rw [List.drop_of_length_le (by omega), List.drop_of_length_le (by omega)] at he
      have HE : Shy (ordF xs ys = 0) := ⟨he⟩
      clear he hB
      go_wp2
      go_ret
      rw [HE.out]
      exact ⟨rfl, HX.out.trans (HB.out.mono HX.out.size)⟩

theorem orders_all (w : World) (a0 a1 a2 a3 a4 v0 v1 v2 v3 v4 : Int) : Calls Try.prog 5 #[cls a0 a1 a2 a3 a4, cls v0 v1 v2 v3 v4] w fun e w' => e = .returned (.bool true) ∧ Below w.heap.size w w' := by
  have mx := mixed
  have kA := fun w => hide1 (awake9_any w)
  have k1 := fun w => hide1 (order_any a0 a1 a2 a3 a4 v0 v1 v2 v3 v4 w)
  have k2 := fun w => hide1 (rorder_any a0 a1 a2 a3 a4 v0 v1 v2 v3 v4 w)
  generalize ordF [a0, a1, a2, a3, a4] [v0, v1, v2, v3, v4] = r at *
  unfold cls at *
  go_enter Try.func5, Try.ntmps5
  go_upto_region 1 with (fail)
  generalize hX : World.alloc (World.alloc w _) _ = X
  have HX : Hid (Below w.heap.size w X) := by rw [← hX]; exact ((Below.refl _ _).alloc (Nat.le_refl _) _).alloc (by simp) _
  have H1 := hide1 (hX ▸ heap_alloc2_old w _ _)
  have H2 := hide1 (hX ▸ heap_alloc2_new w _ _)
  obtain ⟨b2, hb2⟩ : ∃ b, w.heap.size + 1 = b := ⟨_, rfl⟩
  obtain ⟨b1, hb1⟩ : ∃ b, w.heap.size = b := ⟨_, rfl⟩
  rw [hb2] at H2 ⊢
  rw [hb1] at H1 ⊢
  clear hX hb1 hb2
  obtain ⟨p0, p1, p2, p3, p4, l0⟩ := box5 H1.out
  obtain ⟨d0, d1, d2, d3, d4, l1⟩ := box5 H2.out
  go_wp2_with fail
  refine (k1 _).out.mono ?_
  rintro e w1 ⟨rfl, hb⟩
  have H3 := hide1 ((hb.block _ (lt_heap H1.out)).trans H1.out)
  have H4 := hide1 ((hb.block _ (lt_heap H2.out)).trans H2.out)
  have HX1 := hide1 (HX.out.trans (hb.mono HX.out.size))
  clear hb p0 p1 p2 p3 p4 l0 d0 d1 d2 d3 d4 l1 H1 H2 HX
  obtain ⟨p0, p1, p2, p3, p4, l0⟩ := box5 H3.out
  obtain ⟨d0, d1, d2, d3, d4, l1⟩ := box5 H4.out
  go_wp2_with fail
  refine (k2 _).out.mono ?_
  rintro e w2 ⟨rfl, hb⟩
  have HX2 := hide1 (HX1.out.trans (hb.mono HX1.out.size))
  clear hb p0 p1 p2 p3 p4 l0 d0 d1 d2 d3 d4 l1 H3 H4 HX1
  go_wp2_with fail
  all_goals
    refine (kA _).out.mono ?_
    rintro e w3 ⟨rfl, hb⟩
    have HX3 := hide1 (HX2.out.trans (hb.mono HX2.out.size))
    clear hb
    go_wp2
    go_ret
    exact ⟨rfl, HX3.out⟩

end Go.Proofs.Ytnkdbkhgfakjaaa
