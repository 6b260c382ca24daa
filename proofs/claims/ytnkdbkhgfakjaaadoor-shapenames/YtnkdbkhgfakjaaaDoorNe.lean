/- The document's Digits and Name. -/
import Derived.Test.YtnkdbkhgfakjaaaDoorNd
import Derived.Laws.BytesArg
namespace Go.Proofs.YtnkdbkhgfakjaaaDoor
open Go.RowKit
set_option maxRecDepth 100000
attribute [local go_sem] not_any mf_any

theorem strOf_dig : ∀ n, n < 10 → strOfNums [((48 + n : Nat) : Int)] = digB n := by decide +kernel
theorem dig_two : ∀ n, n < 100 → 10 ≤ n → digB (n / 10) ++ digB (n % 10) = digB n := by decide +kernel

set_option maxHeartbeats 1000000 in
theorem digit_any (n : Nat) (w : World) (h : n < 10) : Calls Tryd.prog 19 #[.int .i64 (n : Int)] w fun e w' => e = .returned (.string (digB n)) ∧ Below w.heap.size w w' := by
  have h1 : ¬ (10 : Int) ≤ (n : Int) := by omega
  have e1 : IntKind.i64.wrap (48 + (n : Int)) = 48 + (n : Int) := by rw [IntKind.wrap_i64]; omega
  have e2 : IntKind.u8.wrap (48 + (n : Int)) = 48 + (n : Int) := by rw [IntKind.wrap_u8]; omega
  have hcv : (convert 48 9 (.slice (some ⟨w.heap.size, 0, none⟩) 1 1)).run Tryd.prog (w.alloc (.cells #[.int .u8 (48 + (n : Int))] 5)) = .ok (.string (digB n)) (w.alloc (.cells #[.int .u8 (48 + (n : Int))] 5)) := by
    rw [← strOf_dig n h]
    refine run_convert_bytes_arg (P := Tryd.prog) _ 48 5 Tryd.underlying48 Tryd.underlying5 w.heap.size 0 1 1 [((48 + n : Nat) : Int)] rfl ?_ 9 Tryd.underlying9
    intro i hi
    have : i = 0 := by simp at hi; omega
    subst this
    rw [cell_of_row _ _ _ _ _ _ (heap_alloc_new w _)]
    simp
  generalize digB n = d at *
  go_enter Tryd.func19, Tryd.ntmps19
  go_wp2
  go_ret
  exact ⟨rfl, below1 _⟩

set_option maxHeartbeats 1000000 in
theorem digits_any (n : Nat) (w : World) (h : n < 100) : Calls Tryd.prog 19 #[.int .i64 (n : Int)] w fun e w' => e = .returned (.string (digB n)) ∧ Below w.heap.size w w' := by
  by_cases h1 : n < 10
  · exact digit_any n w h1
  have h2 : (10 : Int) ≤ (n : Int) := by omega
  have k1 : ∀ w, Hid (Calls Tryd.prog 19 #[.int .i64 ((n : Int) / 10)] w fun e w' => e = .returned (.string (digB (n / 10))) ∧ Below w.heap.size w w') := fun w => by
    rw [show (n : Int) / 10 = ((n / 10 : Nat) : Int) by omega]
    exact hide1 (digit_any (n / 10) w (by omega))
  have k2 : ∀ w, Hid (Calls Tryd.prog 19 #[.int .i64 ((n : Int) % 10)] w fun e w' => e = .returned (.string (digB (n % 10))) ∧ Below w.heap.size w w') := fun w => by
    rw [show (n : Int) % 10 = ((n % 10 : Nat) : Int) by omega]
    exact hide1 (digit_any (n % 10) w (by omega))
  have s1 := (digB_size (n / 10)).1
  have s2 := (digB_size (n % 10)).1
  rw [← dig_two n h (by omega)]
  generalize digB (n / 10) = d1 at *
  generalize digB (n % 10) = d2 at *
  go_enter Tryd.func19, Tryd.ntmps19
  go_wp2_with fail
  refine (k1 _).out.mono ?_
  rintro e w1 ⟨rfl, hb1⟩
  have B1 := hide1 hb1
  clear hb1
  go_wp2_with fail
  refine (k2 _).out.mono ?_
  rintro e w2 ⟨rfl, hb2⟩
  have B2 := hide1 (B1.out.trans (hb2.mono B1.out.size))
  clear hb2
  go_wp2
  go_ret
  exact ⟨rfl, B2.out⟩

theorem mat_assoc (a b c d e f g : ByteArray) : a ++ b ++ c ++ d ++ e ++ f ++ e ++ g = a ++ b ++ c ++ (d ++ e ++ f ++ e ++ g) := by
  simp only [ByteArray.append_assoc]

set_option maxHeartbeats 4000000 in
theorem rname_any (k b m q n : Int) (w : World) :
    Calls Tryd.prog 9 #[cls k b m q n] w fun e w' => e = .returned (.string (nameB k b m q n)) ∧ Below w.heap.size w w' := by
  have mx := mixed
  have kC := fun w => hide1 (rcheck_any k b m q n w)
  unfold nameB
  by_cases hm : May k b m q n
  · rw [chk_ok hm] at kC
    rw [if_pos hm]
    have hb := hm.2.1
    obtain ⟨B, rfl⟩ : ∃ B : Nat, b = (B : Int) := ⟨b.toNat, by omega⟩
    have kD := fun w => hide1 (digits_any B w (by omega))
    have sB := (digB_size B).1
    rw [Int.toNat_natCast]
    rcases may_ways hm with ⟨hk, rfl, rfl, rfl⟩ | ⟨rfl, h1, rfl, rfl, rfl⟩ | ⟨rfl, h1, h2, h3⟩
    · rcases hk with rfl | rfl
      · rw [if_pos rfl]
        generalize digB B = dB at *
        unfold cls at *
        clear hm hb
        go_enter Tryd.func9, Tryd.ntmps9
        go_upto_region 1 with (fail)
        generalize hX : World.alloc w _ = X
        have HX : Hid (Below w.heap.size w X) := by rw [← hX]; exact below1 _
        have h0 := hX ▸ heap_alloc_new w _
        obtain ⟨c0, c1, c2, c3, c4, l0⟩ := box5 h0
        have H0 := hide1 h0
        clear hX h0
        go_wp2_with fail
        refine (kC _).out.mono ?_
        rintro e w1 ⟨rfl, hb1⟩
        have H1 := hide1 ((hb1.block _ (lt_heap H0.out)).trans H0.out)
        have HB := hide1 (HX.out.trans (hb1.mono HX.out.size))
        clear hb1 c0 c1 c2 c3 c4 l0 H0 HX
        obtain ⟨d0, d1, d2, d3, d4, l1⟩ := box5 H1.out
        go_upto_region 5 with (fail)
        have p0 := bw_cell d0
        have p1 := bw_cell d1
        have p2 := bw_cell d2
        have p3 := bw_cell d3
        have p4 := bw_cell d4
        have hne : Nonempty (Bw w1) := ⟨⟨w1, Below.refl _ _⟩⟩
        have cD := fun p : Bw w1 => kD p.w
        refine wp_region_quiet_bw (by assumption) (by kernel_rfl) ?_
        repeat (go_big_quiet_step (first | (go_at_call 19; exact bw_of (cD _).out)))
        refine wpQuiet_nil ?_
        intro w2 hw2
        obtain ⟨p, rfl⟩ := hw2
        have HP := hide1 p.h
        have H2 := hide1 ((p.h.block _ (lt_heap H1.out)).trans H1.out)
        clear p0 p1 p2 p3 p4 hne cD d0 d1 d2 d3 d4 l1
        obtain ⟨d0, d1, d2, d3, d4, l1⟩ := box5 H2.out
        go_wp2
        go_ret
        exact ⟨rfl, HB.out.trans (HP.out.mono HB.out.size)⟩
      · rw [if_neg (by decide), if_neg (by decide), if_neg (by decide)]
        generalize digB B = dB at *
        unfold cls at *
        clear hm hb
        go_enter Tryd.func9, Tryd.ntmps9
        go_upto_region 1 with (fail)
        generalize hX : World.alloc w _ = X
        have HX : Hid (Below w.heap.size w X) := by rw [← hX]; exact below1 _
        have h0 := hX ▸ heap_alloc_new w _
        obtain ⟨c0, c1, c2, c3, c4, l0⟩ := box5 h0
        have H0 := hide1 h0
        clear hX h0
        go_wp2_with fail
        refine (kC _).out.mono ?_
        rintro e w1 ⟨rfl, hb1⟩
        have H1 := hide1 ((hb1.block _ (lt_heap H0.out)).trans H0.out)
        have HB := hide1 (HX.out.trans (hb1.mono HX.out.size))
        clear hb1 c0 c1 c2 c3 c4 l0 H0 HX
        obtain ⟨d0, d1, d2, d3, d4, l1⟩ := box5 H1.out
        go_upto_region 5 with (fail)
        have p0 := bw_cell d0
        have p1 := bw_cell d1
        have p2 := bw_cell d2
        have p3 := bw_cell d3
        have p4 := bw_cell d4
        have hne : Nonempty (Bw w1) := ⟨⟨w1, Below.refl _ _⟩⟩
        have cD := fun p : Bw w1 => kD p.w
        refine wp_region_quiet_bw (by assumption) (by kernel_rfl) ?_
        repeat (go_big_quiet_step (first | (go_at_call 19; exact bw_of (cD _).out)))
        refine wpQuiet_nil ?_
        intro w2 hw2
        obtain ⟨p, rfl⟩ := hw2
        have HP := hide1 p.h
        have H2 := hide1 ((p.h.block _ (lt_heap H1.out)).trans H1.out)
        clear p0 p1 p2 p3 p4 hne cD d0 d1 d2 d3 d4 l1
        obtain ⟨d0, d1, d2, d3, d4, l1⟩ := box5 H2.out
        go_wp2
        go_ret
        exact ⟨rfl, HB.out.trans (HP.out.mono HB.out.size)⟩
    · rw [if_neg (by decide), if_neg (by decide), if_pos rfl]
      generalize digB B = dB at *
      unfold cls at *
      clear hm hb h1
      go_enter Tryd.func9, Tryd.ntmps9
      go_upto_region 1 with (fail)
      generalize hX : World.alloc w _ = X
      have HX : Hid (Below w.heap.size w X) := by rw [← hX]; exact below1 _
      have h0 := hX ▸ heap_alloc_new w _
      obtain ⟨c0, c1, c2, c3, c4, l0⟩ := box5 h0
      have H0 := hide1 h0
      clear hX h0
      go_wp2_with fail
      refine (kC _).out.mono ?_
      rintro e w1 ⟨rfl, hb1⟩
      have H1 := hide1 ((hb1.block _ (lt_heap H0.out)).trans H0.out)
      have HB := hide1 (HX.out.trans (hb1.mono HX.out.size))
      clear hb1 c0 c1 c2 c3 c4 l0 H0 HX
      obtain ⟨d0, d1, d2, d3, d4, l1⟩ := box5 H1.out
      go_wp2
      go_ret
      exact ⟨rfl, HB.out⟩
    · rw [if_neg (by decide), if_pos rfl]
      obtain ⟨M, rfl⟩ : ∃ M : Nat, m = (M : Int) := ⟨m.toNat, by omega⟩
      obtain ⟨Q, rfl⟩ : ∃ Q : Nat, q = (Q : Int) := ⟨q.toNat, by omega⟩
      obtain ⟨N, rfl⟩ : ∃ N : Nat, n = (N : Int) := ⟨n.toNat, by omega⟩
      have kM := fun w => hide1 (digits_any M w (by omega))
      have kQ := fun w => hide1 (digits_any Q w (by omega))
      have kN := fun w => hide1 (digits_any N w (by omega))
      rw [Int.toNat_natCast, Int.toNat_natCast, Int.toNat_natCast, ← mat_assoc]
      have sM := (digB_size M).1
      have sQ := (digB_size Q).1
      have sN := (digB_size N).1
      generalize digB M = dM at *
      generalize digB Q = dQ at *
      generalize digB N = dN at *
      generalize digB B = dB at *
      unfold cls at *
      clear hm hb h1 h2 h3
      go_enter Tryd.func9, Tryd.ntmps9
      go_upto_region 1 with (fail)
      generalize hX : World.alloc w _ = X
      have HX : Hid (Below w.heap.size w X) := by rw [← hX]; exact below1 _
      have h0 := hX ▸ heap_alloc_new w _
      obtain ⟨c0, c1, c2, c3, c4, l0⟩ := box5 h0
      have H0 := hide1 h0
      clear hX h0
      go_wp2_with fail
      refine (kC _).out.mono ?_
      rintro e w1 ⟨rfl, hb1⟩
      have H1 := hide1 ((hb1.block _ (lt_heap H0.out)).trans H0.out)
      have HB := hide1 (HX.out.trans (hb1.mono HX.out.size))
      clear hb1 c0 c1 c2 c3 c4 l0 H0 HX
      obtain ⟨d0, d1, d2, d3, d4, l1⟩ := box5 H1.out
      go_upto_region 5 with (fail)
      have p0 := bw_cell d0
      have p1 := bw_cell d1
      have p2 := bw_cell d2
      have p3 := bw_cell d3
      have p4 := bw_cell d4
      have hne : Nonempty (Bw w1) := ⟨⟨w1, Below.refl _ _⟩⟩
      have cD := fun p : Bw w1 => kD p.w
      refine wp_region_quiet_bw (by assumption) (by kernel_rfl) ?_
      repeat (go_big_quiet_step (first | (go_at_call 19; exact bw_of (cD _).out)))
      refine wpQuiet_nil ?_
      intro w2 hw2
      obtain ⟨p, rfl⟩ := hw2
      have HP := hide1 p.h
      have H2 := hide1 ((p.h.block _ (lt_heap H1.out)).trans H1.out)
      clear p0 p1 p2 p3 p4 hne cD d0 d1 d2 d3 d4 l1
      obtain ⟨d0, d1, d2, d3, d4, l1⟩ := box5 H2.out
      go_upto_region 7 with (fail)
      generalize hW : p.w = W at *
      have p0 := bw_cell d0
      have p1 := bw_cell d1
      have p2 := bw_cell d2
      have p3 := bw_cell d3
      have p4 := bw_cell d4
      have hne : Nonempty (Bw W) := ⟨⟨W, Below.refl _ _⟩⟩
      have cM := fun p : Bw W => kM p.w
      have cQ := fun p : Bw W => kQ p.w
      have cN := fun p : Bw W => kN p.w
      refine wp_region_quiet_bw (by assumption) (by kernel_rfl) ?_
      repeat (go_big_quiet_step (first | (go_at_call_of 19 M; exact bw_of (cM _).out) | (go_at_call_of 19 Q; exact bw_of (cQ _).out) | (go_at_call_of 19 N; exact bw_of (cN _).out)))
      refine wpQuiet_nil ?_
      intro w3 hw3
      obtain ⟨p', rfl⟩ := hw3
      go_wp2
      go_ret
      exact ⟨rfl, (HB.out.trans (HP.out.mono HB.out.size)).trans (p'.h.mono (HB.out.trans (HP.out.mono HB.out.size)).size)⟩
  · have hne := chk_not hm
    have hnb : (chk k b m q n != 0) = true := by simpa using hne
    rw [if_neg hm]
    generalize chk k b m q n = x at *
    unfold cls at *
    clear hm hne
    go_enter Tryd.func9, Tryd.ntmps9
    go_upto_region 1 with (fail)
    generalize hX : World.alloc w _ = X
    have HX : Hid (Below w.heap.size w X) := by rw [← hX]; exact below1 _
    have h0 := hX ▸ heap_alloc_new w _
    obtain ⟨c0, c1, c2, c3, c4, l0⟩ := box5 h0
    have H0 := hide1 h0
    clear hX h0
    go_wp2_with fail
    refine (kC _).out.mono ?_
    rintro e w1 ⟨rfl, hb1⟩
    have H1 := hide1 ((hb1.block _ (lt_heap H0.out)).trans H0.out)
    have HB := hide1 (HX.out.trans (hb1.mono HX.out.size))
    clear hb1 c0 c1 c2 c3 c4 l0 H0 HX
    obtain ⟨d0, d1, d2, d3, d4, l1⟩ := box5 H1.out
    go_wp2
    go_ret
    exact ⟨rfl, HB.out⟩

end Go.Proofs.YtnkdbkhgfakjaaaDoor
