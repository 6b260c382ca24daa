/- A class's word. -/
import Derived.Test.YtnkdbkhgfakjaaaDoorNa
namespace Go.Proofs.YtnkdbkhgfakjaaaDoor
open Go.RowKit
set_option maxRecDepth 100000
attribute [local go_sem] not_any mf_any

set_option maxHeartbeats 2000000 in
theorem nameSides_any (k b : Int) (M Q N : Nat) (w : World) (hM : M < 100) (hQ : Q < 100) (hN : N < 100) :
    Calls Tryd.prog 18 #[cls k b (M : Int) (Q : Int) (N : Int)] w fun e w' => e = .returned (.string (digB M ++ ⟨#[120]⟩ ++ digB Q ++ ⟨#[120]⟩ ++ digB N)) ∧ Below w.heap.size w w' := by
  have mx := mixed
  have kM := fun w => hide1 (itoa_any M w hM)
  have kQ := fun w => hide1 (itoa_any Q w hQ)
  have kN := fun w => hide1 (itoa_any N w hN)
  have sM := (digB_size M).1
  have sQ := (digB_size Q).1
  have sN := (digB_size N).1
  generalize digB M = dM at *
  generalize digB Q = dQ at *
  generalize digB N = dN at *
  unfold cls
  go_enter Tryd.func18, Tryd.ntmps18
  go_upto_region 1 with (fail)
  generalize hX : World.alloc w _ = X
  have HX : Hid (Below w.heap.size w X) := by rw [← hX]; exact below1 _
  have H0 := hide1 (hX ▸ heap_alloc_new w _)
  obtain ⟨c0, c1, c2, c3, c4, l0⟩ := box5 H0.out
  clear hX
  have kM' := fun n => kM (X.drewN n)
  have kQ' := fun n => kQ (X.drewN n)
  have kN' := fun n => kN (X.drewN n)
  go_quiet ((first | (go_at_call_of 17 M; exact Calls.quiet_of_same (kM' _).out) | (go_at_call_of 17 Q; exact Calls.quiet_of_same (kQ' _).out) | (go_at_call_of 17 N; exact Calls.quiet_of_same (kN' _).out)))
  go_wp2
  go_ret
  exact ⟨rfl, by first | exact HX.out | exact HX.out.drew | exact belowN HX.out _⟩

def nameB (k b m q n : Int) : ByteArray :=
  if May k b m q n then
    if k = 1 then ⟨#[115]⟩ ++ digB b.toNat
    else if k = 2 then ⟨#[109]⟩ ++ digB b.toNat ++ ⟨#[58]⟩ ++ (digB m.toNat ++ ⟨#[120]⟩ ++ digB q.toNat ++ ⟨#[120]⟩ ++ digB n.toNat)
    else if k = 3 then ⟨#[98]⟩ else ⟨#[100]⟩ ++ digB b.toNat
  else ⟨#[63]⟩

set_option maxHeartbeats 2000000 in
theorem name_any (k b m q n : Int) (w : World) :
    Calls Tryd.prog 8 #[cls k b m q n] w fun e w' => e = .returned (.string (nameB k b m q n)) ∧ Below w.heap.size w w' := by
  have kM := fun w => hide1 (mayBe_any k b m q n w)
  unfold nameB
  by_cases hm : May k b m q n
  · rw [decide_eq_true hm] at kM
    rw [if_pos hm]
    have hb := hm.2.1
    obtain ⟨B, rfl⟩ : ∃ B : Nat, b = (B : Int) := ⟨b.toNat, by omega⟩
    have kI := fun w => hide1 (itoa_any B w (by omega))
    have sB := (digB_size B).1
    rw [Int.toNat_natCast]
    rcases may_ways hm with ⟨hk, rfl, rfl, rfl⟩ | ⟨rfl, h1, rfl, rfl, rfl⟩ | ⟨rfl, h1, h2, h3⟩
    · rcases hk with rfl | rfl
      · rw [if_pos rfl]
        generalize digB B = dB at *
        unfold cls at *
        clear hm hb
        go_enter Tryd.func8, Tryd.ntmps8
        go_upto_region 1 with (fail)
        generalize hX : World.alloc w _ = X
        have HX : Hid (Below w.heap.size w X) := by rw [← hX]; exact below1 _
        have h0 := hX ▸ heap_alloc_new w _
        obtain ⟨c0, c1, c2, c3, c4, l0⟩ := box5 h0
        have H0 := hide1 h0
        clear hX h0
        go_wp2_with fail
        refine (kM _).out.mono ?_
        rintro e w1 ⟨rfl, hb1⟩
        have H1 := hide1 ((hb1.block _ (lt_heap H0.out)).trans H0.out)
        have HB := hide1 (HX.out.trans (hb1.mono HX.out.size))
        clear hb1 c0 c1 c2 c3 c4 l0 H0 HX
        obtain ⟨d0, d1, d2, d3, d4, l1⟩ := box5 H1.out
        go_wp2_with fail
        refine (kI _).out.mono ?_
        rintro e w' ⟨rfl, hw⟩
        cases hw
        go_wp2
        go_ret
        exact ⟨rfl, HB.out⟩
      · rw [if_neg (by decide), if_neg (by decide), if_neg (by decide)]
        generalize digB B = dB at *
        unfold cls at *
        clear hm hb
        go_enter Tryd.func8, Tryd.ntmps8
        go_upto_region 1 with (fail)
        generalize hX : World.alloc w _ = X
        have HX : Hid (Below w.heap.size w X) := by rw [← hX]; exact below1 _
        have h0 := hX ▸ heap_alloc_new w _
        obtain ⟨c0, c1, c2, c3, c4, l0⟩ := box5 h0
        have H0 := hide1 h0
        clear hX h0
        go_wp2_with fail
        refine (kM _).out.mono ?_
        rintro e w1 ⟨rfl, hb1⟩
        have H1 := hide1 ((hb1.block _ (lt_heap H0.out)).trans H0.out)
        have HB := hide1 (HX.out.trans (hb1.mono HX.out.size))
        clear hb1 c0 c1 c2 c3 c4 l0 H0 HX
        obtain ⟨d0, d1, d2, d3, d4, l1⟩ := box5 H1.out
        go_wp2_with fail
        refine (kI _).out.mono ?_
        rintro e w' ⟨rfl, hw⟩
        cases hw
        go_wp2
        go_ret
        exact ⟨rfl, HB.out⟩
    · rw [if_neg (by decide), if_neg (by decide), if_pos rfl]
      generalize digB B = dB at *
      unfold cls at *
      clear hm hb h1
      go_enter Tryd.func8, Tryd.ntmps8
      go_upto_region 1 with (fail)
      generalize hX : World.alloc w _ = X
      have HX : Hid (Below w.heap.size w X) := by rw [← hX]; exact below1 _
      have h0 := hX ▸ heap_alloc_new w _
      obtain ⟨c0, c1, c2, c3, c4, l0⟩ := box5 h0
      have H0 := hide1 h0
      clear hX h0
      go_wp2_with fail
      refine (kM _).out.mono ?_
      rintro e w1 ⟨rfl, hb1⟩
      have H1 := hide1 ((hb1.block _ (lt_heap H0.out)).trans H0.out)
      have HB := hide1 (HX.out.trans (hb1.mono HX.out.size))
      clear hb1 c0 c1 c2 c3 c4 l0 H0 HX
      obtain ⟨d0, d1, d2, d3, d4, l1⟩ := box5 H1.out
      go_wp2_with fail
      refine (kI _).out.mono ?_
      rintro e w' ⟨rfl, hw⟩
      cases hw
      go_wp2
      go_ret
      exact ⟨rfl, HB.out⟩
    · rw [if_neg (by decide), if_pos rfl]
      obtain ⟨M, rfl⟩ : ∃ M : Nat, m = (M : Int) := ⟨m.toNat, by omega⟩
      obtain ⟨Q, rfl⟩ : ∃ Q : Nat, q = (Q : Int) := ⟨q.toNat, by omega⟩
      obtain ⟨N, rfl⟩ : ∃ N : Nat, n = (N : Int) := ⟨n.toNat, by omega⟩
      have kS := fun w => hide1 (nameSides_any 2 B M Q N w (by omega) (by omega) (by omega))
      rw [Int.toNat_natCast, Int.toNat_natCast, Int.toNat_natCast]
      have sS : (digB M ++ ⟨#[120]⟩ ++ digB Q ++ ⟨#[120]⟩ ++ digB N).size ≤ 8 := by
        have := (digB_size M).1
        have := (digB_size Q).1
        have := (digB_size N).1
        simp only [ByteArray.size_append]
        show (digB M).size + 1 + (digB Q).size + 1 + (digB N).size ≤ 8
        omega
      generalize digB M ++ ⟨#[120]⟩ ++ digB Q ++ ⟨#[120]⟩ ++ digB N = dS at *
      generalize digB B = dB at *
      unfold cls at *
      clear hm hb h1 h2 h3
      go_enter Tryd.func8, Tryd.ntmps8
      go_upto_region 1 with (fail)
      generalize hX : World.alloc w _ = X
      have HX : Hid (Below w.heap.size w X) := by rw [← hX]; exact below1 _
      have h0 := hX ▸ heap_alloc_new w _
      obtain ⟨c0, c1, c2, c3, c4, l0⟩ := box5 h0
      have H0 := hide1 h0
      clear hX h0
      go_wp2_with fail
      refine (kM _).out.mono ?_
      rintro e w1 ⟨rfl, hb1⟩
      have H1 := hide1 ((hb1.block _ (lt_heap H0.out)).trans H0.out)
      have HB := hide1 (HX.out.trans (hb1.mono HX.out.size))
      clear hb1 c0 c1 c2 c3 c4 l0 H0 HX
      obtain ⟨d0, d1, d2, d3, d4, l1⟩ := box5 H1.out
      go_wp2_with fail
      refine (kI _).out.mono ?_
      rintro e w' ⟨rfl, hw⟩
      cases hw
      go_wp2_with fail
      refine (kS _).out.mono ?_
      rintro e w2 ⟨rfl, hb2⟩
      have HB2 := hide1 (HB.out.trans (hb2.mono HB.out.size))
      clear hb2 HB
      go_wp2
      go_ret
      exact ⟨rfl, HB2.out⟩
  · rw [decide_eq_false hm] at kM
    rw [if_neg hm]
    unfold cls at *
    clear hm
    go_enter Tryd.func8, Tryd.ntmps8
    go_upto_region 1 with (fail)
    generalize hX : World.alloc w _ = X
    have HX : Hid (Below w.heap.size w X) := by rw [← hX]; exact below1 _
    have h0 := hX ▸ heap_alloc_new w _
    obtain ⟨c0, c1, c2, c3, c4, l0⟩ := box5 h0
    have H0 := hide1 h0
    clear hX h0
    go_wp2_with fail
    refine (kM _).out.mono ?_
    rintro e w1 ⟨rfl, hb1⟩
    have H1 := hide1 ((hb1.block _ (lt_heap H0.out)).trans H0.out)
    have HB := hide1 (HX.out.trans (hb1.mono HX.out.size))
    clear hb1 c0 c1 c2 c3 c4 l0 H0 HX
    obtain ⟨d0, d1, d2, d3, d4, l1⟩ := box5 H1.out
    go_wp2
    go_ret
    exact ⟨rfl, HB.out⟩

end Go.Proofs.YtnkdbkhgfakjaaaDoor
