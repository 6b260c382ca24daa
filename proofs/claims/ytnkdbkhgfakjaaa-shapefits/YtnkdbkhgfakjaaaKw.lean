/- ShapeFits: the walk. -/
import Derived.Test.YtnkdbkhgfakjaaaKv
namespace Go.Proofs.Ytnkdbkhgfakjaaa
open Go.RowKit
set_option maxRecDepth 100000
attribute [local go_sem] not_any mf_any

structure Sh where
  n0 : Nat
  c0 : Nat
  a0 : Option Addr
  l0 : List Nat
  n1 : Nat
  c1 : Nat
  a1 : Option Addr
  l1 : List Nat
  n2 : Nat
  c2 : Nat
  a2 : Option Addr
  l2 : List Nat
def Sh.v (s : Sh) : Value := .agg #[.slice s.a0 s.n0 s.c0, .slice s.a1 s.n1 s.c1, .slice s.a2 s.n2 s.c2]
structure Sh.In (s : Sh) (W : World) : Prop where
  i0 : Ul W s.n0 s.a0 s.l0
  i1 : Ul W s.n1 s.a1 s.l1
  i2 : Ul W s.n2 s.a2 s.l2
theorem Sh.In.below {s : Sh} {W W' : World} (h : s.In W) (hb : Below W.heap.size W W') : s.In W' := ⟨h.i0.below hb, h.i1.below hb, h.i2.below hb⟩

theorem fits_both (k b m q n : Int) (s : Sh) (h0 : s.n0 ≤ 60) (h1 : s.n1 ≤ 60) (h2 : s.n2 ≤ 60) : ∃ r : Bool,
    (∀ w, s.In w → Calls Try.prog 17 #[cls k b m q n, s.v] w fun e w' => e = .returned (.bool r) ∧ Below w.heap.size w w') ∧
    (∀ w, s.In w → Calls Try.prog 18 #[cls k b m q n, s.v] w fun e w' => e = .returned (.bool r) ∧ Below w.heap.size w w') := by
  by_cases hm : May k b m q n
  · have b1 := wd1_le hm
    have b2 := wd2_le hm
    refine ⟨_, fun w hi => fits_yes k b m q n s.n0 s.n1 s.n2 s.c0 s.c1 s.c2 s.a0 s.a1 s.a2 s.l0 s.l1 s.l2 w hm hi.i0 hi.i1 hi.i2 h0 h1 h2, fun w hi => ?_⟩
    have h := rfits_yes k b m q n ⟨s.a0, s.n0, s.c0, s.l0, sz1 k b m q n, (wd1 k b m q n).toNat - 1⟩ ⟨s.a1, s.n1, s.c1, s.l1, sz2 k b m q n, (wd2 k b m q n).toNat - 1⟩ ⟨s.a2, s.n2, s.c2, s.l2, sz3 k b m q n, (wd2 k b m q n).toNat - 1⟩ w hm
      (fun p hp => by
        rcases List.mem_cons.1 hp with rfl | hp
        · exact ⟨hi.i0, h0, by dsimp only; omega⟩
        rcases List.mem_cons.1 hp with rfl | hp
        · exact ⟨hi.i1, h1, by dsimp only; omega⟩
        rcases List.mem_cons.1 hp with rfl | hp
        · exact ⟨hi.i2, h2, by dsimp only; omega⟩
        · cases hp) rfl rfl rfl (by dsimp only; omega) (by dsimp only; omega) (by dsimp only; omega)
    simp only [Pt.ok] at h
    rw [show (wd1 k b m q n).toNat - 1 + 1 = (wd1 k b m q n).toNat by omega, show (wd2 k b m q n).toNat - 1 + 1 = (wd2 k b m q n).toNat by omega] at h
    exact h
  · exact ⟨false, fun w _ => fits_no k b m q n _ _ _ w rfl rfl rfl hm, fun w _ => rfits_no k b m q n _ _ _ w rfl rfl rfl hm⟩

theorem fits_else (w : World) (k b m q n : Int) (s : Sh) (h : 60 < s.n0 ∨ (s.n0 ≤ 60 ∧ 60 < s.n1) ∨ (s.n0 ≤ 60 ∧ s.n1 ≤ 60 ∧ 60 < s.n2)) :
    Calls Try.prog 4 #[cls k b m q n, s.v] w fun e w' => e = .returned (.bool true) ∧ Below w.heap.size w w' := by
  have kA := fun w => hide1 (awake9_any w)
  have HB : Hid (∀ o o' : Obj, Below w.heap.size w ((w.alloc o).alloc o')) := fun o o' => ((Below.refl _ _).alloc (Nat.le_refl _) _).alloc (by simp) _
  obtain ⟨n0, c0, a0, l0, n1, c1, a1, l1, n2, c2, a2, l2⟩ := s
  simp only [Sh.v, cls] at *
  rcases h with h | ⟨h, h'⟩ | ⟨h, h', h''⟩
  · have h1 : (60 : Int) < (n0 : Int) := by omega
    go_enter Try.func4, Try.ntmps4
    go_wp2_with fail
    refine (kA _).out.mono ?_
    rintro e w1 ⟨rfl, hb⟩
    have H := hide1 ((HB.out _ _).trans (hb.mono (HB.out _ _).size))
    clear hb
    go_wp2
    go_ret
    exact ⟨rfl, H.out⟩
  · have h1 : ¬ (60 : Int) < (n0 : Int) := by omega
    have h2 : (60 : Int) < (n1 : Int) := by omega
    go_enter Try.func4, Try.ntmps4
    go_wp2_with fail
    refine (kA _).out.mono ?_
    rintro e w1 ⟨rfl, hb⟩
    have H := hide1 ((HB.out _ _).trans (hb.mono (HB.out _ _).size))
    clear hb
    go_wp2
    go_ret
    exact ⟨rfl, H.out⟩
  · have h1 : ¬ (60 : Int) < (n0 : Int) := by omega
    have h2 : ¬ (60 : Int) < (n1 : Int) := by omega
    have h3 : (60 : Int) < (n2 : Int) := by omega
    go_enter Try.func4, Try.ntmps4
    go_wp2_with fail
    refine (kA _).out.mono ?_
    rintro e w1 ⟨rfl, hb⟩
    have H := hide1 ((HB.out _ _).trans (hb.mono (HB.out _ _).size))
    clear hb
    go_wp2
    go_ret
    exact ⟨rfl, H.out⟩

set_option maxHeartbeats 4000000 in
theorem fits_all (w : World) (k b m q n : Int) (s : Sh) (hi : s.In w) :
    Calls Try.prog 4 #[cls k b m q n, s.v] w fun e w' => e = .returned (.bool true) ∧ Below w.heap.size w w' := by
  by_cases h0 : 60 < s.n0
  · exact fits_else w k b m q n s (Or.inl h0)
  by_cases h1 : 60 < s.n1
  · exact fits_else w k b m q n s (Or.inr (Or.inl ⟨by omega, h1⟩))
  by_cases h2 : 60 < s.n2
  · exact fits_else w k b m q n s (Or.inr (Or.inr ⟨by omega, by omega, h2⟩))
  have mx := mixed
  have kA := fun w => hide1 (awake9_any w)
  obtain ⟨r, hF, hR⟩ := fits_both k b m q n s (by omega) (by omega) (by omega)
  have HI := hide1 hi
  have kF := fun w h => hide1 (hF w h)
  have kR := fun w h => hide1 (hR w h)
  clear hi hF hR
  have g0 : ¬ (60 : Int) < (s.n0 : Int) := by omega
  have g1 : ¬ (60 : Int) < (s.n1 : Int) := by omega
  have g2 : ¬ (60 : Int) < (s.n2 : Int) := by omega
  clear h0 h1 h2
  unfold cls Sh.v at *
  go_enter Try.func4, Try.ntmps4
  go_upto_region 1 with (fail)
  generalize hX : World.alloc (World.alloc w _) _ = X
  have HX : Hid (Below w.heap.size w X) := by rw [← hX]; exact ((Below.refl _ _).alloc (Nat.le_refl _) _).alloc (by simp) _
  have H1 := hide1 (hX ▸ heap_alloc2_old w _ _)
  have H2 := hide1 (hX ▸ heap_alloc2_new w _ _)
  obtain ⟨b2, hb2⟩ : ∃ b, w.heap.size + 1 = b := ⟨_, rfl⟩
  obtain ⟨b1, hb1⟩ : ∃ b, w.heap.size = b := ⟨_, rfl⟩
  rw [hb2] at H2 ⊢
  rw [hb1] at H1 ⊢
  clear hX hb1 hb2
  obtain ⟨p0, p1, p2, p3, p4, lp⟩ := box5 H1.out
  obtain ⟨d0, d1, d2, ld⟩ := box3s H2.out
  go_upto_region 3 with (fail)
  have p0 := bw_cell p0
  have p1 := bw_cell p1
  have p2 := bw_cell p2
  have p3 := bw_cell p3
  have p4 := bw_cell p4
  have d0 := bw_cell d0
  have d1 := bw_cell d1
  have d2 := bw_cell d2
  have hne : Nonempty (Bw X) := ⟨⟨X, Below.refl _ _⟩⟩
  have cF := fun p : Bw X => kF p.w ((HI.out.below HX.out).below p.h)
  have cR := fun p : Bw X => kR p.w ((HI.out.below HX.out).below p.h)
  have cA := fun p : Bw X => kA p.w
  clear kF kR kA
  cases r
  all_goals
    refine wp_region_quiet_bw (by assumption) (by kernel_rfl) ?_
    repeat (go_big_quiet_step (first | (go_at_call 17; exact bw_of (cF _).out) | (go_at_call 18; exact bw_of (cR _).out) | (go_at_call 16; exact bw_of (cA _).out)))
    refine wpQuiet_nil ?_
    intro w1 hw1
    obtain ⟨p, rfl⟩ := hw1
    go_wp2
    go_ret
    exact ⟨rfl, HX.out.trans (p.h.mono HX.out.size)⟩

end Go.Proofs.Ytnkdbkhgfakjaaa
