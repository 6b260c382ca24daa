/- Parse, and the chapter's example. -/
import Derived.Test.YtnkdbkhgfakjaaaDoorKk
namespace Go.Proofs.YtnkdbkhgfakjaaaDoor
open Go.RowKit
set_option maxRecDepth 100000
attribute [local go_sem] not_any mf_any

def Cl.chk (c : Cl) : Int := YtnkdbkhgfakjaaaDoor.chk c.k c.b c.m c.q c.n
def Cl.May (c : Cl) : Prop := YtnkdbkhgfakjaaaDoor.May c.k c.b c.m c.q c.n
instance (c : Cl) : Decidable c.May := by unfold Cl.May; infer_instance
def parP (l : List Nat) : Cl × Int :=
  if (classP l).2 = true then if (classP l).1.May then ((classP l).1, 0) else (Cl.zero, (classP l).1.chk) else (Cl.zero, 13)

def parV (c : Cl) (q : Bool) : Cl × Int := if q = true then if c.May then (c, 0) else (Cl.zero, c.chk) else (Cl.zero, 13)

set_option maxHeartbeats 4000000 in
theorem parse_via (s : ByteArray) (c : Cl) (q : Bool) (w : World)
    (kP : ∀ w, Calls Tryd.prog 14 #[.string s] w fun e w' => e = .returned (.tuple #[c.v, .bool q]) ∧ Below w.heap.size w w') :
    Calls Tryd.prog 6 #[.string s] w fun e w' => e = .returned (.tuple #[(parV c q).1.v, .int .i64 (parV c q).2]) ∧ Below w.heap.size w w' := by
  have kP := fun w => hide1 (kP w)
  cases q
  · have ez : parV c false = (Cl.zero, 13) := rfl
    rw [ez]
    obtain ⟨ck, cb, cm, cq, cn⟩ := c
    simp only [Cl.zero, Cl.v, cls] at *
    go_enter Tryd.func6, Tryd.ntmps6
    go_wp2_with fail
    generalize hX : World.alloc w _ = X
    have HX : Hid (Below w.heap.size w X) := by rw [← hX]; exact below1 _
    have H0 := hide1 (hX ▸ heap_alloc_new w _)
    obtain ⟨b1, hb1⟩ : ∃ b, w.heap.size = b := ⟨_, rfl⟩
    rw [hb1] at H0 ⊢
    have HB1 : Shy (w.heap.size = b1) := ⟨hb1⟩
    clear hX hb1 ez
    refine (kP _).out.mono ?_
    rintro e w1 ⟨rfl, hb1⟩
    have H1 := hide1 ((hb1.block _ (lt_heap H0.out)).trans H0.out)
    have HX1 := hide1 (HX.out.trans (hb1.mono HX.out.size))
    clear hb1 H0 HX
    go_upto_region 3 with (fail)
    generalize hX : World.alloc w1 _ = X
    have HX : Hid (Below w.heap.size w X) := by rw [← hX]; exact HX1.out.alloc HX1.out.size _
    have H0 := hide1 (hX ▸ (Below.heap_alloc _ _ _ (lt_heap H1.out)).trans H1.out)
    clear hX H1 HX1
    obtain ⟨f0, f1, f2, f3, f4⟩ := free5 H0.out
    obtain ⟨c0, c1, c2, c3, c4, l0⟩ := box5 H0.out
    go_wp2
    exact ret_c2 Tryd.results6 b1 _ _ _ _ _ _ rfl rfl (set_box5 (w := X) H0.out) rfl ⟨rfl, below_box5 HX.out (Nat.le_of_eq HB1.out)⟩
  · have kC := fun w => hide1 (check_any c.k c.b c.m c.q c.n w)
    by_cases hm : c.May
    · have ez : parV c true = (c, 0) := by rw [parV, if_pos rfl, if_pos hm]
      rw [ez]
      rw [chk_ok hm] at kC
      obtain ⟨ck, cb, cm, cq, cn⟩ := c
      simp only [Cl.v, cls] at *
      clear hm ez
      go_enter Tryd.func6, Tryd.ntmps6
      go_wp2_with fail
      generalize hX : World.alloc w _ = X
      have HX : Hid (Below w.heap.size w X) := by rw [← hX]; exact below1 _
      have H0 := hide1 (hX ▸ heap_alloc_new w _)
      obtain ⟨b1, hb1⟩ : ∃ b, w.heap.size = b := ⟨_, rfl⟩
      rw [hb1] at H0 ⊢
      have HB1 : Shy (w.heap.size = b1) := ⟨hb1⟩
      clear hX hb1
      refine (kP _).out.mono ?_
      rintro e w1 ⟨rfl, hb1⟩
      have H1 := hide1 ((hb1.block _ (lt_heap H0.out)).trans H0.out)
      have HX1 := hide1 (HX.out.trans (hb1.mono HX.out.size))
      clear hb1 H0 HX
      go_upto_region 4 with (fail)
      generalize hX : World.alloc w1 _ = X
      have HX : Hid (Below w.heap.size w X) := by rw [← hX]; exact HX1.out.alloc HX1.out.size _
      have H0 := hide1 (hX ▸ (Below.heap_alloc _ _ _ (lt_heap H1.out)).trans H1.out)
      have H2 := hide1 (hX ▸ heap_alloc_new w1 _)
      clear hX H1 HX1
      obtain ⟨b2, hb2⟩ : ∃ b, w1.heap.size = b := ⟨_, rfl⟩
      rw [hb2] at H2 ⊢
      clear hb2
      obtain ⟨d0, d1, d2, d3, d4, l1⟩ := box5 H2.out
      go_wp2_with fail
      refine (kC _).out.mono ?_
      rintro e w2 ⟨rfl, hb2⟩
      have H3 := hide1 ((hb2.block _ (lt_heap H0.out)).trans H0.out)
      have H4 := hide1 ((hb2.block _ (lt_heap H2.out)).trans H2.out)
      have HX3 := hide1 (HX.out.trans (hb2.mono HX.out.size))
      clear hb2 H0 HX H2 d0 d1 d2 d3 d4 l1
      obtain ⟨d0, d1, d2, d3, d4, l1⟩ := box5 H4.out
      obtain ⟨f0, f1, f2, f3, f4⟩ := free5 H3.out
      obtain ⟨c0, c1, c2, c3, c4, l0⟩ := box5 H3.out
      go_wp2
      exact ret_c2 Tryd.results6 b1 _ _ _ _ _ _ rfl rfl (set_box5 (w := w2) H3.out) rfl ⟨rfl, below_box5 HX3.out (Nat.le_of_eq HB1.out)⟩
    · have ez : parV c true = (Cl.zero, c.chk) := by rw [parV, if_pos rfl, if_neg hm]
      rw [ez]
      have hne : c.chk ≠ 0 := chk_not hm
      have hnb : (c.chk != 0) = true := by simpa using hne
      rw [show chk c.k c.b c.m c.q c.n = c.chk from rfl] at kC
      generalize c.chk = x at *
      obtain ⟨ck, cb, cm, cq, cn⟩ := c
      simp only [Cl.zero, Cl.v, cls] at *
      clear hm ez hne
      go_enter Tryd.func6, Tryd.ntmps6
      go_wp2_with fail
      generalize hX : World.alloc w _ = X
      have HX : Hid (Below w.heap.size w X) := by rw [← hX]; exact below1 _
      have H0 := hide1 (hX ▸ heap_alloc_new w _)
      obtain ⟨b1, hb1⟩ : ∃ b, w.heap.size = b := ⟨_, rfl⟩
      rw [hb1] at H0 ⊢
      have HB1 : Shy (w.heap.size = b1) := ⟨hb1⟩
      clear hX hb1
      refine (kP _).out.mono ?_
      rintro e w1 ⟨rfl, hb1⟩
      have H1 := hide1 ((hb1.block _ (lt_heap H0.out)).trans H0.out)
      have HX1 := hide1 (HX.out.trans (hb1.mono HX.out.size))
      clear hb1 H0 HX
      go_upto_region 4 with (fail)
      generalize hX : World.alloc w1 _ = X
      have HX : Hid (Below w.heap.size w X) := by rw [← hX]; exact HX1.out.alloc HX1.out.size _
      have H0 := hide1 (hX ▸ (Below.heap_alloc _ _ _ (lt_heap H1.out)).trans H1.out)
      have H2 := hide1 (hX ▸ heap_alloc_new w1 _)
      clear hX H1 HX1
      obtain ⟨b2, hb2⟩ : ∃ b, w1.heap.size = b := ⟨_, rfl⟩
      rw [hb2] at H2 ⊢
      clear hb2
      obtain ⟨d0, d1, d2, d3, d4, l1⟩ := box5 H2.out
      go_wp2_with fail
      refine (kC _).out.mono ?_
      rintro e w2 ⟨rfl, hb2⟩
      have H3 := hide1 ((hb2.block _ (lt_heap H0.out)).trans H0.out)
      have HX3 := hide1 (HX.out.trans (hb2.mono HX.out.size))
      clear hb2 H0 HX H2 d0 d1 d2 d3 d4 l1
      obtain ⟨f0, f1, f2, f3, f4⟩ := free5 H3.out
      obtain ⟨c0, c1, c2, c3, c4, l0⟩ := box5 H3.out
      go_wp2
      exact ret_c2 Tryd.results6 b1 _ _ _ _ _ _ rfl rfl (set_box5 (w := w2) H3.out) rfl ⟨rfl, below_box5 HX3.out (Nat.le_of_eq HB1.out)⟩

theorem parse_any (s : ByteArray) (w : World) (hs : s.size ≤ 281474976710656) :
    Calls Tryd.prog 6 #[.string s] w fun e w' => e = .returned (.tuple #[(parP (bs s)).1.v, .int .i64 (parP (bs s)).2]) ∧ Below w.heap.size w w' :=
  parse_via s _ _ w (fun w => classOf_any s w hs)

theorem parse_awake (w : World) :
    Calls Tryd.prog 6 #[.string ⟨#[109, 49, 54, 58, 50, 120, 51, 120, 52]⟩] w fun e w' => e = .returned (.tuple #[cls 2 16 2 3 4, .int .i64 0]) ∧ Below w.heap.size w w' := by
  have h := parse_any ⟨#[109, 49, 54, 58, 50, 120, 51, 120, 52]⟩ w (by decide)
  rw [show parP (bs ⟨#[109, 49, 54, 58, 50, 120, 51, 120, 52]⟩) = (⟨2, 16, 2, 3, 4⟩, 0) by decide +kernel] at h
  exact h

end Go.Proofs.YtnkdbkhgfakjaaaDoor
