/- The class that a word is, and Parse. -/
import Derived.Test.YtnkdbkhgfakjaaaDoorKj
namespace Go.Proofs.YtnkdbkhgfakjaaaDoor
open Go.RowKit
set_option maxRecDepth 100000
attribute [local go_sem] not_any mf_any

structure Cl where
  k : Int
  b : Int
  m : Int
  q : Int
  n : Int
  deriving DecidableEq
def Cl.v (c : Cl) : Value := cls c.k c.b c.m c.q c.n
def Cl.zero : Cl := ⟨0, 0, 0, 0, 0⟩
def plainP (k : Int) (l : List Nat) : Cl × Bool := (⟨k, (numOf l : Nat), 0, 0, 0⟩, ((numOf l : Nat) : Int) != 0)
def matP (l : List Nat) : Cl × Bool := (⟨2, (mB l : Nat), (mM l : Nat), (mK l : Nat), (mN l : Nat)⟩, decide (((mB l : Nat) : Int) ≠ 0 ∧ ((mM l : Nat) : Int) ≠ 0 ∧ ((mK l : Nat) : Int) ≠ 0 ∧ ((mN l : Nat) : Int) ≠ 0))
def classP (l : List Nat) : Cl × Bool :=
  if l = [98] then (⟨3, 1, 0, 0, 0⟩, true)
  else if l[0]? = some 115 then plainP 1 (l.drop 1)
  else if l[0]? = some 109 then matP (l.drop 1)
  else if l[0]? = some 100 then plainP 4 (l.drop 1)
  else (Cl.zero, false)

theorem isb_yes {s : ByteArray} (h : bs s = [98]) : s = ⟨#[98]⟩ := bs_inj (by rw [h]; rfl)
theorem isb_no {s : ByteArray} (h : bs s ≠ [98]) : (s.toList == [98]) = false := by
  rw [Lib.toList_data, beq_eq_false_iff_ne]
  intro e
  exact h (by rw [bs, e]; rfl)

set_option maxHeartbeats 4000000 in
theorem classOf_s (s : ByteArray) (c : Cl) (q : Bool) (w : World) (h0 : bs s ≠ [98]) (h1 : (bs s)[0]? = some 115)
    (kP : ∀ w, Calls Tryd.prog 22 #[.int .i64 1, .string (s.extract 1 s.size)] w fun e w' => e = .returned (.tuple #[c.v, .bool q]) ∧ Below w.heap.size w w') :
    Calls Tryd.prog 14 #[.string s] w fun e w' => e = .returned (.tuple #[c.v, .bool q]) ∧ Below w.heap.size w w' := by
  have kP := fun w => hide1 (kP w)
  have kC := fun w => hide1 (cutPrefix_yes s 115 w h1)
  have hb := isb_no h0
  generalize s.extract 1 s.size = r at *
  obtain ⟨ck, cb, cm, cq, cn⟩ := c
  simp only [Cl.v, cls] at *
  go_enter Tryd.func14, Tryd.ntmps14
  go_wp2_with fail
  generalize hX : World.alloc w _ = X
  have HX : Hid (Below w.heap.size w X) := by rw [← hX]; exact below1 _
  have H0 := hide1 (hX ▸ heap_alloc_new w _)
  obtain ⟨b1, hb1⟩ : ∃ b, w.heap.size = b := ⟨_, rfl⟩
  rw [hb1] at H0 ⊢
  have HB1 : Shy (w.heap.size = b1) := ⟨hb1⟩
  clear hX hb1
  refine (kC _).out.mono ?_
  rintro e w' ⟨rfl, hw⟩
  cases hw
  go_wp2_with fail
  refine (kP _).out.mono ?_
  rintro e w1 ⟨rfl, hb1⟩
  have H1 := hide1 ((hb1.block _ (lt_heap H0.out)).trans H0.out)
  have HX1 := hide1 (HX.out.trans (hb1.mono HX.out.size))
  clear hb1 H0 HX
  obtain ⟨f0, f1, f2, f3, f4⟩ := free5 H1.out
  obtain ⟨c0, c1, c2, c3, c4, l0⟩ := box5 H1.out
  go_wp2
  exact ret_c2 Tryd.results14 b1 _ _ _ _ _ _ rfl rfl (set_box5 (w := w1) H1.out) rfl ⟨rfl, below_box5 HX1.out (Nat.le_of_eq HB1.out)⟩

set_option maxHeartbeats 4000000 in
theorem classOf_m (s : ByteArray) (c : Cl) (q : Bool) (w : World) (h0 : bs s ≠ [98]) (n115 : (bs s)[0]? ≠ some 115) (h1 : (bs s)[0]? = some 109)
    (kP : ∀ w, Calls Tryd.prog 23 #[.string (s.extract 1 s.size)] w fun e w' => e = .returned (.tuple #[c.v, .bool q]) ∧ Below w.heap.size w w') :
    Calls Tryd.prog 14 #[.string s] w fun e w' => e = .returned (.tuple #[c.v, .bool q]) ∧ Below w.heap.size w w' := by
  have kP := fun w => hide1 (kP w)
  have kC := fun w => hide1 (cutPrefix_yes s 109 w h1)
  have k115 := fun w => hide1 (cutPrefix_no s 115 w n115)
  have hb := isb_no h0
  generalize s.extract 1 s.size = r at *
  obtain ⟨ck, cb, cm, cq, cn⟩ := c
  simp only [Cl.v, cls] at *
  go_enter Tryd.func14, Tryd.ntmps14
  go_wp2_with fail
  generalize hX : World.alloc w _ = X
  have HX : Hid (Below w.heap.size w X) := by rw [← hX]; exact below1 _
  have H0 := hide1 (hX ▸ heap_alloc_new w _)
  obtain ⟨b1, hb1⟩ : ∃ b, w.heap.size = b := ⟨_, rfl⟩
  rw [hb1] at H0 ⊢
  have HB1 : Shy (w.heap.size = b1) := ⟨hb1⟩
  clear hX hb1
  refine (k115 _).out.mono ?_
  rintro e w' ⟨rfl, hw⟩
  cases hw
  go_wp2_with fail
  refine (kC _).out.mono ?_
  rintro e w' ⟨rfl, hw⟩
  cases hw
  go_wp2_with fail
  refine (kP _).out.mono ?_
  rintro e w1 ⟨rfl, hb1⟩
  have H1 := hide1 ((hb1.block _ (lt_heap H0.out)).trans H0.out)
  have HX1 := hide1 (HX.out.trans (hb1.mono HX.out.size))
  clear hb1 H0 HX
  obtain ⟨f0, f1, f2, f3, f4⟩ := free5 H1.out
  obtain ⟨c0, c1, c2, c3, c4, l0⟩ := box5 H1.out
  go_wp2
  exact ret_c2 Tryd.results14 b1 _ _ _ _ _ _ rfl rfl (set_box5 (w := w1) H1.out) rfl ⟨rfl, below_box5 HX1.out (Nat.le_of_eq HB1.out)⟩

set_option maxHeartbeats 4000000 in
theorem classOf_d (s : ByteArray) (c : Cl) (q : Bool) (w : World) (h0 : bs s ≠ [98]) (n115 : (bs s)[0]? ≠ some 115) (n109 : (bs s)[0]? ≠ some 109) (h1 : (bs s)[0]? = some 100)
    (kP : ∀ w, Calls Tryd.prog 22 #[.int .i64 4, .string (s.extract 1 s.size)] w fun e w' => e = .returned (.tuple #[c.v, .bool q]) ∧ Below w.heap.size w w') :
    Calls Tryd.prog 14 #[.string s] w fun e w' => e = .returned (.tuple #[c.v, .bool q]) ∧ Below w.heap.size w w' := by
  have kP := fun w => hide1 (kP w)
  have kC := fun w => hide1 (cutPrefix_yes s 100 w h1)
  have k115 := fun w => hide1 (cutPrefix_no s 115 w n115)
  have k109 := fun w => hide1 (cutPrefix_no s 109 w n109)
  have hb := isb_no h0
  generalize s.extract 1 s.size = r at *
  obtain ⟨ck, cb, cm, cq, cn⟩ := c
  simp only [Cl.v, cls] at *
  go_enter Tryd.func14, Tryd.ntmps14
  go_wp2_with fail
  generalize hX : World.alloc w _ = X
  have HX : Hid (Below w.heap.size w X) := by rw [← hX]; exact below1 _
  have H0 := hide1 (hX ▸ heap_alloc_new w _)
  obtain ⟨b1, hb1⟩ : ∃ b, w.heap.size = b := ⟨_, rfl⟩
  rw [hb1] at H0 ⊢
  have HB1 : Shy (w.heap.size = b1) := ⟨hb1⟩
  clear hX hb1
  refine (k115 _).out.mono ?_
  rintro e w' ⟨rfl, hw⟩
  cases hw
  go_wp2_with fail
  refine (k109 _).out.mono ?_
  rintro e w' ⟨rfl, hw⟩
  cases hw
  go_wp2_with fail
  refine (kC _).out.mono ?_
  rintro e w' ⟨rfl, hw⟩
  cases hw
  go_wp2_with fail
  refine (kP _).out.mono ?_
  rintro e w1 ⟨rfl, hb1⟩
  have H1 := hide1 ((hb1.block _ (lt_heap H0.out)).trans H0.out)
  have HX1 := hide1 (HX.out.trans (hb1.mono HX.out.size))
  clear hb1 H0 HX
  obtain ⟨f0, f1, f2, f3, f4⟩ := free5 H1.out
  obtain ⟨c0, c1, c2, c3, c4, l0⟩ := box5 H1.out
  go_wp2
  exact ret_c2 Tryd.results14 b1 _ _ _ _ _ _ rfl rfl (set_box5 (w := w1) H1.out) rfl ⟨rfl, below_box5 HX1.out (Nat.le_of_eq HB1.out)⟩

theorem classOf_b (w : World) :
    Calls Tryd.prog 14 #[.string ⟨#[98]⟩] w fun e w' => e = .returned (.tuple #[Cl.v ⟨3, 1, 0, 0, 0⟩, .bool true]) ∧ Below w.heap.size w w' := by
  simp only [Cl.v, cls]
  go_enter Tryd.func14, Tryd.ntmps14
  go_wp2
  exact ret_c2 Tryd.results14 w.heap.size _ _ _ _ _ _ rfl rfl (heap_alloc_new _ _) rfl ⟨rfl, below1 _⟩

set_option maxHeartbeats 4000000 in
theorem classOf_no (s : ByteArray) (w : World) (h0 : bs s ≠ [98]) (n115 : (bs s)[0]? ≠ some 115) (n109 : (bs s)[0]? ≠ some 109) (n100 : (bs s)[0]? ≠ some 100) :
    Calls Tryd.prog 14 #[.string s] w fun e w' => e = .returned (.tuple #[Cl.zero.v, .bool false]) ∧ Below w.heap.size w w' := by
  have k115 := fun w => hide1 (cutPrefix_no s 115 w n115)
  have k109 := fun w => hide1 (cutPrefix_no s 109 w n109)
  have k100 := fun w => hide1 (cutPrefix_no s 100 w n100)
  have hb := isb_no h0
  simp only [Cl.zero, Cl.v, cls] at *
  go_enter Tryd.func14, Tryd.ntmps14
  go_wp2_with fail
  generalize hX : World.alloc w _ = X
  have HX : Hid (Below w.heap.size w X) := by rw [← hX]; exact below1 _
  have H0 := hide1 (hX ▸ heap_alloc_new w _)
  obtain ⟨b1, hb1⟩ : ∃ b, w.heap.size = b := ⟨_, rfl⟩
  rw [hb1] at H0 ⊢
  have HB1 : Shy (w.heap.size = b1) := ⟨hb1⟩
  clear hX hb1
  refine (k115 _).out.mono ?_
  rintro e w' ⟨rfl, hw⟩
  cases hw
  go_wp2_with fail
  refine (k109 _).out.mono ?_
  rintro e w' ⟨rfl, hw⟩
  cases hw
  go_wp2_with fail
  refine (k100 _).out.mono ?_
  rintro e w' ⟨rfl, hw⟩
  cases hw
  obtain ⟨f0, f1, f2, f3, f4⟩ := free5 H0.out
  obtain ⟨c0, c1, c2, c3, c4, l0⟩ := box5 H0.out
  go_wp2
  exact ret_c2 Tryd.results14 b1 _ _ _ _ _ _ rfl rfl (set_box5 (w := X) H0.out) rfl ⟨rfl, below_box5 HX.out (Nat.le_of_eq HB1.out)⟩

theorem classOf_any (s : ByteArray) (w : World) (hs : s.size ≤ 281474976710656) :
    Calls Tryd.prog 14 #[.string s] w fun e w' => e = .returned (.tuple #[(classP (bs s)).1.v, .bool (classP (bs s)).2]) ∧ Below w.heap.size w w' := by
  have er := bs_rest s 1
  have z := size_ext s 1 s.size hs
  unfold classP
  by_cases h0 : bs s = [98]
  · rw [if_pos h0, isb_yes h0]
    exact classOf_b w
  rw [if_neg h0]
  by_cases h1 : (bs s)[0]? = some 115
  · rw [if_pos h1]
    refine classOf_s s _ _ w h0 h1 fun w => ?_
    have h := plainOf_any 1 _ w z
    rw [er] at h
    simp only [plainP, Cl.v]
    exact h
  rw [if_neg h1]
  by_cases h2 : (bs s)[0]? = some 109
  · rw [if_pos h2]
    refine classOf_m s _ _ w h0 h1 h2 fun w => ?_
    have h := matrixOf_any _ w z
    rw [er] at h
    simp only [matP, Cl.v]
    exact h
  rw [if_neg h2]
  by_cases h3 : (bs s)[0]? = some 100
  · rw [if_pos h3]
    refine classOf_d s _ _ w h0 h1 h2 h3 fun w => ?_
    have h := plainOf_any 4 _ w z
    rw [er] at h
    simp only [plainP, Cl.v]
    exact h
  rw [if_neg h3]
  exact classOf_no s w h0 h1 h2 h3

end Go.Proofs.YtnkdbkhgfakjaaaDoor
