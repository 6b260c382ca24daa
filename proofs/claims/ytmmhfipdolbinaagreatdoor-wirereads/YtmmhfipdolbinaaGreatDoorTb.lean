/- The document's reader: many, Raw, End. -/
import Derived.Test.YtmmhfipdolbinaaGreatDoorMScRvTa
namespace Go.Proofs.YtmmhfipdolbinaaGreatDoor
open Go.RowKit
set_option maxRecDepth 100000
attribute [local go_sem] not_any mf_any

theorem end_over_d (s : ByteArray) (k : Nat) (c : Int) (w : World) (hk : k ≤ s.size) (_hs : s.size ≤ 281474976710656) :
    Calls Tryz.prog 23 #[dv s k c] w fun en w' => en = .returned (dv s k (if k < s.size then fst c 14 else c)) ∧ Below w.heap.size w w' := by
  by_cases h : k < s.size
  · have kF := fun w => hide1 (failed_any s k c 14 w)
    rw [if_pos h]
    generalize fst c 14 = c' at *
    unfold dv at *
    have hi : ((k : Int) < (s.size : Int)) := by omega
    go_enter Tryz.func23, Tryz.ntmps23
    go_upto_region 2 with (fail)
    generalize hX : World.alloc (World.alloc w _) _ = X
    have HX : Hid (Below w.heap.size w X) := by rw [← hX]; exact two_below _ _
    have h0 := hX ▸ heap_alloc2_old w _ _
    have h1 := hX ▸ heap_alloc2_new w _ _
    obtain ⟨c0, c1, c2, _, _, _, l0⟩ := box3 h0
    have H1 := hide1 h1
    clear hX h0 h1
    go_wp2_with (go_at_call 26; refine (kF _).out.mono ?_; rintro e w1 ⟨rfl, hb1⟩; have h1 := (hb1.block _ (lt_heap H1.out)).trans H1.out; have H2 := hide1 h1; obtain ⟨d0, d1, d2, f0, f1, f2, l1⟩ := box3 h1; have HB := hide1 (HX.out.trans (hb1.mono HX.out.size)); clear h1 hb1)
    exact ret_d1 Tryz.results23 (w.heap.size + 1) _ _ _ rfl (set_box3 H2.out) rfl ⟨rfl, below_box3 HB.out (by omega)⟩
  · rw [if_neg h]
    unfold dv
    have hi : ¬ ((k : Int) < (s.size : Int)) := by omega
    go_enter Tryz.func23, Tryz.ntmps23
    go_wp2
    exact ret_d1 Tryz.results23 (w.heap.size + 1) _ _ _ rfl (heap_alloc2_new _ _ _) rfl ⟨rfl, two_below _ _⟩

/- Raw -/
theorem draw_bad (s : ByteArray) (k : Nat) (c n : Int) (w : World) (hn : n < 0 ∨ 65536 < n) :
    Calls Tryz.prog 14 #[dv s k c, .int .i64 n] w fun en w' => en = .returned (.tuple #[dv s k (fst c 1), .string ⟨#[]⟩]) ∧ Below w.heap.size w w' := by
  have kF := fun w => hide1 (failed_any s k c 1 w)
  generalize fst c 1 = c' at *
  unfold dv at *
  have hd : (decide (n < 0) || decide (65536 < n)) = true := by simp; exact hn
  rcases Classical.em (n < 0) with h1 | h1
  all_goals
    go_enter Tryz.func14, Tryz.ntmps14
    go_upto_region 2 with (fail)
    generalize hX : World.alloc (World.alloc w _) _ = X
    have HX : Hid (Below w.heap.size w X) := by rw [← hX]; exact two_below _ _
    have h0 := hX ▸ heap_alloc2_old w _ _
    have h1 := hX ▸ heap_alloc2_new w _ _
    obtain ⟨c0, c1, c2, _, _, _, l0⟩ := box3 h0
    have H1 := hide1 h1
    clear hX h0 h1
    go_wp2_with (go_at_call 26; refine (kF _).out.mono ?_; rintro e w1 ⟨rfl, hb1⟩; have h1 := (hb1.block _ (lt_heap H1.out)).trans H1.out; have H2 := hide1 h1; obtain ⟨d0, d1, d2, f0, f1, f2, l1⟩ := box3 h1; have HB := hide1 (HX.out.trans (hb1.mono HX.out.size)); clear h1 hb1)
    exact ret_d2 Tryz.results14 (w.heap.size + 1) _ _ _ _ rfl rfl (set_box3 H2.out) rfl ⟨rfl, below_box3 HB.out (by omega)⟩
theorem draw_via (s : ByteArray) (k k1 n : Nat) (c c' : Int) (t : ByteArray) (w : World) (hn : n ≤ 65536)
    (HT : ∀ w, Calls Tryz.prog 39 #[dv s k c, .int .i64 (n : Int)] w fun en w' => en = .returned (.tuple #[dv s k1 c', .string t]) ∧ Below w.heap.size w w') :
    Calls Tryz.prog 14 #[dv s k c, .int .i64 (n : Int)] w fun en w' => en = .returned (.tuple #[dv s k1 c', .string t]) ∧ Below w.heap.size w w' := by
  have kF := fun w => hide1 (HT w)
  clear HT
  unfold dv at *
  have h1 : ¬ ((n : Int) < 0) := by omega
  have h2 : ¬ (65536 < (n : Int)) := by omega
  go_enter Tryz.func14, Tryz.ntmps14
  go_upto_region 3 with (fail)
  generalize hX : World.alloc (World.alloc w _) _ = X
  have HX : Hid (Below w.heap.size w X) := by rw [← hX]; exact two_below _ _
  have h0 := hX ▸ heap_alloc2_old w _ _
  have h1 := hX ▸ heap_alloc2_new w _ _
  obtain ⟨c0, c1, c2, _, _, _, l0⟩ := box3 h0
  have H1 := hide1 h1
  clear hX h0 h1
  go_wp2_with (go_at_call 39; refine (kF _).out.mono ?_; rintro e w1 ⟨rfl, hb1⟩; have h1 := (hb1.block _ (lt_heap H1.out)).trans H1.out; have H2 := hide1 h1; obtain ⟨d0, d1, d2, f0, f1, f2, l1⟩ := box3 h1; have HB := hide1 (HX.out.trans (hb1.mono HX.out.size)); clear h1 hb1)
  exact ret_d2 Tryz.results14 (w.heap.size + 1) _ _ _ _ rfl rfl (set_box3 H2.out) rfl ⟨rfl, below_box3 HB.out (by omega)⟩

/- many -/
set_option maxHeartbeats 1000000 in
theorem many_via (s : ByteArray) (k k1 x : Nat) (c c' most top r : Int) (w : World) (kr : Nat) (cr : Int) (hx : x < 4294967296)
    (HT : ∀ w, Calls Tryz.prog 8 #[dv s k c, .int .i64 4] w fun en w' => en = .returned (.tuple #[dv s k1 c', .int .u64 (x : Int)]) ∧ Below w.heap.size w w')
    (HC : (c' ≠ 0 ∧ kr = k1 ∧ cr = c' ∧ r = 0) ∨ (c' = 0 ∧ mostN most top < (x : Int) ∧ kr = k ∧ cr = fst c 2 ∧ r = 0) ∨ (c' = 0 ∧ ¬ mostN most top < (x : Int) ∧ kr = k1 ∧ cr = 0 ∧ r = (x : Int))) :
    Calls Tryz.prog 42 #[dv s k c, .int .i64 most, .int .i64 top] w fun en w' => en = .returned (.tuple #[dv s kr cr, .int .i64 r]) ∧ Below w.heap.size w w' := by
  have mx := mixed
  have kN := fun w => hide1 (HT w)
  have kF := fun w => hide1 (failed_any s k c 2 w)
  have hwx : IntKind.i64.wrap (x : Int) = (x : Int) := by rw [IntKind.wrap_i64]; omega
  clear HT
  unfold dv at *
  have HM : (top < most ∧ mostN most top = top) ∨ (¬ top < most ∧ mostN most top = most) := by
    rcases mostN_cases most top with ⟨h1, h2⟩ | ⟨h1, h2⟩
    · exact .inr ⟨by omega, h2⟩
    · exact .inl ⟨by omega, h2⟩
  rcases HM with ⟨hm, em⟩ | ⟨hm, em⟩ <;> rw [em] at HC <;> clear em
  all_goals
    rcases HC with ⟨hc', rfl, rfl, rfl⟩ | ⟨rfl, hlt, rfl, rfl, rfl⟩ | ⟨rfl, hlt, rfl, rfl, rfl⟩
    all_goals
      go_enter Tryz.func42, Tryz.ntmps42
      go_upto_region 3 with (fail)
      generalize hX : World.alloc (World.alloc w _) _ = X
      have HX : Hid (Below w.heap.size w X) := by rw [← hX]; exact two_below _ _
      have h0 := hX ▸ heap_alloc2_old w _ _
      have h1 := hX ▸ heap_alloc2_new w _ _
      obtain ⟨c0, c1, c2, _, _, _, l0⟩ := box3 h0
      have H0 := hide1 h0
      have H1 := hide1 h1
      clear hX h0 h1
      go_upto_region 4 with (go_at_call 8; refine (kN _).out.mono ?_; rintro e w1 ⟨rfl, hb1⟩; have HH0 := hide1 ((hb1.block _ (lt_heap H0.out)).trans H0.out); have h1 := (hb1.block _ (lt_heap H1.out)).trans H1.out; have H2 := hide1 h1; have l1 := lt_heap h1; have HB := hide1 (HX.out.trans (hb1.mono HX.out.size)); clear h1 hb1)
      clear c0 c1 c2 l0 HX
      generalize hY : World.alloc w1 _ = Y
      have HY : Hid (Below w.heap.size w Y) := by rw [← hY]; exact HB.out.alloc HB.out.size _
      have h0 := hY ▸ heap_alloc_new w1 _
      have h1 := hY ▸ keep_alloc H2.out _
      have h2 := hY ▸ keep_alloc HH0.out _
      obtain ⟨c0, c1, c2, _, _, _, l0⟩ := box3 h0
      obtain ⟨d0, d1, d2, f0, f1, f2, l1'⟩ := box3 h1
      obtain ⟨e0, e1, e2, _, _, _, _⟩ := box3 h2
      have H3 := hide1 h1
      have hne : w1.heap.size ≠ w.heap.size + 1 := by omega
      clear hY h0 h1 h2
    · go_wp2
      exact ret_d2 Tryz.results42 (w.heap.size + 1) _ _ _ _ rfl rfl (set_box3 (w := Y) H3.out) rfl ⟨rfl, below_box3 HY.out (by omega)⟩
    · go_wp2_with (go_at_call 26; refine (kF _).out.mono ?_; rintro e w2 ⟨rfl, hb2⟩; have h1 := (hb2.block _ (lt_heap H3.out)).trans H3.out; have H4 := hide1 h1; obtain ⟨d0, d1, d2, f0, f1, f2, l2⟩ := box3 h1; have HB2 := hide1 (HY.out.trans (hb2.mono HY.out.size)); clear h1 hb2)
      exact ret_d2 Tryz.results42 (w.heap.size + 1) _ _ _ _ rfl rfl (set_box3 H4.out) rfl ⟨rfl, below_box3 HB2.out (by omega)⟩
    · go_wp2
      exact ret_d2 Tryz.results42 (w.heap.size + 1) _ _ _ _ rfl rfl (set_box3 (w := Y) H3.out) rfl ⟨rfl, below_box3 HY.out (by omega)⟩

def mnC (M : Int) (R : List Nat) : Int := if R.length < 4 then 12 else if M < (cntN R : Int) then 2 else 0
def mnN (M : Int) (R : List Nat) : Nat := if mnC M R = 0 then cntN R else 0
theorem many_over (s : ByteArray) (k : Nat) (c most top : Int) (w : World) (hc : c ≠ 0) :
    Calls Tryz.prog 42 #[dv s k c, .int .i64 most, .int .i64 top] w fun en w' => en = .returned (.tuple #[dv s k c, .int .i64 0]) ∧ Below w.heap.size w w' :=
  many_via s k k 0 c c most top 0 w k c (by decide) (fun w => dnumber_over s k 4 c w hc) (.inl ⟨hc, rfl, rfl, rfl⟩)
theorem many_any (s : ByteArray) (k : Nat) (most top : Int) (w : World) (hk : k ≤ s.size) (hs : s.size ≤ 281474976710656) :
    Calls Tryz.prog 42 #[dv s k 0, .int .i64 most, .int .i64 top] w fun en w' => en = .returned (.tuple #[dN s k 4 (mnC (mostN most top) (restOf s k)), .int .i64 (mnN (mostN most top) (restOf s k) : Nat)]) ∧ Below w.heap.size w w' := by
  have h1 := fun w => dnumber_any s k 4 w hk hs (by omega)
  have hx := numX_lt (n := 4) (restOf_lt s k)
  by_cases h4 : (restOf s k).length < 4
  · have e1 : numC 4 (restOf s k) = 12 := by rw [numC, if_neg (by omega)]
    have e2 : mnC (mostN most top) (restOf s k) = 12 := by rw [mnC, if_pos h4]
    rw [e1, dN_no _ _ _ (by decide)] at h1
    rw [mnN, e2, if_neg (by decide), dN_no _ _ _ (by decide)]
    exact many_via s k k _ 0 12 most top 0 w k 12 hx h1 (.inl ⟨by decide, rfl, rfl, rfl⟩)
  · have e1 : numC 4 (restOf s k) = 0 := by rw [numC, if_pos (by omega)]
    have e3 : numX 4 (restOf s k) = cntN (restOf s k) := by rw [numX, if_pos (by omega), cntN]
    rw [e1, dN_ok, e3] at h1
    rw [e3] at hx
    by_cases h5 : mostN most top < (cntN (restOf s k) : Int)
    · have e2 : mnC (mostN most top) (restOf s k) = 2 := by rw [mnC, if_neg h4, if_pos h5]
      rw [mnN, e2, if_neg (by decide), dN_no _ _ _ (by decide)]
      exact many_via s k (k + 4) _ 0 0 most top 0 w k 2 hx h1 (.inr (.inl ⟨rfl, h5, rfl, rfl, rfl⟩))
    · have e2 : mnC (mostN most top) (restOf s k) = 0 := by rw [mnC, if_neg h4, if_neg h5]
      rw [mnN, e2, if_pos rfl, dN_ok]
      exact many_via s k (k + 4) _ 0 0 most top _ w (k + 4) 0 hx h1 (.inr (.inr ⟨rfl, h5, rfl, rfl, rfl⟩))
theorem draw_over (s : ByteArray) (k : Nat) (c n : Int) (w : World) (hc : c ≠ 0) :
    Calls Tryz.prog 14 #[dv s k c, .int .i64 n] w fun en w' => en = .returned (.tuple #[dv s k c, .string ⟨#[]⟩]) ∧ Below w.heap.size w w' := by
  by_cases h : n < 0 ∨ 65536 < n
  · have := draw_bad s k c n w h
    rwa [fst_not hc] at this
  · obtain ⟨m, rfl⟩ := Int.eq_ofNat_of_zero_le (a := n) (by omega)
    exact draw_via s k k m c c ⟨#[]⟩ w (by omega) (fun w => take_over s k c m w hc)
theorem draw_any (s : ByteArray) (k : Nat) (n : Int) (w : World) (hk : k ≤ s.size) (hs : s.size ≤ 281474976710656) :
    Calls Tryz.prog 14 #[dv s k 0, .int .i64 n] w fun en w' => en = .returned (.tuple #[dN s k (rawS n) (rawC n (restOf s k)), .string (rawT n (restOf s k))]) ∧ Below w.heap.size w w' := by
  have hl := restOf_length s k
  by_cases h : n < 0 ∨ 65536 < n
  · have := draw_bad s k 0 n w h
    rw [rawT, rawC, if_pos h, if_neg (by decide), dN_no _ _ _ (by decide)]
    exact this
  · obtain ⟨m, rfl⟩ := Int.eq_ofNat_of_zero_le (a := n) (by omega)
    by_cases h2 : ((restOf s k).length : Int) < (m : Int)
    · rw [rawT, rawC, if_neg h, if_pos h2, if_neg (by decide), dN_no _ _ _ (by decide)]
      exact draw_via s k k m 0 12 ⟨#[]⟩ w (by omega) (fun w => take_short s k m w hk hs (by omega))
    · rw [rawT, rawC, if_neg h, if_neg h2, if_pos rfl, dN_ok, rawS, if_neg h, Int.toNat_natCast, ← take_txt]
      exact draw_via s k (k + m) m 0 0 _ w (by omega) (fun w => take_some s k m w hs (by omega))
end Go.Proofs.YtmmhfipdolbinaaGreatDoor
