/- The document's reader: Bits. -/
import Derived.Test.YtmmhfipdolbinaaGreatDoorTd
import Derived.Test.YtmmhfipdolbinaaGreatDoorMVYRcTc
namespace Go.Proofs.YtmmhfipdolbinaaGreatDoor
open Go.RowKit
set_option maxRecDepth 100000
attribute [local go_sem] not_any mf_any

theorem Bl.set {w : World} {m : Nat} {a : Option Addr} {l : List Bool} (h : Bl w m a l) {B g o : Nat} {v : Value} (hB : ∀ p, a = some p → B ≤ p.block) (hg : g < B) : Bl (w.setCell ⟨g, o, none⟩ v) m a l :=
  ⟨h.len, fun j x hj => by
    obtain ⟨b, o', rfl, hc⟩ := h.at' j x hj
    have := hB _ rfl
    refine ⟨b, o', rfl, ?_⟩
    rw [← hc]
    exact World.cell?_of_block (Below.heap_setCell _ _ _ _ (by simp at this ⊢; omega))⟩
theorem bl_none (w : World) : Bl w 0 none [] := ⟨rfl, fun j x h => by simp at h⟩
/- bits in new blocks -/
def DB (s : ByteArray) (kr : Nat) (cr : Int) (l : List Bool) (w : World) (en : Ending) (w' : World) : Prop :=
  ∃ a n cap, en = .returned (.tuple #[dv s kr cr, .slice a n cap]) ∧ Bl w' n a l ∧ (∀ p, a = some p → w.heap.size ≤ p.block) ∧ Below w.heap.size w w'
theorem DB.no {s : ByteArray} {kr : Nat} {cr : Int} {w : World} {en : Ending} {w' : World} (h : en = .returned (.tuple #[dv s kr cr, .slice none 0 0])) (hb : Below w.heap.size w w') : DB s kr cr [] w en w' :=
  ⟨none, 0, 0, h, bl_none _, fun p hp => (by cases hp), hb⟩

set_option maxHeartbeats 2000000 in
theorem dbits_via (s : ByteArray) (k k1 k2 n : Nat) (c c' c'' most : Int) (t : ByteArray) (w : World) (kr : Nat) (cr : Int) (tr : List Bool) (m : Nat) (hn : n ≤ 524288) (hm : m = (n + 7) / 8)
    (HM : ∀ w, Calls Tryz.prog 42 #[dv s k c, .int .i64 most, .int .i64 524288] w fun en w' => en = .returned (.tuple #[dv s k1 c', .int .i64 (n : Int)]) ∧ Below w.heap.size w w')
    (HT : c' = 0 → ∀ w, Calls Tryz.prog 39 #[dv s k1 c', .int .i64 (m : Int)] w fun en w' => en = .returned (.tuple #[dv s k2 c'', .string t]) ∧ Below w.heap.size w w')
    (HR : c' = 0 → c'' = 0 → ∀ w, Calls Tryz.prog 55 #[.int .i64 (n : Int), .string t] w fun e w' => ∃ v f, e = .returned (.tuple #[v, .int .i64 f]) ∧ Told2 n t w.heap.size w' v f ∧ Below w.heap.size w w')
    (HC : (c' ≠ 0 ∧ kr = k1 ∧ cr = c' ∧ tr = []) ∨ (c' = 0 ∧ c'' ≠ 0 ∧ kr = k ∧ cr = fst c c'' ∧ tr = []) ∨ (c' = 0 ∧ c'' = 0 ∧ ¬ Clean n t ∧ kr = k ∧ cr = fst c 13 ∧ tr = []) ∨ (c' = 0 ∧ c'' = 0 ∧ Clean n t ∧ kr = k2 ∧ cr = 0 ∧ tr = rbits n t)) :
    Calls Tryz.prog 19 #[dv s k c, .int .i64 most] w (DB s kr cr tr w) := by
  have mx := mixed
  have kM := fun w => hide1 (HM w)
  have kF := fun w => hide1 (failed_any s k c c'' w)
  have kT := hide1 HT
  have kR := hide1 HR
  have hw1 : IntKind.i64.wrap ((n : Int) + 7) = (n : Int) + 7 := by rw [IntKind.wrap_i64]; omega
  have hw2 : ((n : Int) + 7) / 8 = (m : Int) := by omega
  have hw3 : IntKind.i64.wrap (m : Int) = (m : Int) := by rw [IntKind.wrap_i64]; omega
  have HN : Hid (∀ kr cr e w', e = .returned (.tuple #[dv s kr cr, .slice none 0 0]) → Below w.heap.size w w' → DB s kr cr [] w e w') := fun _ _ _ _ h1 h2 => DB.no h1 h2
  clear HM HT HR hm
  unfold dv at *
  rcases HC with ⟨hc', rfl, rfl, rfl⟩ | ⟨rfl, hc'', rfl, rfl, rfl⟩ | ⟨rfl, rfl, hcl, rfl, rfl, rfl⟩ | ⟨rfl, rfl, hcl, rfl, rfl, rfl⟩
  · clear kT kF kR
    generalize hPP : DB s kr cr [] w = PP at *
    go_enter Tryz.func19, Tryz.ntmps19
    go_upto_region 1 with (fail)
    generalize hX : World.alloc (World.alloc w _) _ = X
    have HX : Hid (Below w.heap.size w X) := by rw [← hX]; exact two_below _ _
    have h0 := hX ▸ heap_alloc2_old w _ _
    have h1 := hX ▸ heap_alloc2_new w _ _
    obtain ⟨c0, c1, c2, _, _, _, l0⟩ := box3 h0
    have H1 := hide1 h1
    clear hX h0 h1
    go_upto_region 2 with (go_at_call 42; refine (kM _).out.mono ?_; rintro e w1 ⟨rfl, hb1⟩; have h1 := (hb1.block _ (lt_heap H1.out)).trans H1.out; have H2 := hide1 h1; have l1 := lt_heap h1; have HB := hide1 (HX.out.trans (hb1.mono HX.out.size)); clear h1 hb1)
    clear c0 c1 c2 l0 HX
    generalize hY : World.alloc w1 _ = Y
    have HY : Hid (Below w.heap.size w Y) := by rw [← hY]; exact HB.out.alloc HB.out.size _
    have h0 := hY ▸ heap_alloc_new w1 _
    have h1 := hY ▸ keep_alloc H2.out _
    obtain ⟨c0, c1, c2, _, _, _, l0⟩ := box3 h0
    obtain ⟨d0, d1, d2, f0, f1, f2, l1'⟩ := box3 h1
    have H3 := hide1 h1
    have hne : w1.heap.size ≠ w.heap.size + 1 := by omega
    clear hY h0 h1
    go_wp2
    exact ret_d2 Tryz.results19 (w.heap.size + 1) _ _ _ _ rfl rfl (set_box3 (w := Y) H3.out) rfl (hPP ▸ HN.out _ _ _ _ rfl (below_box3 HY.out (by omega)))
  all_goals
    have kT' := fun w => hide1 (kT.out rfl w)
    clear kT
    generalize hPP : DB s _ _ _ w = PP at *
    go_enter Tryz.func19, Tryz.ntmps19
    go_upto_region 1 with (fail)
    generalize hX : World.alloc (World.alloc w _) _ = X
    have HX : Hid (Below w.heap.size w X) := by rw [← hX]; exact two_below _ _
    have h0 := hX ▸ heap_alloc2_old w _ _
    have h1 := hX ▸ heap_alloc2_new w _ _
    obtain ⟨c0, c1, c2, _, _, _, l0⟩ := box3 h0
    have H0 := hide1 h0
    have H1 := hide1 h1
    clear hX h0 h1
    go_upto_region 2 with (go_at_call 42; refine (kM _).out.mono ?_; rintro e w1 ⟨rfl, hb1⟩; have HH0 := hide1 ((hb1.block _ (lt_heap H0.out)).trans H0.out); have h1 := (hb1.block _ (lt_heap H1.out)).trans H1.out; have H2 := hide1 h1; have l1 := lt_heap h1; have HB := hide1 (HX.out.trans (hb1.mono HX.out.size)); clear h1 hb1)
    clear c0 c1 c2 l0 HX
    generalize hY : World.alloc w1 _ = Y
    have HY : Hid (Below w.heap.size w Y) := by rw [← hY]; exact HB.out.alloc HB.out.size _
    have h0 := hY ▸ heap_alloc_new w1 _
    have K1 := hide1 (hY ▸ keep_alloc H2.out _)
    have K0 := hide1 (hY ▸ keep_alloc HH0.out _)
    obtain ⟨c0, c1, c2, _, _, _, l0⟩ := box3 h0
    clear hY h0
    go_upto_region 5 with (go_at_call 39; refine (kT' _).out.mono ?_; rintro e w2 ⟨rfl, hb1⟩; have KK0 := hide1 ((hb1.block _ (lt_heap K0.out)).trans K0.out); have KK1 := hide1 ((hb1.block _ (lt_heap K1.out)).trans K1.out); have l2 := lt_heap KK1.out; have HB2 := hide1 (HY.out.trans (hb1.mono HY.out.size)); clear hb1)
    clear c0 c1 c2 l0 HY HB H2 HH0
    generalize hZ : World.alloc w2 _ = Z
    have HZ : Hid (Below w.heap.size w Z) := by rw [← hZ]; exact HB2.out.alloc HB2.out.size _
    have h0 := hZ ▸ heap_alloc_new w2 _
    have h1 := hZ ▸ keep_alloc KK1.out _
    have h2 := hZ ▸ keep_alloc KK0.out _
    obtain ⟨c0, c1, c2, _, _, _, l0⟩ := box3 h0
    obtain ⟨d0, d1, d2, f0, f1, f2, l1'⟩ := box3 h1
    obtain ⟨e0, e1, e2, _, _, _, _⟩ := box3 h2
    have H3 := hide1 h1
    have HL := hide1 h0
    have HE := hide1 h2
    have hne : w2.heap.size ≠ w.heap.size + 1 := by omega
    clear hZ h0 h1 h2
  · go_wp2_with (go_at_call 26; refine (kF _).out.mono ?_; rintro e w3 ⟨rfl, hb2⟩; have h1 := (hb2.block _ (lt_heap H3.out)).trans H3.out; have H4 := hide1 h1; obtain ⟨d0, d1, d2, f0, f1, f2, l2⟩ := box3 h1; have HB3 := hide1 (HZ.out.trans (hb2.mono HZ.out.size)); clear h1 hb2)
    exact ret_d2 Tryz.results19 (w.heap.size + 1) _ _ _ _ rfl rfl (set_box3 H4.out) rfl (hPP ▸ HN.out _ _ _ _ rfl (below_box3 HB3.out (by omega)))
  · have kR' := fun w => hide1 (kR.out (by trivial) (by trivial) w)
    have kG := fun w => hide1 (failed_any s kr c 13 w)
    have HCL := hide1 hcl
    unfold dv at kG
    clear kR kF kT' kM hcl
    go_upto_region 8 with (go_at_call 55; refine (kR' _).out.mono ?_; rintro e w3 ⟨v, f, rfl, hTo, hb2⟩; have hf : f = 13 := by { rcases hTo with ⟨h, _⟩ | ⟨_, h⟩ <;> first | exact absurd h HCL.out | exact h }; subst hf; have h1 := (hb2.block _ (lt_heap H3.out)).trans H3.out; have H4 := hide1 h1; obtain ⟨d0, d1, d2, f0, f1, f2, l2⟩ := box3 h1; have HB3 := hide1 (HZ.out.trans (hb2.mono HZ.out.size)); have h1 := (hb2.block _ (lt_heap (HE.out))).trans HE.out; obtain ⟨g0, g1, g2, _, _, _, _⟩ := box3 h1; clear h1 hb2 hTo)
    go_wp2_with (go_at_call 26; refine (kG _).out.mono ?_; rintro e w4 ⟨rfl, hb2⟩; have h1 := (hb2.block _ (lt_heap H4.out)).trans H4.out; have H5 := hide1 h1; obtain ⟨d0, d1, d2, f0, f1, f2, l2⟩ := box3 h1; have HB4 := hide1 (HB3.out.trans (hb2.mono HB3.out.size)); clear h1 hb2)
    exact ret_d2 Tryz.results19 (w.heap.size + 1) _ _ _ _ rfl rfl (set_box3 H5.out) rfl (hPP ▸ HN.out _ _ _ _ rfl (below_box3 HB4.out (by omega)))
  · have kR' := fun w => hide1 (kR.out (by trivial) (by trivial) w)
    have HCL := hide1 hcl
    clear kR kF kT' kM hcl
    go_upto_region 8 with (go_at_call 55; refine (kR' _).out.mono ?_; rintro e w3 ⟨v, f, rfl, hTo, hb2⟩; have hf : f = 0 ∧ ∃ a c, v = .slice a n c ∧ Bl w3 n a (rbits n t) ∧ ∀ p, a = some p → Z.heap.size ≤ p.block := by { rcases hTo with ⟨_, h⟩ | ⟨h, _⟩ <;> first | exact absurd HCL.out h | exact h }; obtain ⟨rfl, a, cap, rfl, hbl, hfr⟩ := hf; have HBL := hide1 (And.intro hbl hfr); have h1 := (hb2.block _ (lt_heap H3.out)).trans H3.out; have H4 := hide1 h1; obtain ⟨d0, d1, d2, f0, f1, f2, l2⟩ := box3 h1; have HB3 := hide1 (HZ.out.trans (hb2.mono HZ.out.size)); have h1 := (hb2.block _ (lt_heap (HL.out))).trans HL.out; obtain ⟨g0, g1, g2, _, _, _, _⟩ := box3 h1; clear h1 hb2 hTo hbl hfr)
    go_wp2
    have hz := HZ.out.size
    exact ret_d2 Tryz.results19 (w.heap.size + 1) _ _ _ _ rfl rfl (set_box3 H4.out) rfl (hPP ▸ ⟨_, _, _, rfl, ((HBL.out.1.set HBL.out.2 l1').set HBL.out.2 l1').set HBL.out.2 l1', fun p hp => Nat.le_trans hz (HBL.out.2 p hp), below_box3 HB3.out (by omega)⟩)
end Go.Proofs.YtmmhfipdolbinaaGreatDoor
