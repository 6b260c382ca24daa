/- The document's Forge and Swap: whatever they are given. -/
import Derived.Test.YtfnedohampmnoaaYg
namespace Go.Proofs.Ytfnedohampmnoaa
open Go.RowKit
set_option maxRecDepth 100000
attribute [local go_sem] not_any

/- what a call of the document's network leaves -/
structure An (w : World) (x0 x1 : Value) (N : Nat → List ByteArray) (y0 y1 : Value) (w' : World) : Prop where
  l0 : Lst 0 w' y0 (N 0)
  l1 : Lst 0 w' y1 (N 1)
  fr : ∀ g, y0.ownBlock = some g ∨ y1.ownBlock = some g → x0.ownBlock = some g ∨ x1.ownBlock = some g ∨ w.heap.size ≤ g
  bl : Below w.heap.size w w'
theorem Lst.setRow {B : Nat} {w : World} {v : Value} {A : List ByteArray} {b : Nat} (h : Lst B w v A) (hb : b < B) (cs : Array Value) : Lst B (w.setRow b cs) v A :=
  h.same fun g hg => by
    have := (h.lt hg).1
    exact setRow_other _ _ _ _ (by omega)
theorem An.same {w w' : World} {x0 x1 : Value} {N : Nat → List ByteArray} (h0 : Lst 0 w x0 (N 0)) (h1 : Lst 0 w x1 (N 1)) (hb : Below w.heap.size w w') : An w x0 x1 N x0 x1 w' :=
  ⟨h0.below hb (Nat.le_refl _), h1.below hb (Nat.le_refl _), fun g hg => by rcases hg with h | h <;> simp [h], hb⟩
theorem An.put0 {w w' : World} {x0 x1 v' : Value} {N : Nat → List ByteArray} {A : List ByteArray} (h1 : Lst 0 w x1 (N 1)) (hv : Lst w.heap.size w' v' A) (hb : Below w.heap.size w w') : An w x0 x1 (upd N 0 A) v' x1 w' :=
  ⟨hv.mono (Nat.zero_le _), h1.below hb (Nat.le_refl _), fun g hg => by
    rcases hg with h | h
    · exact .inr (.inr (hv.lt h).1)
    · exact .inr (.inl h), hb⟩
theorem An.put1 {w w' : World} {x0 x1 v' : Value} {N : Nat → List ByteArray} {A : List ByteArray} (h0 : Lst 0 w x0 (N 0)) (hv : Lst w.heap.size w' v' A) (hb : Below w.heap.size w w') : An w x0 x1 (upd N 1 A) x0 v' w' :=
  ⟨h0.below hb (Nat.le_refl _), hv.mono (Nat.zero_le _), fun g hg => by
    rcases hg with h | h
    · exact .inl h
    · exact .inr (.inr (hv.lt h).1), hb⟩

set_option maxHeartbeats 1000000 in
theorem rforge_lim {N : Nat → List ByteArray} (a0 a1 : Option Addr) (c0 c1 : Nat) (q i : Int) (s : ByteArray) (w : World) (hc : plc N q i = 0 ∧ 131072 < s.size) :
    Calls Try.prog 25 #[.agg #[.slice a0 (N 0).length c0, .slice a1 (N 1).length c1], .int .i64 q, .int .i64 i, .string s] w fun e w' => e = .returned (.tuple #[.agg #[.slice a0 (N 0).length c0, .slice a1 (N 1).length c1], .int .i64 (2)]) ∧ Below w.heap.size w w' := by
  have kW := fun w => hide1 (wrong_any (N := N) a0 a1 c0 c1 q i w)
  rw [hc.1] at kW
  have hsi : (131072 : Int) < (s.size : Int) := by have := hc.2; omega
  generalize (N 0).length = n0 at *
  generalize (N 1).length = n1 at *
  clear hc
  go_enter Try.func25, Try.ntmps25
  go_wp2_with fail
  have h2 := two_new w (.cells #[.slice a0 n0 c0, .slice a1 n1 c1] 27) (.cells #[.slice none 0 0, .slice none 0 0] 27)
  have hB := below2 (w := w) (.cells #[.slice a0 n0 c0, .slice a1 n1 c1] 27) (.cells #[.slice none 0 0, .slice none 0 0] 27)
  have H2 := hide1 h2
  have HB := hide1 hB
  clear h2 hB
  generalize (w.alloc _).alloc _ = W1 at H2 HB ⊢
  obtain ⟨b0, hb0⟩ : ∃ b0, w.heap.size = b0 := ⟨_, rfl⟩
  obtain ⟨b1, hb1⟩ : ∃ b1, w.heap.size + 1 = b1 := ⟨_, rfl⟩
  have HS : Hid (w.heap.size = b0 ∧ b0 + 1 = b1) := ⟨hb0, by omega⟩
  rw [hb1, hb0] at H2
  rw [hb1, hb0]
  clear hb0 hb1
  refine ((kW _).out).mono ?_
  rintro e W2 ⟨rfl, hbb⟩
  have R0' := hide1 ((hbb.block b0 (lt_heap H2.out.1)).trans H2.out.1)
  have R1' := hide1 ((hbb.block b1 (lt_heap H2.out.2)).trans H2.out.2)
  have B2' : Hid (Below w.heap.size w W2) := HB.out.trans (hbb.mono HB.out.size)
  clear hbb H2 HB
  have R0 := R0'
  have R1 := R1'
  have B2 := B2'
  clear R0' R1' B2'
  obtain ⟨d0, d1, _, _, _⟩ := box2 R0.out
  obtain ⟨f0, f1, z0, z1, _⟩ := box2 R1.out
  go_wp2
  exact ret_n2 Try.results25 b1 _ _ _ rfl rfl (set_box2 R1.out) rfl ⟨rfl, below_set2 B2.out (by have := HS.out; omega)⟩

set_option maxHeartbeats 2000000 in
theorem rforge_ok0 {N : Nat → List ByteArray} (a0 a1 : Option Addr) (c0 c1 : Nat) (i : Nat) (s : ByteArray) (w : World) (hi : i < (N 0).length) (h64 : (N 0).length ≤ 64) (hs : s.size ≤ 131072) (hA : Lst 0 w (.slice a0 (N 0).length c0) (N 0)) :
    Calls Try.prog 25 #[.agg #[.slice a0 (N 0).length c0, .slice a1 (N 1).length c1], .int .i64 0, .int .i64 (i : Int), .string s] w fun e w' => ∃ v', e = .returned (.tuple #[.agg #[v', .slice a1 (N 1).length c1], .int .i64 0]) ∧ Lst w.heap.size w' v' ((N 0).set i s) ∧ Below w.heap.size w w' := by
  have kW := fun w => hide1 (wrong_any (N := N) a0 a1 c0 c1 0 i w)
  have e0 : plc N 0 i = 0 := plc_zero (k := 0) (by omega) hi
  rw [e0] at kW
  have kP := fun W (hb : Below w.heap.size w W) => hide1 (put_any0 a0 a1 (N 0).length c0 (N 1).length c1 (N 0) i s W (hA.below hb (Nat.le_refl _)) hi h64)
  have hsi : ¬ (131072 : Int) < (s.size : Int) := by omega
  have KP := hide1 kP
  clear e0 hA hi h64 hs kP
  generalize (N 0).length = n0 at *
  generalize (N 1).length = n1 at *
  go_enter Try.func25, Try.ntmps25
  go_wp2_with fail
  have h2 := two_new w (.cells #[.slice a0 n0 c0, .slice a1 n1 c1] 27) (.cells #[.slice none 0 0, .slice none 0 0] 27)
  have hB := below2 (w := w) (.cells #[.slice a0 n0 c0, .slice a1 n1 c1] 27) (.cells #[.slice none 0 0, .slice none 0 0] 27)
  have H2 := hide1 h2
  have HB := hide1 hB
  clear h2 hB
  generalize (w.alloc _).alloc _ = W1 at H2 HB ⊢
  obtain ⟨b0, hb0⟩ : ∃ b0, w.heap.size = b0 := ⟨_, rfl⟩
  obtain ⟨b1, hb1⟩ : ∃ b1, w.heap.size + 1 = b1 := ⟨_, rfl⟩
  have HS : Hid (w.heap.size = b0 ∧ b0 + 1 = b1) := ⟨hb0, by omega⟩
  rw [hb1, hb0] at H2
  rw [hb1, hb0]
  clear hb0 hb1
  refine ((kW _).out).mono ?_
  rintro e W2 ⟨rfl, hbb⟩
  have R0' := hide1 ((hbb.block b0 (lt_heap H2.out.1)).trans H2.out.1)
  have R1' := hide1 ((hbb.block b1 (lt_heap H2.out.2)).trans H2.out.2)
  have B2' : Hid (Below w.heap.size w W2) := HB.out.trans (hbb.mono HB.out.size)
  clear hbb H2 HB
  have R0 := R0'
  have R1 := R1'
  have B2 := B2'
  clear R0' R1' B2'
  obtain ⟨d0, d1, _, _, _⟩ := box2 R0.out
  go_wp2_with fail
  refine (KP.out W2 B2.out).out.mono ?_
  rintro e W3 ⟨v', rfl, ho, hb3⟩
  have R3 := (hb3.block b1 (lt_heap R1.out)).trans R1.out
  obtain ⟨f0, f1, z0, z1, _⟩ := box2 R3
  have HR3 := hide1 R3
  have B3 : Hid (Below w.heap.size w W3) := B2.out.trans (hb3.mono B2.out.size)
  have HO := hide1 ho
  have L2 : Hid (b1 < W2.heap.size) := lt_heap R1.out
  obtain ⟨a', c', rfl⟩ := ho.form
  generalize (List.set (N 0) i s).length = m at *
  clear R3 ho hb3 d0 d1
  go_wp2
  exact ret_n2 Try.results25 b1 _ _ _ rfl rfl (set_box2 HR3.out) rfl ⟨_, rfl, (HO.out.set2 L2.out).mono B2.out.size, below_set2 B3.out (by have := HS.out; omega)⟩

set_option maxHeartbeats 2000000 in
theorem rforge_ok1 {N : Nat → List ByteArray} (a0 a1 : Option Addr) (c0 c1 : Nat) (i : Nat) (s : ByteArray) (w : World) (hi : i < (N 1).length) (h64 : (N 1).length ≤ 64) (hs : s.size ≤ 131072) (hA : Lst 0 w (.slice a1 (N 1).length c1) (N 1)) :
    Calls Try.prog 25 #[.agg #[.slice a0 (N 0).length c0, .slice a1 (N 1).length c1], .int .i64 1, .int .i64 (i : Int), .string s] w fun e w' => ∃ v', e = .returned (.tuple #[.agg #[.slice a0 (N 0).length c0, v'], .int .i64 0]) ∧ Lst w.heap.size w' v' ((N 1).set i s) ∧ Below w.heap.size w w' := by
  have kW := fun w => hide1 (wrong_any (N := N) a0 a1 c0 c1 1 i w)
  have e0 : plc N 1 i = 0 := plc_zero (k := 1) (by omega) hi
  rw [e0] at kW
  have kP := fun W (hb : Below w.heap.size w W) => hide1 (put_any1 a0 a1 (N 0).length c0 (N 1).length c1 (N 1) i s W (hA.below hb (Nat.le_refl _)) hi h64)
  have hsi : ¬ (131072 : Int) < (s.size : Int) := by omega
  have KP := hide1 kP
  clear e0 hA hi h64 hs kP
  generalize (N 0).length = n0 at *
  generalize (N 1).length = n1 at *
  go_enter Try.func25, Try.ntmps25
  go_wp2_with fail
  have h2 := two_new w (.cells #[.slice a0 n0 c0, .slice a1 n1 c1] 27) (.cells #[.slice none 0 0, .slice none 0 0] 27)
  have hB := below2 (w := w) (.cells #[.slice a0 n0 c0, .slice a1 n1 c1] 27) (.cells #[.slice none 0 0, .slice none 0 0] 27)
  have H2 := hide1 h2
  have HB := hide1 hB
  clear h2 hB
  generalize (w.alloc _).alloc _ = W1 at H2 HB ⊢
  obtain ⟨b0, hb0⟩ : ∃ b0, w.heap.size = b0 := ⟨_, rfl⟩
  obtain ⟨b1, hb1⟩ : ∃ b1, w.heap.size + 1 = b1 := ⟨_, rfl⟩
  have HS : Hid (w.heap.size = b0 ∧ b0 + 1 = b1) := ⟨hb0, by omega⟩
  rw [hb1, hb0] at H2
  rw [hb1, hb0]
  clear hb0 hb1
  refine ((kW _).out).mono ?_
  rintro e W2 ⟨rfl, hbb⟩
  have R0' := hide1 ((hbb.block b0 (lt_heap H2.out.1)).trans H2.out.1)
  have R1' := hide1 ((hbb.block b1 (lt_heap H2.out.2)).trans H2.out.2)
  have B2' : Hid (Below w.heap.size w W2) := HB.out.trans (hbb.mono HB.out.size)
  clear hbb H2 HB
  have R0 := R0'
  have R1 := R1'
  have B2 := B2'
  clear R0' R1' B2'
  obtain ⟨d0, d1, _, _, _⟩ := box2 R0.out
  go_wp2_with fail
  refine (KP.out W2 B2.out).out.mono ?_
  rintro e W3 ⟨v', rfl, ho, hb3⟩
  have R3 := (hb3.block b1 (lt_heap R1.out)).trans R1.out
  obtain ⟨f0, f1, z0, z1, _⟩ := box2 R3
  have HR3 := hide1 R3
  have B3 : Hid (Below w.heap.size w W3) := B2.out.trans (hb3.mono B2.out.size)
  have HO := hide1 ho
  have L2 : Hid (b1 < W2.heap.size) := lt_heap R1.out
  obtain ⟨a', c', rfl⟩ := ho.form
  generalize (List.set (N 1) i s).length = m at *
  clear R3 ho hb3 d0 d1
  go_wp2
  exact ret_n2 Try.results25 b1 _ _ _ rfl rfl (set_box2 HR3.out) rfl ⟨_, rfl, (HO.out.set2 L2.out).mono B2.out.size, below_set2 B3.out (by have := HS.out; omega)⟩

theorem rforge_any {N : Nat → List ByteArray} {x0 x1 : Value} {w : World} (h0 : Lst 0 w x0 (N 0)) (h1 : Lst 0 w x1 (N 1)) (hs : Sm N) (q i : Int) (s : ByteArray) :
    Calls Try.prog 25 #[.agg #[x0, x1], .int .i64 q, .int .i64 i, .string s] w fun e w' => ∃ y0 y1, e = .returned (.tuple #[.agg #[y0, y1], .int .i64 (frgC N q i s)]) ∧ An w x0 x1 (frgN N q i s) y0 y1 w' := by
  obtain ⟨a0, c0, rfl⟩ := h0.form
  obtain ⟨a1, c1, rfl⟩ := h1.form
  unfold frgN
  by_cases hp : plc N q i = 0
  · by_cases hl : 131072 < s.size
    · have e : frgC N q i s = 2 := by rw [frgC, if_pos hp, if_pos hl]
      rw [e, if_neg (by decide)]
      refine (rforge_lim a0 a1 c0 c1 q i s w ⟨hp, hl⟩).mono ?_
      rintro e w' ⟨rfl, hb⟩
      exact ⟨_, _, rfl, An.same h0 h1 hb⟩
    · have e : frgC N q i s = 0 := by rw [frgC, if_pos hp, if_neg hl]
      rw [e, if_pos rfl]
      obtain ⟨k, j, rfl, rfl, hk, hj⟩ := plc_ok hp
      rcases (show k = 0 ∨ k = 1 by omega) with rfl | rfl
      · refine (rforge_ok0 a0 a1 c0 c1 j s w hj (hs.len 0) (by omega) h0).mono ?_
        rintro e w' ⟨v', rfl, hv, hb⟩
        exact ⟨_, _, rfl, An.put0 h1 hv hb⟩
      · refine (rforge_ok1 a0 a1 c0 c1 j s w hj (hs.len 1) (by omega) h1).mono ?_
        rintro e w' ⟨v', rfl, hv, hb⟩
        exact ⟨_, _, rfl, An.put1 h0 hv hb⟩
  · have e : frgC N q i s = plc N q i := by rw [frgC, if_neg hp]
    rw [e, if_neg hp]
    refine (rforge_fail a0 a1 c0 c1 q i s w hp).mono ?_
    rintro e w' ⟨rfl, hb⟩
    exact ⟨_, _, rfl, An.same h0 h1 hb⟩

set_option maxHeartbeats 2000000 in
theorem rswap_ok0 {N : Nat → List ByteArray} (a0 a1 : Option Addr) (c0 c1 : Nat) (i j : Nat) (w : World) (hi : i < (N 0).length) (hj : j < (N 0).length) (h64 : (N 0).length ≤ 64) (hA : Lst 0 w (.slice a0 (N 0).length c0) (N 0)) :
    Calls Try.prog 24 #[.agg #[.slice a0 (N 0).length c0, .slice a1 (N 1).length c1], .int .i64 0, .int .i64 (i : Int), .int .i64 (j : Int)] w fun e w' => ∃ v', e = .returned (.tuple #[.agg #[v', .slice a1 (N 1).length c1], .int .i64 0]) ∧ Lst w.heap.size w' v' (((N 0).set i ((N 0).getD j ByteArray.empty)).set j ((N 0).getD i ByteArray.empty)) ∧ Below w.heap.size w w' := by
  have kW := fun w => hide1 (wrong_any (N := N) a0 a1 c0 c1 0 i w)
  have kV := fun w => hide1 (wrong_any (N := N) a0 a1 c0 c1 0 j w)
  have e0 : plc N 0 i = 0 := plc_zero (k := 0) (by omega) hi
  have e1 : plc N 0 j = 0 := plc_zero (k := 0) (by omega) hj
  rw [e0] at kW
  rw [e1] at kV
  obtain ⟨g, c, hx, hcl, _, hgl, _, _⟩ := hA.cell hi
  obtain ⟨g', c', hx', hcl', _, _, _, _⟩ := hA.cell hj
  rw [hx] at hx'
  cases hx'
  cases hx
  generalize (N 0).getD i ByteArray.empty = s1 at *
  generalize (N 0).getD j ByteArray.empty = s2 at *
  have kT := fun w => hide1 (to_any0 (some ⟨g, 0, none⟩) a1 (N 0).length c0 (N 1).length c1 w)
  have kP := fun W (hb : Below w.heap.size w W) => hide1 (put_any0 (some ⟨g, 0, none⟩) a1 (N 0).length c0 (N 1).length c1 (N 0) i s2 W (hA.below hb (Nat.le_refl _)) hi h64)
  have KP := hide1 kP
  have kQ := fun (a' : Option Addr) (n' c' : Nat) W (hv : Lst 0 W (.slice a' n' c') ((N 0).set i s2)) => hide1 (put_any0 a' a1 n' c' (N 1).length c1 ((N 0).set i s2) j s1 W hv (by rw [List.length_set]; exact hj) (by rw [List.length_set]; exact h64))
  have KQ := hide1 kQ
  have CI := hide1 hcl
  have CJ := hide1 hcl'
  have GL := hide1 hgl
  have hik : (i : Int) < ((N 0).length : Int) := by omega
  have hjk : (j : Int) < ((N 0).length : Int) := by omega
  have hik' : i < (N 0).length := hi
  have hjk' : j < (N 0).length := hj
  clear e0 e1 hA hi hj h64 kP kQ hcl hcl' hgl
  generalize (N 0).length = n0 at *
  generalize (N 1).length = n1 at *
  go_enter Try.func24, Try.ntmps24
  go_wp2_with fail
  have h2 := two_new w (.cells #[.slice (some ⟨g, 0, none⟩) n0 c0, .slice a1 n1 c1] 27) (.cells #[.slice none 0 0, .slice none 0 0] 27)
  have hB := below2 (w := w) (.cells #[.slice (some ⟨g, 0, none⟩) n0 c0, .slice a1 n1 c1] 27) (.cells #[.slice none 0 0, .slice none 0 0] 27)
  have H2 := hide1 h2
  have HB := hide1 hB
  clear h2 hB
  generalize (w.alloc _).alloc _ = W1 at H2 HB ⊢
  obtain ⟨b0, hb0⟩ : ∃ b0, w.heap.size = b0 := ⟨_, rfl⟩
  obtain ⟨b1, hb1⟩ : ∃ b1, w.heap.size + 1 = b1 := ⟨_, rfl⟩
  have HS : Hid (w.heap.size = b0 ∧ b0 + 1 = b1) := ⟨hb0, by omega⟩
  rw [hb1, hb0] at H2
  rw [hb1, hb0]
  clear hb0 hb1
  refine ((kW _).out).mono ?_
  rintro e W2 ⟨rfl, hbb⟩
  have R0' := hide1 ((hbb.block b0 (lt_heap H2.out.1)).trans H2.out.1)
  have R1' := hide1 ((hbb.block b1 (lt_heap H2.out.2)).trans H2.out.2)
  have B2' : Hid (Below w.heap.size w W2) := HB.out.trans (hbb.mono HB.out.size)
  clear hbb H2 HB
  have R0 := R0'
  have R1 := R1'
  have B2 := B2'
  clear R0' R1' B2'
  obtain ⟨d0, d1, _, _, _⟩ := box2 R0.out
  go_wp2_with fail
  clear d0 d1
  refine ((kV _).out).mono ?_
  rintro e W3 ⟨rfl, hbb⟩
  have R0' := hide1 ((hbb.block b0 (lt_heap R0.out)).trans R0.out)
  have R1' := hide1 ((hbb.block b1 (lt_heap R1.out)).trans R1.out)
  have B2' : Hid (Below w.heap.size w W3) := B2.out.trans (hbb.mono B2.out.size)
  clear hbb R0 R1 B2
  have R0 := R0'
  have R1 := R1'
  have B2 := B2'
  clear R0' R1' B2'
  obtain ⟨d0, d1, _, _, _⟩ := box2 R0.out
  go_wp2_with fail
  clear d0 d1
  refine ((kT _).out).mono ?_
  rintro e W4 ⟨rfl, hbb⟩
  have R0' := hide1 ((hbb.block b0 (lt_heap R0.out)).trans R0.out)
  have R1' := hide1 ((hbb.block b1 (lt_heap R1.out)).trans R1.out)
  have B2' : Hid (Below w.heap.size w W4) := B2.out.trans (hbb.mono B2.out.size)
  clear hbb R0 R1 B2
  have R0 := R0'
  have R1 := R1'
  have B2 := B2'
  clear R0' R1' B2'
  have CI4 := hide1 ((B2.out.cell (p := ⟨g, i, none⟩) GL.out).trans CI.out)
  have CJ4 := hide1 ((B2.out.cell (p := ⟨g, j, none⟩) GL.out).trans CJ.out)
  have GL4 : Hid (g < W4.heap.size) := Nat.lt_of_lt_of_le GL.out B2.out.size
  go_upto_region 6 with (fail)
  refine region_f (F := [15]) (S := fun W => W.cell? ⟨b0, 0, none⟩ = some (.slice (some ⟨g, 0, none⟩) n0 c0) ∧ W.cell? ⟨b0, 1, none⟩ = some (.slice a1 n1 c1) ∧ b0 < W.heap.size ∧ W.cell? ⟨g, i, none⟩ = some (.string s1) ∧ W.cell? ⟨g, j, none⟩ = some (.string s2) ∧ g < W.heap.size) (by kernel_rfl) ⟨(box2 R0.out).1, (box2 R0.out).2.1, (box2 R0.out).2.2.2.2, CI4.out, CJ4.out, GL4.out⟩ (fun hS => ?_)
  generalize hU : World.drew W4 = U at hS ⊢
  have R1 : Hid (U.heap[b1]? = some (.cells #[.slice none 0 0, .slice none 0 0] 27 (0, 0))) := by rw [← hU]; exact R1.out
  have B2 : Hid (Below w.heap.size w U) := by rw [← hU]; exact B2.out.drew
  clear hU
  refine take_f 0 34 (.agg #[.slice (some ⟨g, 0, none⟩) n0 c0, .slice a1 n1 c1]) [7, 14, 15, 16] rfl rfl (by kernel_rfl) (by kernel_rfl) (by kernel_rfl) (by kernel_rfl) (by kernel_rfl) (by kernel_rfl) (fun _ _ _ h => h) rfl (fun w hSw => by obtain ⟨g0, g1, g2, g3, g4, g5⟩ := hSw; go_simp) hS ?_
  try simp only [List.setIfInBounds_toArray, List.set_cons_zero, List.set_cons_succ]
  refine take_p 1 35 (.int .i64 0) rfl rfl (by kernel_rfl) (by kernel_rfl) (by kernel_rfl) (fun _ _ _ h => h) rfl (fun w => by go_simp) ?_
  try simp only [List.setIfInBounds_toArray, List.set_cons_zero, List.set_cons_succ]
  refine take_p 2 36 (.int .i64 (i : Int)) rfl rfl (by kernel_rfl) (by kernel_rfl) (by kernel_rfl) (fun _ _ _ h => h) rfl (fun w => by go_simp) ?_
  try simp only [List.setIfInBounds_toArray, List.set_cons_zero, List.set_cons_succ]
  refine take_p 3 37 (.slice (some ⟨g, 0, none⟩) n0 c0) rfl rfl (by kernel_rfl) (by kernel_rfl) (by kernel_rfl) (fun _ _ _ h => h) rfl (fun w => by go_simp) ?_
  try simp only [List.setIfInBounds_toArray, List.set_cons_zero, List.set_cons_succ]
  refine take_p 4 38 (.int .i64 (j : Int)) rfl rfl (by kernel_rfl) (by kernel_rfl) (by kernel_rfl) (fun _ _ _ h => h) rfl (fun w => by go_simp) ?_
  try simp only [List.setIfInBounds_toArray, List.set_cons_zero, List.set_cons_succ]
  refine take_p 5 39 (.pointer (some ⟨g, j, none⟩)) rfl rfl (by kernel_rfl) (by kernel_rfl) (by kernel_rfl) (fun _ _ _ h => h) rfl (fun w => by go_simp) ?_
  try simp only [List.setIfInBounds_toArray, List.set_cons_zero, List.set_cons_succ]
  refine take_f 6 40 (.string s2) [7, 14, 15, 16] rfl rfl (by kernel_rfl) (by kernel_rfl) (by kernel_rfl) (by kernel_rfl) (by kernel_rfl) (by kernel_rfl) (fun _ _ _ h => h) rfl (fun w hSw => by obtain ⟨g0, g1, g2, g3, g4, g5⟩ := hSw; go_simp) hS ?_
  try simp only [List.setIfInBounds_toArray, List.set_cons_zero, List.set_cons_succ]
  refine take_p 8 42 (.int .i64 0) rfl rfl (by kernel_rfl) (by kernel_rfl) (by kernel_rfl) (fun _ _ _ h => h) rfl (fun w => by go_simp) ?_
  try simp only [List.setIfInBounds_toArray, List.set_cons_zero, List.set_cons_succ]
  refine take_p 9 43 (.int .i64 (j : Int)) rfl rfl (by kernel_rfl) (by kernel_rfl) (by kernel_rfl) (fun _ _ _ h => h) rfl (fun w => by go_simp) ?_
  try simp only [List.setIfInBounds_toArray, List.set_cons_zero, List.set_cons_succ]
  refine take_p 10 44 (.slice (some ⟨g, 0, none⟩) n0 c0) rfl rfl (by kernel_rfl) (by kernel_rfl) (by kernel_rfl) (fun _ _ _ h => h) rfl (fun w => by go_simp) ?_
  try simp only [List.setIfInBounds_toArray, List.set_cons_zero, List.set_cons_succ]
  refine take_p 11 45 (.int .i64 (i : Int)) rfl rfl (by kernel_rfl) (by kernel_rfl) (by kernel_rfl) (fun _ _ _ h => h) rfl (fun w => by go_simp) ?_
  try simp only [List.setIfInBounds_toArray, List.set_cons_zero, List.set_cons_succ]
  refine take_p 12 46 (.pointer (some ⟨g, i, none⟩)) rfl rfl (by kernel_rfl) (by kernel_rfl) (by kernel_rfl) (fun _ _ _ h => h) rfl (fun w => by go_simp) ?_
  try simp only [List.setIfInBounds_toArray, List.set_cons_zero, List.set_cons_succ]
  refine take_f 13 47 (.string s1) [14, 15, 16] rfl rfl (by kernel_rfl) (by kernel_rfl) (by kernel_rfl) (by kernel_rfl) (by kernel_rfl) (by kernel_rfl) (fun _ _ _ h => h) rfl (fun w hSw => by obtain ⟨g0, g1, g2, g3, g4, g5⟩ := hSw; go_simp) hS ?_
  try simp only [List.setIfInBounds_toArray, List.set_cons_zero, List.set_cons_succ]
  refine ready_f 7 (o := { dst := some 41, op := Op.call { callee := Callee.value (Operand.func 35), args := #[Operand.tmp 34, Operand.tmp 35, Operand.tmp 36, Operand.tmp 40], argTypes := #[27, 3, 3, 9] }, type := 27, pos := "ref.go:97", after := #[{ on := 0, ground := Ground.data }, { on := 1, ground := Ground.data }, { on := 2, ground := Ground.data }, { on := 6, ground := Ground.data }], guard := none }) (by kernel_rfl) rfl (fun K hK => ?_)
  go_simp
  refine (KP.out U B2.out).out.mono ?_
  rintro e U5 ⟨v1, rfl, ho1, hb5⟩
  refine hK.out _ _ (fun _ h => ⟨(hb5.cell (p := ⟨b0, 0, none⟩) h.2.2.1).trans h.1, (hb5.cell (p := ⟨b0, 1, none⟩) h.2.2.1).trans h.2.1, Nat.lt_of_lt_of_le h.2.2.1 hb5.size, (hb5.cell (p := ⟨g, i, none⟩) h.2.2.2.2.2).trans h.2.2.2.1, (hb5.cell (p := ⟨g, j, none⟩) h.2.2.2.2.2).trans h.2.2.2.2.1, Nat.lt_of_lt_of_le h.2.2.2.2.2 hb5.size⟩) ?_
  clear hK K
  try simp only [Act.put, List.setIfInBounds_toArray, List.set_cons_zero, List.set_cons_succ]
  obtain ⟨a1', c1', rfl⟩ := ho1.form
  generalize (List.set (N 0) i s2).length = m1 at *
  have O1 := hide1 (ho1.mono (Nat.zero_le _))
  have R5 := hide1 ((hb5.block b1 (lt_heap R1.out)).trans R1.out)
  have B5 : Hid (Below w.heap.size w U5) := B2.out.trans (hb5.mono B2.out.size)
  clear hb5 ho1
  refine ready_f 14 (o := { dst := some 48, op := Op.call { callee := Callee.value (Operand.func 35), args := #[Operand.tmp 41, Operand.tmp 42, Operand.tmp 43, Operand.tmp 47], argTypes := #[27, 3, 3, 9] }, type := 27, pos := "ref.go:97", after := #[{ on := 7, ground := Ground.data }, { on := 8, ground := Ground.data }, { on := 9, ground := Ground.data }, { on := 13, ground := Ground.data }, { on := 7, ground := Ground.chain }], guard := none }) (by kernel_rfl) rfl (fun K hK => ?_)
  go_simp
  refine (KQ.out _ _ _ U5 O1.out).out.mono ?_
  rintro e U6 ⟨v2, rfl, ho2, hb6⟩
  refine hK.out _ _ (fun _ h => ⟨(hb6.cell (p := ⟨b0, 0, none⟩) h.2.2.1).trans h.1, (hb6.cell (p := ⟨b0, 1, none⟩) h.2.2.1).trans h.2.1, Nat.lt_of_lt_of_le h.2.2.1 hb6.size, (hb6.cell (p := ⟨g, i, none⟩) h.2.2.2.2.2).trans h.2.2.2.1, (hb6.cell (p := ⟨g, j, none⟩) h.2.2.2.2.2).trans h.2.2.2.2.1, Nat.lt_of_lt_of_le h.2.2.2.2.2 hb6.size⟩) ?_
  clear hK K
  try simp only [Act.put, List.setIfInBounds_toArray, List.set_cons_zero, List.set_cons_succ]
  obtain ⟨a2', c2', rfl⟩ := ho2.form
  generalize (List.set (List.set (N 0) i s2) j s1).length = m2 at *
  have O2 := hide1 ho2
  have L5 : Hid (b1 < U5.heap.size) := lt_heap R5.out
  have R1 := hide1 ((hb6.block b1 (lt_heap R5.out)).trans R5.out)
  have B6 : Hid (Below w.heap.size w U6) := B5.out.trans (hb6.mono B5.out.size)
  clear hb6 ho2 hS
  refine ready_f 15 (o := { dst := none, op := Op.store 27 (Operand.tmp 8) (Operand.tmp 48), type := 0, pos := "ref.go:97", after := #[{ on := 14, ground := Ground.data }, { on := 14, ground := Ground.chain }, { on := 0, ground := Ground.phase }, { on := 1, ground := Ground.phase }, { on := 2, ground := Ground.phase }, { on := 3, ground := Ground.phase }, { on := 4, ground := Ground.phase }, { on := 5, ground := Ground.phase }, { on := 6, ground := Ground.phase }, { on := 7, ground := Ground.phase }, { on := 8, ground := Ground.phase }, { on := 9, ground := Ground.phase }, { on := 10, ground := Ground.phase }, { on := 11, ground := Ground.phase }, { on := 12, ground := Ground.phase }, { on := 13, ground := Ground.phase }, { on := 14, ground := Ground.phase }], guard := none }) (by kernel_rfl) rfl (fun K hK => ?_)
  rw [if_pos (by rfl)]
  refine wp_store_row 27 _ _ rfl b1 _ rfl rfl 27 _ R1.out (by kernel_rfl) rfl (by kernel_rfl) ?_
  refine hK.out _ _ (fun h => absurd (by decide) h) ?_
  clear hK K
  refine take_p 16 9 (.int .i64 0) rfl rfl (by kernel_rfl) (by kernel_rfl) (by kernel_rfl) (fun _ _ _ h => h) rfl (fun w => by go_simp) ?_
  try simp only [List.setIfInBounds_toArray, List.set_cons_zero, List.set_cons_succ]
  refine done_f (by kernel_rfl) ?_ _
  go_wp2
  exact ret_n2 Try.results24 b1 _ _ _ rfl rfl (setRow_heap _ b1 _ _ _ _ R1.out) rfl ⟨_, rfl, (O2.out.setRow L5.out _).mono B5.out.size, below_setRow B6.out (by have := HS.out; omega) _⟩

set_option maxHeartbeats 2000000 in
theorem rswap_ok1 {N : Nat → List ByteArray} (a0 a1 : Option Addr) (c0 c1 : Nat) (i j : Nat) (w : World) (hi : i < (N 1).length) (hj : j < (N 1).length) (h64 : (N 1).length ≤ 64) (hA : Lst 0 w (.slice a1 (N 1).length c1) (N 1)) :
    Calls Try.prog 24 #[.agg #[.slice a0 (N 0).length c0, .slice a1 (N 1).length c1], .int .i64 1, .int .i64 (i : Int), .int .i64 (j : Int)] w fun e w' => ∃ v', e = .returned (.tuple #[.agg #[.slice a0 (N 0).length c0, v'], .int .i64 0]) ∧ Lst w.heap.size w' v' (((N 1).set i ((N 1).getD j ByteArray.empty)).set j ((N 1).getD i ByteArray.empty)) ∧ Below w.heap.size w w' := by
  have kW := fun w => hide1 (wrong_any (N := N) a0 a1 c0 c1 1 i w)
  have kV := fun w => hide1 (wrong_any (N := N) a0 a1 c0 c1 1 j w)
  have e0 : plc N 1 i = 0 := plc_zero (k := 1) (by omega) hi
  have e1 : plc N 1 j = 0 := plc_zero (k := 1) (by omega) hj
  rw [e0] at kW
  rw [e1] at kV
  obtain ⟨g, c, hx, hcl, _, hgl, _, _⟩ := hA.cell hi
  obtain ⟨g', c', hx', hcl', _, _, _, _⟩ := hA.cell hj
  rw [hx] at hx'
  cases hx'
  cases hx
  generalize (N 1).getD i ByteArray.empty = s1 at *
  generalize (N 1).getD j ByteArray.empty = s2 at *
  have kT := fun w => hide1 (to_any1 a0 (some ⟨g, 0, none⟩) (N 0).length c0 (N 1).length c1 w)
  have kP := fun W (hb : Below w.heap.size w W) => hide1 (put_any1 a0 (some ⟨g, 0, none⟩) (N 0).length c0 (N 1).length c1 (N 1) i s2 W (hA.below hb (Nat.le_refl _)) hi h64)
  have KP := hide1 kP
  have kQ := fun (a' : Option Addr) (n' c' : Nat) W (hv : Lst 0 W (.slice a' n' c') ((N 1).set i s2)) => hide1 (put_any1 a0 a' (N 0).length c0 n' c' ((N 1).set i s2) j s1 W hv (by rw [List.length_set]; exact hj) (by rw [List.length_set]; exact h64))
  have KQ := hide1 kQ
  have CI := hide1 hcl
  have CJ := hide1 hcl'
  have GL := hide1 hgl
  have hik : (i : Int) < ((N 1).length : Int) := by omega
  have hjk : (j : Int) < ((N 1).length : Int) := by omega
  have hik' : i < (N 1).length := hi
  have hjk' : j < (N 1).length := hj
  clear e0 e1 hA hi hj h64 kP kQ hcl hcl' hgl
  generalize (N 0).length = n0 at *
  generalize (N 1).length = n1 at *
  go_enter Try.func24, Try.ntmps24
  go_wp2_with fail
  have h2 := two_new w (.cells #[.slice a0 n0 c0, .slice (some ⟨g, 0, none⟩) n1 c1] 27) (.cells #[.slice none 0 0, .slice none 0 0] 27)
  have hB := below2 (w := w) (.cells #[.slice a0 n0 c0, .slice (some ⟨g, 0, none⟩) n1 c1] 27) (.cells #[.slice none 0 0, .slice none 0 0] 27)
  have H2 := hide1 h2
  have HB := hide1 hB
  clear h2 hB
  generalize (w.alloc _).alloc _ = W1 at H2 HB ⊢
  obtain ⟨b0, hb0⟩ : ∃ b0, w.heap.size = b0 := ⟨_, rfl⟩
  obtain ⟨b1, hb1⟩ : ∃ b1, w.heap.size + 1 = b1 := ⟨_, rfl⟩
  have HS : Hid (w.heap.size = b0 ∧ b0 + 1 = b1) := ⟨hb0, by omega⟩
  rw [hb1, hb0] at H2
  rw [hb1, hb0]
  clear hb0 hb1
  refine ((kW _).out).mono ?_
  rintro e W2 ⟨rfl, hbb⟩
  have R0' := hide1 ((hbb.block b0 (lt_heap H2.out.1)).trans H2.out.1)
  have R1' := hide1 ((hbb.block b1 (lt_heap H2.out.2)).trans H2.out.2)
  have B2' : Hid (Below w.heap.size w W2) := HB.out.trans (hbb.mono HB.out.size)
  clear hbb H2 HB
  have R0 := R0'
  have R1 := R1'
  have B2 := B2'
  clear R0' R1' B2'
  obtain ⟨d0, d1, _, _, _⟩ := box2 R0.out
  go_wp2_with fail
  clear d0 d1
  refine ((kV _).out).mono ?_
  rintro e W3 ⟨rfl, hbb⟩
  have R0' := hide1 ((hbb.block b0 (lt_heap R0.out)).trans R0.out)
  have R1' := hide1 ((hbb.block b1 (lt_heap R1.out)).trans R1.out)
  have B2' : Hid (Below w.heap.size w W3) := B2.out.trans (hbb.mono B2.out.size)
  clear hbb R0 R1 B2
  have R0 := R0'
  have R1 := R1'
  have B2 := B2'
  clear R0' R1' B2'
  obtain ⟨d0, d1, _, _, _⟩ := box2 R0.out
  go_wp2_with fail
  clear d0 d1
  refine ((kT _).out).mono ?_
  rintro e W4 ⟨rfl, hbb⟩
  have R0' := hide1 ((hbb.block b0 (lt_heap R0.out)).trans R0.out)
  have R1' := hide1 ((hbb.block b1 (lt_heap R1.out)).trans R1.out)
  have B2' : Hid (Below w.heap.size w W4) := B2.out.trans (hbb.mono B2.out.size)
  clear hbb R0 R1 B2
  have R0 := R0'
  have R1 := R1'
  have B2 := B2'
  clear R0' R1' B2'
  have CI4 := hide1 ((B2.out.cell (p := ⟨g, i, none⟩) GL.out).trans CI.out)
  have CJ4 := hide1 ((B2.out.cell (p := ⟨g, j, none⟩) GL.out).trans CJ.out)
  have GL4 : Hid (g < W4.heap.size) := Nat.lt_of_lt_of_le GL.out B2.out.size
  go_upto_region 6 with (fail)
  refine region_f (F := [15]) (S := fun W => W.cell? ⟨b0, 0, none⟩ = some (.slice a0 n0 c0) ∧ W.cell? ⟨b0, 1, none⟩ = some (.slice (some ⟨g, 0, none⟩) n1 c1) ∧ b0 < W.heap.size ∧ W.cell? ⟨g, i, none⟩ = some (.string s1) ∧ W.cell? ⟨g, j, none⟩ = some (.string s2) ∧ g < W.heap.size) (by kernel_rfl) ⟨(box2 R0.out).1, (box2 R0.out).2.1, (box2 R0.out).2.2.2.2, CI4.out, CJ4.out, GL4.out⟩ (fun hS => ?_)
  generalize hU : World.drew W4 = U at hS ⊢
  have R1 : Hid (U.heap[b1]? = some (.cells #[.slice none 0 0, .slice none 0 0] 27 (0, 0))) := by rw [← hU]; exact R1.out
  have B2 : Hid (Below w.heap.size w U) := by rw [← hU]; exact B2.out.drew
  clear hU
  refine take_f 0 34 (.agg #[.slice a0 n0 c0, .slice (some ⟨g, 0, none⟩) n1 c1]) [7, 14, 15, 16] rfl rfl (by kernel_rfl) (by kernel_rfl) (by kernel_rfl) (by kernel_rfl) (by kernel_rfl) (by kernel_rfl) (fun _ _ _ h => h) rfl (fun w hSw => by obtain ⟨g0, g1, g2, g3, g4, g5⟩ := hSw; go_simp) hS ?_
  try simp only [List.setIfInBounds_toArray, List.set_cons_zero, List.set_cons_succ]
  refine take_p 1 35 (.int .i64 1) rfl rfl (by kernel_rfl) (by kernel_rfl) (by kernel_rfl) (fun _ _ _ h => h) rfl (fun w => by go_simp) ?_
  try simp only [List.setIfInBounds_toArray, List.set_cons_zero, List.set_cons_succ]
  refine take_p 2 36 (.int .i64 (i : Int)) rfl rfl (by kernel_rfl) (by kernel_rfl) (by kernel_rfl) (fun _ _ _ h => h) rfl (fun w => by go_simp) ?_
  try simp only [List.setIfInBounds_toArray, List.set_cons_zero, List.set_cons_succ]
  refine take_p 3 37 (.slice (some ⟨g, 0, none⟩) n1 c1) rfl rfl (by kernel_rfl) (by kernel_rfl) (by kernel_rfl) (fun _ _ _ h => h) rfl (fun w => by go_simp) ?_
  try simp only [List.setIfInBounds_toArray, List.set_cons_zero, List.set_cons_succ]
  refine take_p 4 38 (.int .i64 (j : Int)) rfl rfl (by kernel_rfl) (by kernel_rfl) (by kernel_rfl) (fun _ _ _ h => h) rfl (fun w => by go_simp) ?_
  try simp only [List.setIfInBounds_toArray, List.set_cons_zero, List.set_cons_succ]
  refine take_p 5 39 (.pointer (some ⟨g, j, none⟩)) rfl rfl (by kernel_rfl) (by kernel_rfl) (by kernel_rfl) (fun _ _ _ h => h) rfl (fun w => by go_simp) ?_
  try simp only [List.setIfInBounds_toArray, List.set_cons_zero, List.set_cons_succ]
  refine take_f 6 40 (.string s2) [7, 14, 15, 16] rfl rfl (by kernel_rfl) (by kernel_rfl) (by kernel_rfl) (by kernel_rfl) (by kernel_rfl) (by kernel_rfl) (fun _ _ _ h => h) rfl (fun w hSw => by obtain ⟨g0, g1, g2, g3, g4, g5⟩ := hSw; go_simp) hS ?_
  try simp only [List.setIfInBounds_toArray, List.set_cons_zero, List.set_cons_succ]
  refine take_p 8 42 (.int .i64 1) rfl rfl (by kernel_rfl) (by kernel_rfl) (by kernel_rfl) (fun _ _ _ h => h) rfl (fun w => by go_simp) ?_
  try simp only [List.setIfInBounds_toArray, List.set_cons_zero, List.set_cons_succ]
  refine take_p 9 43 (.int .i64 (j : Int)) rfl rfl (by kernel_rfl) (by kernel_rfl) (by kernel_rfl) (fun _ _ _ h => h) rfl (fun w => by go_simp) ?_
  try simp only [List.setIfInBounds_toArray, List.set_cons_zero, List.set_cons_succ]
  refine take_p 10 44 (.slice (some ⟨g, 0, none⟩) n1 c1) rfl rfl (by kernel_rfl) (by kernel_rfl) (by kernel_rfl) (fun _ _ _ h => h) rfl (fun w => by go_simp) ?_
  try simp only [List.setIfInBounds_toArray, List.set_cons_zero, List.set_cons_succ]
  refine take_p 11 45 (.int .i64 (i : Int)) rfl rfl (by kernel_rfl) (by kernel_rfl) (by kernel_rfl) (fun _ _ _ h => h) rfl (fun w => by go_simp) ?_
  try simp only [List.setIfInBounds_toArray, List.set_cons_zero, List.set_cons_succ]
  refine take_p 12 46 (.pointer (some ⟨g, i, none⟩)) rfl rfl (by kernel_rfl) (by kernel_rfl) (by kernel_rfl) (fun _ _ _ h => h) rfl (fun w => by go_simp) ?_
  try simp only [List.setIfInBounds_toArray, List.set_cons_zero, List.set_cons_succ]
  refine take_f 13 47 (.string s1) [14, 15, 16] rfl rfl (by kernel_rfl) (by kernel_rfl) (by kernel_rfl) (by kernel_rfl) (by kernel_rfl) (by kernel_rfl) (fun _ _ _ h => h) rfl (fun w hSw => by obtain ⟨g0, g1, g2, g3, g4, g5⟩ := hSw; go_simp) hS ?_
  try simp only [List.setIfInBounds_toArray, List.set_cons_zero, List.set_cons_succ]
  refine ready_f 7 (o := { dst := some 41, op := Op.call { callee := Callee.value (Operand.func 35), args := #[Operand.tmp 34, Operand.tmp 35, Operand.tmp 36, Operand.tmp 40], argTypes := #[27, 3, 3, 9] }, type := 27, pos := "ref.go:97", after := #[{ on := 0, ground := Ground.data }, { on := 1, ground := Ground.data }, { on := 2, ground := Ground.data }, { on := 6, ground := Ground.data }], guard := none }) (by kernel_rfl) rfl (fun K hK => ?_)
  go_simp
  refine (KP.out U B2.out).out.mono ?_
  rintro e U5 ⟨v1, rfl, ho1, hb5⟩
  refine hK.out _ _ (fun _ h => ⟨(hb5.cell (p := ⟨b0, 0, none⟩) h.2.2.1).trans h.1, (hb5.cell (p := ⟨b0, 1, none⟩) h.2.2.1).trans h.2.1, Nat.lt_of_lt_of_le h.2.2.1 hb5.size, (hb5.cell (p := ⟨g, i, none⟩) h.2.2.2.2.2).trans h.2.2.2.1, (hb5.cell (p := ⟨g, j, none⟩) h.2.2.2.2.2).trans h.2.2.2.2.1, Nat.lt_of_lt_of_le h.2.2.2.2.2 hb5.size⟩) ?_
  clear hK K
  try simp only [Act.put, List.setIfInBounds_toArray, List.set_cons_zero, List.set_cons_succ]
  obtain ⟨a1', c1', rfl⟩ := ho1.form
  generalize (List.set (N 1) i s2).length = m1 at *
  have O1 := hide1 (ho1.mono (Nat.zero_le _))
  have R5 := hide1 ((hb5.block b1 (lt_heap R1.out)).trans R1.out)
  have B5 : Hid (Below w.heap.size w U5) := B2.out.trans (hb5.mono B2.out.size)
  clear hb5 ho1
  refine ready_f 14 (o := { dst := some 48, op := Op.call { callee := Callee.value (Operand.func 35), args := #[Operand.tmp 41, Operand.tmp 42, Operand.tmp 43, Operand.tmp 47], argTypes := #[27, 3, 3, 9] }, type := 27, pos := "ref.go:97", after := #[{ on := 7, ground := Ground.data }, { on := 8, ground := Ground.data }, { on := 9, ground := Ground.data }, { on := 13, ground := Ground.data }, { on := 7, ground := Ground.chain }], guard := none }) (by kernel_rfl) rfl (fun K hK => ?_)
  go_simp
  refine (KQ.out _ _ _ U5 O1.out).out.mono ?_
  rintro e U6 ⟨v2, rfl, ho2, hb6⟩
  refine hK.out _ _ (fun _ h => ⟨(hb6.cell (p := ⟨b0, 0, none⟩) h.2.2.1).trans h.1, (hb6.cell (p := ⟨b0, 1, none⟩) h.2.2.1).trans h.2.1, Nat.lt_of_lt_of_le h.2.2.1 hb6.size, (hb6.cell (p := ⟨g, i, none⟩) h.2.2.2.2.2).trans h.2.2.2.1, (hb6.cell (p := ⟨g, j, none⟩) h.2.2.2.2.2).trans h.2.2.2.2.1, Nat.lt_of_lt_of_le h.2.2.2.2.2 hb6.size⟩) ?_
  clear hK K
  try simp only [Act.put, List.setIfInBounds_toArray, List.set_cons_zero, List.set_cons_succ]
  obtain ⟨a2', c2', rfl⟩ := ho2.form
  generalize (List.set (List.set (N 1) i s2) j s1).length = m2 at *
  have O2 := hide1 ho2
  have L5 : Hid (b1 < U5.heap.size) := lt_heap R5.out
  have R1 := hide1 ((hb6.block b1 (lt_heap R5.out)).trans R5.out)
  have B6 : Hid (Below w.heap.size w U6) := B5.out.trans (hb6.mono B5.out.size)
  clear hb6 ho2 hS
  refine ready_f 15 (o := { dst := none, op := Op.store 27 (Operand.tmp 8) (Operand.tmp 48), type := 0, pos := "ref.go:97", after := #[{ on := 14, ground := Ground.data }, { on := 14, ground := Ground.chain }, { on := 0, ground := Ground.phase }, { on := 1, ground := Ground.phase }, { on := 2, ground := Ground.phase }, { on := 3, ground := Ground.phase }, { on := 4, ground := Ground.phase }, { on := 5, ground := Ground.phase }, { on := 6, ground := Ground.phase }, { on := 7, ground := Ground.phase }, { on := 8, ground := Ground.phase }, { on := 9, ground := Ground.phase }, { on := 10, ground := Ground.phase }, { on := 11, ground := Ground.phase }, { on := 12, ground := Ground.phase }, { on := 13, ground := Ground.phase }, { on := 14, ground := Ground.phase }], guard := none }) (by kernel_rfl) rfl (fun K hK => ?_)
  rw [if_pos (by rfl)]
  refine wp_store_row 27 _ _ rfl b1 _ rfl rfl 27 _ R1.out (by kernel_rfl) rfl (by kernel_rfl) ?_
  refine hK.out _ _ (fun h => absurd (by decide) h) ?_
  clear hK K
  refine take_p 16 9 (.int .i64 0) rfl rfl (by kernel_rfl) (by kernel_rfl) (by kernel_rfl) (fun _ _ _ h => h) rfl (fun w => by go_simp) ?_
  try simp only [List.setIfInBounds_toArray, List.set_cons_zero, List.set_cons_succ]
  refine done_f (by kernel_rfl) ?_ _
  go_wp2
  exact ret_n2 Try.results24 b1 _ _ _ rfl rfl (setRow_heap _ b1 _ _ _ _ R1.out) rfl ⟨_, rfl, (O2.out.setRow L5.out _).mono B5.out.size, below_setRow B6.out (by have := HS.out; omega) _⟩

theorem rswap_any {N : Nat → List ByteArray} {x0 x1 : Value} {w : World} (h0 : Lst 0 w x0 (N 0)) (h1 : Lst 0 w x1 (N 1)) (hs : Sm N) (q i j : Int) :
    Calls Try.prog 24 #[.agg #[x0, x1], .int .i64 q, .int .i64 i, .int .i64 j] w fun e w' => ∃ y0 y1, e = .returned (.tuple #[.agg #[y0, y1], .int .i64 (swpC N q i j)]) ∧ An w x0 x1 (swpN N q i j) y0 y1 w' := by
  obtain ⟨a0, c0, rfl⟩ := h0.form
  obtain ⟨a1, c1, rfl⟩ := h1.form
  unfold swpN
  by_cases hp : plc N q i = 0
  · by_cases hq : plc N q j = 0
    · have e : swpC N q i j = 0 := by rw [swpC, if_pos hp, hq]
      rw [e, if_pos rfl]
      obtain ⟨k, i, rfl, rfl, hk, hi⟩ := plc_ok hp
      obtain ⟨k', j, e', rfl, _, hj⟩ := plc_ok hq
      obtain rfl : k' = k := by omega
      rcases (show k' = 0 ∨ k' = 1 by omega) with rfl | rfl
      · refine (rswap_ok0 a0 a1 c0 c1 i j w hi hj (hs.len 0) h0).mono ?_
        rintro e w' ⟨v', rfl, hv, hb⟩
        exact ⟨_, _, rfl, An.put0 h1 hv hb⟩
      · refine (rswap_ok1 a0 a1 c0 c1 i j w hi hj (hs.len 1) h1).mono ?_
        rintro e w' ⟨v', rfl, hv, hb⟩
        exact ⟨_, _, rfl, An.put1 h0 hv hb⟩
    · have e : swpC N q i j = plc N q j := by rw [swpC, if_pos hp]
      rw [e, if_neg hq]
      refine (rswap_fail2 a0 a1 c0 c1 q i j w ⟨hp, hq⟩).mono ?_
      rintro e w' ⟨rfl, hb⟩
      exact ⟨_, _, rfl, An.same h0 h1 hb⟩
  · have e : swpC N q i j = plc N q i := by rw [swpC, if_neg hp]
    rw [e, if_neg hp]
    refine (rswap_fail a0 a1 c0 c1 q i j w hp).mono ?_
    rintro e w' ⟨rfl, hb⟩
    exact ⟨_, _, rfl, An.same h0 h1 hb⟩

end Go.Proofs.Ytfnedohampmnoaa
