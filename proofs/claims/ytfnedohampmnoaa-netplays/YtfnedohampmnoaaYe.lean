/- The document's Put, Forge. -/
import Derived.Test.YtfnedohampmnoaaYd
namespace Go.Proofs.Ytfnedohampmnoaa
open Go.RowKit
set_option maxRecDepth 100000
attribute [local go_sem] not_any

theorem set_box2 {w : World} {g : Nat} {x y x' y' : Value} {t : TypeId} (h : w.heap[g]? = some (.cells #[x, y] t (0, 0))) : ((w.setCell ⟨g, 0, none⟩ x').setCell ⟨g, 1, none⟩ y').heap[g]? = some (.cells #[x', y'] t (0, 0)) := by
  rw [heap_setCell_same _ g 1 _ _ _ (heap_setCell_same _ g 0 _ _ _ h)]
  rfl
theorem free2 {w : World} {g : Nat} {x y x' : Value} {t : TypeId} (h : w.heap[g]? = some (.cells #[x, y] t (0, 0))) : (w.setCell ⟨g, 0, none⟩ x').frozen? ⟨g, 1, none⟩ = false ∧ (w.setCell ⟨g, 0, none⟩ x').cell? ⟨g, 1, none⟩ = some y :=
  ⟨frozen_of_row _ g 1 _ _ (heap_setCell_same _ g 0 _ _ _ h), by rw [cell_of_row _ g 1 _ _ _ (heap_setCell_same _ g 0 _ _ _ h)]; rfl⟩
theorem box2 {w : World} {g : Nat} {x y : Value} {t : TypeId} (h : w.heap[g]? = some (.cells #[x, y] t (0, 0))) : w.cell? ⟨g, 0, none⟩ = some x ∧ w.cell? ⟨g, 1, none⟩ = some y ∧ w.frozen? ⟨g, 0, none⟩ = false ∧ w.frozen? ⟨g, 1, none⟩ = false ∧ g < w.heap.size :=
  ⟨by rw [cell_of_row w g 0 _ _ _ h]; rfl, by rw [cell_of_row w g 1 _ _ _ h]; rfl, frozen_of_row w g 0 _ _ h, frozen_of_row w g 1 _ _ h, lt_heap h⟩
theorem below_set2 {B : Nat} {w w' : World} {g : Nat} {x y : Value} (h : Below B w w') (hg : B ≤ g) : Below B w ((w'.setCell ⟨g, 0, none⟩ x).setCell ⟨g, 1, none⟩ y) := (h.setCell (p := ⟨g, 0, none⟩) hg _).setCell (p := ⟨g, 1, none⟩) hg _

theorem Lst.set2 {B : Nat} {w : World} {v x y : Value} {A : List ByteArray} {b : Nat} (h : Lst B w v A) (hb : b < B) : Lst B ((w.setCell ⟨b, 0, none⟩ x).setCell ⟨b, 1, none⟩ y) v A :=
  h.same fun g hg => by
    have := (h.lt hg).1
    rw [heap_setCell_other _ _ _ _ (show g ≠ b by omega), heap_setCell_other _ _ _ _ (show g ≠ b by omega)]

/- one cell of the new list is written: the boxes are as they were -/
theorem put_step {W2 W3 : World} {b0 b1 b2 g n c w0 : Nat} {x y u v : Value} {A : List ByteArray} {s : ByteArray} (hs : w0 = b0 ∧ b0 + 1 = b1 ∧ b1 + 1 = b2) (r0 : W2.heap[b0]? = some (.cells #[x, y] 27 (0, 0))) (r1 : W2.heap[b1]? = some (.cells #[u, v] 27 (0, 0))) (r2 : W2.heap[b2]? = some (.cells #[] 9 (0, 0)))
    (hg : W2.grownBy W3 (Value.slice (some ⟨b2, 0, none⟩) 0 0).ownBlock) (ho : Lst b2 W3 (.slice (some ⟨g, 0, none⟩) n c) A) (hgb : b2 ≤ g) (i : Nat) :
    (W3.setCell ⟨g, i, none⟩ (.string s)).heap[b0]? = some (.cells #[x, y] 27 (0, 0)) ∧ (W3.setCell ⟨g, i, none⟩ (.string s)).heap[b1]? = some (.cells #[u, v] 27 (0, 0)) ∧ Lst b2 (W3.setCell ⟨g, i, none⟩ (.string s)) (.slice (some ⟨g, 0, none⟩) n c) (A.set i s) ∧ Below b2 W2 (W3.setCell ⟨g, i, none⟩ (.string s)) := by
  have l0 := lt_heap r0
  have l1 := lt_heap r1
  have l2 := lt_heap r2
  have ne : ∀ b, b ≠ b2 → some b ≠ (Value.slice (some ⟨b2, 0, none⟩) 0 0).ownBlock := fun b hb e => by
    simp [Value.ownBlock] at e
    exact hb e
  refine ⟨?_, ?_, (ho.set i s).1, ((Below.refl _ _).grown hg (by omega) (fun k hk => by simp [Value.ownBlock] at hk; omega)).setCell (p := ⟨g, i, none⟩) hgb _⟩
  · rw [heap_setCell_other _ _ _ _ (show b0 ≠ g by omega), hg.block b0 l0 (ne _ (by omega))]
    exact r0
  · rw [heap_setCell_other _ _ _ _ (show b1 ≠ g by omega), hg.block b1 l1 (ne _ (by omega))]
    exact r1

set_option maxHeartbeats 2000000 in
theorem put_any0 (a0 a1 : Option Addr) (n0 c0 n1 c1 : Nat) (A : List ByteArray) (i : Nat) (s : ByteArray) (w : World) (hA : Lst 0 w (.slice a0 n0 c0) A) (hi : i < A.length) (h64 : A.length ≤ 64) :
    Calls Try.prog 35 #[.agg #[.slice a0 n0 c0, .slice a1 n1 c1], .int .i64 0, .int .i64 (i : Int), .string s] w fun e w' => ∃ v', e = .returned (.agg #[v', .slice a1 n1 c1]) ∧ Lst w.heap.size w' v' (A.set i s) ∧ Below w.heap.size w w' := by
  have kT := fun w => hide1 (to_any0 a0 a1 n0 c0 n1 c1 w)
  have HA := hide1 hA
  have HI := hide1 hi
  have H64 := hide1 h64
  clear hA hi h64
  go_enter Try.func35, Try.ntmps35
  go_wp2_with fail
  have h3 := three_new w (.cells #[.slice a0 n0 c0, .slice a1 n1 c1] 27) (.cells #[.slice none 0 0, .slice none 0 0] 27) (.cells #[] 9)
  have hB : Below w.heap.size w (((w.alloc (.cells #[.slice a0 n0 c0, .slice a1 n1 c1] 27)).alloc (.cells #[.slice none 0 0, .slice none 0 0] 27)).alloc (.cells #[] 9)) := ((below1 _).alloc (by simp) _).alloc (by simp; omega) _
  have H3 := hide1 h3
  have HB := hide1 hB
  clear h3 hB
  generalize ((w.alloc _).alloc _).alloc _ = W at H3 HB ⊢
  obtain ⟨b0, hb0⟩ : ∃ b0, w.heap.size = b0 := ⟨_, rfl⟩
  obtain ⟨b1, hb1⟩ : ∃ b1, w.heap.size + 1 = b1 := ⟨_, rfl⟩
  obtain ⟨b2, hb2⟩ : ∃ b2, w.heap.size + 2 = b2 := ⟨_, rfl⟩
  have hb3 : b1 + 1 = b2 := by omega
  have HS : Hid (w.heap.size = b0 ∧ b0 + 1 = b1 ∧ b1 + 1 = b2) := ⟨hb0, by omega, by omega⟩
  rw [hb1, hb2, hb0] at H3
  rw [hb1, hb3, hb0]
  clear hb0 hb1 hb2 hb3
  refine (kT _).out.mono ?_
  rintro e W2 ⟨rfl, hb2⟩
  have R0 := hide1 ((hb2.block b0 (lt_heap H3.out.1)).trans H3.out.1)
  have R1 := hide1 ((hb2.block b1 (lt_heap H3.out.2.1)).trans H3.out.2.1)
  have R2 := hide1 ((hb2.block b2 (lt_heap H3.out.2.2)).trans H3.out.2.2)
  have B2 : Hid (Below w.heap.size w W2) := HB.out.trans (hb2.mono HB.out.size)
  have O2 : Hid (Lst b2 W2 (.slice (some ⟨b2, 0, none⟩) 0 0) []) := ⟨rfl, .inr ⟨b2, 0, #[], rfl, Nat.le_refl _, R2.out, Nat.le_refl _, by unfold maxLen; omega, rfl, rfl⟩⟩
  have D2 : Hid (Rdl W2 (.slice a0 n0 c0) A) := (HA.out.below B2.out (Nat.le_refl _)).rd
  clear hb2 H3 HB kT
  go_wp2_with (at_builtin; go_must (refine wpList_append_lst rfl _ _ rfl rfl rfl O2.out D2.out (by have := H64.out; simp; omega) (by have := lt_heap R2.out; omega) ?_); intro v' W3 ho hg hf; rw [List.nil_append] at ho; obtain ⟨g, c', rfl, hcc, hff, hgl, hgb, hnc⟩ := ho.cell HI.out; obtain ⟨n, hn⟩ : ∃ n, A.length = n := ⟨_, rfl⟩; have HN := hide1 hn; have HO := hide1 ho; have HG := hide1 hg; have HI' := hide1 HI.out; rw [hn] at HO HI' ⊢; have hin : i < n := HI'.out; have hin' : (i : Int) < (n : Int) := Int.ofNat_lt.2 hin; have PS := put_step (s := s) HS.out R0.out R1.out R2.out hg HO.out hgb i; obtain ⟨c00, c01, _, _, _⟩ := box2 PS.1; have PP := hide1 PS; clear ho hg hf hn PS)
  generalize W3.setCell ⟨g, i, none⟩ (.string s) = W4 at PP ⊢
  have kW := hide1 (with_any0 a0 a1 (some ⟨g, 0, none⟩) n0 c0 n1 c1 n c' W4)
  refine kW.out.mono ?_
  rintro e W5 ⟨rfl, hb5⟩
  have R5 := (hb5.block b1 (lt_heap PP.out.2.1)).trans PP.out.2.1
  have L5 := PP.out.2.2.1.below hb5 (Nat.le_refl _)
  have B5 : Below w.heap.size w W5 := (B2.out.trans (PP.out.2.2.2.mono (by have := HS.out; omega))).trans (hb5.mono (by have := B2.out.size; have := PP.out.2.2.2.size; omega))
  have HR5 := hide1 R5
  have HL5 := hide1 L5
  have HB5 := hide1 B5
  obtain ⟨d0, d1, z0, z1, _⟩ := box2 R5
  clear R5 L5 B5 hb5 hcc hff hgl hgb hnc kW PP
  go_wp2
  refine ret_n1 Try.results35 b1 _ _ rfl (set_box2 HR5.out) rfl ⟨_, rfl, (HL5.out.set2 (by have := HS.out; omega)).mono (by have := HS.out; omega), below_set2 HB5.out (by have := HS.out; omega)⟩

set_option maxHeartbeats 2000000 in
theorem put_any1 (a0 a1 : Option Addr) (n0 c0 n1 c1 : Nat) (A : List ByteArray) (i : Nat) (s : ByteArray) (w : World) (hA : Lst 0 w (.slice a1 n1 c1) A) (hi : i < A.length) (h64 : A.length ≤ 64) :
    Calls Try.prog 35 #[.agg #[.slice a0 n0 c0, .slice a1 n1 c1], .int .i64 1, .int .i64 (i : Int), .string s] w fun e w' => ∃ v', e = .returned (.agg #[.slice a0 n0 c0, v']) ∧ Lst w.heap.size w' v' (A.set i s) ∧ Below w.heap.size w w' := by
  have kT := fun w => hide1 (to_any1 a0 a1 n0 c0 n1 c1 w)
  have HA := hide1 hA
  have HI := hide1 hi
  have H64 := hide1 h64
  clear hA hi h64
  go_enter Try.func35, Try.ntmps35
  go_wp2_with fail
  have h3 := three_new w (.cells #[.slice a0 n0 c0, .slice a1 n1 c1] 27) (.cells #[.slice none 0 0, .slice none 0 0] 27) (.cells #[] 9)
  have hB : Below w.heap.size w (((w.alloc (.cells #[.slice a0 n0 c0, .slice a1 n1 c1] 27)).alloc (.cells #[.slice none 0 0, .slice none 0 0] 27)).alloc (.cells #[] 9)) := ((below1 _).alloc (by simp) _).alloc (by simp; omega) _
  have H3 := hide1 h3
  have HB := hide1 hB
  clear h3 hB
  generalize ((w.alloc _).alloc _).alloc _ = W at H3 HB ⊢
  obtain ⟨b0, hb0⟩ : ∃ b0, w.heap.size = b0 := ⟨_, rfl⟩
  obtain ⟨b1, hb1⟩ : ∃ b1, w.heap.size + 1 = b1 := ⟨_, rfl⟩
  obtain ⟨b2, hb2⟩ : ∃ b2, w.heap.size + 2 = b2 := ⟨_, rfl⟩
  have hb3 : b1 + 1 = b2 := by omega
  have HS : Hid (w.heap.size = b0 ∧ b0 + 1 = b1 ∧ b1 + 1 = b2) := ⟨hb0, by omega, by omega⟩
  rw [hb1, hb2, hb0] at H3
  rw [hb1, hb3, hb0]
  clear hb0 hb1 hb2 hb3
  refine (kT _).out.mono ?_
  rintro e W2 ⟨rfl, hb2⟩
  have R0 := hide1 ((hb2.block b0 (lt_heap H3.out.1)).trans H3.out.1)
  have R1 := hide1 ((hb2.block b1 (lt_heap H3.out.2.1)).trans H3.out.2.1)
  have R2 := hide1 ((hb2.block b2 (lt_heap H3.out.2.2)).trans H3.out.2.2)
  have B2 : Hid (Below w.heap.size w W2) := HB.out.trans (hb2.mono HB.out.size)
  have O2 : Hid (Lst b2 W2 (.slice (some ⟨b2, 0, none⟩) 0 0) []) := ⟨rfl, .inr ⟨b2, 0, #[], rfl, Nat.le_refl _, R2.out, Nat.le_refl _, by unfold maxLen; omega, rfl, rfl⟩⟩
  have D2 : Hid (Rdl W2 (.slice a1 n1 c1) A) := (HA.out.below B2.out (Nat.le_refl _)).rd
  clear hb2 H3 HB kT
  go_wp2_with (at_builtin; go_must (refine wpList_append_lst rfl _ _ rfl rfl rfl O2.out D2.out (by have := H64.out; simp; omega) (by have := lt_heap R2.out; omega) ?_); intro v' W3 ho hg hf; rw [List.nil_append] at ho; obtain ⟨g, c', rfl, hcc, hff, hgl, hgb, hnc⟩ := ho.cell HI.out; obtain ⟨n, hn⟩ : ∃ n, A.length = n := ⟨_, rfl⟩; have HN := hide1 hn; have HO := hide1 ho; have HG := hide1 hg; have HI' := hide1 HI.out; rw [hn] at HO HI' ⊢; have hin : i < n := HI'.out; have hin' : (i : Int) < (n : Int) := Int.ofNat_lt.2 hin; have PS := put_step (s := s) HS.out R0.out R1.out R2.out hg HO.out hgb i; obtain ⟨c00, c01, _, _, _⟩ := box2 PS.1; have PP := hide1 PS; clear ho hg hf hn PS)
  generalize W3.setCell ⟨g, i, none⟩ (.string s) = W4 at PP ⊢
  have kW := hide1 (with_any1 a0 a1 (some ⟨g, 0, none⟩) n0 c0 n1 c1 n c' W4)
  refine kW.out.mono ?_
  rintro e W5 ⟨rfl, hb5⟩
  have R5 := (hb5.block b1 (lt_heap PP.out.2.1)).trans PP.out.2.1
  have L5 := PP.out.2.2.1.below hb5 (Nat.le_refl _)
  have B5 : Below w.heap.size w W5 := (B2.out.trans (PP.out.2.2.2.mono (by have := HS.out; omega))).trans (hb5.mono (by have := B2.out.size; have := PP.out.2.2.2.size; omega))
  have HR5 := hide1 R5
  have HL5 := hide1 L5
  have HB5 := hide1 B5
  obtain ⟨d0, d1, z0, z1, _⟩ := box2 R5
  clear R5 L5 B5 hb5 hcc hff hgl hgb hnc kW PP
  go_wp2
  refine ret_n1 Try.results35 b1 _ _ rfl (set_box2 HR5.out) rfl ⟨_, rfl, (HL5.out.set2 (by have := HS.out; omega)).mono (by have := HS.out; omega), below_set2 HB5.out (by have := HS.out; omega)⟩

end Go.Proofs.Ytfnedohampmnoaa
