/- The reader's bits, as its callers see them. -/
import Derived.Test.YtmmhfipdolbinaaSb
namespace Go.Proofs.Ytmmhfipdolbinaa
open Go.RowKit
set_option maxRecDepth 100000
attribute [local go_sem] not_any mf_any field_words

def btV (most : Int) (R : List Nat) : List Bool := if btC most R = 0 then btL R else []
def BtP (g k : Nat) (s f field : ByteArray) (most : Int) (w : World) (e : Ending) (w' : World) : Prop :=
  ∃ (n : Nat) (a : Option Addr), e = .returned (.agg #[.int .i64 (n : Int), .slice a (need n 64) (need n 64)]) ∧ n ≤ 524288 ∧ Vc w.heap.size w' n a (btV most (restOf s k)) ∧ w'.heap[g]? = some (rdN s k (btS most (restOf s k)) f field (btC most (restOf s k))) ∧ But g w w'
theorem btS_le {most : Int} {R : List Nat} : btS most R ≤ 1000000 := by
  unfold btS
  split
  · omega
  · rename_i h2
    have hl := (lstH_length (Classical.not_not.1 h2)).2.2
    have hm := mostN_le most 524288
    rw [need8]
    omega

set_option maxHeartbeats 1000000 in
theorem rBits_any0 (g k : Nat) (s f field : ByteArray) (most : Int) (w : World) (h : w.heap[g]? = some (rdr s k 0 f)) (hk : k ≤ s.size) (hs : s.size ≤ 281474976710656) :
    Calls Try.prog 18 #[.pointer (some ⟨g, 0, none⟩), .string field, .int .i64 most] w (BtP g k s f field most w) := by
  have lt := lt_heap h
  obtain ⟨W1, hW1⟩ : ∃ W1, (w.alloc (.cells #[.int .i64 most] 3)).alloc (.cells #[.int .i64 0, .slice none 0 0] 43) = W1 := ⟨_, rfl⟩
  have hB1 : Below w.heap.size w W1 := by rw [← hW1]; exact ((Below.refl _ _).alloc (Nat.le_refl _) _).alloc (by simp) _
  have hv0 : W1.heap[w.heap.size]? = some (.cells #[.int .i64 most] 3 (0, 0)) := by rw [← hW1]; exact heap_alloc2_old _ _ _
  have hv1 : W1.heap[w.heap.size + 1]? = some (.cells #[.int .i64 0, .slice none 0 0] 43 (0, 0)) := by rw [← hW1]; exact heap_alloc2_new _ _ _
  have hz : W1.heap.size = w.heap.size + 2 := by rw [← hW1]; simp
  have k1 := hide1 (read_vec g k (btS most (restOf s k)) s f field (btC most (restOf s k)) w.heap.size (btL (restOf s k)) W1 ((hB1.block g lt).trans h) hk hs (Nat.le_trans btS_le (by decide))
    (fun w' hb => (bits1_any most w.heap.size (s.extract k s.size) w' (boxed ((hb.block _ (lt_heap hv0)).trans hv0)) (size_rest hs)).mono (by
      intro e w2 hp
      rw [restOf_nums] at hp
      exact hp)))
  have HE : Hid (∀ e w', RdP g k (btS most (restOf s k)) s f field (btC most (restOf s k)) W1 (fun e w' => ∃ (n : Nat) (a : Option Addr), e = .returned (.agg #[.int .i64 (n : Int), .slice a (need n 64) (need n 64)]) ∧ n ≤ 524288 ∧ Vc W1.heap.size w' n a (btL (restOf s k))) (.agg #[.int .i64 0, .slice none 0 0]) e w' →
      ∃ (n : Nat) (a : Option Addr), e = .returned (.agg #[.int .i64 (n : Int), .slice a (need n 64) (need n 64)]) ∧ w'.heap[w.heap.size + 1]? = some (.cells #[.int .i64 0, .slice none 0 0] 43 (0, 0)) ∧
        BtP g k s f field most w (.returned (.agg #[.int .i64 (n : Int), .slice a (need n 64) (need n 64)])) ((w'.setCell ⟨w.heap.size + 1, 0, none⟩ (.int .i64 (n : Int))).setCell ⟨w.heap.size + 1, 1, none⟩ (.slice a (need n 64) (need n 64)))) := fun e w' hp => by
    have hrow := (hp.but.block (w.heap.size + 1) (by omega) (by omega)).trans hv1
    have hbt := fun v v' => ((But.of_below (b := g) hB1).trans hp.but).sets (B := w.heap.size + 1) (by omega) (o := 0) (o' := 1) (v := v) (v' := v')
    by_cases hc : btC most (restOf s k) = 0
    · obtain ⟨n, a, he, hn, hv⟩ := hp.good hc
      refine ⟨n, a, he, hrow, n, a, rfl, hn, ?_, (Below.heap_setCell _ _ _ _ (by simp; omega)).trans ((Below.heap_setCell _ _ _ _ (by simp; omega)).trans hp.row), hbt _ _⟩
      rw [btV, if_pos hc]
      exact ((hv.setCell (by simp; omega) _).setCell (by simp; omega) _).mono (by omega)
    · refine ⟨0, none, hp.bad hc, hrow, 0, none, rfl, by omega, ?_, (Below.heap_setCell _ _ _ _ (by simp; omega)).trans ((Below.heap_setCell _ _ _ _ (by simp; omega)).trans hp.row), hbt _ _⟩
      rw [btV, if_neg hc]
      exact nil_at _ _
  have HW1 := hide1 hW1
  clear h hB1 hv0 hv1 hz hW1
  generalize RdP g k (btS most (restOf s k)) s f field (btC most (restOf s k)) W1 (fun e w' => ∃ (n : Nat) (a : Option Addr), e = .returned (.agg #[.int .i64 (n : Int), .slice a (need n 64) (need n 64)]) ∧ n ≤ 524288 ∧ Vc W1.heap.size w' n a (btL (restOf s k))) (.agg #[.int .i64 0, .slice none 0 0]) = PR at *
  generalize BtP g k s f field most w = PP at *
  go_enter Try.func18, Try.ntmps18
  go_wp2_with fail
  rw [HW1.out]
  refine k1.out.mono ?_
  intro e w1 hp
  obtain ⟨n, a, rfl, hrow, hpp⟩ := HE.out e w1 hp
  obtain ⟨p0, p1, p2, p3, lp⟩ := box2 hrow
  have HROW := hide1 hrow
  have HPP := hide1 hpp
  clear hp k1 hpp HE hrow HW1
  go_wp2
  exact ret_vec Try.results18 (w.heap.size + 1) _ _ rfl (set_box2 HROW.out) rfl HPP.out

def BOver (g k : Nat) (s f : ByteArray) (c : Int) (w : World) (e : Ending) (w' : World) : Prop :=
  e = .returned (.agg #[.int .i64 0, .slice none 0 0]) ∧ w'.heap[g]? = some (rdr s k c f) ∧ But g w w'
theorem rBits_over (g k : Nat) (s f field : ByteArray) (most c : Int) (w : World) (h : w.heap[g]? = some (rdr s k c f)) (hc : c ≠ 0) :
    Calls Try.prog 18 #[.pointer (some ⟨g, 0, none⟩), .string field, .int .i64 most] w (BOver g k s f c w) := by
  have lt := lt_heap h
  obtain ⟨W1, hW1⟩ : ∃ W1, (w.alloc (.cells #[.int .i64 most] 3)).alloc (.cells #[.int .i64 0, .slice none 0 0] 43) = W1 := ⟨_, rfl⟩
  have hB1 : Below w.heap.size w W1 := by rw [← hW1]; exact ((Below.refl _ _).alloc (Nat.le_refl _) _).alloc (by simp) _
  have hv1 : W1.heap[w.heap.size + 1]? = some (.cells #[.int .i64 0, .slice none 0 0] 43 (0, 0)) := by rw [← hW1]; exact heap_alloc2_new _ _ _
  have hR := (hB1.block g lt).trans h
  have k1 := fun fv => hide1 (over_vec g k s f field c fv W1 hR hc)
  have HB1 := hide1 hB1
  have HV1 := hide1 hv1
  have HR := hide1 hR
  have HW1 := hide1 hW1
  have HLT := hide1 lt
  clear h hB1 hv1 hR hW1 lt
  go_enter Try.func18, Try.ntmps18
  go_wp2_with fail
  rw [HW1.out]
  refine (k1 _).out.mono ?_
  rintro e w1 ⟨rfl, hb⟩
  have hrow := (hb.block _ (lt_heap HV1.out)).trans HV1.out
  have hR1 := (hb.block _ (lt_heap HR.out)).trans HR.out
  obtain ⟨p0, p1, p2, p3, lp⟩ := box2 hrow
  have HROW := hide1 hrow
  have HR1 := hide1 hR1
  have HB2 := hide1 (HB1.out.trans (hb.mono HB1.out.size))
  clear k1 hrow hb hR1 HW1
  go_wp2
  exact ret_vec Try.results18 (w.heap.size + 1) _ _ rfl (set_box2 HROW.out) rfl ⟨rfl, (Below.heap_setCell _ _ _ _ (by have := HLT.out; simp; omega)).trans ((Below.heap_setCell _ _ _ _ (by have := HLT.out; simp; omega)).trans HR1.out), (But.of_below HB2.out).sets (by omega)⟩
end Go.Proofs.Ytmmhfipdolbinaa
