/- Limits kept by each call; the chapter's example. -/
import Derived.Test.YtfnedohampmnoaaYw
namespace Go.Proofs.Ytfnedohampmnoaa
open Go.RowKit
set_option maxRecDepth 100000
attribute [local go_sem] not_any

theorem Sm.upd {N : Nat → List ByteArray} (h : Sm N) (k : Nat) {A : List ByteArray} (hl : A.length ≤ 64) (hs : ∀ s ∈ A, s.size ≤ 131072) : Sm (upd N k A) := by
  refine ⟨fun j => ?_, fun j s => ?_⟩
  · by_cases hj : j = k
    · rw [hj, upd_same]; exact hl
    · rw [upd_other _ _ hj]; exact h.len j
  · by_cases hj : j = k
    · rw [hj, upd_same]; exact hs s
    · rw [upd_other _ _ hj]; exact h.each j s
theorem Sm.none : Sm (fun _ => []) := ⟨fun _ => by simp, fun _ s hs => by simp at hs⟩
theorem Sm.snd {N : Nat → List ByteArray} (h : Sm N) (q : Int) (s : ByteArray) : Sm (sndN N q s) := by
  unfold sndN
  split
  · rename_i hc
    obtain ⟨k, rfl, hk, hs, hN⟩ := snd_ok hc
    rw [Int.toNat_natCast]
    refine h.upd k (by simp; omega) (fun s' hs' => ?_)
    rcases List.mem_append.1 hs' with h1 | h1
    · exact h.each k s' h1
    · simp at h1; rw [h1]; exact hs
  · exact h
theorem Sm.tak {N : Nat → List ByteArray} (h : Sm N) (q i : Int) : Sm (takN N q i) := by
  unfold takN
  split
  · refine h.upd _ ?_ (fun s' hs' => h.each _ s' (List.mem_of_mem_eraseIdx hs'))
    have := h.len q.toNat
    rw [List.length_eraseIdx]
    split <;> omega
  · exact h
theorem Sm.dbl {N : Nat → List ByteArray} (h : Sm N) (q i : Int) : Sm (dblN N q i) := by
  unfold dblN
  split
  · exact h.snd _ _
  · exact h
theorem mem_set {A : List ByteArray} {j : Nat} {a s : ByteArray} (h : s ∈ A.set j a) : s ∈ A ∨ s = a := List.mem_or_eq_of_mem_set h
theorem Sm.swp {N : Nat → List ByteArray} (h : Sm N) (q i j : Int) : Sm (swpN N q i j) := by
  unfold swpN
  split
  · rename_i hc
    have h0 : plc N q i = 0 := by
      by_cases h0 : plc N q i = 0
      · exact h0
      · rw [swpC, if_neg h0] at hc
        exact absurd hc h0
    have h1 : plc N q j = 0 := by
      rw [swpC, if_pos h0] at hc
      exact hc
    obtain ⟨k, i, rfl, rfl, hk, hi⟩ := plc_ok h0
    obtain ⟨k', j, e, rfl, _, hj⟩ := plc_ok h1
    obtain rfl : k' = k := by omega
    simp only [Int.toNat_natCast]
    refine h.upd _ (by simp; exact h.len _) (fun s' hs' => ?_)
    rcases mem_set hs' with h2 | rfl
    · rcases mem_set h2 with h3 | rfl
      · exact h.each _ _ h3
      · exact h.each _ _ (getD_mem hj)
    · exact h.each _ _ (getD_mem hi)
  · exact h
theorem Sm.frg {N : Nat → List ByteArray} (h : Sm N) (q i : Int) (s : ByteArray) : Sm (frgN N q i s) := by
  unfold frgN
  split
  · rename_i hc
    have hs : s.size ≤ 131072 := by
      unfold frgC at hc
      split at hc
      · split at hc
        · cases hc
        · omega
      · rename_i h0
        exact absurd hc h0
    refine h.upd _ (by simp; exact h.len _) (fun s' hs' => ?_)
    rcases mem_set hs' with h2 | rfl
    · exact h.each _ _ h2
    · exact hs
  · exact h
def clrN (N : Nat → List ByteArray) (q : Int) : Nat → List ByteArray := if pty q = 0 then upd N q.toNat [] else N
theorem Sm.clr {N : Nat → List ByteArray} (h : Sm N) (q : Int) : Sm (clrN N q) := by
  unfold clrN
  split
  · exact h.upd _ (by simp) (by simp)
  · exact h
theorem clr_any {B t : Nat} {x : Nat → Value} {N : Nat → List ByteArray} {w : World} (h : Nw B t x N w) (q : Int) :
    Calls Try.prog 20 #[.pointer (some ⟨t, 0, none⟩), .int .i64 q] w fun e w' => e = .returned (.int .i64 (pty q)) ∧ ∃ x', Nw B t x' (clrN N q) w' ∧ Mv t x x' w w' := by
  unfold clrN
  by_cases hb : q < 0 ∨ 1 < q
  · have e : pty q = 1 := by rw [pty, if_pos hb]
    rw [e, if_neg (by decide)]
    refine (clear_bad h q hb).mono ?_
    rintro e w' ⟨rfl, rfl⟩
    exact ⟨rfl, x, h, Mv.refl _ _ _⟩
  · have e : pty q = 0 := by rw [pty, if_neg hb]
    rw [e, if_pos rfl]
    obtain ⟨k, rfl⟩ : ∃ k : Nat, q = k := ⟨q.toNat, by omega⟩
    exact clear_any h k (by omega)

/- the example's networks -/
def X0 : Nat → List ByteArray := fun _ => []
def X1 : Nat → List ByteArray := sndN X0 1 ⟨#[97]⟩
def X2 : Nat → List ByteArray := sndN X1 1 ⟨#[98]⟩
def X3 : Nat → List ByteArray := sndN X2 1 ⟨#[99]⟩
def X4 : Nat → List ByteArray := takN X3 1 0
def X5 : Nat → List ByteArray := dblN X4 1 0
theorem x_plc : plc X3 1 0 = 0 := by decide +kernel
theorem x_dbl : dblC X4 1 0 = 0 := by decide +kernel
theorem x_one : X5 1 = [⟨#[98]⟩, ⟨#[99]⟩, ⟨#[98]⟩] := by decide +kernel
theorem x_none : X5 0 = [] := by decide +kernel

theorem Rdl.three (w : World) (a b c : ByteArray) : Rdl (w.alloc (.cells #[.string a, .string b, .string c] 9)) (.slice (some ⟨w.heap.size, 0, none⟩) 3 3) [a, b, c] :=
  ⟨_, 3, rfl, fun j hj => ⟨w.heap.size, 0, rfl, by
    rw [cell_of_row _ w.heap.size _ _ _ _ (heap_alloc_new w _)]
    rcases (show j = 0 ∨ j = 1 ∨ j = 2 by simp at hj; omega) with rfl | rfl | rfl <;> rfl⟩⟩

set_option maxHeartbeats 1000000 in
theorem awake_any (w : World) : Calls Try.prog 11 #[] w fun e w' => e = .returned (.bool true) ∧ Below w.heap.size w w' := by
  have kN := hide1 (new_any w)
  go_enter Try.func11, Try.ntmps11
  go_wp2_with fail
  refine kN.out.mono ?_
  rintro e w1 ⟨rfl, n1, b1⟩
  have k1 := hide1 (send_any n1 1 ⟨#[97]⟩)
  have B1 := hide1 b1
  have M1 := hide1 n1
  obtain ⟨t, ht⟩ : ∃ t, w.heap.size = t := ⟨_, rfl⟩
  rw [ht] at k1 M1 B1
  rw [ht]
  have HT := hide1 ht
  clear n1 b1 kN ht
  go_wp2_with fail
  refine k1.out.mono ?_
  rintro e w2 ⟨rfl, x2, n2, v2⟩
  have B2 : Hid (Below t w w2) := B1.out.trans (v2.below M1.out)
  have k2 := hide1 (send_any n2 1 ⟨#[98]⟩)
  have M2 := hide1 n2
  clear n2 v2 k1 B1 M1
  go_wp2_with fail
  refine k2.out.mono ?_
  rintro e w3 ⟨rfl, x3, n3, v3⟩
  have B3 : Hid (Below t w w3) := B2.out.trans (v3.below M2.out)
  have k3 := hide1 (send_any n3 1 ⟨#[99]⟩)
  have M3 := hide1 n3
  clear n3 v3 k2 B2 M2
  go_wp2_with fail
  refine k3.out.mono ?_
  rintro e w4 ⟨rfl, x4, n4, v4⟩
  have B4 : Hid (Below t w w4) := B3.out.trans (v4.below M3.out)
  have S4 : Sm X3 := ((Sm.none.snd _ _).snd _ _).snd _ _
  have n4' : Nw t t x4 X3 w4 := n4
  have k4 := hide1 (drop_any n4' 1 0 S4.len)
  rw [x_plc] at k4
  have M4 := hide1 n4'
  clear n4 n4' v4 k3 B3 M3
  go_wp2_with fail
  refine k4.out.mono ?_
  rintro e w5 ⟨rfl, x5, n5, v5⟩
  have B5 : Hid (Below t w w5) := B4.out.trans (v5.below M4.out)
  have S5 : Sm X4 := S4.tak _ _
  have n5' : Nw t t x5 X4 w5 := n5
  have k5 := hide1 (double_any n5' 1 0 S5.len)
  rw [x_dbl] at k5
  have M5 := hide1 n5'
  clear n5 n5' v5 k4 B4 M4 S4
  go_wp2_with fail
  refine k5.out.mono ?_
  rintro e w6 ⟨rfl, x6, n6, v6⟩
  have B6 : Hid (Below t w w6) := B5.out.trans (v6.below M5.out)
  have S6 : Sm X5 := S5.dbl _ _
  have n6' : Nw t t x6 X5 w6 := n6
  have k6 := hide1 (all_ok1 n6' S6)
  rw [x_one] at k6
  have M6 := hide1 n6'
  clear n6 n6' v6 k5 B5 M5 S5
  go_wp2_with fail
  refine k6.out.mono ?_
  rintro e w7 ⟨v, rfl, ho, hb⟩
  have HO := hide1 ho
  have M7 := hide1 (M6.out.below hb (Nat.le_refl _))
  have B7 : Hid (Below t w w7) := B6.out.trans (hb.mono (by have := B6.out.size; have := HT.out; omega))
  clear k6 M6 B6 ho hb
  go_wp2_with fail
  have hb8 : Below w7.heap.size w7 (w7.alloc (.cells #[.string ⟨#[98]⟩, .string ⟨#[99]⟩, .string ⟨#[98]⟩] 9)) := below1 _
  have k8 := texts_any (HO.out.below hb8 (Nat.le_refl _)).rd (Rdl.three w7 ⟨#[98]⟩ ⟨#[99]⟩ ⟨#[98]⟩) (by simp)
  refine k8.mono ?_
  rintro e w8 ⟨rfl, hb9⟩
  have hb10 : Below w7.heap.size w7 w8 := hb8.trans (hb9.mono hb8.size)
  have k9 := hide1 (len_any (M7.out.below hb10 (Nat.le_refl _)) 0 (by omega))
  rw [x_none] at k9
  have B8 : Hid (Below t w w8) := B7.out.trans (hb10.mono (by have := B7.out.size; have := HT.out; omega))
  clear k8 hb8 hb9 hb10
  change Hid (Calls _ _ #[_, .int .i64 0] _ fun e w' => e = .returned (.int .i64 0) ∧ _) at k9
  go_wp2_with fail
  refine k9.out.mono ?_
  rintro e w9 ⟨rfl, hw9⟩
  obtain rfl := hw9.symm
  go_wp2
  go_ret
  have h8 := B8.out
  rw [← HT.out] at h8
  exact ⟨rfl, h8⟩

end Go.Proofs.Ytfnedohampmnoaa
