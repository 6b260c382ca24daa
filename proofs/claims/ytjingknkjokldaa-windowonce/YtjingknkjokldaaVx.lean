/- The chapter's example; nobody sends, and nobody takes. -/
import Derived.Test.YtjingknkjokldaaVk
import Derived.Test.YtjingknkjokldaaVt
namespace Go.Proofs.Ytjingknkjokldaa
open Go.RowKit
set_option maxRecDepth 100000
attribute [local go_sem] not_any

theorem y_c1 : chkC 0 (lk []) 2 = 0 := by decide +kernel
theorem y_o1 : tkO 0 [] 2 ⟨#[98]⟩ = [] := by decide +kernel
theorem y_r1 : tkR 0 [] 2 ⟨#[98]⟩ = [(2, ⟨#[98]⟩)] := by decide +kernel
theorem y_a1 : tkA 0 [] 2 ⟨#[98]⟩ = 0 := by decide +kernel
theorem y_c2 : chkC 0 (lk [(2, ⟨#[98]⟩)]) 1 = 0 := by decide +kernel
theorem y_o2 : tkO 0 [(2, ⟨#[98]⟩)] 1 ⟨#[97]⟩ = [⟨#[97]⟩, ⟨#[98]⟩] := by decide +kernel
theorem y_r2 : tkR 0 [(2, ⟨#[98]⟩)] 1 ⟨#[97]⟩ = [] := by decide +kernel
theorem y_a2 : tkA 0 [(2, ⟨#[98]⟩)] 1 ⟨#[97]⟩ = 2 := by decide +kernel
theorem y_c3 : chkC 2 (lk []) 1 = 21 := by decide +kernel

theorem Rdl.two (w : World) (a b : ByteArray) : Rdl (w.alloc (.cells #[.string a, .string b] 9)) (.slice (some ⟨w.heap.size, 0, none⟩) 2 2) [a, b] :=
  ⟨_, 2, rfl, fun j hj => ⟨w.heap.size, 0, rfl, by
    rw [cell_of_row _ w.heap.size _ _ _ _ (heap_alloc_new w _)]
    rcases (show j = 0 ∨ j = 1 by simp at hj; omega) with rfl | rfl <;> rfl⟩⟩
theorem Inm.zero (w : World) : Inm w.heap.size (.map none) 0 0 (lk []) (w.alloc (.cells #[.int .u32 0, .map none] 51)) :=
  ⟨heap_alloc_new _ _, .inl ⟨rfl, fun _ => rfl⟩, fun h => by cases h⟩
theorem Lst.empty {B : Nat} {w : World} {v : Value} (h : Lst B w v []) : ∃ a c, v = .slice a 0 c := h.form
theorem inf_ge {s B : Nat} {m m' : Value} {w : World} (hs : B ≤ s) (hB : B ≤ w.heap.size) (hm : ∀ g, mblk m = some g → B ≤ g) (hf : ∀ g, mblk m' = some g → mblk m = some g ∨ w.heap.size ≤ g) : (∀ g, mblk m' = some g → B ≤ g) ∧ ∀ g, Inf s m g → B ≤ g := by
  refine ⟨fun g hg => ?_, fun g hg => ?_⟩
  · rcases hf g hg with h | h
    · exact hm g h
    · omega
  · rcases hg with rfl | h
    · exact hs
    · exact hm g h

set_option maxHeartbeats 1000000 in
theorem awake_any (w : World) : Calls Try.prog 7 #[] w fun e w' => e = .returned (.bool true) ∧ Below w.heap.size w w' := by
  have k1 := hide1 (take_any (Inm.zero w) (Hd.none 0) (by omega) 2 (by omega) ⟨#[98]⟩ (by decide) (by omega))
  rw [y_c1, y_o1, y_r1, y_a1] at k1
  go_enter Try.func7, Try.ntmps7
  go_wp2_with fail
  refine k1.out.mono ?_
  rintro e w1 ⟨v1, m1, rfl, hL1, hI1, hK1, hF1⟩
  have B1 : Hid (Below w.heap.size w w1 ∧ ∀ g, mblk m1 = some g → w.heap.size ≤ g) := by
    have h0 := below1 (w := w) (.cells #[.int .u32 0, .map none] 51)
    obtain ⟨h1, h2⟩ := inf_ge (s := w.heap.size) (Nat.le_refl _) h0.size (fun g hg => by cases hg) hF1
    exact ⟨h0.trans (hK1.below h0.size h2), h1⟩
  have k2 := hide1 (take_any hI1 (by have := (Hd.none 0).take (q := 2) (b := ⟨#[98]⟩); rw [y_r1, y_a1] at this; exact this) (by omega) 1 (by omega) ⟨#[97]⟩ (by decide) (by omega))
  rw [y_c2, y_o2, y_r2, y_a2] at k2
  obtain ⟨a1, c1, rfl⟩ := hL1.empty
  obtain ⟨t, ht⟩ : ∃ t, w.heap.size = t := ⟨_, rfl⟩
  rw [ht] at k2 B1
  rw [ht]
  have HT := hide1 ht
  clear k1 hL1 hI1 hK1 hF1 ht
  go_wp2_with fail
  refine k2.out.mono ?_
  rintro e w2 ⟨v2, m2, rfl, hL2, hI2, hK2, hF2⟩
  have hT2 : t ≤ w1.heap.size := by have := B1.out.1.size; have := HT.out; omega
  have B2 : Hid (Below t w w2 ∧ ∀ g, mblk m2 = some g → t ≤ g) := by
    obtain ⟨h1, h2⟩ := inf_ge (s := t) (Nat.le_refl _) hT2 B1.out.2 hF2
    exact ⟨B1.out.1.trans (hK2.below hT2 h2), h1⟩
  have k3 := hide1 (take_fail hI2 (by omega) 1 (by omega) ⟨#[97]⟩ (by rw [y_c3]; omega))
  rw [y_c3] at k3
  have L2 := hide1 (hL2.mono hT2)
  obtain ⟨a2, c2, rfl⟩ := hL2.form
  clear k2 hL2 hI2 hK2 hF2 hT2 B1
  go_wp2_with fail
  refine k3.out.mono ?_
  rintro e w3 ⟨rfl, hb3⟩
  have L3 := hide1 (L2.out.below hb3 (Nat.le_refl _))
  have B3 : Hid (Below t w w3) := B2.out.1.trans (hb3.mono (by have := B2.out.1.size; have := HT.out; omega))
  clear k3 hb3 L2 B2
  go_wp2_with fail
  have hb4 : Below w3.heap.size w3 (w3.alloc (.cells #[.string ⟨#[97]⟩, .string ⟨#[98]⟩] 9)) := below1 _
  have k4 := texts_any (L3.out.below hb4 (Nat.le_refl _)).rd (Rdl.two w3 ⟨#[97]⟩ ⟨#[98]⟩) (by simp)
  refine k4.mono ?_
  rintro e w5 ⟨rfl, hb5⟩
  have B5 : Hid (Below t w w5) := B3.out.trans ((hb4.trans (hb5.mono hb4.size)).mono (by have := B3.out.size; have := HT.out; omega))
  clear k4 hb4 hb5
  go_wp2
  go_ret
  have h5 := B5.out
  rw [← HT.out] at h5
  exact ⟨rfl, h5⟩

theorem put_nil (s : ByteArray) (w : World) : Calls Try.prog 9 #[.pointer none, .string s] w fun e w' => e = .returned (.tuple #[.int .u32 0, .int .i64 3]) ∧ w' = w := by
  go_enter Try.func9, Try.ntmps9
  go_wp2
  exact ret_t2 Try.results9 rfl rfl rfl ⟨rfl, rfl⟩
theorem ack_nil (q : Nat) (w : World) : Calls Try.prog 11 #[.pointer none, .int .u32 (q : Int)] w fun e w' => e = .returned (.int .i64 3) ∧ w' = w := by
  go_enter Try.func11, Try.ntmps11
  go_wp2
  go_ret
  exact ⟨rfl, rfl⟩
theorem next_nil (w : World) : Calls Try.prog 17 #[.pointer none] w fun e w' => e = .returned (.int .u32 0) ∧ w' = w := by
  go_enter Try.func17, Try.ntmps17
  go_wp2
  go_ret
  exact ⟨rfl, rfl⟩
theorem room_nil (w : World) : Calls Try.prog 19 #[.pointer none] w fun e w' => e = .returned (.int .i64 0) ∧ w' = w := by
  go_enter Try.func19, Try.ntmps19
  go_wp2
  go_ret
  exact ⟨rfl, rfl⟩
theorem pending_nil (w : World) : Calls Try.prog 15 #[.pointer none] w fun e w' => e = .returned (.slice none 0 0) ∧ w' = w := by
  go_enter Try.func15, Try.ntmps15
  go_wp2
  go_ret
  exact ⟨rfl, rfl⟩
theorem held_nil (w : World) : Calls Try.prog 24 #[.pointer none] w fun e w' => e = .returned (.slice none 0 0) ∧ w' = w := by
  go_enter Try.func24, Try.ntmps24
  go_wp2
  go_ret
  exact ⟨rfl, rfl⟩

set_option maxHeartbeats 4000000 in
theorem nobody_all (w : World) (q : Nat) (s : ByteArray) : Calls Try.prog 6 #[.int .u32 (q : Int), .string s] w fun e w' => e = .returned (.bool true) ∧ Below w.heap.size w w' := by
  have kP := hide1 (put_nil s w)
  have kT := hide1 (take_nil q s w)
  have kA := hide1 (ack_nil q w)
  have kN := hide1 (next_nil w)
  have kR := hide1 (room_nil w)
  have kE := hide1 (pending_nil w)
  have kW := hide1 (awaited_nil w)
  have kH := hide1 (held_nil w)
  have kK := hide1 (awake_any w)
  go_enter Try.func6, Try.ntmps6
  go_wp2_with (first | (go_at_call 9; refine kP.out.mono ?_; rintro e w1 ⟨rfl, hw1⟩; obtain rfl := hw1.symm) | (go_at_call 20; refine kT.out.mono ?_; rintro e w1 ⟨rfl, hw1⟩; obtain rfl := hw1.symm) | (go_at_call 11; refine kA.out.mono ?_; rintro e w1 ⟨rfl, hw1⟩; obtain rfl := hw1.symm) | (go_at_call 17; refine kN.out.mono ?_; rintro e w1 ⟨rfl, hw1⟩; obtain rfl := hw1.symm) | (go_at_call 19; refine kR.out.mono ?_; rintro e w1 ⟨rfl, hw1⟩; obtain rfl := hw1.symm) | (go_at_call 15; refine kE.out.mono ?_; rintro e w1 ⟨rfl, hw1⟩; obtain rfl := hw1.symm) | (go_at_call 23; refine kW.out.mono ?_; rintro e w1 ⟨rfl, hw1⟩; obtain rfl := hw1.symm) | (go_at_call 24; refine kH.out.mono ?_; rintro e w1 ⟨rfl, hw1⟩; obtain rfl := hw1.symm) | (go_at_call 7; refine kK.out.mono ?_; rintro e w2 ⟨rfl, hb2⟩))
  go_ret
  exact ⟨rfl, hb2⟩

end Go.Proofs.Ytjingknkjokldaa
