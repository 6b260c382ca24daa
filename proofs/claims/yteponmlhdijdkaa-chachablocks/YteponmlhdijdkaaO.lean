/- The walk of ChachaBlocks. -/
import Derived.Test.YteponmlhdijdkaaN
namespace Go.Proofs.Yteponmlhdijdkaa
open Go.RowKit
set_option maxRecDepth 100000
attribute [local go_sem] not_any

set_option maxHeartbeats 1000000 in
theorem blocks_all (W : World) (kl : List Nat) (s : ByteArray) (c : Nat) (hk : kl.length = 32) (bk : Lt 256 kl) (hc : c < 4294967296) :
    Calls Try.prog 4 #[arr8 kl, .string s, .int .u32 (c : Int)] W fun e w' => e = .returned (.bool true) ∧ Below W.heap.size W w' := by
  have key : ∃ (t : ByteArray) (e : Int), (∀ w, Calls Try.prog 12 #[arr8 kl, .string s, .int .u32 (c : Int)] w fun en w' => en = .returned (.tuple #[.string t, .int .i64 e]) ∧ Below w.heap.size w w') ∧ (∀ w, Calls Try.prog 13 #[arr8 kl, .string s, .int .u32 (c : Int)] w fun en w' => en = .returned (.tuple #[.string t, .int .i64 e]) ∧ Below w.heap.size w w') := by
    by_cases hs : s.size = 12
    · exact ⟨_, _, fun w => bblock_any kl s c w hk bk hs hc, fun w => rblock_any kl s c w hk bk hs hc⟩
    · exact ⟨_, _, fun w => bblock_no kl s c w hs, fun w => rblock_no kl s c w hs⟩
  obtain ⟨t, e, k1, k2⟩ := key
  have K1 := fun w => hide1 (k1 w)
  have K2 := fun w => hide1 (k2 w)
  have Hz : Hid ((u8s kl).toArray.size = 32) := by show _ = _; simp [u8s, hk]
  clear k1 k2 hk bk hc
  unfold arr8 at K1 K2 ⊢
  go_enter Try.func4, Try.ntmps4
  go_upto_region 1 with (fail)
  generalize hX : World.alloc W _ = X
  have x0 : X.heap[W.heap.size]? = some (row8 31 kl) := by rw [← hX]; exact heap_alloc_new _ _
  have xb : Below W.heap.size W X := by rw [← hX]; exact (Below.refl _ _).alloc (Nat.le_refl _) _
  have X0 := hide1 x0
  have XB := hide1 xb
  clear hX x0 xb
  go_wp2_with (first | (refine wpList_load_row rfl 31 (.tmp 3) rfl W.heap.size rfl 31 (u8s kl).toArray (0, 0) _ X0.out Try.underlying31 rfl (by rw [Hz.out]; kernel_rfl) ?_) | fail)
  go_at_call 12
  refine (K1 _).out.mono ?_
  rintro en w1 ⟨rfl, hb1⟩
  have Y0 := hide1 ((hb1.block _ (lt_heap X0.out)).trans X0.out)
  have YB := hide1 (XB.out.trans (hb1.mono XB.out.size))
  clear hb1 K1 X0 XB
  go_wp2_with (first | (refine wpList_load_row rfl 31 (.tmp 3) rfl W.heap.size rfl 31 (u8s kl).toArray (0, 0) _ Y0.out Try.underlying31 rfl (by rw [Hz.out]; kernel_rfl) ?_) | fail)
  go_at_call 13
  refine (K2 _).out.mono ?_
  rintro en w2 ⟨rfl, hb2⟩
  have ZB := hide1 (YB.out.trans (hb2.mono YB.out.size))
  clear hb2 K2 Y0 YB
  go_wp2_with (go_at_call 11; refine (awake_any _).mono ?_; rintro e w' ⟨rfl, rfl⟩)
  go_ret
  exact ⟨rfl, ZB.out⟩
end Go.Proofs.Yteponmlhdijdkaa
