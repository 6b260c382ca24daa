/- The walk of BitsMakes where there may be so many bits. -/
import Derived.Test.YtnpanmdajcbbfaaMa
namespace Go.Proofs.Ytnpanmdajcbbfaa
open Go.RowKit
set_option maxRecDepth 100000
attribute [local go_sem] not_any mf_any field_words

theorem falses_bl (W : World) (k : Nat) : Bl (W.alloc (brow (List.replicate k false))) k (some ⟨W.heap.size, 0, none⟩) (List.replicate k false) := by
  have := bl_of_row (w := W.alloc (brow (List.replicate k false))) (g := W.heap.size) (l := List.replicate k false) (heap_alloc_new _ _)
  simpa using this
theorem Bl.drew {w : World} {n : Nat} {a : Option Addr} {l : List Bool} (h : Bl w n a l) : Bl w.drew n a l := ⟨h.len, h.at'⟩

set_option maxHeartbeats 4000000 in
theorem makes_shape (w : World) (n m k c c' : Nat) (a b : Option Addr) (l : List Bool) (hl : Bl w n a l) (hn : n ≤ 1000) (hm : m ≤ 20) (hk : k ≤ 4194304) (hmk : m ≠ need k 64) :
    Calls Try.prog 3 #[.slice a n c, .int .i64 k, .slice b m c'] w fun e w' => e = .returned (.bool true) ∧ Below w.heap.size w w' := by
  have hA := fun w => hide1 (awake_any w)
  have hOf := fun w h => hide1 (of_any w n c a l h (by omega))
  have hSh := fun b w (av : Option Addr) h1 h2 => hide1 (shows_any b w n c a av l h1 h2 (by omega))
  have hWo := fun w => hide1 (words_shape k w m c' b hk hmk)
  have hNe := fun w => hide1 (new_any k w hk)
  have hSz := fun b w (av a : Option Addr) h1 h2 => hide1 (shows_any b w k k a av (List.replicate k false) h1 h2 hk)
  have hLe := fun w => hide1 (len_bl 0 (.slice none 0 0) w rfl)
  have hmk' := make_bools k hk
  have HL := hide1 hl
  have h1 : ¬ (1000 : Int) < (n : Int) := by omega
  have h2 : ¬ (20 : Int) < (m : Int) := by omega
  have h4 : ¬ (k : Int) < 0 := by omega
  have h5 : ¬ (4194304 : Int) < (k : Int) := by omega
  have h6 : ((m : Int) != (k : Int) / 64 + ((k : Int) % 64 + 63) / 64) = true := by
    rw [need64] at hmk
    simp
    omega
  clear hl
  go_enter Try.func3, Try.ntmps3
  go_wp2_with fail
  refine (hOf _ HL.out).out.mono ?_
  rintro e w1 ⟨ax, rfl, hv, hb⟩
  have B1 := hb.alloc (by have := hb.size; omega) (.cells #[.int .i64 n, .slice ax (need n 64) (need n 64)] 26)
  have V1 := hide1 (hv.alloc (.cells #[.int .i64 n, .slice ax (need n 64) (need n 64)] 26))
  clear hv hb
  go_wp2_with fail
  refine (hSh _ _ _ V1.out (HL.out.below B1 (Nat.le_refl _))).out.mono ?_
  rintro e w2 ⟨rfl, hb⟩
  have B2 := B1.trans (hb.mono B1.size)
  clear hb B1 V1
  go_wp2_with fail
  refine (hWo _).out.mono ?_
  rintro e w3 ⟨rfl, hb⟩
  have B3 := B2.trans (hb.mono B2.size)
  have X3 := hide1 (heap_alloc_new w3 (.cells #[.int .i64 0, .slice none 0 0] 26))
  clear hb B2
  by_cases h7 : k ≤ 2000
  · have h8 : (k : Int) ≤ 2000 := by omega
    go_wp2_with fail
    refine (hNe _).out.mono ?_
    rintro e w4 ⟨az, rfl, hv, hb⟩
    have B4 := (B3.alloc B3.size (.cells #[.int .i64 0, .slice none 0 0] 26)).trans (hb.mono (by have := B3.size; simp; omega))
    have X4 := hide1 ((hb.block _ (by simp)).trans X3.out)
    have V4 := hide1 (hv.alloc (.cells #[.int .i64 k, .slice az (need k 64) (need k 64)] 26))
    obtain ⟨W, hW⟩ : ∃ W, w4.alloc (.cells #[.int .i64 k, .slice az (need k 64) (need k 64)] 26) = W := ⟨_, rfl⟩
    rw [hW] at V4
    have B5 : Hid (Below w.heap.size w W) := by rw [← hW]; exact B4.alloc B4.size _
    have X5 : Hid (W.heap[w3.heap.size]? = some (.cells #[.int .i64 0, .slice none 0 0] 26 (0, 0))) := by rw [← hW]; exact (Below.heap_alloc _ _ _ (lt_heap X4.out)).trans X4.out
    have Z5 : Hid (W.heap[w4.heap.size]? = some (.cells #[.int .i64 k, .slice az (need k 64) (need k 64)] 26 (0, 0))) := by rw [← hW]; exact heap_alloc_new _ _
    have HWW := hide1 hW
    obtain ⟨z0, z1, _, _, z4⟩ := box2 Z5.out
    clear hb B3 hv hW B4 X4
    go_wp2_with fail
    rw [HWW.out]
    go_region_with (first | (go_at_call 11; refine (hSz _ _ _ _ ((V4.out.alloc _).drew) ((falses_bl W k).drew)).out.mono ?_; rintro e w6 ⟨rfl, hb6⟩))
    all_goals
      have B6' : Below W.heap.size W w6 := ((below_alloc1 W (brow (List.replicate k false))).drew).trans (hb6.mono (by simp [World.drew]))
      have B6 := B5.out.trans (B6'.mono B5.out.size)
      have X6 := (B6'.block _ (lt_heap X5.out)).trans X5.out
      obtain ⟨d0, d1, _, _, d4⟩ := box2 X6
      clear hb6 B6' X6 z0 z1 hmk'
      go_wp2_with fail
      refine (hLe _).out.mono ?_
      rintro e w7 ⟨rfl, hb⟩
      have B7 := B6.trans (hb.mono B6.size)
      clear hb B6
      go_wp2_with fail
      refine (hA _).out.mono ?_
      rintro e w8 ⟨rfl, hb⟩
      go_wp2
      go_ret
      exact ⟨rfl, B7.trans (hb.mono B7.size)⟩
  · have h8 : ¬ (k : Int) ≤ 2000 := by omega
    go_wp2_with fail
    refine (hLe _).out.mono ?_
    rintro e w7 ⟨rfl, hb⟩
    have B7 := (B3.alloc B3.size (.cells #[.int .i64 0, .slice none 0 0] 26)).trans (hb.mono (by have := B3.size; simp; omega))
    clear hb B3
    go_wp2_with fail
    refine (hA _).out.mono ?_
    rintro e w8 ⟨rfl, hb⟩
    go_wp2
    go_ret
    exact ⟨rfl, B7.trans (hb.mono B7.size)⟩

end Go.Proofs.Ytnpanmdajcbbfaa
