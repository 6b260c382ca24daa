/- The walk of BitsMakes. -/
import Derived.Test.YtnpanmdajcbbfaaY
namespace Go.Proofs.Ytnpanmdajcbbfaa
open Go.RowKit
set_option maxRecDepth 100000
attribute [local go_sem] not_any mf_any field_words

theorem makes_else (w : World) (n m c c' : Nat) (a b : Option Addr) (i : Int) (h : 1000 < n ∨ (n ≤ 1000 ∧ 20 < m)) :
    Calls Try.prog 3 #[.slice a n c, .int .i64 i, .slice b m c'] w fun e w' => e = .returned (.bool true) ∧ Below w.heap.size w w' := by
  have hA := fun w => hide1 (awake_any w)
  rcases h with h | ⟨h, h'⟩
  · have h1 : (1000 : Int) < (n : Int) := by omega
    go_enter Try.func3, Try.ntmps3
    go_wp2_with fail
    refine (hA _).out.mono ?_
    rintro e w1 ⟨rfl, hb⟩
    go_wp2
    go_ret
    exact ⟨rfl, hb⟩
  · have h1 : ¬ (1000 : Int) < (n : Int) := by omega
    have h2 : (20 : Int) < (m : Int) := by omega
    go_enter Try.func3, Try.ntmps3
    go_wp2_with fail
    refine (hA _).out.mono ?_
    rintro e w1 ⟨rfl, hb⟩
    go_wp2
    go_ret
    exact ⟨rfl, hb⟩

set_option maxHeartbeats 4000000 in
theorem makes_no (w : World) (n m c c' : Nat) (a b : Option Addr) (l : List Bool) (i : Int) (hl : Bl w n a l) (hn : n ≤ 1000) (hm : m ≤ 20) (hi : i < 0 ∨ 4194304 < i) :
    Calls Try.prog 3 #[.slice a n c, .int .i64 i, .slice b m c'] w fun e w' => e = .returned (.bool true) ∧ Below w.heap.size w w' := by
  have hA := fun w => hide1 (awake_any w)
  have hOf := fun w h => hide1 (of_any w n c a l h (by omega))
  have hSh := fun b w (av : Option Addr) h1 h2 => hide1 (shows_any b w n c a av l h1 h2 (by omega))
  have hWo := fun w => hide1 (words_no i w m c' b hi)
  have hNe := fun w => hide1 (new_no i w hi)
  have hLe := fun w => hide1 (len_bl 0 (.slice none 0 0) w rfl)
  have HL := hide1 hl
  have h1 : ¬ (1000 : Int) < (n : Int) := by omega
  have h2 : ¬ (20 : Int) < (m : Int) := by omega
  clear hl
  go_enter Try.func3, Try.ntmps3
  go_wp2_with fail
  refine (hOf _ HL.out).out.mono ?_
  rintro e w1 ⟨ax, rfl, hv, hb⟩
  have B1 := hb.alloc (by have := hb.size; omega) (.cells #[.int .i64 n, .slice ax (need n 64) (need n 64)] 26)
  have V1 := hide1 (hv.alloc (.cells #[.int .i64 n, .slice ax (need n 64) (need n 64)] 26))
  clear hv hb
  go_wp2_with fail
  refine (hSh _ _ _ V1.out (HL.out.below B1 (Nat.le_refl _))).out.mono ?_
  rintro e w2 ⟨rfl, hb⟩
  have B2 := B1.trans (hb.mono B1.size)
  clear hb B1 V1
  go_wp2_with fail
  refine (hWo _).out.mono ?_
  rintro e w3 ⟨rfl, hb⟩
  have B3 := B2.trans (hb.mono B2.size)
  have X3 := hide1 (heap_alloc_new w3 (.cells #[.int .i64 0, .slice none 0 0] 26))
  clear hb B2
  by_cases h4 : i < 0
  all_goals
    go_wp2_with fail
    refine (hNe _).out.mono ?_
    rintro e w4 ⟨rfl, hb⟩
    have B4 := (B3.alloc B3.size (.cells #[.int .i64 0, .slice none 0 0] 26)).trans (hb.mono (by have := B3.size; simp; omega))
    have X4 := hide1 ((hb.block _ (by simp)).trans X3.out)
    obtain ⟨c0, c1, _, _, c4⟩ := box2 X4.out
    have Y4 := hide1 (heap_alloc_new w4 (.cells #[.int .i64 0, .slice none 0 0] 26))
    clear hb B3
    go_wp2_with fail
    refine (hLe _).out.mono ?_
    rintro e w5 ⟨rfl, hb⟩
    have B5 := (B4.alloc B4.size (.cells #[.int .i64 0, .slice none 0 0] 26)).trans (hb.mono (by have := B4.size; simp; omega))
    have Y5 := hide1 ((hb.block _ (by simp)).trans Y4.out)
    obtain ⟨d0, d1, _, _, d4⟩ := box2 Y5.out
    clear hb B4
    go_wp2_with fail
    refine (hLe _).out.mono ?_
    rintro e w6 ⟨rfl, hb⟩
    have B6 := B5.trans (hb.mono B5.size)
    clear hb B5
    go_wp2_with fail
    refine (hA _).out.mono ?_
    rintro e w7 ⟨rfl, hb⟩
    go_wp2
    go_ret
    exact ⟨rfl, B6.trans (hb.mono B6.size)⟩

end Go.Proofs.Ytnpanmdajcbbfaa
