/- The walk of BitsMakes where the words are as many as the bits need. -/
import Derived.Test.YtnpanmdajcbbfaaMb
namespace Go.Proofs.Ytnpanmdajcbbfaa
open Go.RowKit
set_option maxRecDepth 100000
attribute [local go_sem] not_any mf_any field_words

theorem Nl.drew {w : World} {m : Nat} {a : Option Addr} {ws : List Nat} (h : Nl w m a ws) : Nl w.drew m a ws := ⟨h.len, h.at'⟩

set_option maxHeartbeats 4000000 in
theorem makes_any (w : World) (n k c c' : Nat) (a b : Option Addr) (l : List Bool) (ws : List Nat) (hl : Bl w n a l) (hn : n ≤ 1000) (hm : need k 64 ≤ 20) (hws : Nl w (need k 64) b ws) (hlt : ∀ (j x : Nat), ws[j]? = some x → x < 18446744073709551616) :
    Calls Try.prog 3 #[.slice a n c, .int .i64 k, .slice b (need k 64) c'] w fun e w' => e = .returned (.bool true) ∧ Below w.heap.size w w' := by
  have hk : k ≤ 1280 := by rw [need64] at hm; omega
  have hA := fun w => hide1 (awake_any w)
  have hOf := fun w h => hide1 (of_any w n c a l h (by omega))
  have hSh := fun b w (av : Option Addr) h1 h2 => hide1 (shows_any b w n c a av l h1 h2 (by omega))
  have hWo := fun w h => hide1 (words_any k w c' b ws (by omega) h hlt)
  have hRo := fun w h => hide1 (rof_any k w c' b ws (by omega) h hlt)
  have hSx := fun b w (av a : Option Addr) c h1 h2 => hide1 (shows_any b w k c a av (bitsOf k ws) h1 h2 (by omega))
  have hNe := fun w => hide1 (new_any k w (by omega))
  have hSz := fun b w (av a : Option Addr) h1 h2 => hide1 (shows_any b w k k a av (List.replicate k false) h1 h2 (by omega))
  have hmk' := make_bools k (by omega)
  have HL := hide1 hl
  have h1 : ¬ (1000 : Int) < (n : Int) := by omega
  have h2 : ¬ (20 : Int) < (need k 64 : Int) := by omega
  have h4 : ¬ (k : Int) < 0 := by omega
  have h5 : ¬ (4194304 : Int) < (k : Int) := by omega
  have h6 : ((need k 64 : Int) != (k : Int) / 64 + ((k : Int) % 64 + 63) / 64) = false := by
    rw [need64]
    simp
    omega
  have HN := hide1 hws
  clear hl hws hlt
  go_enter Try.func3, Try.ntmps3
  go_wp2_with fail
  refine (hOf _ HL.out).out.mono ?_
  rintro e w1 ⟨ax, rfl, hv, hb⟩
  have B1 := hb.alloc (by have := hb.size; omega) (.cells #[.int .i64 n, .slice ax (need n 64) (need n 64)] 26)
  have V1 := hide1 (hv.alloc (.cells #[.int .i64 n, .slice ax (need n 64) (need n 64)] 26))
  clear hv hb
  go_wp2_with fail
  refine (hSh _ _ _ V1.out (HL.out.below B1 (Nat.le_refl _))).out.mono ?_
  rintro e w2 ⟨rfl, hb⟩
  have B2 := B1.trans (hb.mono B1.size)
  clear hb B1 V1
  go_wp2_with fail
  refine (hWo _ (HN.out.below B2 (Nat.le_refl _))).out.mono ?_
  rintro e w3 ⟨ay, rfl, hv, hb⟩
  have B3 := B2.trans (hb.mono B2.size)
  have X3 := hide1 (heap_alloc_new w3 (.cells #[.int .i64 k, .slice ay (need k 64) (need k 64)] 26))
  have Y3 := hide1 (hv.alloc (.cells #[.int .i64 k, .slice ay (need k 64) (need k 64)] 26))
  clear hb B2 hv
  have h8 : (k : Int) ≤ 2000 := by omega
  go_wp2_with fail
  refine (hNe _).out.mono ?_
  rintro e w4 ⟨az, rfl, hv, hb⟩
  have B4 := (B3.alloc B3.size (.cells #[.int .i64 k, .slice ay (need k 64) (need k 64)] 26)).trans (hb.mono (by have := B3.size; simp; omega))
  have X4 := hide1 ((hb.block _ (by simp)).trans X3.out)
  have Y4 := hide1 (Y3.out.below hb (Nat.le_refl _))
  have V4 := hide1 (hv.alloc (.cells #[.int .i64 k, .slice az (need k 64) (need k 64)] 26))
  obtain ⟨W, hW⟩ : ∃ W, w4.alloc (.cells #[.int .i64 k, .slice az (need k 64) (need k 64)] 26) = W := ⟨_, rfl⟩
  rw [hW] at V4
  have B5 : Hid (Below w.heap.size w W) := by rw [← hW]; exact B4.alloc B4.size _
  have X5 : Hid (W.heap[w3.heap.size]? = some (.cells #[.int .i64 k, .slice ay (need k 64) (need k 64)] 26 (0, 0))) := by rw [← hW]; exact (Below.heap_alloc _ _ _ (lt_heap X4.out)).trans X4.out
  have Y5 : Hid (Vc 0 W k ay (bitsOf k ws)) := by rw [← hW]; exact (Y4.out.alloc _).mono (Nat.zero_le _)
  have Z5 : Hid (W.heap[w4.heap.size]? = some (.cells #[.int .i64 k, .slice az (need k 64) (need k 64)] 26 (0, 0))) := by rw [← hW]; exact heap_alloc_new _ _
  have HWW := hide1 hW
  obtain ⟨z0, z1, _, _, z4⟩ := box2 Z5.out
  clear hb B3 hv hW B4 X4 Y4 X3 Y3
  go_wp2_with fail
  rw [HWW.out]
  go_region_with (first | (go_at_call 11; refine (hSz _ _ _ _ ((V4.out.alloc _).drew) ((falses_bl W k).drew)).out.mono ?_; rintro e w6 ⟨rfl, hb6⟩))
  all_goals
    have B6' : Below W.heap.size W w6 := ((below_alloc1 W (brow (List.replicate k false))).drew).trans (hb6.mono (by simp [World.drew]))
    have B6 := B5.out.trans (B6'.mono B5.out.size)
    have X6 := (B6'.block _ (lt_heap X5.out)).trans X5.out
    have Y6 := hide1 (Y5.out.below B6' (Nat.le_refl _))
    have N6 := hide1 (HN.out.below B6 (Nat.le_refl _))
    obtain ⟨d0, d1, _, _, d4⟩ := box2 X6
    have HX6 := hide1 X6
    have HB6 := hide1 B6
    clear hb6 B6' X6 z0 z1 hmk' B6
    go_wp2_with fail
    go_region_with (first | (go_at_call 15; refine (hRo _ N6.out.drew).out.mono ?_; rintro e w7 ⟨a7, c7, rfl, hl7, hb7⟩; have B7 : Below w6.heap.size w6 w7 := (Below.refl w6.heap.size w6).drew.trans hb7; have e7 := box2 ((B7.block _ (lt_heap HX6.out)).trans HX6.out); have e70 := e7.1; have e71 := e7.2.1; have Y7 := hide1 (Y6.out.below B7 (Nat.le_refl _)); have L7 := hide1 hl7; have HB7 := hide1 (HB6.out.trans (B7.mono HB6.out.size)); clear hl7 hb7 e7 B7) | (go_at_call 11; refine (hSx _ _ _ _ _ Y7.out L7.out).out.mono ?_; rintro e w8 ⟨rfl, hb8⟩; have HB8 := hide1 (HB7.out.trans (hb8.mono HB7.out.size)); clear hb8) | (go_at_call 9; refine (hA _).out.mono ?_; rintro e w9 ⟨rfl, hb9⟩))
    all_goals
      go_wp2
      go_ret
      exact ⟨rfl, HB8.out.trans (hb9.mono HB8.out.size)⟩

end Go.Proofs.Ytnpanmdajcbbfaa
