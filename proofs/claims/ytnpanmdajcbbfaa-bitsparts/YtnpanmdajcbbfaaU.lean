/- shows: bits told in every way are the truths. -/
import Derived.Test.YtnpanmdajcbbfaaT
import Derived.Test.YtnpanmdajcbbfaaO
namespace Go.Proofs.Ytnpanmdajcbbfaa
open Go.RowKit
set_option maxRecDepth 100000
attribute [local go_sem] not_any mf_any field_words

set_option maxHeartbeats 2000000 in
theorem shows_any (b : Nat) (w : World) (n c : Nat) (a av : Option Addr) (l : List Bool) (hv : Vc b w n av l) (hl : Bl w n a l) (hn : n ≤ 4194304) :
    Calls Try.prog 11 #[.agg #[.int .i64 n, .slice av (need n 64) (need n 64)], .slice a n c] w fun e w' => e = .returned (.bool true) ∧ Below w.heap.size w w' := by
  have hLe := fun w => hide1 (len_any n (.slice av (need n 64) (need n 64)) w rfl)
  have hBo := fun w h => hide1 (bools_any b w n av l h hn)
  have hRa := fun w h => hide1 (raw_any b w n av l h hn)
  have hBy := fun w h => hide1 (bytes_any b w n av l h hn)
  have hSa := fun w (a b : Option Addr) (c c' : Nat) h1 h2 => hide1 (same_any w n n c c' a b l l h1 h2 hn hn)
  have hWo := fun w h => hide1 (rwords_any w n c a l h hn)
  have hRb := fun w h => hide1 (rbytes_any w n c a l h hn)
  have hNu := fun w (a b : Option Addr) (c c' : Nat) h1 h2 => hide1 (nums_any w (need n 64) c c' a b (chunks 64 l) h1 h2 (by rw [need64]; omega))
  have S1 : Hid (Sx w b w.heap.size n (need n 64) av l (w.alloc (.cells #[.int .i64 n, .slice av (need n 64) (need n 64)] 26))) := ⟨hv.alloc _, heap_alloc_new _ _, below_alloc1 _ _⟩
  have HL := hide1 hl
  have h3 : ((n : Int) == (n : Int)) = true := by simp
  clear hv hl
  go_enter Try.func11, Try.ntmps11
  go_wp2_with fail
  refine (hLe _).out.mono ?_
  rintro e w1 ⟨rfl, rfl⟩
  have S2 := hide1 (S1.out.next (below_alloc1 _ (.cells #[.int .i64 n, .slice av (need n 64) (need n 64)] 26)))
  clear S1
  go_wp2_with fail
  refine (hBo _ S2.out.vc).out.mono ?_
  rintro e w2 ⟨a2, rfl, hb2, hB⟩
  have S3 := hide1 (S2.out.next hB)
  clear S2 hB
  go_wp2_with fail
  refine (hSa _ _ _ _ _ hb2 (HL.out.below S3.out.bl (Nat.le_refl _))).out.mono ?_
  rintro e w3 ⟨rfl, hq⟩
  have S4 : Hid (Sx w b w.heap.size n (need n 64) av l w3) := S3.out.next (by obtain ⟨q, rfl⟩ := hq; exact below_drewN (Below.refl _ _) q)
  obtain ⟨c0, c1, _, _, _⟩ := box2 S4.out.bx
  clear S3 hq hb2
  go_wp2_with fail
  refine (hRa _ S4.out.vc).out.mono ?_
  rintro e w4 ⟨a4, rfl, hr4, hB⟩
  have S5 := hide1 (S4.out.next hB)
  have R4 := hide1 hr4.nl
  clear S4 hB hr4 c0 c1
  go_wp2_with fail
  refine (hWo _ (HL.out.below S5.out.bl (Nat.le_refl _))).out.mono ?_
  rintro e w5 ⟨a5, c5, rfl, hn5, hB⟩
  have S6 := hide1 (S5.out.next hB)
  have R5 := hide1 (R4.out.below hB (Nat.le_refl _))
  clear S5 hB R4
  go_wp2_with fail
  refine (hNu _ _ _ _ _ R5.out hn5).out.mono ?_
  rintro e w6 ⟨rfl, hq⟩
  have S7 : Hid (Sx w b w.heap.size n (need n 64) av l w6) := S6.out.next (by obtain ⟨q, rfl⟩ := hq; exact below_drewN (Below.refl _ _) q)
  obtain ⟨c0, c1, _, _, _⟩ := box2 S7.out.bx
  clear S6 hq R5 hn5
  go_wp2_with fail
  refine (hBy _ S7.out.vc).out.mono ?_
  rintro e w7 ⟨rfl, hB⟩
  have S8 := hide1 (S7.out.next hB)
  clear S7 hB c0 c1
  go_wp2_with fail
  refine (hRb _ (HL.out.below S8.out.bl (Nat.le_refl _))).out.mono ?_
  rintro e w8 ⟨rfl, hB⟩
  have S9 := hide1 (S8.out.next hB)
  clear S8 hB
  go_wp2
  go_ret
  exact ⟨by simp, S9.out.bl⟩

end Go.Proofs.Ytnpanmdajcbbfaa
