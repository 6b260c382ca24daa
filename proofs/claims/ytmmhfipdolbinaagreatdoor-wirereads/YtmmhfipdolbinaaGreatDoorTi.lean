/- The document's reader: Words, as its callers see it. -/
import Derived.Test.YtmmhfipdolbinaaGreatDoorTh
namespace Go.Proofs.YtmmhfipdolbinaaGreatDoor
open Go.RowKit

theorem dwords_over (s : ByteArray) (k : Nat) (c width most : Int) (w : World) (hc : c ≠ 0) :
    Calls Tryz.prog 16 #[dv s k c, .int .i64 width, .int .i64 most] w (DW s k c [] w) := by
  by_cases h : width < 1 ∨ 64 < width
  · have := dwords_bad s k c width most w h
    rwa [fst_not hc] at this
  · obtain ⟨wd, rfl⟩ : ∃ wd : Nat, width = wd := ⟨width.toNat, by omega⟩
    exact dwords_many s k k wd c c most w (by omega) (by omega) hc (fun w => many_over s k c most 65536 w hc)
theorem dwords_any (s : ByteArray) (k : Nat) (width most : Int) (w : World) (hk : k ≤ s.size) (hs : s.size ≤ 281474976710656) :
    Calls Tryz.prog 16 #[dv s k 0, .int .i64 width, .int .i64 most] w (DW s (nk k (wdS width most (restOf s k)) (wdC width most (restOf s k))) (wdC width most (restOf s k)) (wdV width most (restOf s k)) w) := by
  have hl := restOf_length s k
  by_cases hw : width < 1 ∨ 64 < width
  · have := dwords_bad s k 0 width most w hw
    have e : wdC width most (restOf s k) = 11 := if_pos hw
    rw [wdV, e, if_neg (by decide), nk_no _ _ (by decide)]
    exact this
  obtain ⟨wd, rfl⟩ : ∃ wd : Nat, width = wd := ⟨width.toNat, by omega⟩
  have h1 := fun w => many_any s k most 65536 w hk hs
  have hMle := mostN_le most 65536
  obtain ⟨M, hM⟩ : ∃ M, M = mostN most 65536 := ⟨_, rfl⟩
  obtain ⟨sz, hsz⟩ : ∃ sz, sz = (wd + 7) / 8 := ⟨_, rfl⟩
  have hb : bytesW (wd : Int) = sz := by rw [bytesW, Int.toNat_natCast, hsz]
  rw [← hM] at h1 hMle
  rw [wdV, wdS, wdC, ← hM, if_neg hw, if_neg hw, hb]
  by_cases h4 : (restOf s k).length < 4
  · have e1 : mnC M (restOf s k) = 12 := by rw [mnC, if_pos h4]
    have e2 : lstC M (8 * sz) (restOf s k) = 12 := by rw [lstC, if_pos h4]
    rw [mnN, e1, dN_no _ _ _ (by decide), if_neg (by decide)] at h1
    simp only [e2]
    exact dwords_many s k k wd 0 12 most w (by omega) (by omega) (by decide) h1
  · by_cases h5 : M < (cntN (restOf s k) : Int)
    · have e1 : mnC M (restOf s k) = 2 := by rw [mnC, if_neg h4, if_pos h5]
      have e2 : lstC M (8 * sz) (restOf s k) = 2 := by rw [lstC, if_neg h4, if_pos h5]
      rw [mnN, e1, dN_no _ _ _ (by decide), if_neg (by decide)] at h1
      simp only [e2]
      exact dwords_many s k k wd 0 2 most w (by omega) (by omega) (by decide) h1
    · have e1 : mnC M (restOf s k) = 0 := by rw [mnC, if_neg h4, if_neg h5]
      rw [mnN, e1, dN_ok, if_pos rfl] at h1
      obtain ⟨n, hn⟩ : ∃ n, n = cntN (restOf s k) := ⟨_, rfl⟩
      rw [← hn] at h1
      have hnl : n ≤ 65536 := by omega
      obtain ⟨T, hT⟩ : ∃ T, T = n * sz := ⟨_, rfl⟩
      have e8 : (cntN (restOf s k) * (8 * sz) + 7) / 8 = T := by
        rw [← hn, show n * (8 * sz) = 8 * (n * sz) by rw [Nat.mul_left_comm], ← hT]; omega
      by_cases h6 : (restOf s k).length < 4 + T
      · have e2 : lstC M (8 * sz) (restOf s k) = 12 := by rw [lstC, if_neg h4, if_neg h5, e8, if_pos h6]
        simp only [e2]
        exact dwords_short s k wd sz n most w (by omega) (by omega) hsz (by omega) hs hnl (by rw [← hT]; omega) h1
      · have e2 : lstC M (8 * sz) (restOf s k) = 0 := by rw [lstC, if_neg h4, if_neg h5, e8, if_neg h6]
        have e3 : wordsP sz n (lstH (8 * sz) (restOf s k)) = wks (wordK sz (lstH (8 * sz) (restOf s k))) n := rfl
        have hH : Lt 256 (lstH (8 * sz) (restOf s k)) := ((restOf_lt s k).drop 4).take _
        have hs8 : sz ≤ 8 := by omega
        refine dwords_loop s k wd sz n most w (fun j => k + 4 + j * sz) (wordK sz (lstH (8 * sz) (restOf s k))) (by omega) (by omega) hsz (by simp; omega) hs hnl (by simp; rw [← hT]; omega) (fun j => wordK_lt hH hs8) (by simpa using h1) ?_ _ ?_ ?_
        · intro j hj w
          have hjs : (j + 1) * sz ≤ T := by rw [hT]; exact Nat.mul_le_mul_right sz hj
          rw [Nat.succ_mul] at hjs
          have hpos : k + 4 + j * sz + sz ≤ s.size := by omega
          have hr : restOf s (k + 4 + j * sz) = ((restOf s k).drop 4).drop (j * sz) := by
            rw [restOf, restOf, List.drop_drop, List.drop_drop, Nat.add_assoc]
          have hlen := restOf_length s (k + 4 + j * sz)
          have h2 := dnumber_any s (k + 4 + j * sz) sz w (by omega) hs hs8
          have e4 : numC sz (restOf s (k + 4 + j * sz)) = 0 := by rw [numC, if_pos (by omega)]
          have e5 : numX sz (restOf s (k + 4 + j * sz)) = wordK sz (lstH (8 * sz) (restOf s k)) j := by
            rw [numX, if_pos (by omega), wordK, lstH, e8, hr, List.drop_take, List.take_take, Nat.min_eq_left (by omega)]
          rw [e4, dN_ok, e5] at h2
          have e6 : k + 4 + (j + 1) * sz = k + 4 + j * sz + sz := by rw [Nat.succ_mul]; omega
          show Calls _ _ _ _ (fun en w' => en = .returned (.tuple #[dv s (k + 4 + (j + 1) * sz) 0, _]) ∧ _)
          rw [e6]
          exact h2
        · intro hf e w' hd
          have e7 : fitsB wd (wordsP sz n (lstH (8 * sz) (restOf s k))) = true := by
            rw [fitsB_iff]
            intro x hx
            obtain ⟨j, hj, rfl⟩ := List.mem_map.1 hx
            exact hf j (List.mem_range.1 hj)
          simp only [e2, wdL, hb, ← hn, Int.toNat_natCast, e7, ne_eq, not_true_eq_false, if_false, if_true, nk_ok, ← Nat.add_assoc]
          exact hd
        · rintro ⟨j, hj, hx⟩ e w' hd
          have e7 : fitsB wd (wordsP sz n (lstH (8 * sz) (restOf s k))) = false := by
            rw [Bool.eq_false_iff, Ne, fitsB_iff]
            exact fun h => hx (h _ (List.mem_of_getElem? (wordsP_get hj)))
          simp only [e2, wdL, hb, ← hn, Int.toNat_natCast, e7, ne_eq, not_true_eq_false, if_false]
          exact hd
end Go.Proofs.YtmmhfipdolbinaaGreatDoor
