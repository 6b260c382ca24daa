/- Are fields small? The law WireWrites, walked. -/
import Derived.Test.YtmmhfipdolbinaaWj
namespace Go.Proofs.Ytmmhfipdolbinaa
open Go.RowKit
set_option maxRecDepth 100000
attribute [local go_sem] not_any mf_any

/- all that the items hold is no longer than any text may be -/
def Held (i : It) : Prop := i.s.size ≤ 281474976710656 ∧ i.ln ≤ 281474976710656 ∧ i.bn ≤ 281474976710656

set_option maxHeartbeats 2000000 in
theorem small_any (w : World) (n c : Nat) (a : Option Addr) (l : List It) (hl : Its w n a l) (hh : ∀ i ∈ l, Held i) (hn : n ≤ 281474976710656) :
    Calls Try.prog 5 #[.slice a n c] w fun e w' => ∃ b, e = .returned (.bool b) ∧ (b = true → n ≤ 40 ∧ ∀ i ∈ l, Fit i) ∧ ∃ q, w' = w.drewN q := by
  have HI := hide1 hl
  have HH := hide1 hh
  have mx := mixed
  clear hl hh
  go_enter Try.func5, Try.ntmps5
  go_wp2
  go_loopw [3, 4] (fun sv i wr => ∃ k z q : Nat, k ≤ n ∧ i = .int .i64 k ∧ sv = .int .i64 z ∧ k ≤ 41 ∧ z ≤ 1000000000000000 ∧ (z ≤ 2000 → ∀ j x, j < k → l[j]? = some x → Fit x) ∧ wr = w.drewN q) (fun _ i _ => n - (intOf i).toNat)
  case atStart => exact ⟨0, 0, 0, Nat.zero_le _, rfl, rfl, by omega, by omega, fun _ j x hj => by omega, rfl⟩
  case round =>
    obtain ⟨k, z, q, hk, rfl, rfl, hk41, hz, hfit, rfl⟩ := hrel
    have HFt := hide1 hfit
    clear hfit
    by_cases hgo : k < n ∧ k ≤ 40 ∧ z ≤ 2000
    · obtain ⟨hlt, hk40, hz2⟩ := hgo
      obtain ⟨i, hi⟩ : ∃ i, l[k]? = some i := ⟨_, List.getElem?_eq_getElem (by rw [HI.out.len]; exact hlt)⟩
      obtain ⟨⟨g, o, rfl, hat⟩, _, _, _⟩ := HI.out.at' k i hi
      obtain ⟨h1, h2, h3⟩ := HH.out i (List.mem_of_getElem? hi)
      have c0 : (w.drewN q).cell? ⟨g, o + k * 6, none⟩ = some (.int .i64 i.kind) := hat.c0
      have c2 : (w.drewN q).cell? ⟨g, o + k * 6 + 2, none⟩ = some (.string i.s) := hat.c2
      have c3 : (w.drewN q).cell? ⟨g, o + k * 6 + 3, none⟩ = some (.int .i64 i.width) := hat.c3
      have c4 : (w.drewN q).cell? ⟨g, o + k * 6 + 4, none⟩ = some (.slice i.la i.ln i.lc) := hat.c4
      have c5 : (w.drewN q).cell? ⟨g, o + k * 6 + 5, none⟩ = some (.slice i.ba i.bn i.bc) := hat.c5
      obtain ⟨W, hW⟩ : ∃ W, w.drewN q = W := ⟨_, rfl⟩
      rw [hW] at c0 c2 c3 c4 c5
      have HW := hide1 hW
      have HI0 := hide1 hi
      have hz' : (z : Int) ≤ 2000 := by omega
      have hk' : (k : Int) ≤ 40 := by omega
      rw [hW]
      clear hW hi hat
      obtain ⟨kind, x, s, width, la, ln, lc, ws, ba, bn, bc, bs⟩ := i
      dsimp only at *
      have HFN : Hid ((kind = 5 → 1 ≤ width ∧ width ≤ 64) → z + s.size + ln + bn ≤ 2000 → ∀ j x, j < k + 1 → l[j]? = some x → Fit x) := fun hw hz3 j x hj hx => by
        by_cases hjk : j < k
        · exact HFt.out (by omega) j x hjk hx
        · obtain rfl : j = k := by omega
          rw [HI0.out] at hx
          obtain rfl := Option.some.inj hx
          exact ⟨by dsimp only; omega, by dsimp only; omega, by dsimp only; omega, hw⟩
      clear HFt HI0
      by_cases h5 : kind = 5
      · subst h5
        by_cases hw1 : width < 1
        · go_wp2
          go_quiet (fail)
          go_wp2
          go_ret
          exact ⟨_, rfl, fun h => (by cases h), q + nq, by rw [← HW.out]; exact World.drewN_drewN _ _ _⟩
        by_cases hw2 : 64 < width
        · have hw1' : decide (width < 1) = false := by simpa using hw1
          go_wp2
          go_quiet (fail)
          go_wp2
          go_ret
          exact ⟨_, rfl, fun h => (by cases h), q + nq, by rw [← HW.out]; exact World.drewN_drewN _ _ _⟩
        have hw1' : decide (width < 1) = false := by simpa using hw1
        have hw2' : decide (64 < width) = false := by simpa using hw2
        go_wp2
        go_quiet (fail)
        go_wp2
        go_roundw
        case rel => exact ⟨k + 1, z + s.size + ln + bn, q + nq, by omega, by go_num, by go_num, by omega, by omega, HFN.out (fun _ => ⟨by omega, by omega⟩), by rw [← HW.out]; exact World.drewN_drewN _ _ _⟩
        case measure => simp [intOf]; omega
      · have e5 : (kind == 5) = false := by rw [beq_eq_false_iff_ne]; exact h5
        have HN5 := hide1 h5
        clear h5
        go_wp2
        go_quiet (fail)
        go_wp2
        go_roundw
        case rel => exact ⟨k + 1, z + s.size + ln + bn, q + nq, by omega, by go_num, by go_num, by omega, by omega, HFN.out (fun h => absurd h HN5.out), by rw [← HW.out]; exact World.drewN_drewN _ _ _⟩
        case measure => simp [intOf]; omega
    · have HEnd : Hid (∀ b, b = (decide (n ≤ 40) && decide (z ≤ 2000)) → (b = true → n ≤ 40 ∧ ∀ i ∈ l, Fit i)) := fun b hb ht => by
        rw [hb, Bool.and_eq_true, decide_eq_true_iff, decide_eq_true_iff] at ht
        obtain ⟨h1, h2⟩ := ht
        refine ⟨h1, fun i hi => ?_⟩
        obtain ⟨j, hj⟩ := List.mem_iff_getElem?.1 hi
        have hjl := (List.getElem?_eq_some_iff.1 hj).1
        rw [HI.out.len] at hjl
        exact HFt.out h2 j i (by omega) hj
      by_cases hn40 : n ≤ 40
      · have hn40' : (n : Int) ≤ 40 := by omega
        by_cases hkn : k < n
        · have hz3 : 2000 < z := by omega
          have hz3' : decide ((z : Int) ≤ 2000) = false := by rw [decide_eq_false_iff_not]; omega
          have hk4 : (k : Int) ≤ 40 := by omega
          clear hgo
          go_wp2
          go_ret
          exact ⟨_, rfl, HEnd.out _ (by simp; omega), q, rfl⟩
        · have hkn' : decide ((k : Int) < (n : Int)) = false := by rw [decide_eq_false_iff_not]; omega
          by_cases hz3 : z ≤ 2000
          · have hz3' : (z : Int) ≤ 2000 := by omega
            clear hgo
            go_wp2
            go_ret
            exact ⟨_, rfl, HEnd.out _ (by simp; omega), q, rfl⟩
          · have hz3' : decide ((z : Int) ≤ 2000) = false := by rw [decide_eq_false_iff_not]; omega
            clear hgo
            go_wp2
            go_ret
            exact ⟨_, rfl, HEnd.out _ (by simp; omega), q, rfl⟩
      · have hn40' : decide ((n : Int) ≤ 40) = false := by rw [decide_eq_false_iff_not]; omega
        by_cases hkn : k < n
        · have hkn' : (k : Int) < (n : Int) := by omega
          by_cases hk40 : k ≤ 40
          · have hz3' : decide ((z : Int) ≤ 2000) = false := by rw [decide_eq_false_iff_not]; omega
            have hk4 : (k : Int) ≤ 40 := by omega
            clear hgo
            go_wp2
            go_ret
            exact ⟨_, rfl, HEnd.out _ (by simp; omega), q, rfl⟩
          · have hk4 : decide ((k : Int) ≤ 40) = false := by rw [decide_eq_false_iff_not]; omega
            clear hgo
            go_wp2
            go_ret
            exact ⟨_, rfl, HEnd.out _ (by simp; omega), q, rfl⟩
        · have hkn' : decide ((k : Int) < (n : Int)) = false := by rw [decide_eq_false_iff_not]; omega
          clear hgo
          go_wp2
          go_ret
          exact ⟨_, rfl, HEnd.out _ (by simp; omega), q, rfl⟩
end Go.Proofs.Ytmmhfipdolbinaa
