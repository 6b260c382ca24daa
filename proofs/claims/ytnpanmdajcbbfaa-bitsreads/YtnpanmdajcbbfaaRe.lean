/- The walk of BitsReads where there are bits. -/
import Derived.Test.YtnpanmdajcbbfaaRd
namespace Go.Proofs.Ytnpanmdajcbbfaa
open Go.RowKit
set_option maxRecDepth 100000
attribute [local go_sem] not_any mf_any field_words

set_option maxHeartbeats 8000000 in
theorem reads_any (w : World) (n : Nat) (s : ByteArray) (m c : Nat) (a : Option Addr) (l : List Bool) (hl : Bl w m a l) (hs : s.size ≤ 200) (hm : m ≤ 1000) (hn : n ≤ 4194304) (hsz : s.size = need n 8) (hcl : Clean n s) :
    Calls Try.prog 7 #[.int .i64 n, .string s, .slice a m c] w fun e w' => e = .returned (.bool true) ∧ Below w.heap.size w w' := by
  have hA := fun w => hide1 (awake_any w)
  have hOf := fun w h => hide1 (of_any w m c a l h (by omega))
  have hR1 := fun w => hide1 (read_any n w s hn hsz hcl)
  have hR2 : ∀ w, Hid (Calls Try.prog 29 #[.int .i64 n, .string s] w fun e w' => ∃ b c, e = .returned (.tuple #[.slice b n c, .int .i64 0]) ∧ Bl w' n b (rbits n s) ∧ Below w.heap.size w w') := fun w => by
    refine (rread_any n w s hn hsz).mono ?_
    rintro e w' ⟨v, f, rfl, (⟨_, rfl, b, c, rfl, hb⟩ | ⟨h, _⟩), hB⟩
    · exact ⟨b, c, rfl, hb, hB⟩
    · exact absurd hcl h
  have hSh := fun b w (a av : Option Addr) c h1 h2 => hide1 (shows_any b w n c a av (rbits n s) h1 h2 hn)
  have hB1 : ∀ b w (av : Option Addr), Vc b w n av (rbits n s) → Hid (Calls Try.prog 30 #[.agg #[.int .i64 n, .slice av (need n 64) (need n 64)]] w fun e w' => e = .returned (.string s) ∧ Below w.heap.size w w') := fun b w av h => by
    have h' := bytes_any b w n av (rbits n s) h hn
    rw [chunks_rbits hcl hsz, txt_nums] at h'
    exact h'
  have hBy := fun b w (av : Option Addr) h => hide1 (bytes_any b w m av l h (by omega))
  have hRa := fun b w (av : Option Addr) h => hide1 (raw_any b w m av l h (by omega))
  have hRd : ∀ w, Hid (Calls Try.prog 28 #[.int .i64 m, .string (txt (chunks 8 l))] w fun e w' => ∃ a, e = .returned (.tuple #[.agg #[.int .i64 m, .slice a (need m 64) (need m 64)], .int .i64 0]) ∧ Vc w.heap.size w' m a l ∧ Below w.heap.size w w') := fun w => by
    have h := read_any l.length w (txt (chunks 8 l)) (by rw [hl.len]; omega) (txt_size l) (txt_clean l)
    rw [rbits_txt, hl.len] at h
    exact h
  have hWo : ∀ w (b : Option Addr) c, Nl w (need m 64) b (chunks 64 l) → Hid (Calls Try.prog 12 #[.int .i64 m, .slice b (need m 64) c] w fun e w' => ∃ a, e = .returned (.tuple #[.agg #[.int .i64 m, .slice a (need m 64) (need m 64)], .int .i64 0]) ∧ Vc w.heap.size w' m a l ∧ Below w.heap.size w w') := fun w b c hn => by
    have h := words_any m w c b (chunks 64 l) (by omega) hn (fun k x hx => by rw [(chunks_get' hx).2]; exact chunk64_lt _ _)
    have e := bitsOf_chunks l
    rw [hl.len] at e
    rw [e] at h
    exact h
  have hEq := fun w (a b : Option Addr) h1 h2 => hide1 (equal_any w m m 0 0 a b l l h1 h2 (by omega))
  rw [show decide (l = l) = true by simp] at hEq
  have HL := hide1 hl
  have h1 : ¬ (200 : Int) < (s.size : Int) := by omega
  have h2 : ¬ (1000 : Int) < (m : Int) := by omega
  clear hl
  go_enter Try.func7, Try.ntmps7
  go_wp2_with fail
  refine (hR1 _).out.mono ?_
  rintro e w1 ⟨av, rfl, hv, hb⟩
  have S1 : Hid (Sx w _ w1.heap.size n (need n 64) av (rbits n s) (w1.alloc (.cells #[.int .i64 n, .slice av (need n 64) (need n 64)] 26))) := ⟨hv.alloc _, heap_alloc_new _ _, hb.alloc hb.size _⟩
  clear hv hb
  go_wp2_with fail
  refine (hR2 _).out.mono ?_
  rintro e w2 ⟨b2, c2, rfl, hl2, hb⟩
  have S2 := hide1 (S1.out.next hb)
  have L2 := hide1 hl2
  obtain ⟨c0, c1, _, _, c4⟩ := box2 S2.out.bx
  clear hb S1 hl2
  go_wp2_with fail
  refine (hSh _ _ _ _ _ S2.out.vc L2.out).out.mono ?_
  rintro e w3' ⟨rfl, hb⟩
  have S3 := hide1 (S2.out.next hb)
  clear hb S2 c0 c1 c4
  obtain ⟨c0, c1, _, _, c4⟩ := box2 S3.out.bx
  go_wp2_with fail
  refine (hB1 _ _ _ S3.out.vc).out.mono ?_
  rintro e w3 ⟨rfl, hb⟩
  have B3 := (S3.out.next hb).bl
  clear hb S3 c0 c1 c4 L2
  go_wp2_with fail
  refine (hOf _ (HL.out.below B3 (Nat.le_refl _))).out.mono ?_
  rintro e w4 ⟨ax, rfl, hv, hb⟩
  have S4 := hide1 (Als.put (ts := []) ⟨by simp, B3.trans (hb.mono B3.size)⟩ hv)
  clear hv hb B3
  go_wp2_with fail
  refine (hBy _ _ _ (S4.out.vc (t := w4.heap.size) (by simp))).out.mono ?_
  rintro e w5 ⟨rfl, hb⟩
  have S5 := hide1 (S4.out.next hb)
  clear S4 hb
  go_wp2_with fail
  refine (hRd _).out.mono ?_
  rintro e w6 ⟨ay, rfl, hv, hb⟩
  have S6' := hide1 (S5.out.next hb)
  have S6 := hide1 (S6'.out.put hv)
  obtain ⟨c0, c1, c4⟩ := S6'.out.box (t := w4.heap.size) (a := ax) (l := l) (by simp)
  clear S5 hb hv
  go_wp2_with fail
  refine (hRa _ _ _ (S6.out.vc (t := w4.heap.size) (a := ax) (by simp))).out.mono ?_
  rintro e w7 ⟨a7, rfl, hv7, hb⟩
  have S7 := hide1 (S6.out.next hb)
  have N7 := hide1 hv7.nl
  clear S6 S6' hb hv7 c0 c1 c4
  go_wp2_with fail
  refine (hWo _ _ _ N7.out).out.mono ?_
  rintro e w8 ⟨az, rfl, hv, hb⟩
  have S8' := hide1 (S7.out.next hb)
  have S8 := hide1 (S8'.out.put hv)
  obtain ⟨c0, c1, c4⟩ := S8'.out.box (t := w4.heap.size) (a := ax) (l := l) (by simp)
  obtain ⟨d0, d1, d4⟩ := S8'.out.box (t := w6.heap.size) (a := ay) (l := l) (by simp)
  clear S7 hb hv N7
  go_wp2_with fail
  refine (hEq _ _ _ (S8.out.vc (t := w4.heap.size) (a := ax) (by simp)) (S8.out.vc (t := w6.heap.size) (a := ay) (by simp))).out.mono ?_
  rintro e w9 ⟨rfl, hb⟩
  have S9 := hide1 (S8.out.next hb)
  clear S8 S8' hb c0 c1 c4 d0 d1 d4
  obtain ⟨c0, c1, c4⟩ := S9.out.box (t := w4.heap.size) (a := ax) (l := l) (by simp)
  obtain ⟨d0, d1, d4⟩ := S9.out.box (t := w8.heap.size) (a := az) (l := l) (by simp)
  go_wp2_with fail
  refine (hEq _ _ _ (S9.out.vc (t := w4.heap.size) (a := ax) (by simp)) (S9.out.vc (t := w8.heap.size) (a := az) (by simp))).out.mono ?_
  rintro e w10 ⟨rfl, hb⟩
  have B10 := (S9.out.next hb).bl
  clear S9 hb
  go_wp2_with fail
  refine (hA _).out.mono ?_
  rintro e w11 ⟨rfl, hb⟩
  go_wp2
  go_ret
  exact ⟨rfl, B10.trans (hb.mono B10.size)⟩


theorem reads_all (w : World) (n : Int) (s : ByteArray) (m c : Nat) (a : Option Addr) (l : List Bool) (hl : Bl w m a l) :
    Calls Try.prog 7 #[.int .i64 n, .string s, .slice a m c] w fun e w' => e = .returned (.bool true) ∧ Below w.heap.size w w' := by
  by_cases h : s.size ≤ 200 ∧ m ≤ 1000
  · by_cases hi : 0 ≤ n ∧ n ≤ 4194304
    · obtain ⟨k, rfl⟩ : ∃ k : Nat, n = k := ⟨n.toNat, by omega⟩
      by_cases hsz : s.size = need k 8
      · by_cases hc : Clean k s
        · exact reads_any w k s m c a l hl h.1 h.2 (by omega) hsz hc
        · refine reads_wrong w k s 13 m c a l hl h.1 h.2 ⟨by omega, fun w => ?_, fun w => ?_⟩
          · have h8 : 0 < k % 8 := by
              apply Nat.pos_of_ne_zero
              intro h0
              apply hc
              intro q x hx j hj hn
              have hq : q < s.size := by rw [← nums_length]; exact (List.getElem?_eq_some_iff.1 hx).1
              rw [hsz, need8] at hq
              omega
            have hp : 1 ≤ need k 8 := by rw [need8]; omega
            obtain ⟨x, hx⟩ : ∃ x, (nums s)[need k 8 - 1]? = some x := ⟨_, List.getElem?_eq_getElem (by rw [nums_length, hsz]; omega)⟩
            refine read_form k w s x (by omega) hsz h8 hx ?_
            intro h0
            apply hc
            intro q y hy j hj hn
            have hq : q < s.size := by rw [← nums_length]; exact (List.getElem?_eq_some_iff.1 hy).1
            rw [hsz, need8] at hq
            have e : q = need k 8 - 1 := by rw [need8]; omega
            subst e
            rw [hx] at hy
            cases hy
            have hlt : x < 2 ^ (k % 8) := by
              have := Nat.two_pow_pos (k % 8)
              rcases Nat.lt_or_ge x (2 ^ (k % 8)) with h | h
              · exact h
              · have := Nat.div_pos h this
                omega
            exact Nat.testBit_lt_two_pow (Nat.lt_of_lt_of_le hlt (Nat.pow_le_pow_right (by omega) (by rw [need8] at hn; omega)))
          · refine (rread_any k w s (by omega) hsz).mono ?_
            rintro e w' ⟨v, f, rfl, (⟨h, _⟩ | ⟨_, rfl⟩), hB⟩
            · exact absurd h hc
            · exact ⟨v, rfl, hB⟩
      · refine reads_wrong w k s 11 m c a l hl h.1 h.2 ⟨by omega, fun w => read_shape k w s (by omega) hsz, fun w => ?_⟩
        exact (rread_shape k w s (by omega) hsz).mono fun e w' ⟨h1, h2⟩ => ⟨_, h1, h2⟩
    · refine reads_wrong w n s 2 m c a l hl h.1 h.2 ⟨by omega, fun w => read_no n w s (by omega), fun w => ?_⟩
      exact (rread_no n w s (by omega)).mono fun e w' ⟨h1, h2⟩ => ⟨_, h1, h2⟩
  · exact reads_else w n s m c a (by omega)

end Go.Proofs.Ytnpanmdajcbbfaa
