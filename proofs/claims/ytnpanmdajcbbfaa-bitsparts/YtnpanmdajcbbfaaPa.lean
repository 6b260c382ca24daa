/- The walk of BitsPairs where the bits are not as many. -/
import Derived.Test.YtnpanmdajcbbfaaW
namespace Go.Proofs.Ytnpanmdajcbbfaa
open Go.RowKit
set_option maxRecDepth 100000
attribute [local go_sem] not_any mf_any field_words

theorem pairs_else (w : World) (n m c c' : Nat) (a b : Option Addr) (h : 1000 < n ∨ (n ≤ 1000 ∧ 1000 < m)) :
    Calls Try.prog 5 #[.slice a n c, .slice b m c'] w fun e w' => e = .returned (.bool true) ∧ Below w.heap.size w w' := by
  have hA := fun w => hide1 (awake_any w)
  rcases h with h | ⟨h, h'⟩
  · have h1 : (1000 : Int) < (n : Int) := by omega
    go_enter Try.func5, Try.ntmps5
    go_wp2_with fail
    refine (hA _).out.mono ?_
    rintro e w1 ⟨rfl, hb⟩
    go_wp2
    go_ret
    exact ⟨rfl, hb⟩
  · have h1 : ¬ (1000 : Int) < (n : Int) := by omega
    have h2 : (1000 : Int) < (m : Int) := by omega
    go_enter Try.func5, Try.ntmps5
    go_wp2_with fail
    refine (hA _).out.mono ?_
    rintro e w1 ⟨rfl, hb⟩
    go_wp2
    go_ret
    exact ⟨rfl, hb⟩

theorem same_bl (w : World) (n m c c' : Nat) (a b : Option Addr) (xs ys : List Bool) (ha : Bl w n a xs) (hb : Bl w m b ys) (hn : n ≤ 4194304) (hm : m ≤ 4194304) :
    Calls Try.prog 24 #[.slice a n c, .slice b m c'] w fun e w' => e = .returned (.bool (decide (xs = ys))) ∧ Below w.heap.size w w' := by
  refine (same_any w n m c c' a b xs ys ha hb hn hm).mono ?_
  rintro e w' ⟨rfl, q, rfl⟩
  exact ⟨rfl, below_drewN (Below.refl _ _) q⟩

theorem map_snoc {l : List Bool} {k : Nat} {x : Bool} (h : l[k]? = some x) : (l.take (k + 1)).map (!·) = (l.take k).map (!·) ++ [!x] := by
  rw [take_snoc h]
  simp

set_option maxHeartbeats 8000000 in
theorem pairs_no (w : World) (n m c c' : Nat) (a b : Option Addr) (la lb : List Bool) (hla : Bl w n a la) (hlb : Bl w m b lb) (hn : n ≤ 1000) (hm : m ≤ 1000) (hnm : n ≠ m) :
    Calls Try.prog 5 #[.slice a n c, .slice b m c'] w fun e w' => e = .returned (.bool true) ∧ Below w.heap.size w w' := by
  obtain ⟨i0, hi, hz0, hz1, hz2⟩ := info_parts info4
  have hA := fun w => hide1 (awake_any w)
  have hO1 := fun w h => hide1 (of_any w n c a la h (by omega))
  have hO2 := fun w h => hide1 (of_any w m c' b lb h (by omega))
  have hX := fun w (a b : Option Addr) => hide1 (pair_no 21 (.inl rfl) w n m a b hnm)
  have hY := fun w (a b : Option Addr) => hide1 (pair_no 22 (.inr rfl) w n m a b hnm)
  have hne' : la ≠ lb := fun e => hnm (by rw [← hla.len, ← hlb.len, e])
  have hE := fun w (a b : Option Addr) h1 h2 => hide1 (equal_any w n m 0 0 a b la lb h1 h2 (by omega))
  have hS := fun w h1 h2 => hide1 (same_bl w n m c c' a b la lb h1 h2 (by omega) (by omega))
  rw [show decide (la = lb) = false by simp [hne']] at hE hS
  have hN := fun b w (a : Option Addr) h => hide1 (vnot_any b w n a la h (by omega))
  have hSh := fun b w (a av : Option Addr) c h1 h2 => hide1 (shows_any b w n c a av (la.map (!·)) h1 h2 (by omega))
  have hLe := fun w => hide1 (len_bl 0 (.slice none 0 0) w rfl)
  have HA := hide1 hla
  have HB := hide1 hlb
  have h1 : ¬ (1000 : Int) < (n : Int) := by omega
  have h2 : ¬ (1000 : Int) < (m : Int) := by omega
  have h3 : ((n : Int) != (m : Int)) = true := by simp; omega
  clear hla hlb hne'
  go_enter Try.func5, Try.ntmps5
  go_wp2_with fail
  refine (hO1 _ HA.out).out.mono ?_
  rintro e w1 ⟨ax, rfl, hv, hb⟩
  have S1 := hide1 (Als.put (ts := []) ⟨by simp, hb⟩ hv)
  clear hv hb
  go_wp2_with fail
  refine (hO2 _ (HB.out.below S1.out.bl (Nat.le_refl _))).out.mono ?_
  rintro e w2 ⟨ay, rfl, hv, hb⟩
  have S2 := hide1 (S1.out.next hb)
  have T2 := hide1 (Als.put (ts := []) ⟨by simp, S2.out.bl⟩ hv)
  have S2' := hide1 (S2.out.next (below_alloc1 w2 (.cells #[.int .i64 m, .slice ay (need m 64) (need m 64)] 26)))
  obtain ⟨c0, c1, c4⟩ := S2.out.box (t := w1.heap.size) (a := ax) (l := la) (by simp)
  clear hv hb S1 S2
  go_wp2_with fail
  refine (hX _ _ _).out.mono ?_
  rintro e w3 ⟨rfl, hb⟩
  have S3 := hide1 (S2'.out.next hb)
  have T3 := hide1 (T2.out.next hb)
  have X3 := hide1 (heap_alloc_new w3 (.cells #[.int .i64 0, .slice none 0 0] 26))
  clear hb S2' T2 c0 c1 c4
  obtain ⟨c0, c1, c4⟩ := S3.out.box (t := w1.heap.size) (a := ax) (l := la) (by simp)
  obtain ⟨d0, d1, d4⟩ := T3.out.box (t := w2.heap.size) (a := ay) (l := lb) (by simp)
  go_wp2_with fail
  refine (hY _ _ _).out.mono ?_
  rintro e w4 ⟨rfl, hb⟩
  have S4 := hide1 ((S3.out.next (below_alloc1 w3 (.cells #[.int .i64 0, .slice none 0 0] 26))).next hb)
  have T4 := hide1 ((T3.out.next (below_alloc1 w3 (.cells #[.int .i64 0, .slice none 0 0] 26))).next hb)
  have X4 := hide1 ((hb.block _ (by simp)).trans X3.out)
  have Y4 := hide1 (heap_alloc_new w4 (.cells #[.int .i64 0, .slice none 0 0] 26))
  clear hb S3 T3 X3 c0 c1 c4 d0 d1 d4
  obtain ⟨c0, c1, c4⟩ := S4.out.box (t := w1.heap.size) (a := ax) (l := la) (by simp)
  obtain ⟨d0, d1, d4⟩ := T4.out.box (t := w2.heap.size) (a := ay) (l := lb) (by simp)
  go_wp2_with fail
  have S4' := hide1 (S4.out.next (below_alloc1 w4 (.cells #[.int .i64 0, .slice none 0 0] 26)))
  have T4' := hide1 (T4.out.next (below_alloc1 w4 (.cells #[.int .i64 0, .slice none 0 0] 26)))
  refine (hE _ _ _ (S4'.out.vc (t := w1.heap.size) (a := ax) (by simp)) (T4'.out.vc (t := w2.heap.size) (a := ay) (by simp))).out.mono ?_
  rintro e w5 ⟨rfl, hb⟩
  have S5 := hide1 (S4'.out.next hb)
  have X5 := hide1 ((hb.block _ (by have := lt_heap X4.out; simp; omega)).trans ((Below.heap_alloc _ _ _ (lt_heap X4.out)).trans X4.out))
  have Y5 := hide1 ((hb.block _ (by simp)).trans Y4.out)
  clear hb S4 T4 S4' T4' X4 Y4 c0 c1 c4 d0 d1 d4
  go_wp2_with fail
  refine (hS _ (HA.out.below S5.out.bl (Nat.le_refl _)) (HB.out.below S5.out.bl (Nat.le_refl _))).out.mono ?_
  rintro e w6 ⟨rfl, hb⟩
  have S6 := hide1 (S5.out.next hb)
  have X6 := hide1 ((hb.block _ (lt_heap X5.out)).trans X5.out)
  have Y6 := hide1 ((hb.block _ (lt_heap Y5.out)).trans Y5.out)
  clear hb S5 X5 Y5
  go_wp2_with fail
  go_loopw [13, 14] (fun ov i wr => ∃ k : Nat, k ≤ n ∧ i = .int .i64 k ∧ wr.ownsRow w6.heap.size 4 1 ov k (bools ((la.take k).map (!·))) ∧ Below w6.heap.size w6 wr) (fun _ i _ => n - (intOf i).toNat)
  case atStart => exact ⟨0, Nat.zero_le _, rfl, World.ownsRow_nil _ _ _ _, Below.refl _ _⟩
  case round =>
    obtain ⟨k, hk, rfl, hrow, hB⟩ := hrel
    by_cases hlt : k < n
    · obtain ⟨x, hx⟩ : ∃ x, la[k]? = some x := ⟨_, List.getElem?_eq_getElem (by rw [HA.out.len]; exact hlt)⟩
      obtain ⟨g, o, rfl, hc0⟩ := HA.out.at' k x hx
      have hgl := lt_cell hc0
      have hc := ((S6.out.next hB).bl.cell (p := ⟨g, o + k, none⟩) hgl).trans hc0
      have HT := hide1 (map_snoc hx)
      obtain ⟨ra, rc, rfl⟩ := row_form hrow
      have HW := hide1 (And.intro hrow hB)
      clear hrow hB hx hc0
      cases x
      all_goals
        go_wp2_with (at_builtin; go_must (refine wpList_append_own _ rfl _ _ 22 rfl w6.heap.size 4 i0 (.bool false) 1 1 Try.underlying22 hi hz0 hz1 hz2 rfl (by decide) _ _ _ rfl (HW.out.1.alloc _) ⟨wr.heap.size, 0, none⟩ 1 1 [_] rfl rfl (cell_one_new _ _ _) (by simp [Value.oneCell']) (by unfold maxLen; omega) (by omega) (by have := HW.out.2.size; simp; omega) ?_); intro v' w7 hown' hgrow _)
        go_roundw
        case rel =>
          refine ⟨k + 1, by omega, by go_num, ?_, (HW.out.2.alloc HW.out.2.size _).grown hgrow (by have := HW.out.2.size; simp; omega) (fun b hb => (HW.out.1.lt b hb).1)⟩
          rw [HT.out]
          simpa [bools] using hown'
        case measure => simp [intOf]; omega
    · have : k = n := by omega
      subst this
      obtain ⟨ra, rc, rfl⟩ := row_form hrow
      rw [List.take_of_length_le (by rw [HA.out.len]; omega)] at hrow
      have L7 := hide1 (own_bl hrow (by rw [List.length_map]; exact HA.out.len))
      have S7 := hide1 (S6.out.next hB)
      have X7 := hide1 ((hB.block _ (lt_heap X6.out)).trans X6.out)
      have Y7 := hide1 ((hB.block _ (lt_heap Y6.out)).trans Y6.out)
      obtain ⟨c0, c1, c4⟩ := S7.out.box (t := w1.heap.size) (a := ax) (l := la) (by simp)
      clear hrow hB S6 X6 Y6
      go_wp2_with fail
      refine (hN _ _ _ (S7.out.vc (t := w1.heap.size) (a := ax) (by simp))).out.mono ?_
      rintro e w8 ⟨a8, rfl, hv8, hb⟩
      have S8 := hide1 (S7.out.next hb)
      have L8 := hide1 (L7.out.below hb (Nat.le_refl _))
      have X8 := hide1 ((hb.block _ (lt_heap X7.out)).trans X7.out)
      have Y8 := hide1 ((hb.block _ (lt_heap Y7.out)).trans Y7.out)
      have V8 := hide1 hv8
      clear hb S7 X7 Y7 L7 c0 c1 c4 hv8
      go_wp2_with fail
      refine (hSh _ _ _ _ _ V8.out L8.out).out.mono ?_
      rintro e w9 ⟨rfl, hb⟩
      have S9 := hide1 (S8.out.next hb)
      have X9 := hide1 ((hb.block _ (lt_heap X8.out)).trans X8.out)
      have Y9 := hide1 ((hb.block _ (lt_heap Y8.out)).trans Y8.out)
      clear hb S8 X8 Y8 L8 V8
      obtain ⟨c0, c1, _, _, c4⟩ := box2 X9.out
      go_wp2_with fail
      refine (hLe _).out.mono ?_
      rintro e w10 ⟨rfl, hb⟩
      have S10 := hide1 (S9.out.next hb)
      have Y10 := hide1 ((hb.block _ (lt_heap Y9.out)).trans Y9.out)
      clear hb S9 X9 Y9 c0 c1 c4
      obtain ⟨c0, c1, _, _, c4⟩ := box2 Y10.out
      go_wp2_with fail
      refine (hLe _).out.mono ?_
      rintro e w11 ⟨rfl, hb⟩
      have S11 := hide1 (S10.out.next hb)
      clear hb S10 Y10 c0 c1 c4
      go_wp2_with fail
      refine (hA _).out.mono ?_
      rintro e w12 ⟨rfl, hb⟩
      go_wp2
      go_ret
      exact ⟨rfl, (S11.out.next hb).bl⟩

end Go.Proofs.Ytnpanmdajcbbfaa
