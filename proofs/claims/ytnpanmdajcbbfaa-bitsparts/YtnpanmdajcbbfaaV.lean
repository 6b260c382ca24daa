/- The walk of BitsGets. -/
import Derived.Test.YtnpanmdajcbbfaaU
namespace Go.Proofs.Ytnpanmdajcbbfaa
open Go.RowKit
set_option maxRecDepth 100000
attribute [local go_sem] not_any mf_any field_words

theorem info4 : (Try.prog.info? 4).map (fun i => (i.zero, i.size, i.bytes)) = some (some (.bool false), 1, 1) := by kernel_rfl

theorem gets_else (w : World) (n c : Nat) (a : Option Addr) (i : Int) (t : Bool) (h : 1000 < n) :
    Calls Try.prog 4 #[.slice a n c, .int .i64 i, .bool t] w fun e w' => e = .returned (.bool true) ∧ Below w.heap.size w w' := by
  have hA := fun w => hide1 (awake_any w)
  have h1 : (1000 : Int) < (n : Int) := by omega
  go_enter Try.func4, Try.ntmps4
  go_wp2_with fail
  refine (hA _).out.mono ?_
  rintro e w1 ⟨rfl, hb⟩
  go_wp2
  go_ret
  exact ⟨rfl, hb⟩

theorem int_odd (x : Nat) : ((x : Int) % 2 == 1) = decide (x % 2 = 1) := by
  by_cases h : x % 2 = 1
  · have : (x : Int) % 2 = 1 := by omega
    simp [h, this]
  · have : ¬ (x : Int) % 2 = 1 := by omega
    simp [h, this]

theorem own_bl {w : World} {base n : Nat} {a : Option Addr} {c : Nat} {l : List Bool} (h : w.ownsRow base 4 1 (.slice a n c) n (bools l)) (hl : l.length = n) : Bl w n a l :=
  ⟨hl, fun j x hj => by
    have hjn : j < n := by rw [← hl]; exact (List.getElem?_eq_some_iff.1 hj).1
    obtain ⟨g, c', hv, _⟩ := row_some h (by omega)
    cases hv
    refine ⟨g, 0, rfl, ?_⟩
    rw [Nat.zero_add, h.cellAt j (by omega)]
    simp [bools, hj]⟩

theorem bools_set (l : List Bool) (j : Nat) (x : Bool) : (bools l).set j (.bool x) = bools (l.set j x) := by simp [bools]
theorem bools_one (l : List Bool) : ∀ v ∈ bools l, v.oneCell' = true := by
  intro v hv
  obtain ⟨x, _, rfl⟩ := List.mem_map.1 hv
  rfl

theorem count_bl (b : Nat) (w : World) (n : Nat) (a : Option Addr) (l : List Bool) (hv : Vc b w n a l) (hn : n ≤ 4194304) :
    Calls Try.prog 17 #[.agg #[.int .i64 n, .slice a (need n 64) (need n 64)]] w fun e w' => e = .returned (.int .i64 (l.count true : Nat)) ∧ Below w.heap.size w w' := by
  refine (count_any b w n a l hv hn).mono ?_
  rintro e w' ⟨rfl, rfl⟩
  exact ⟨rfl, below_alloc1 _ _⟩
theorem odd_bl (b : Nat) (w : World) (n : Nat) (a : Option Addr) (l : List Bool) (hv : Vc b w n a l) (hn : n ≤ 4194304) :
    Calls Try.prog 19 #[.agg #[.int .i64 n, .slice a (need n 64) (need n 64)]] w fun e w' => e = .returned (.bool (decide (l.count true % 2 = 1))) ∧ Below w.heap.size w w' := by
  refine (odd_any b w n a l hv hn).mono ?_
  rintro e w' ⟨rfl, hq⟩
  exact ⟨rfl, gr_below hq⟩
theorem get_bl (b : Nat) (w : World) (n : Nat) (a : Option Addr) (l : List Bool) (i : Int) (hv : Vc b w n a l) (hn : n ≤ 4194304) :
    Calls Try.prog 20 #[.agg #[.int .i64 n, .slice a (need n 64) (need n 64)], .int .i64 i] w fun e w' => e = .returned (.bool (getI l i)) ∧ Below w.heap.size w w' := by
  refine (get_any b w n a l i hv hn).mono ?_
  rintro e w' ⟨rfl, hq⟩
  exact ⟨rfl, gr_below hq⟩
theorem len_bl (n : Int) (s : Value) (w : World) (hs : s.oneCell' = true) :
    Calls Try.prog 14 #[.agg #[.int .i64 n, s]] w fun e w' => e = .returned (.int .i64 n) ∧ Below w.heap.size w w' := by
  refine (len_any n s w hs).mono ?_
  rintro e w' ⟨rfl, rfl⟩
  exact ⟨rfl, below_alloc1 _ _⟩
theorem rcount_bl (w : World) (n c : Nat) (a : Option Addr) (l : List Bool) (hl : Bl w n a l) (hn : n ≤ 4194304) :
    Calls Try.prog 18 #[.slice a n c] w fun e w' => e = .returned (.int .i64 (l.count true : Nat)) ∧ Below w.heap.size w w' := by
  refine (rcount_any w n c a l hl hn).mono ?_
  rintro e w' ⟨rfl, rfl⟩
  exact ⟨rfl, Below.refl _ _⟩

set_option maxHeartbeats 4000000 in
theorem gets_out (w : World) (n c : Nat) (a : Option Addr) (l : List Bool) (i : Int) (t : Bool) (hl : Bl w n a l) (hn : n ≤ 1000) (hi : i < 0 ∨ (n : Int) ≤ i) :
    Calls Try.prog 4 #[.slice a n c, .int .i64 i, .bool t] w fun e w' => e = .returned (.bool true) ∧ Below w.heap.size w w' := by
  have hA := fun w => hide1 (awake_any w)
  have hOf := fun w h => hide1 (of_any w n c a l h (by omega))
  have hWi := fun b w (av : Option Addr) h => hide1 (with_no b w n av l i t h hi)
  have hCo := fun b w (av : Option Addr) h => hide1 (count_bl b w n av l h (by omega))
  have hOd := fun b w (av : Option Addr) h => hide1 (odd_bl b w n av l h (by omega))
  have hRc := fun w h => hide1 (rcount_bl w n c a l h (by omega))
  have hGe := fun b w (av : Option Addr) h => hide1 (get_bl b w n av l i h (by omega))
  have hLe := fun w => hide1 (len_bl 0 (.slice none 0 0) w rfl)
  have HL := hide1 hl
  rw [getI_out (by rw [hl.len]; exact hi)] at hGe
  have hcn : l.count true ≤ 1000 := by
    have h1 := List.count_le_length (a := true) (l := l)
    have h3 := hl.len
    omega
  have ho := int_odd (l.count true)
  generalize l.count true = x at *
  generalize decide (x % 2 = 1) = ob at *
  have h1 : ¬ (1000 : Int) < (n : Int) := by omega
  have h2 : ((x : Int) != (x : Int)) = false := by simp
  have h3 : ¬ (i < 0) → (n : Int) ≤ i := by omega
  clear hl
  go_enter Try.func4, Try.ntmps4
  go_wp2_with fail
  refine (hOf _ HL.out).out.mono ?_
  rintro e w1 ⟨ax, rfl, hv, hb⟩
  have S1 : Hid (Sx w _ w1.heap.size n (need n 64) ax l (w1.alloc (.cells #[.int .i64 n, .slice ax (need n 64) (need n 64)] 26))) := ⟨hv.alloc _, heap_alloc_new _ _, hb.alloc (by have := hb.size; omega) _⟩
  clear hv hb
  go_wp2_with fail
  refine (hWi _ _ _ S1.out.vc).out.mono ?_
  rintro e w2 ⟨rfl, hb⟩
  have S1' := hide1 (S1.out.next hb)
  have S2 := hide1 (S1'.out.next (below_alloc1 _ (.cells #[.int .i64 0, .slice none 0 0] 26)))
  have hX2 := heap_alloc_new w2 (.cells #[.int .i64 0, .slice none 0 0] 26)
  have HX2 := hide1 hX2
  obtain ⟨c0, c1, _, _, c4⟩ := box2 S1'.out.bx
  clear S1 hb hX2
  go_wp2_with fail
  refine (hCo _ _ _ S2.out.vc).out.mono ?_
  rintro e w3 ⟨rfl, hb⟩
  have S3 := hide1 (S2.out.next hb)
  have HX3 := hide1 ((hb.block _ (by simp)).trans HX2.out)
  clear S2 hb HX2 c0 c1 c4
  go_wp2_with fail
  refine (hRc _ (HL.out.below S3.out.bl (Nat.le_refl _))).out.mono ?_
  rintro e w4 ⟨rfl, hb⟩
  have S4 := hide1 (S3.out.next hb)
  have HX4 := hide1 ((hb.block _ (lt_heap HX3.out)).trans HX3.out)
  obtain ⟨c0, c1, _, _, c4⟩ := box2 S4.out.bx
  clear S3 hb HX3
  go_wp2_with fail
  refine (hOd _ _ _ S4.out.vc).out.mono ?_
  rintro e w5 ⟨rfl, hb⟩
  have S5 := hide1 (S4.out.next hb)
  have HX5 := hide1 ((hb.block _ (lt_heap HX4.out)).trans HX4.out)
  clear S4 hb HX4 c0 c1 c4
  go_wp2_with fail
  refine (hRc _ (HL.out.below S5.out.bl (Nat.le_refl _))).out.mono ?_
  rintro e w6 ⟨rfl, hb⟩
  have S6 := hide1 (S5.out.next hb)
  have HX6 := hide1 ((hb.block _ (lt_heap HX5.out)).trans HX5.out)
  obtain ⟨c0, c1, _, _, c4⟩ := box2 S6.out.bx
  clear S5 hb HX5
  cases ob <;> by_cases h4 : i < 0
  all_goals
    go_wp2_with fail
    refine (hGe _ _ _ S6.out.vc).out.mono ?_
    rintro e w7 ⟨rfl, hb⟩
    have S7 := hide1 (S6.out.next hb)
    have HX7 := hide1 ((hb.block _ (lt_heap HX6.out)).trans HX6.out)
    obtain ⟨d0, d1, _, _, d4⟩ := box2 HX7.out
    clear hb
    go_wp2_with fail
    refine (hLe _).out.mono ?_
    rintro e w8 ⟨rfl, hb⟩
    have S8 := hide1 (S7.out.next hb)
    clear hb
    go_wp2_with fail
    refine (hA _).out.mono ?_
    rintro e w9 ⟨rfl, hb⟩
    go_wp2
    go_ret
    exact ⟨rfl, (S8.out.next hb).bl⟩

end Go.Proofs.Ytnpanmdajcbbfaa
