/- The document's Column; columns of one length; their words. -/
import Derived.Test.YtaghcbmipihpmaaUi
namespace Go.Proofs.Ytaghcbmipihpmaa
open Go.RowKit
set_option maxRecDepth 100000
attribute [local go_sem] not_any

theorem own_below {base e size n : Nat} {w w' : World} {v : Value} {xs : List Value} (ho : w.ownsRow base e size v n xs) (hb : Below w.heap.size w w') : w'.ownsRow base e size v n xs := by
  refine ⟨ho.1, ?_⟩
  rcases ho.2 with h0 | ⟨g, cap, cur, hv, hg, hh, rest⟩
  · exact .inl h0
  · exact .inr ⟨g, cap, cur, hv, hg, (hb.block g (lt_heap hh)).trans hh, rest⟩
theorem bt_col (R : Nat → Nat → Nat) (j i : Nat) (hi : i < 128) : bt (R j 0) (R j 1) (i : Int) = (R j (i / 64)).testBit (i % 64) := by
  by_cases h : i < 64
  · rw [bt_lo h, show i / 64 = 0 by omega, show i % 64 = i by omega]
  · rw [show i = 64 + (i - 64) by omega, bt_hi (by omega), show (64 + (i - 64)) / 64 = 1 by omega, show (64 + (i - 64)) % 64 = i - 64 by omega]
theorem colB_length (R : Nat → Nat → Nat) (n i : Nat) : (colB R n i).length = n := by simp [colB]
theorem colB_get {R : Nat → Nat → Nat} {n i j : Nat} (h : j < n) : (colB R n i)[j]? = some ((R j (i / 64)).testBit (i % 64)) := by simp [colB, h]

set_option maxHeartbeats 4000000 in
theorem column_any (w : World) (n c i : Nat) (a : Option Addr) (R : Nat → Nat → Nat) (hR : Rws w n a R) (hn : n ≤ 65536) (hi : i < 128) :
    Calls Try.prog 10 #[.slice a n c, .int .i64 i] w fun e w' => ∃ a' c', e = .returned (.slice a' n c') ∧ Bl w' n a' (colB R n i) ∧ Below w.heap.size w w' := by
  obtain ⟨i0, hi0, hz0, hz1, hz2⟩ := info_parts info4
  have HR := hide1 hR
  have HI := hide1 hi
  clear hR hi
  go_enter Try.func10, Try.ntmps10
  go_wp2
  go_loopw [5, 6] (fun ov iv wr => ∃ j : Nat, j ≤ n ∧ iv = .int .i64 j ∧ wr.ownsRow w.heap.size 4 1 ov j (bools ((colB R n i).take j)) ∧ Below w.heap.size w wr) (fun _ iv _ => n - (intOf iv).toNat)
  case atStart => exact ⟨0, Nat.zero_le _, rfl, World.ownsRow_nil _ _ _ _, Below.refl _ _⟩
  case round =>
    obtain ⟨j, hj, rfl, hrow, hB⟩ := hrel
    obtain ⟨la, lc, rfl⟩ := row_form hrow
    have HW := hide1 (And.intro hrow hB)
    clear hrow hB
    by_cases hlt : j < n
    · obtain ⟨g, o, rfl, c0, c1⟩ := (HR.out.below HW.out.2 (Nat.le_refl _)).at' j hlt
      obtain ⟨y, hy⟩ : ∃ y, y = (R j (i / 64)).testBit (i % 64) := ⟨_, rfl⟩
      have kb := fun w => hide1 (rbit_any (R j 0) (R j 1) (i : Int) w)
      rw [bt_col R j i HI.out, ← hy] at kb
      unfold rw2 at kb
      have HT : Hid ((colB R n i).take (j + 1) = (colB R n i).take j ++ [y]) := by rw [hy]; exact take_snoc (colB_get hlt)
      obtain ⟨x0, hx0⟩ : ∃ x0, x0 = R j 0 := ⟨_, rfl⟩
      obtain ⟨x1, hx1⟩ : ∃ x1, x1 = R j 1 := ⟨_, rfl⟩
      rw [← hx0, ← hx1] at kb
      rw [← hx0] at c0
      rw [← hx1] at c1
      clear hy hx0 hx1
      go_wp2_with fail
      go_at_call 15
      refine (kb _).out.mono ?_
      rintro e w1 ⟨rfl, hb1⟩
      have HW1 := hide1 (And.intro (own_below HW.out.1 hb1) (HW.out.2.trans (hb1.mono HW.out.2.size)))
      clear hb1 HW c0 c1 kb
      go_wp2_with (at_builtin; go_must (refine wpList_append_own _ rfl _ _ 29 rfl w.heap.size 4 i0 (.bool false) 1 1 Try.underlying29 hi0 hz0 hz1 hz2 rfl (by decide) _ _ _ rfl (HW1.out.1.alloc _) ⟨w1.heap.size, 0, none⟩ 1 1 [.bool y] rfl rfl (cell_one_new _ _ _) (by simp [Value.oneCell']) (by unfold maxLen; omega) (by omega) (by have := HW1.out.2.size; simp; omega) ?_); intro v' w2 hown' hgrow _)
      go_roundw
      case rel =>
        refine ⟨j + 1, by omega, by go_num, ?_, (HW1.out.2.alloc HW1.out.2.size _).grown hgrow (by have := HW1.out.2.size; simp; omega) (fun b hb => (HW1.out.1.lt b hb).1)⟩
        rw [HT.out]
        simpa [bools] using hown'
      case measure => simp [intOf]; omega
    · obtain rfl : j = n := by omega
      go_wp2
      go_ret
      have h := HW.out.1
      rw [List.take_of_length_le (by rw [colB_length]; omega)] at h
      exact ⟨_, _, rfl, own_bl h (colB_length _ _ _), HW.out.2⟩

theorem len_gr (k : Nat) (s : Option Addr) (m : Nat) (w : World) : Calls Try.prog 29 #[.agg #[.int .i64 k, .slice s m m]] w fun e w' => e = .returned (.int .i64 k) ∧ ∃ q os, w' = Sort.grow (w.drewN q) os := by
  refine (len_any (k : Int) (.slice s m m) w rfl).mono ?_
  rintro e w' ⟨rfl, rfl⟩
  exact ⟨rfl, gr_alloc _ _⟩

/- 128 columns of one length -/
def evn (m : Nat) (n : Nat → Nat) : Bool := decide (m = 128 ∧ ∀ i, i < m → n i = n 0)
set_option maxHeartbeats 2000000 in
theorem even_any (w : World) (m c : Nat) (a : Option Addr) (n : Nat → Nat) (aa : Nat → Option Addr) (L : Nat → List Bool) (hv : Vcs w m a n aa L) (hm : m ≤ 4096) :
    Calls Try.prog 28 #[.slice a m c] w fun e w' => e = .returned (.bool (evn m n)) ∧ Below w.heap.size w w' := by
  by_cases h128 : m = 128
  · subst h128
    obtain ⟨g, o, rfl, hgl, hc⟩ := hv.first (by omega)
    have HC := hide1 hc
    have mixed := mixed
    have kL := fun (k : Nat) (s : Option Addr) w => hide1 (len_gr k s (need k 64) w)
    have h0 : ((128 : Int) != 128) = false := by decide
    clear hc hv
    show Calls _ _ #[.slice (some ⟨g, o, none⟩) 128 c] _ _
    go_enter Try.func28, Try.ntmps28
    go_wp2
    go_loopw [10] (fun iv wr => ∃ i : Nat, i ≤ 128 ∧ iv = .int .i64 i ∧ (∀ j, j < i → n j = n 0) ∧ Below w.heap.size w wr) (fun iv _ => 128 - (intOf iv).toNat)
    case atStart => exact ⟨0, Nat.zero_le _, rfl, fun j hj => by omega, Below.refl _ _⟩
    case round =>
      obtain ⟨i, hi, rfl, hE, hB⟩ := hrel
      have HE := hide1 hE
      have HB := hide1 hB
      clear hE
      by_cases hlt : i < 128
      · have d0 := (hB.cell (p := ⟨g, o + i * 2, none⟩) (by simp; omega)).trans (HC.out i hlt).1
        have d1 := (hB.cell (p := ⟨g, o + i * 2 + 1, none⟩) (by simp; omega)).trans (HC.out i hlt).2
        have e0 : wr.cell? ⟨g, o, none⟩ = _ := (hB.cell (p := ⟨g, o + 0 * 2, none⟩) (by simp; omega)).trans (HC.out 0 (by omega)).1
        have e1 : wr.cell? ⟨g, o + 1, none⟩ = _ := (hB.cell (p := ⟨g, o + 0 * 2 + 1, none⟩) (by simp; omega)).trans (HC.out 0 (by omega)).2
        have hgw : g < wr.heap.size := by have := hB.size; omega
        obtain ⟨x, hx⟩ : ∃ x, x = n i := ⟨_, rfl⟩
        obtain ⟨y, hy⟩ : ∃ y, y = n 0 := ⟨_, rfl⟩
        obtain ⟨ai, hai⟩ : ∃ ai, ai = aa i := ⟨_, rfl⟩
        obtain ⟨az, haz⟩ : ∃ az, az = aa 0 := ⟨_, rfl⟩
        rw [← hx] at d0 d1
        rw [← hy] at e0 e1
        rw [← hai] at d1
        rw [← haz] at e1
        have HX := hide1 hx
        have HY := hide1 hy
        clear hx hy hai haz hB
        obtain ⟨W, hW⟩ : ∃ W, W = wr.alloc (.cells #[.int .i64 x, .slice ai (need x 64) (need x 64)] 32) := ⟨_, rfl⟩
        have BW : Hid (Below w.heap.size w W) := by rw [hW]; exact HB.out.alloc HB.out.size _
        have hbx : W.heap[wr.heap.size]? = some (.cells #[.int .i64 x, .slice ai (need x 64) (need x 64)] 32 (0, 0)) := by rw [hW]; exact heap_alloc_new _ _
        have e0' : W.cell? ⟨g, o, none⟩ = some (.int .i64 y) := by rw [hW, (below_alloc1 wr _).cell (p := ⟨g, o, none⟩) hgw]; exact e0
        have e1' : W.cell? ⟨g, o + 1, none⟩ = some (.slice az (need y 64) (need y 64)) := by rw [hW, (below_alloc1 wr _).cell (p := ⟨g, o + 1, none⟩) hgw]; exact e1
        have k0 := cell_grown (lt_heap hbx) (box2 hbx).1
        have k1 := cell_grown (lt_heap hbx) (box2 hbx).2.1
        have k2 := cell_grown (lt_cell e0') e0'
        have k3 := cell_grown (lt_cell e1') e1'
        have HW := hide1 hW
        go_upto_region 6 with (fail)
        rw [← hW]
        clear hW hbx e0 e1 e0' e1' d0 d1
        by_cases hxy : x = y
        · subst hxy
          have t1 : ((x : Int) != (x : Int)) = false := by simp
          go_quiet_grown (first | (go_at_call 29; exact Calls.grown_of (kL _ _ _).out))
          go_wp2
          go_roundw
          case rel => exact ⟨i + 1, by omega, by go_num, fun j hj => by
            by_cases e : j = i
            · rw [e, ← HX.out]; exact HY.out
            · exact HE.out j (by omega), BW.out.trans ((gr_below ⟨nq, osq, rfl⟩).mono BW.out.size)⟩
          case measure => simp [intOf]; omega
        · have t1 : ((x : Int) != (y : Int)) = true := by rw [bne_iff_ne]; omega
          have HN : Hid (evn 128 n = false) := decide_eq_false (fun h => hxy (by rw [HX.out, HY.out]; exact h.2 i hlt))
          clear hxy
          go_quiet_grown (first | (go_at_call 29; exact Calls.grown_of (kL _ _ _).out))
          go_wp2
          go_ret
          rw [HN.out]
          exact ⟨rfl, BW.out.trans ((gr_below ⟨nq, osq, rfl⟩).mono BW.out.size)⟩
      · obtain rfl : i = 128 := by omega
        have HN : Hid (evn 128 n = true) := decide_eq_true ⟨rfl, HE.out⟩
        go_wp2
        go_ret
        rw [HN.out]
        exact ⟨rfl, HB.out⟩
  · have HN : Hid (evn m n = false) := decide_eq_false (fun h => h128 h.1)
    have t1 : ((m : Int) != 128) = true := by rw [bne_iff_ne]; omega
    have t2 : ¬ (m : Int) = 128 := by omega
    rw [HN.out]
    go_enter Try.func28, Try.ntmps28
    go_wp2
    go_ret
    exact ⟨rfl, Below.refl _ _⟩
end Go.Proofs.Ytaghcbmipihpmaa
