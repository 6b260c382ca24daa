/- The document's Numbers; Coins. -/
import Derived.Test.YtdmodknjcdkocaaJ31
namespace Go.Proofs.Ytdmodknjcdkocaa.Ro
open Go.RowKit Pg
set_option maxRecDepth 100000
attribute [local go_sem] not_any T.mf_any

/- numbers in a row of the call's own -/
structure Mn (w : World) (g : Nat) (l : List Nat) : Prop where
  at' : ∃ cur, w.heap[g]? = some (.cells cur 49 (0, 0)) ∧ cur.toList.take l.length = V.u64s l
theorem Mn.lt {w : World} {g : Nat} {l : List Nat} (h : Mn w g l) : g < w.heap.size := by
  obtain ⟨cur, hh, _⟩ := h.at'
  exact lt_heap hh
theorem Mn.cell {w : World} {g j : Nat} {l : List Nat} (h : Mn w g l) (hj : j < l.length) : w.cell? ⟨g, j, none⟩ = some (.int .u64 (at0 l j : Nat)) := by
  obtain ⟨cur, hh, ht⟩ := h.at'
  rw [cell_of_row w g j _ _ _ hh, ← Array.getElem?_toList, ← List.getElem?_take_of_lt hj, ht, V.u64s, List.getElem?_map, get_at0 hj]
  rfl
theorem Mn.frozen {w : World} {g : Nat} {l : List Nat} (h : Mn w g l) (j : Nat) : w.frozen? ⟨g, j, none⟩ = false := by
  obtain ⟨cur, hh, _⟩ := h.at'
  exact frozen_of_row w g j _ _ hh
theorem Mn.set {w : World} {g : Nat} {l : List Nat} (h : Mn w g l) (j x : Nat) : Mn (w.setCell ⟨g, j, none⟩ (.int .u64 (x : Int))) g (l.set j x) := by
  obtain ⟨cur, hh, ht⟩ := h.at'
  refine ⟨_, heap_setCell_same w g j _ _ _ hh, ?_⟩
  rw [Array.toList_setIfInBounds, List.length_set, List.take_set, ht, V.u64s, V.u64s, List.map_set]
theorem Mn.below {w w' : World} {g B : Nat} {l : List Nat} (h : Mn w g l) (hb : Below B w w') (hg : g < B) : Mn w' g l := by
  obtain ⟨cur, hh, ht⟩ := h.at'
  exact ⟨cur, (hb.block g hg).trans hh, ht⟩
theorem mn_own {w : World} {base n c : Nat} {a : Option Addr} {l : List Nat} (hl : l.length = n) (h : w.ownsRow base 49 1 (.slice a n c) n (V.u64s l)) : n = 0 ∨ ∃ g, a = some ⟨g, 0, none⟩ ∧ base ≤ g ∧ Mn w g l := by
  rcases h.2 with ⟨_, h0⟩ | ⟨g, cap, cur, hv, hg, hh, _, _, ht⟩
  · exact .inl h0
  · cases hv
    refine .inr ⟨g, rfl, hg, cur, hh, ?_⟩
    rw [hl]
    simpa using ht.2
theorem Mn.nl {w : World} {g : Nat} {l : List Nat} {n : Nat} (hl : l.length = n) (h : Mn w g l) : T.Nl w n (some ⟨g, 0, none⟩) l :=
  ⟨hl, fun j x hj => ⟨g, 0, rfl, by
    have hj' := (List.getElem?_eq_some_iff.1 hj).1
    rw [Nat.zero_add, h.cell hj', at0, hj]
    rfl⟩⟩

set_option maxHeartbeats 4000000 in
theorem rnumbers_own (kl : List Nat) (W N : Nat) (w : World) (hk : kl.length = 32) (bk : Lt 256 kl) (h1 : 1 ≤ W) (h2 : W ≤ 64) (h3 : N ≤ 36) :
    Calls Try.prog 27 #[arr8 kl, .int .i64 (W : Int), .int .i64 (N : Int)] w (fun e w' => ∃ a c, e = .returned (.tuple #[.slice a N c, .int .i64 0]) ∧ (N = 0 ∨ ∃ g, a = some ⟨g, 0, none⟩ ∧ w.heap.size ≤ g ∧ Mn w' g ((wrd kl 1 0 N).map (cutN W))) ∧ Below w.heap.size w w') := by
  have kw : Hid (∀ W, Calls Try.prog 41 #[arr8 kl, .int .u32 1, .int .i64 0, .int .i64 (N : Int)] W (fun e w' => ∃ a c, e = .returned (.tuple #[.slice a N c, .int .i64 0]) ∧ w'.ownsRow W.heap.size 49 1 (.slice a N c) N (V.u64s (wrd kl 1 0 N)) ∧ Below W.heap.size W w')) := fun w => rwords_own kl 1 0 N w hk bk (by omega) (by omega) (by omega)
  have HLn : Shy ((wrd kl 1 0 N).length = N) := ⟨wrd_length _ _ _ _⟩
  have HLt : Shy (∀ i, i < N → at0 (wrd kl 1 0 N) i < 18446744073709551616) := ⟨fun i h => wrd_lt h⟩
  have hi := hi23 hk
  have g1 : decide ((W : Int) < 1) = false := by rw [decide_eq_false_iff_not]; omega
  have g2 : decide ((64 : Int) < (W : Int)) = false := by rw [decide_eq_false_iff_not]; omega
  have g3 : decide ((N : Int) < 0) = false := by rw [decide_eq_false_iff_not]; omega
  have g4 : decide ((36 : Int) < (N : Int)) = false := by rw [decide_eq_false_iff_not]; omega
  have kc : Hid (∀ x : Nat, x < 18446744073709551616 → ∀ w, Calls Try.prog 42 #[.int .u64 (x : Int), .int .i64 (W : Int)] w fun e w' => e = .returned (.int .u64 ((cutN W x : Nat) : Int)) ∧ w' = w) := fun x hx w => rcut_any x W w hx h2
  generalize wrd kl 1 0 N = ws at *
  unfold arr8 at kw ⊢
  clear hk bk
  go_enter Try.func27, Try.ntmps27
  go_upto_region 1 with (fail)
  generalize hX : World.alloc w _ = X
  have x0 : X.heap[w.heap.size]? = some (row8 46 kl) := by rw [← hX]; exact heap_alloc_new _ _
  have xb : Below w.heap.size w X := by rw [← hX]; exact (Below.refl _ _).alloc (Nat.le_refl _) _
  have X0 := hide1 x0
  have XB := hide1 xb
  clear hX x0 xb
  go_wp2_with (first | (refine wpList_load_row rfl 46 (.tmp 3) rfl w.heap.size rfl 46 (u8s kl).toArray (0, 0) _ X0.out Try.underlying46 rfl hi ?_) | fail)
  go_at_call 41
  refine (kw.out _).mono ?_
  rintro e w1 ⟨a, c, rfl, hw, hb⟩
  have HW := hide1 (mn_own HLn.out hw)
  have HB := hide1 (XB.out.trans (hb.mono XB.out.size))
  have HXS := hide1 XB.out.size
  clear hw hb kw X0 XB
  go_wp2
  go_loopw [10] (fun v wr => ∃ k : Nat, k ≤ N ∧ v = .int .i64 k ∧ (N = 0 ∨ ∃ g, a = some ⟨g, 0, none⟩ ∧ X.heap.size ≤ g ∧ Mn wr g (cutTo W k ws)) ∧ Below w.heap.size w wr) (fun v _ => N - (intOf v).toNat)
  case atStart => exact ⟨0, Nat.zero_le _, rfl, by rw [cutTo_zero]; exact HW.out, HB.out⟩
  case round =>
    obtain ⟨k, hkN, rfl, hrow, hbe⟩ := hrel
    by_cases hlt : k < N
    · have bk : (k : Int) < (N : Int) := by omega
      have bk2 : (k : Int) < 36 := by omega
      obtain ⟨g, rfl, hg, hm⟩ : ∃ g, a = some ⟨g, 0, none⟩ ∧ X.heap.size ≤ g ∧ Mn wr g (cutTo W k ws) := hrow.resolve_left (by omega)
      have bx := HLt.out k hlt
      have cu := hm.cell (j := k) (by rw [cutTo_length, HLn.out]; exact hlt)
      rw [cutTo_at (by rw [HLn.out]; exact hlt)] at cu
      have fu := hm.frozen k
      have HS : Shy ((cutTo W k ws).set k (cutN W (at0 ws k)) = cutTo W (k + 1) ws) := ⟨cutTo_step (by rw [HLn.out]; exact hlt)⟩
      have kx := fun w => hide1 (kc.out _ bx w)
      have by' := cutN_lt (B := W) bx
      generalize at0 ws k = x at *
      generalize cutN W x = y at *
      have HM := hide1 hm
      have HG := hide1 hg
      have HE := hide1 hbe
      clear hrow hbe hm hg HW
      go_wp2_with (first | (go_at_call 42; refine (kx _).out.mono ?_; rintro e w' ⟨rfl, rfl⟩))
      go_roundw
      case rel => exact ⟨k + 1, by omega, by go_num, .inr ⟨g, rfl, HG.out, by rw [← HS.out]; exact HM.out.set k y⟩, HE.out.setCell (Nat.le_trans HXS.out HG.out) _⟩
      case measure => simp [intOf]; omega
    · obtain rfl : k = N := by omega
      have HF : Hid (k = 0 ∨ ∃ g, a = some ⟨g, 0, none⟩ ∧ w.heap.size ≤ g ∧ Mn wr g (ws.map (cutN W))) := by
        rcases hrow with h | ⟨g, e, hg, hm⟩
        · exact .inl h
        · refine .inr ⟨g, e, Nat.le_trans HXS.out hg, ?_⟩
          rw [← cutTo_all, HLn.out]
          exact hm
      have HE := hide1 hbe
      clear hrow hbe HW
      go_wp2
      go_ret2
      exact ⟨_, _, rfl, HF.out, HE.out⟩

theorem rnumbers_good (kl : List Nat) (W N : Nat) (w : World) (hk : kl.length = 32) (bk : Lt 256 kl) (h1 : 1 ≤ W) (h2 : W ≤ 64) (h3 : N ≤ 36) :
    Calls Try.prog 27 #[arr8 kl, .int .i64 (W : Int), .int .i64 (N : Int)] w (NPost w ((wrd kl 1 0 N).map (cutN W)) 0) := by
  refine (rnumbers_own kl W N w hk bk h1 h2 h3).mono ?_
  rintro e w' ⟨a, c, he, hr, hb⟩
  refine ⟨a, N, c, he, ?_, h3, hb⟩
  have hl : ((wrd kl 1 0 N).map (cutN W)).length = N := by rw [List.length_map, wrd_length]
  rcases hr with h | ⟨g, rfl, _, hm⟩
  · exact ⟨hl, fun j x hj => absurd (List.getElem?_eq_some_iff.1 hj).1 (by omega)⟩
  · exact hm.nl hl

theorem rnumbers_bad (kl : List Nat) (W n : Int) (w : World) (_hk : kl.length = 32) (h : numC W n ≠ 0) :
    Calls Try.prog 27 #[arr8 kl, .int .i64 W, .int .i64 n] w (NPost w [] (numC W n)) := by
  have hb : Below w.heap.size w (w.alloc (row8 46 kl)) := (Below.refl _ _).alloc (Nat.le_refl _) _
  unfold row8 at hb
  have HB := hide1 hb
  clear hb
  unfold arr8
  by_cases hW : 1 ≤ W ∧ W ≤ 64
  · have hn : ¬ (0 ≤ n ∧ n ≤ 36) := fun hh => h (by rw [numC, if_pos hW, if_pos hh])
    have hc : numC W n = 2 := by rw [numC, if_pos hW, if_neg hn]
    have g1 : decide (W < 1) = false := by rw [decide_eq_false_iff_not]; omega
    have g2 : decide ((64 : Int) < W) = false := by rw [decide_eq_false_iff_not]; omega
    rw [hc]
    by_cases hn0 : n < 0
    · have g3 : decide (n < 0) = true := decide_eq_true hn0
      clear hn h hc _hk
      go_enter Try.func27, Try.ntmps27
      go_wp2
      go_ret2
      exact ⟨_, _, _, rfl, nl_none _, by omega, HB.out⟩
    · have g3 : decide (n < 0) = false := decide_eq_false hn0
      have g4 : decide ((36 : Int) < n) = true := decide_eq_true (by omega)
      clear hn h hc _hk
      go_enter Try.func27, Try.ntmps27
      go_wp2
      go_ret2
      exact ⟨_, _, _, rfl, nl_none _, by omega, HB.out⟩
  · have hc : numC W n = 11 := by rw [numC, if_neg hW]
    rw [hc]
    by_cases hW1 : W < 1
    · have g1 : decide (W < 1) = true := decide_eq_true hW1
      clear hW h hc _hk
      go_enter Try.func27, Try.ntmps27
      go_wp2
      go_ret2
      exact ⟨_, _, _, rfl, nl_none _, by omega, HB.out⟩
    · have g1 : decide (W < 1) = false := decide_eq_false hW1
      have g2 : decide ((64 : Int) < W) = true := decide_eq_true (by omega)
      clear hW h hc _hk
      go_enter Try.func27, Try.ntmps27
      go_wp2
      go_ret2
      exact ⟨_, _, _, rfl, nl_none _, by omega, HB.out⟩

theorem rnumbers_any (kl : List Nat) (W n : Int) (w : World) (hk : kl.length = 32) (bk : Lt 256 kl) :
    Calls Try.prog 27 #[arr8 kl, .int .i64 W, .int .i64 n] w (NPost w (numL kl W n) (numC W n)) := by
  by_cases h : numC W n = 0
  · have h1 : (1 ≤ W ∧ W ≤ 64) ∧ 0 ≤ n ∧ n ≤ 36 := by
      unfold numC at h
      split at h
      · split at h
        · exact ⟨‹_›, ‹_›⟩
        · cases h
      · cases h
    obtain ⟨V, rfl⟩ := Int.eq_ofNat_of_zero_le (show 0 ≤ W by omega)
    obtain ⟨N, rfl⟩ := Int.eq_ofNat_of_zero_le (show 0 ≤ n by omega)
    rw [h, numL_yes (by omega) (by omega) (by omega)]
    exact rnumbers_good kl V N w hk bk (by omega) (by omega) (by omega)
  · rw [numL_no h]
    exact rnumbers_bad kl W n w hk h

/- the coins of seeds -/
def coin (s : List Nat) : Bool := at0 s 0 % 2 == 1
def coins (f : Nat → List Nat) (n : Nat) : List Bool := (List.range n).map fun j => coin (f j)
theorem coins_length (f : Nat → List Nat) (n : Nat) : (coins f n).length = n := by simp [coins]
theorem coins_get {f : Nat → List Nat} {n j : Nat} (h : j < n) : (coins f n)[j]? = some (coin (f j)) := by simp [coins, h]
theorem and_u8 : ∀ n : Nat, n < 256 → (bits .and .u8 (n : Int) 1 == 1) = (n % 2 == 1) := by decide +kernel

end Go.Proofs.Ytdmodknjcdkocaa.Ro
