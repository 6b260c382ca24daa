/- The document's Numbers; Coins. Pairs taken over; Chosen: the program's and the document's. -/
import Derived.Test.YtdmodknjcdkocaaJ30
import Derived.Test.YtdmodknjcdkocaaJ23
import Derived.Test.YtdmodknjcdkocaaJ28
namespace Go.Proofs.Ytdmodknjcdkocaa.Ro
open Go.RowKit Pg
set_option maxRecDepth 100000
attribute [local go_sem] not_any T.mf_any

/- numbers in a row of the call's own -/
structure Mn (w : World) (g : Nat) (l : List Nat) : Prop where
  at' : ∃ cur, w.heap[g]? = some (.cells cur 49 (0, 0)) ∧ cur.toList.take l.length = V.u64s l
theorem Mn.lt {w : World} {g : Nat} {l : List Nat} (h : Mn w g l) : g < w.heap.size := by
  obtain ⟨cur, hh, _⟩ := h.at'
  exact lt_heap hh
theorem Mn.cell {w : World} {g j : Nat} {l : List Nat} (h : Mn w g l) (hj : j < l.length) : w.cell? ⟨g, j, none⟩ = some (.int .u64 (at0 l j : Nat)) := by
  obtain ⟨cur, hh, ht⟩ := h.at'
  rw [cell_of_row w g j _ _ _ hh, ← Array.getElem?_toList, ← List.getElem?_take_of_lt hj, ht, V.u64s, List.getElem?_map, get_at0 hj]
  rfl
theorem Mn.frozen {w : World} {g : Nat} {l : List Nat} (h : Mn w g l) (j : Nat) : w.frozen? ⟨g, j, none⟩ = false := by
  obtain ⟨cur, hh, _⟩ := h.at'
  exact frozen_of_row w g j _ _ hh
theorem Mn.set {w : World} {g : Nat} {l : List Nat} (h : Mn w g l) (j x : Nat) : Mn (w.setCell ⟨g, j, none⟩ (.int .u64 (x : Int))) g (l.set j x) := by
  obtain ⟨cur, hh, ht⟩ := h.at'
  refine ⟨_, heap_setCell_same w g j _ _ _ hh, ?_⟩
  rw [Array.toList_setIfInBounds, List.length_set, List.take_set, ht, V.u64s, V.u64s, List.map_set]
theorem Mn.below {w w' : World} {g B : Nat} {l : List Nat} (h : Mn w g l) (hb : Below B w w') (hg : g < B) : Mn w' g l := by
  obtain ⟨cur, hh, ht⟩ := h.at'
  exact ⟨cur, (hb.block g hg).trans hh, ht⟩
theorem mn_own {w : World} {base n c : Nat} {a : Option Addr} {l : List Nat} (hl : l.length = n) (h : w.ownsRow base 49 1 (.slice a n c) n (V.u64s l)) : n = 0 ∨ ∃ g, a = some ⟨g, 0, none⟩ ∧ base ≤ g ∧ Mn w g l := by
  rcases h.2 with ⟨_, h0⟩ | ⟨g, cap, cur, hv, hg, hh, _, _, ht⟩
  · exact .inl h0
  · cases hv
    refine .inr ⟨g, rfl, hg, cur, hh, ?_⟩
    rw [hl]
    simpa using ht.2
theorem Mn.nl {w : World} {g : Nat} {l : List Nat} {n : Nat} (hl : l.length = n) (h : Mn w g l) : T.Nl w n (some ⟨g, 0, none⟩) l :=
  ⟨hl, fun j x hj => ⟨g, 0, rfl, by
    have hj' := (List.getElem?_eq_some_iff.1 hj).1
    rw [Nat.zero_add, h.cell hj', at0, hj]
    rfl⟩⟩

set_option maxHeartbeats 4000000 in
theorem rnumbers_own (kl : List Nat) (W N : Nat) (w : World) (hk : kl.length = 32) (bk : Lt 256 kl) (h1 : 1 ≤ W) (h2 : W ≤ 64) (h3 : N ≤ 36) :
    Calls Try.prog 27 #[arr8 kl, .int .i64 (W : Int), .int .i64 (N : Int)] w (fun e w' => ∃ a c, e = .returned (.tuple #[.slice a N c, .int .i64 0]) ∧ (N = 0 ∨ ∃ g, a = some ⟨g, 0, none⟩ ∧ w.heap.size ≤ g ∧ Mn w' g ((wrd kl 1 0 N).map (cutN W))) ∧ Below w.heap.size w w') := by
  have kw : Hid (∀ W, Calls Try.prog 41 #[arr8 kl, .int .u32 1, .int .i64 0, .int .i64 (N : Int)] W (fun e w' => ∃ a c, e = .returned (.tuple #[.slice a N c, .int .i64 0]) ∧ w'.ownsRow W.heap.size 49 1 (.slice a N c) N (V.u64s (wrd kl 1 0 N)) ∧ Below W.heap.size W w')) := fun w => rwords_own kl 1 0 N w hk bk (by omega) (by omega) (by omega)
  have HLn : Shy ((wrd kl 1 0 N).length = N) := ⟨wrd_length _ _ _ _⟩
  have HLt : Shy (∀ i, i < N → at0 (wrd kl 1 0 N) i < 18446744073709551616) := ⟨fun i h => wrd_lt h⟩
  have hi := hi23 hk
  have g1 : decide ((W : Int) < 1) = false := by rw [decide_eq_false_iff_not]; omega
  have g2 : decide ((64 : Int) < (W : Int)) = false := by rw [decide_eq_false_iff_not]; omega
  have g3 : decide ((N : Int) < 0) = false := by rw [decide_eq_false_iff_not]; omega
  have g4 : decide ((36 : Int) < (N : Int)) = false := by rw [decide_eq_false_iff_not]; omega
  have kc : Hid (∀ x : Nat, x < 18446744073709551616 → ∀ w, Calls Try.prog 42 #[.int .u64 (x : Int), .int .i64 (W : Int)] w fun e w' => e = .returned (.int .u64 ((cutN W x : Nat) : Int)) ∧ w' = w) := fun x hx w => rcut_any x W w hx h2
  generalize wrd kl 1 0 N = ws at *
  unfold arr8 at kw ⊢
  clear hk bk
  go_enter Try.func27, Try.ntmps27
  go_upto_region 1 with (fail)
  generalize hX : World.alloc w _ = X
  have x0 : X.heap[w.heap.size]? = some (row8 46 kl) := by rw [← hX]; exact heap_alloc_new _ _
  have xb : Below w.heap.size w X := by rw [← hX]; exact (Below.refl _ _).alloc (Nat.le_refl _) _
  have X0 := hide1 x0
  have XB := hide1 xb
  clear hX x0 xb
  go_wp2_with (first | (refine wpList_load_row rfl 46 (.tmp 3) rfl w.heap.size rfl 46 (u8s kl).toArray (0, 0) _ X0.out Try.underlying46 rfl hi ?_) | fail)
  go_at_call 41
  refine (kw.out _).mono ?_
  rintro e w1 ⟨a, c, rfl, hw, hb⟩
  have HW := hide1 (mn_own HLn.out hw)
  have HB := hide1 (XB.out.trans (hb.mono XB.out.size))
  have HXS := hide1 XB.out.size
  clear hw hb kw X0 XB
  go_wp2
  go_loopw [10] (fun v wr => ∃ k : Nat, k ≤ N ∧ v = .int .i64 k ∧ (N = 0 ∨ ∃ g, a = some ⟨g, 0, none⟩ ∧ X.heap.size ≤ g ∧ Mn wr g (cutTo W k ws)) ∧ Below w.heap.size w wr) (fun v _ => N - (intOf v).toNat)
  case atStart => exact ⟨0, Nat.zero_le _, rfl, by rw [cutTo_zero]; exact HW.out, HB.out⟩
  case round =>
    obtain ⟨k, hkN, rfl, hrow, hbe⟩ := hrel
    by_cases hlt : k < N
    · have bk : (k : Int) < (N : Int) := by omega
      have bk2 : (k : Int) < 36 := by omega
      obtain ⟨g, rfl, hg, hm⟩ : ∃ g, a = some ⟨g, 0, none⟩ ∧ X.heap.size ≤ g ∧ Mn wr g (cutTo W k ws) := hrow.resolve_left (by omega)
      have bx := HLt.out k hlt
      have cu := hm.cell (j := k) (by rw [cutTo_length, HLn.out]; exact hlt)
      rw [cutTo_at (by rw [HLn.out]; exact hlt)] at cu
      have fu := hm.frozen k
      have HS : Shy ((cutTo W k ws).set k (cutN W (at0 ws k)) = cutTo W (k + 1) ws) := ⟨cutTo_step (by rw [HLn.out]; exact hlt)⟩
      have kx := fun w => hide1 (kc.out _ bx w)
      have by' := cutN_lt (B := W) bx
      generalize at0 ws k = x at *
      generalize cutN W x = y at *
      have HM := hide1 hm
      have HG := hide1 hg
      have HE := hide1 hbe
      clear hrow hbe hm hg HW
      go_wp2_with (first | (go_at_call 42; refine (kx _).out.mono ?_; rintro e w' ⟨rfl, rfl⟩))
      go_roundw
      case rel => exact ⟨k + 1, by omega, by go_num, .inr ⟨g, rfl, HG.out, by rw [← HS.out]; exact HM.out.set k y⟩, HE.out.setCell (Nat.le_trans HXS.out HG.out) _⟩
      case measure => simp [intOf]; omega
    · obtain rfl : k = N := by omega
      have HF : Hid (k = 0 ∨ ∃ g, a = some ⟨g, 0, none⟩ ∧ w.heap.size ≤ g ∧ Mn wr g (ws.map (cutN W))) := by
        rcases hrow with h | ⟨g, e, hg, hm⟩
        · exact .inl h
        · refine .inr ⟨g, e, Nat.le_trans HXS.out hg, ?_⟩
          rw [← cutTo_all, HLn.out]
          exact hm
      have HE := hide1 hbe
      clear hrow hbe HW
      go_wp2
      go_ret2
      exact ⟨_, _, rfl, HF.out, HE.out⟩

theorem rnumbers_good (kl : List Nat) (W N : Nat) (w : World) (hk : kl.length = 32) (bk : Lt 256 kl) (h1 : 1 ≤ W) (h2 : W ≤ 64) (h3 : N ≤ 36) :
    Calls Try.prog 27 #[arr8 kl, .int .i64 (W : Int), .int .i64 (N : Int)] w (NPost w ((wrd kl 1 0 N).map (cutN W)) 0) := by
  refine (rnumbers_own kl W N w hk bk h1 h2 h3).mono ?_
  rintro e w' ⟨a, c, he, hr, hb⟩
  refine ⟨a, N, c, he, ?_, h3, hb⟩
  have hl : ((wrd kl 1 0 N).map (cutN W)).length = N := by rw [List.length_map, wrd_length]
  rcases hr with h | ⟨g, rfl, _, hm⟩
  · exact ⟨hl, fun j x hj => absurd (List.getElem?_eq_some_iff.1 hj).1 (by omega)⟩
  · exact hm.nl hl

theorem rnumbers_bad (kl : List Nat) (W n : Int) (w : World) (_hk : kl.length = 32) (h : numC W n ≠ 0) :
    Calls Try.prog 27 #[arr8 kl, .int .i64 W, .int .i64 n] w (NPost w [] (numC W n)) := by
  have hb : Below w.heap.size w (w.alloc (row8 46 kl)) := (Below.refl _ _).alloc (Nat.le_refl _) _
  unfold row8 at hb
  have HB := hide1 hb
  clear hb
  unfold arr8
  by_cases hW : 1 ≤ W ∧ W ≤ 64
  · have hn : ¬ (0 ≤ n ∧ n ≤ 36) := fun hh => h (by rw [numC, if_pos hW, if_pos hh])
    have hc : numC W n = 2 := by rw [numC, if_pos hW, if_neg hn]
    have g1 : decide (W < 1) = false := by rw [decide_eq_false_iff_not]; omega
    have g2 : decide ((64 : Int) < W) = false := by rw [decide_eq_false_iff_not]; omega
    rw [hc]
    by_cases hn0 : n < 0
    · have g3 : decide (n < 0) = true := decide_eq_true hn0
      clear hn h hc _hk
      go_enter Try.func27, Try.ntmps27
      go_wp2
      go_ret2
      exact ⟨_, _, _, rfl, nl_none _, by omega, HB.out⟩
    · have g3 : decide (n < 0) = false := decide_eq_false hn0
      have g4 : decide ((36 : Int) < n) = true := decide_eq_true (by omega)
      clear hn h hc _hk
      go_enter Try.func27, Try.ntmps27
      go_wp2
      go_ret2
      exact ⟨_, _, _, rfl, nl_none _, by omega, HB.out⟩
  · have hc : numC W n = 11 := by rw [numC, if_neg hW]
    rw [hc]
    by_cases hW1 : W < 1
    · have g1 : decide (W < 1) = true := decide_eq_true hW1
      clear hW h hc _hk
      go_enter Try.func27, Try.ntmps27
      go_wp2
      go_ret2
      exact ⟨_, _, _, rfl, nl_none _, by omega, HB.out⟩
    · have g1 : decide (W < 1) = false := decide_eq_false hW1
      have g2 : decide ((64 : Int) < W) = true := decide_eq_true (by omega)
      clear hW h hc _hk
      go_enter Try.func27, Try.ntmps27
      go_wp2
      go_ret2
      exact ⟨_, _, _, rfl, nl_none _, by omega, HB.out⟩

theorem rnumbers_any (kl : List Nat) (W n : Int) (w : World) (hk : kl.length = 32) (bk : Lt 256 kl) :
    Calls Try.prog 27 #[arr8 kl, .int .i64 W, .int .i64 n] w (NPost w (numL kl W n) (numC W n)) := by
  by_cases h : numC W n = 0
  · have h1 : (1 ≤ W ∧ W ≤ 64) ∧ 0 ≤ n ∧ n ≤ 36 := by
      unfold numC at h
      split at h
      · split at h
        · exact ⟨‹_›, ‹_›⟩
        · cases h
      · cases h
    obtain ⟨V, rfl⟩ := Int.eq_ofNat_of_zero_le (show 0 ≤ W by omega)
    obtain ⟨N, rfl⟩ := Int.eq_ofNat_of_zero_le (show 0 ≤ n by omega)
    rw [h, numL_yes (by omega) (by omega) (by omega)]
    exact rnumbers_good kl V N w hk bk (by omega) (by omega) (by omega)
  · rw [numL_no h]
    exact rnumbers_bad kl W n w hk h

/- the coins of seeds -/
def coin (s : List Nat) : Bool := at0 s 0 % 2 == 1
def coins (f : Nat → List Nat) (n : Nat) : List Bool := (List.range n).map fun j => coin (f j)
theorem coins_length (f : Nat → List Nat) (n : Nat) : (coins f n).length = n := by simp [coins]
theorem coins_get {f : Nat → List Nat} {n j : Nat} (h : j < n) : (coins f n)[j]? = some (coin (f j)) := by simp [coins, h]
theorem and_u8 : ∀ n : Nat, n < 256 → (bits .and .u8 (n : Int) 1 == 1) = (n % 2 == 1) := by decide +kernel

end Go.Proofs.Ytdmodknjcdkocaa.Ro

namespace Go.Proofs.Ytdmodknjcdkocaa.Ro
open Go.RowKit Pg
set_option maxRecDepth 100000
attribute [local go_sem] not_any T.mf_any

set_option maxHeartbeats 4000000 in
theorem pairs_any (m c : Nat) (a : Option Addr) (f : Nat → List Nat) (w : World) (hp : Pd w m a f) (hm : m ≤ 4096) :
    Calls Try.prog 9 #[.slice a m c] w fun e w' => ∃ g d, e = .returned (.slice g m d) ∧ Pd w' m g f ∧ Below w.heap.size w w' := by
  obtain ⟨i0, hi0, hz0, hz1, hz2⟩ := info_of info_pair
  have HP := hide1 hp
  have HG := hide1 hp.good
  clear hp
  go_enter Try.func9, Try.ntmps9
  go_wp2
  go_loopw [3, 4] (fun v3 v4 wr => ∃ k : Nat, k ≤ m ∧ v4 = .int .i64 k ∧ (∃ a c, v3 = .slice a k c) ∧ wr.ownsRow w.heap.size 58 64 v3 k (u8s (flt f (2 * k))) ∧ Below w.heap.size w wr) (fun _ v4 _ => m - (intOf v4).toNat)
  case atStart => exact ⟨0, Nat.zero_le _, rfl, ⟨none, 0, rfl⟩, World.ownsRow_nil _ _ _ _, Below.refl _ _⟩
  case round =>
    obtain ⟨k, hk, rfl, ⟨a3, c3, rfl⟩, hro, hbe⟩ := hrel
    by_cases hlt : k < m
    · have bk : (k : Int) < (m : Int) := by omega
      have bk2 : (k : Int) < 4096 := by omega
      obtain ⟨ga, oa, rfl, hga, ra⟩ := HP.out.at0 hlt
      have RA := hide1 (fun W (h : Below wr.heap.size wr W) => ra W (hbe.trans (h.mono hbe.size)) k hlt)
      have hsl := (HG.out (2 * k)).1
      have htl := (HG.out (2 * k + 1)).1
      have hi := hi23' hsl
      have hi2 := hi23' htl
      have HSF : Shy (flt f (2 * k) ++ (f (2 * k) ++ f (2 * k + 1)) = flt f (2 * (k + 1))) := ⟨by rw [flt_two]⟩
      generalize f (2 * k) = s at *
      generalize f (2 * k + 1) = t at *
      have HSL := hide1 (And.intro hsl htl)
      have HLs : Hid ((u8s (s ++ t)).length = 1 * 64) := by show (u8s (s ++ t)).length = 1 * 64; rw [u8s_length, List.length_append, hsl, htl]
      obtain ⟨ja, hja⟩ : ∃ j, j = oa + k * 64 := ⟨_, rfl⟩
      rw [← hja] at RA
      have eja : oa + k * 64 = ja := hja.symm
      have HRO := hide1 hro
      have HE := hide1 hbe
      clear hro hbe ra hsl htl hja hga
      go_upto_region 5 with (fail)
      refine region_f (F := [13]) (S := fun W' => Below wr.heap.size wr W') (by kernel_rfl) (Below.refl _ _).drew (fun hS => ?_)
      refine take_p 0 11 (.slice a3 k c3) rfl rfl (by kernel_rfl) (by kernel_rfl) (by kernel_rfl) (fun _ _ _ h => h) rfl (fun w => by go_simp) ?_
      try simp only [List.setIfInBounds_toArray, List.set_cons_zero, List.set_cons_succ]
      refine take_p 1 12 (.slice (some ⟨ga, oa, none⟩) m c) rfl rfl (by kernel_rfl) (by kernel_rfl) (by kernel_rfl) (fun _ _ _ h => h) rfl (fun w => by go_simp) ?_
      try simp only [List.setIfInBounds_toArray, List.set_cons_zero, List.set_cons_succ]
      refine take_p 2 13 (.int .i64 (k : Int)) rfl rfl (by kernel_rfl) (by kernel_rfl) (by kernel_rfl) (fun _ _ _ h => h) rfl (fun w => by go_simp) ?_
      try simp only [List.setIfInBounds_toArray, List.set_cons_zero, List.set_cons_succ]
      refine take_p 3 14 (.pointer (some ⟨ga, ja, none⟩)) rfl rfl (by kernel_rfl) (by kernel_rfl) (by kernel_rfl) (fun _ _ _ h => h) rfl (fun w => by go_simp) ?_
      try simp only [List.setIfInBounds_toArray, List.set_cons_zero, List.set_cons_succ]
      refine take_p 4 15 (.pointer (some ⟨ga, ja, none⟩)) rfl rfl (by kernel_rfl) (by kernel_rfl) (by kernel_rfl) (fun _ _ _ h => h) rfl (fun w => by go_simp) ?_
      try simp only [List.setIfInBounds_toArray, List.set_cons_zero, List.set_cons_succ]
      refine take_f 5 16 (.agg (u8s s).toArray) [11, 12, 13, 14] rfl rfl (by kernel_rfl) (by kernel_rfl) (by kernel_rfl) (by kernel_rfl) (by kernel_rfl) (by kernel_rfl) (fun _ _ _ h => h) rfl (fun w hSw => by exact exec_load_mid 46 _ rfl _ _ rfl (u8s s) _ ((RA.out _ hSw).1) Try.underlying46 rfl hi) hS ?_
      try simp only [List.setIfInBounds_toArray, List.set_cons_zero, List.set_cons_succ]
      refine take_p 6 17 (.slice (some ⟨ga, oa, none⟩) m c) rfl rfl (by kernel_rfl) (by kernel_rfl) (by kernel_rfl) (fun _ _ _ h => h) rfl (fun w => by go_simp) ?_
      try simp only [List.setIfInBounds_toArray, List.set_cons_zero, List.set_cons_succ]
      refine take_p 7 18 (.int .i64 (k : Int)) rfl rfl (by kernel_rfl) (by kernel_rfl) (by kernel_rfl) (fun _ _ _ h => h) rfl (fun w => by go_simp) ?_
      try simp only [List.setIfInBounds_toArray, List.set_cons_zero, List.set_cons_succ]
      refine take_p 8 19 (.pointer (some ⟨ga, ja, none⟩)) rfl rfl (by kernel_rfl) (by kernel_rfl) (by kernel_rfl) (fun _ _ _ h => h) rfl (fun w => by go_simp) ?_
      try simp only [List.setIfInBounds_toArray, List.set_cons_zero, List.set_cons_succ]
      refine take_p 9 20 (.pointer (some ⟨ga, ja + 32, none⟩)) rfl rfl (by kernel_rfl) (by kernel_rfl) (by kernel_rfl) (fun _ _ _ h => h) rfl (fun w => by go_simp) ?_
      try simp only [List.setIfInBounds_toArray, List.set_cons_zero, List.set_cons_succ]
      refine take_f 10 21 (.agg (u8s t).toArray) [11, 12, 13, 14] rfl rfl (by kernel_rfl) (by kernel_rfl) (by kernel_rfl) (by kernel_rfl) (by kernel_rfl) (by kernel_rfl) (fun _ _ _ h => h) rfl (fun w hSw => by exact exec_load_mid 46 _ rfl _ _ rfl (u8s t) _ ((RA.out _ hSw).2) Try.underlying46 rfl hi2) hS ?_
      try simp only [List.setIfInBounds_toArray, List.set_cons_zero, List.set_cons_succ]
      refine take_p 11 22 (.agg (u8s (s ++ t)).toArray) rfl rfl (by kernel_rfl) (by kernel_rfl) (by kernel_rfl) (fun _ _ _ h => h) rfl (fun w => by exact exec_pair _ _ rfl rfl rfl HSL.out.1 HSL.out.2) ?_
      try simp only [List.setIfInBounds_toArray, List.set_cons_zero, List.set_cons_succ]
      refine ready_f 12 (o := { dst := some 23, op := Op.buildSlice 28 1 #[(0, Operand.tmp 22)], type := 28, pos := "law.go:19", after := #[{ on := 11, ground := Ground.data }], guard := none }) (by kernel_rfl) rfl (fun K hK => ?_)
      rw [if_pos (by rfl)]
      unfold Oper.wp
      rw [exec_build_pair (s := s) (t := t) _ rfl rfl HSL.out.1 HSL.out.2]
      generalize hU : World.alloc _ _ = U
      have hU0 : U.heap[wr.heap.size]? = some (row8 58 (s ++ t)) := by rw [← hU]; exact heap_alloc_new wr.drew _
      have hS3 : Below wr.heap.size wr U := by rw [← hU]; exact hS.alloc hS.size _
      clear hU
      refine hK.out _ _ (fun _ _ => hS3) ?_
      clear hK K
      try simp only [Act.put, List.setIfInBounds_toArray, List.set_cons_zero, List.set_cons_succ]
      have RO3 := hide1 (own_below HRO.out hS3)
      have hz8 := hS3.size
      have hz9 := HE.out.size
      refine ready_f 13 (o := { dst := some 24, op := Op.call { callee := Callee.builtin Builtin.append, args := #[Operand.tmp 11, Operand.tmp 23], argTypes := #[28, 28] }, type := 28, pos := "law.go:19", after := #[{ on := 0, ground := Ground.data }, { on := 12, ground := Ground.data }], guard := none }) (by kernel_rfl) rfl (fun K hK => ?_)
      rw [if_pos (by rfl)]
      refine wp_append_lies _ _ _ 28 rfl w.heap.size 58 i0 (arr8 (zeros 64)) 64 64 Try.underlying28 hi0 hz0 hz1 hz2 (by kernel_rfl) (by decide) (.slice a3 k c3) k (u8s (flt f (2 * k))) rfl RO3.out ⟨wr.heap.size, 0, none⟩ 1 1 (u8s (s ++ t)) rfl HLs.out (World.news_of_block hU0) (u8s_one _) (by omega) (by unfold maxLen; omega) (by omega) (by omega) _ rfl ?_
      intro g8 cap8 w8 ro8 gr8 wh8 lt8
      rw [← u8s_append, HSF.out] at ro8
      have hb8 : Below w.heap.size U w8 := (Below.refl _ _).grown gr8 (by omega) (fun k hk => (RO3.out.lt k hk).1)
      have hS6 : Below w.heap.size wr w8 := (hS3.mono (by omega)).trans hb8
      refine hK.out _ _ (fun h => absurd (by decide) h) ?_
      clear hK K
      try simp only [Act.put, List.setIfInBounds_toArray, List.set_cons_zero, List.set_cons_succ]
      refine take_p 14 3 (.slice (some ⟨g8, 0, none⟩) (k + 1) cap8) rfl rfl (by kernel_rfl) (by kernel_rfl) (by kernel_rfl) (fun _ _ _ h => h) rfl (fun w => by go_simp) ?_
      try simp only [List.setIfInBounds_toArray, List.set_cons_zero, List.set_cons_succ]
      refine done_f (by kernel_rfl) ?_ _
      have RO8 := hide1 ro8
      have HB8 := hide1 (HE.out.trans hS6)
      clear ro8 hS6
      go_wp2
      go_roundw
      case rel => exact ⟨k + 1, by omega, by go_num, ⟨_, _, rfl⟩, RO8.out, HB8.out⟩
      case measure => simp [intOf]; omega
    · obtain rfl : k = m := by omega
      have HRO := hide1 hro
      have HE := hide1 hbe
      clear hro hbe
      go_wp2
      go_ret
      exact ⟨_, _, rfl, pd_own HG.out HRO.out, HE.out⟩

/- which seed a choice chooses -/
def pick (b : Bool) (s t : List Nat) : List Nat := if b then t else s
/- are the seeds those that the choices choose? -/
def okAt (f s : Nat → List Nat) (ch : List Bool) (j : Nat) : Prop := s j = pick (ch.getD j false) (f (2 * j)) (f (2 * j + 1))
instance (f s : Nat → List Nat) (ch : List Bool) (j : Nat) : Decidable (okAt f s ch j) := inferInstanceAs (Decidable (_ = _))
def chs (f s : Nat → List Nat) (ch : List Bool) (m n N : Nat) : Bool := decide (m = n ∧ m = N ∧ ∀ j, j < m → okAt f s ch j)
theorem chs_len {f s : Nat → List Nat} {ch : List Bool} {m n N : Nat} (h : ¬ (m = n ∧ m = N)) : chs f s ch m n N = false := decide_eq_false (fun hh => h ⟨hh.1, hh.2.1⟩)
theorem chs_no {f s : Nat → List Nat} {ch : List Bool} {m j : Nat} (hj : j < m) (h : ¬ okAt f s ch j) : chs f s ch m m m = false := decide_eq_false (fun hh => h (hh.2.2 j hj))
theorem chs_yes {f s : Nat → List Nat} {ch : List Bool} {m : Nat} (h : ∀ j, j < m → okAt f s ch j) : chs f s ch m m m = true := decide_eq_true ⟨rfl, rfl, h⟩

end Go.Proofs.Ytdmodknjcdkocaa.Ro
