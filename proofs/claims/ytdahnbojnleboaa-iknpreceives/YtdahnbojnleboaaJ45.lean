/- The document's numbers, rows and lists of rows; rows held against rows. The document's rows of columns. -/
import Derived.Test.YtdahnbojnleboaaJ43
import Derived.Test.YtdahnbojnleboaaJ44
namespace Go.Proofs.Ytdahnbojnleboaa.I
open Go.RowKit Pg
set_option maxRecDepth 100000
attribute [local go_sem] not_any T.mf_any

theorem rspan_any (F n : Nat) (w : World) (hF : F < 18446744073709551616) (hn : n ≤ 4194304) :
    Calls Try.prog 29 #[.int .u64 (F : Int), .int .i64 (n : Int)] w fun e w' => e = .returned (.int .i64 (nC F n : Nat)) ∧ w' = w := by
  by_cases h1 : n < 1
  · have d1 : decide ((n : Int) < 1) = true := decide_eq_true (by omega)
    rw [show nC F n = 2 from if_pos (.inl h1)]
    go_enter Try.func29, Try.ntmps29
    go_wp2
    go_ret
    exact ⟨rfl, rfl⟩
  · have d1 : decide ((n : Int) < 1) = false := decide_eq_false (by omega)
    by_cases h2 : 4096 < n
    · have d2 : decide ((4096 : Int) < (n : Int)) = true := decide_eq_true (by omega)
      rw [show nC F n = 2 from if_pos (.inr h2)]
      go_enter Try.func29, Try.ntmps29
      go_wp2
      go_ret
      exact ⟨rfl, rfl⟩
    · have d2 : decide ((4096 : Int) < (n : Int)) = false := decide_eq_false (by omega)
      by_cases h3 : 67108864 < F
      · have d3 : decide ((67108864 : Int) < (F : Int)) = true := decide_eq_true (by omega)
        rw [show nC F n = 24 by rw [nC, if_neg (by omega), if_pos (by omega)]]
        go_enter Try.func29, Try.ntmps29
        go_wp2
        go_ret
        exact ⟨rfl, rfl⟩
      · have d3 : decide ((67108864 : Int) < (F : Int)) = false := decide_eq_false (by omega)
        have e1 : IntKind.i64.wrap (F : Int) = (F : Int) := by rw [IntKind.wrap_i64]; omega
        obtain ⟨m, hm⟩ : ∃ m : Nat, m = F + n := ⟨_, rfl⟩
        have e2 : IntKind.i64.wrap ((F : Int) + (n : Int)) = (m : Int) := by rw [IntKind.wrap_i64]; omega
        have e3 : (F : Int) + (n : Int) = (m : Int) := by omega
        by_cases h4 : 67108864 < m
        · have d4 : decide ((67108864 : Int) < (m : Int)) = true := decide_eq_true (by omega)
          rw [show nC F n = 24 by rw [nC, if_neg (by omega), if_pos (by omega)]]
          clear hm
          go_enter Try.func29, Try.ntmps29
          go_wp2
          go_ret
          exact ⟨rfl, rfl⟩
        · have d4 : decide ((67108864 : Int) < (m : Int)) = false := decide_eq_false (by omega)
          rw [show nC F n = 0 by rw [nC, if_neg (by omega), if_neg (by omega)]]
          clear hm
          go_enter Try.func29, Try.ntmps29
          go_wp2
          go_ret
          exact ⟨rfl, rfl⟩

/- the same rows -/
theorem rows_same (w : World) (n c d : Nat) (a b : Option Addr) (R : Nat → Nat → Nat) (ha : T.Rws w n a R) (hb : T.Rws w n b R) (hn : n ≤ 4096) :
    Calls Try.prog 12 #[.slice a n c, .slice b n d] w fun e w' => e = .returned (.bool true) ∧ Below w.heap.size w w' := by
  have HA := hide1 ha
  have HB := hide1 hb
  have t1 : ((n : Int) != (n : Int)) = false := by simp
  clear ha hb
  go_enter Try.func12, Try.ntmps12
  go_wp2
  go_loopw [5] (fun iv wr => ∃ j : Nat, j ≤ n ∧ iv = .int .i64 j ∧ Below w.heap.size w wr) (fun iv _ => n - (intOf iv).toNat)
  case atStart => exact ⟨0, Nat.zero_le _, rfl, Below.refl _ _⟩
  case round =>
    obtain ⟨j, hj, rfl, hbe⟩ := hrel
    have HBE := hide1 hbe
    by_cases hlt : j < n
    · have hlt' : (j : Int) < (n : Int) := by omega
      obtain ⟨ga, oa, rfl, c0, c1⟩ := (HA.out.below hbe (Nat.le_refl _)).at' j hlt
      obtain ⟨gb, ob, rfl, d0, d1⟩ := (HB.out.below hbe (Nat.le_refl _)).at' j hlt
      obtain ⟨x0, hx0⟩ : ∃ x0, x0 = R j 0 := ⟨_, rfl⟩
      obtain ⟨x1, hx1⟩ : ∃ x1, x1 = R j 1 := ⟨_, rfl⟩
      rw [← hx0] at c0 d0
      rw [← hx1] at c1 d1
      have heq : ∀ w, (Op.equalIn 10000 28 (.agg #[.int .u64 (x0 : Int), .int .u64 (x1 : Int)]) (.agg #[.int .u64 (x0 : Int), .int .u64 (x1 : Int)])).run Try.prog w = .ok true w := fun w => by rw [eq_rows, decide_eq_true ⟨rfl, rfl⟩]
      have heg := guardR
      clear hx0 hx1 hbe
      go_wp2
      go_quiet (fail)
      go_wp2
      go_roundw
      case rel => exact ⟨j + 1, by omega, by go_num, HBE.out.trans (below_drewN' (Below.refl _ _) _)⟩
      case measure => simp [intOf]; omega
    · obtain rfl : j = n := by omega
      have hlt' : ¬ (j : Int) < (j : Int) := by omega
      clear hbe
      go_wp2
      go_ret
      exact ⟨rfl, HBE.out⟩

/- a row, bit by bit -/
theorem take_get (l : List Bool) (i j : Nat) : (l.take i).getD j false = (decide (j < i) && l.getD j false) := by
  rw [List.getD_eq_getElem?_getD, List.getD_eq_getElem?_getD, List.getElem?_take]
  by_cases h : j < i
  · rw [if_pos h, decide_eq_true h, Bool.true_and]
  · rw [if_neg h, decide_eq_false h, Bool.false_and]; rfl
theorem row_off (l : List Bool) {i p : Nat} (h : l.getD i false = false ∨ p ≠ i / 64) : T.chunk 64 (l.take (i + 1)) p = T.chunk 64 (l.take i) p := by
  apply Nat.eq_of_testBit_eq
  intro b
  rw [T.chunk_testBit, T.chunk_testBit, take_get, take_get]
  by_cases hb : b < 64
  · by_cases e : 64 * p + b = i
    · rcases h with h | h
      · rw [e, h]; simp
      · omega
    · rw [show decide (64 * p + b < i + 1) = decide (64 * p + b < i) by
        rw [Bool.eq_iff_iff, decide_eq_true_eq, decide_eq_true_eq]; omega]
  · rw [decide_eq_false hb, Bool.false_and, Bool.false_and]
theorem row_low (l : List Bool) (i : Nat) : T.chunk 64 (l.take i) (i / 64) < 2 ^ (i % 64) := by
  apply Nat.lt_pow_two_of_testBit
  intro b hb
  rw [T.chunk_testBit, take_get]
  by_cases h : b < 64
  · rw [show decide (64 * (i / 64) + b < i) = false from decide_eq_false (by omega)]; simp
  · rw [decide_eq_false h, Bool.false_and]
theorem row_on (l : List Bool) {i : Nat} (h : l.getD i false = true) : T.chunk 64 (l.take (i + 1)) (i / 64) = T.chunk 64 (l.take i) (i / 64) + 2 ^ (i % 64) := by
  have hlow := row_low l i
  rw [Nat.add_comm (T.chunk 64 (l.take i) (i / 64)), show 2 ^ (i % 64) + T.chunk 64 (l.take i) (i / 64) = 2 ^ (i % 64) * 1 + T.chunk 64 (l.take i) (i / 64) by rw [Nat.mul_one], Nat.two_pow_add_eq_or_of_lt hlow]
  apply Nat.eq_of_testBit_eq
  intro b
  rw [Nat.testBit_or, T.chunk_testBit, T.chunk_testBit, take_get, take_get, Nat.mul_one, Nat.testBit_two_pow]
  by_cases hb : b < 64
  · by_cases e : i % 64 = b
    · rw [show 64 * (i / 64) + b = i by omega, h, decide_eq_true hb, decide_eq_true e]; simp
    · rw [decide_eq_true hb, decide_eq_false e, show decide (64 * (i / 64) + b < i + 1) = decide (64 * (i / 64) + b < i) by
        rw [Bool.eq_iff_iff, decide_eq_true_eq, decide_eq_true_eq]; omega]
      simp
  · rw [decide_eq_false hb, decide_eq_false (show ¬ i % 64 = b by omega)]; simp
theorem chunk_lt64 (l : List Bool) (p : Nat) : T.chunk 64 l p < 18446744073709551616 := T.chunk64_lt l p

set_option maxHeartbeats 4000000 in
theorem row16_any (w : World) (c : Nat) (a : Option Addr) (l : List Bool) (hl : T.Bl w 128 a l) :
    Calls Try.prog 52 #[.slice a 128 c] w fun e w' => e = .returned (rw2 (T.chunk 64 l 0) (T.chunk 64 l 1)) ∧ Below w.heap.size w w' := by
  have HL := hide1 hl
  have hlen := hl.len
  clear hl
  obtain ⟨W0, hW0⟩ : ∃ W0, W0 = (w.alloc (.cells #[.int .u64 0, .int .u64 0] 28)).alloc (.cells #[.int .u64 0, .int .u64 0] 28) := ⟨_, rfl⟩
  have A0 := hide1 (At.start w (.cells #[.int .u64 0, .int .u64 0] 28) (.cells #[.int .u64 0, .int .u64 0] 28))
  rw [← hW0] at A0
  have z0 : T.chunk 64 (l.take 0) 0 = 0 := rfl
  have z1 : T.chunk 64 (l.take 0) 1 = 0 := rfl
  go_enter Try.func52, Try.ntmps52
  go_upto_region 2 with (fail)
  rw [← hW0]
  clear hW0
  go_wp2
  go_loopw [4] (fun iv wr => ∃ i : Nat, i ≤ 128 ∧ iv = .int .i64 i ∧ At w wr (.cells #[.int .u64 0, .int .u64 0] 28) (row2 (T.chunk 64 (l.take i) 0) (T.chunk 64 (l.take i) 1))) (fun iv _ => 128 - (intOf iv).toNat)
  case atStart => exact ⟨0, Nat.zero_le _, rfl, by rw [z0, z1]; exact A0.out⟩
  case round =>
    obtain ⟨i, hi, rfl, hA⟩ := hrel
    clear A0
    have HA := hide1 hA
    clear hA
    by_cases hlt : i < 128
    · have hlt' : (i : Int) < 128 := by omega
      obtain ⟨g, o, rfl, e0⟩ := HL.out.at' i (l[i]'(by omega)) (List.getElem?_eq_getElem (by omega))
      have e0' : w.cell? ⟨g, o + i, none⟩ = some (.bool (l.getD i false)) := by rw [e0, List.getD_eq_getElem?_getD, List.getElem?_eq_getElem (show i < l.length by omega)]; rfl
      have c0 := (HA.out.bel.cell (p := ⟨g, o + i, none⟩) (T.lt_cell e0')).trans e0'
      clear e0 e0'
      cases hb : l.getD i false with
      | false =>
        rw [hb] at c0
        have r0 := row_off l (i := i) (p := 0) (.inl hb)
        have r1 := row_off l (i := i) (p := 1) (.inl hb)
        have HR := hide1 (And.intro r0 r1)
        clear r0 r1 hb
        go_wp2
        go_roundw
        case rel => exact ⟨i + 1, by omega, by go_num, by rw [HR.out.1, HR.out.2]; exact HA.out⟩
        case measure => simp [intOf]; omega
      | true =>
        rw [hb] at c0
        obtain ⟨q, hq⟩ : ∃ q, q = i / 64 := ⟨_, rfl⟩
        obtain ⟨j, hj⟩ : ∃ j, j = i % 64 := ⟨_, rfl⟩
        have hj64 : j < 64 := by omega
        obtain ⟨P, hP⟩ : ∃ P : Nat, P = 2 ^ j := ⟨_, rfl⟩
        have hon := row_on l hb
        rw [← hq, ← hj, ← hP] at hon
        have hlt2 := chunk_lt64 (l.take (i + 1)) q
        rw [hon] at hlt2
        have hoff : ∀ p, p ≠ q → T.chunk 64 (l.take (i + 1)) p = T.chunk 64 (l.take i) p := fun p hp => row_off l (.inr (by rw [← hq]; exact hp))
        have wp := T.wrap_pow hj64
        rw [← hP] at wp
        have e1 : (i : Int) / 64 = (q : Int) := by omega
        have e2 : (i : Int) % 64 = (j : Int) := by omega
        have e3 : IntKind.u64.wrap (j : Int) = (j : Int) := by rw [IntKind.wrap_u64]; omega
        have hq2 : (q : Int) < 2 := by omega
        have HRow : Hid (∃ x0 x1, T.chunk 64 (l.take i) 0 = x0 ∧ T.chunk 64 (l.take i) 1 = x1) := ⟨_, _, rfl, rfl⟩
        obtain ⟨x, hx⟩ : ∃ x, x = T.chunk 64 (l.take i) q := ⟨_, rfl⟩
        rw [← hx] at hon hlt2
        obtain ⟨y, hy⟩ : ∃ y, y = x + P := ⟨_, rfl⟩
        have e4 : IntKind.u64.wrap ((x : Int) + (P : Int)) = (y : Int) := by rw [IntKind.wrap_u64]; omega
        rw [← hy] at hon
        have hcell : wr.cell? ⟨w.heap.size + 1, q, none⟩ = some (.int .u64 (x : Int)) := by
          obtain ⟨k0, k1, _⟩ := T.box2 HA.out.h2
          rcases (by omega : q = 0 ∨ q = 1) with h | h
          · rw [h, hx, h]; exact k0
          · rw [h, hx, h]; exact k1
        have hfz := frozen_of_row wr (w.heap.size + 1) q _ _ HA.out.h2
        have hgl := T.lt_heap HA.out.h2
        have HN : Hid (((wr.setCell ⟨w.heap.size + 1, q, none⟩ (.int .u64 (y : Int))).heap[w.heap.size + 1]? = some (row2 (T.chunk 64 (l.take (i + 1)) 0) (T.chunk 64 (l.take (i + 1)) 1)))) := by
          have h9 := heap_setCell_same wr (w.heap.size + 1) q _ _ (.int .u64 (y : Int)) HA.out.h2
          rw [h9]
          rcases (by omega : q = 0 ∨ q = 1) with h | h
          · rw [h] at hon hoff ⊢
            rw [hoff 1 (by omega), hon]; rfl
          · rw [h] at hon hoff ⊢
            rw [hoff 0 (by omega), hon]; rfl
        have HBE := hide1 (HA.out.bel.setCell (show w.heap.size ≤ (⟨w.heap.size + 1, q, none⟩ : Addr).block by simp) (.int .u64 (y : Int)))
        have HO := hide1 ((heap_setCell_other wr ⟨w.heap.size + 1, q, none⟩ w.heap.size (.int .u64 (y : Int)) (by simp)).trans HA.out.h1)
        clear hq hj hP hon hlt2 hoff hx hy HRow hb
        go_wp2
        go_roundw
        case rel => exact ⟨i + 1, by omega, by go_num, HBE.out, HO.out, HN.out⟩
        case measure => simp [intOf]; omega
    · obtain rfl : i = 128 := by omega
      have HT : Hid (l.take 128 = l) := List.take_of_length_le (by omega)
      have A9 := HA.out
      rw [HT.out] at A9
      obtain ⟨k0, k1, _⟩ := T.box2 A9.h2
      have B2 := T.box2 A9.h1
      obtain ⟨b0, b1, b2, b3, b4⟩ := B2
      have AA := hide1 A9
      clear HA A9
      go_wp2
      refine ret_row Try.results52 w.heap.size 28 #[.int .u64 (T.chunk 64 l 0 : Nat), .int .u64 (T.chunk 64 l 1 : Nat)] rfl (T.set_box2 AA.out.h1) Try.underlying28 (by kernel_rfl) rfl ?_
      exact ⟨rfl, (AA.out.bel.setCell (Nat.le_refl _) _).setCell (Nat.le_refl _) _⟩
end Go.Proofs.Ytdahnbojnleboaa.I

namespace Go.Proofs.Ytdahnbojnleboaa.I
open Go.RowKit Pg
set_option maxRecDepth 100000
attribute [local go_sem] not_any T.mf_any

/- bit j of each column -/
def crow (L : Nat → List Bool) (j k : Nat) : List Bool := (List.range k).map fun i => (L i).getD j false
theorem crow_length (L : Nat → List Bool) (j k : Nat) : (crow L j k).length = k := by simp [crow]
theorem crow_succ (L : Nat → List Bool) (j k : Nat) : crow L j (k + 1) = crow L j k ++ [(L k).getD j false] := by rw [crow, crow, List.range_succ, List.map_append]; rfl
theorem crow_get (L : Nat → List Bool) (j k i : Nat) (h : i < k) : (crow L j k).getD i false = (L i).getD j false := by
  rw [List.getD_eq_getElem?_getD, crow, List.getElem?_map, List.getElem?_range h]; rfl
theorem crow_row (L : Nat → List Bool) (j : Nat) {p : Nat} (hp : p < 2) : T.chunk 64 (crow L j 128) p = T.rowV L j p := by
  apply Nat.eq_of_testBit_eq
  intro b
  by_cases hb : b < 64
  · rw [T.rowV_bit _ _ _ _ hb, T.chunk_testBit, decide_eq_true hb, Bool.true_and, crow_get _ _ _ _ (by omega), Nat.mul_comm 64 p]
  · rw [high_bit (chunk_lt64 _ _) hb, high_bit (T.rowV_lt _ _ _) hb]

set_option maxHeartbeats 8000000 in
theorem rrows_any (w : World) (v : Value) (N : Nat) (aa : Nat → Option Addr) (nn cc : Nat → Nat) (L : Nat → List Bool) (hv : T.Brd w v 128 aa nn cc L) (hn : ∀ i, i < 128 → nn i = N) (hN : N ≤ 4096) :
    Calls Try.prog 31 #[v] w fun e w' => ∃ la lc, e = .returned (.slice la N lc) ∧ T.Rws w' N la (T.rowV L) ∧ Below w.heap.size w w' := by
  obtain ⟨i0, hi0, hz0, hz1, hz2⟩ := info_parts infoR
  obtain ⟨i4, hi4, hy0, hy1, hy2⟩ := info_of info4
  obtain ⟨gv, cv, rfl, hgv, hcs⟩ := hv.at'
  have HC := hide1 hcs
  have HBL : Hid (∀ i, i < 128 → T.Bl w N (aa i) (L i)) := fun i hi => by have := hv.bl i hi; rwa [hn i hi] at this
  have HNN := hide1 hn
  have c0 := hcs 0 (by omega)
  rw [hn 0 (by omega)] at c0
  have C0 := hide1 c0
  obtain ⟨M, hM⟩ : ∃ M, M = T.rowV L := ⟨_, rfl⟩
  have HM : Hid (∀ j p, p < 2 → M j p = T.chunk 64 (crow L j 128) p) := fun j p hp => by rw [hM, crow_row L j hp]
  have HML : Shy (∀ j p, M j p < 18446744073709551616) := ⟨by rw [hM]; exact T.rowV_lt L⟩
  rw [← hM]
  clear hv hcs hn c0 hM
  go_enter Try.func31, Try.ntmps31
  go_wp2
  go_loopw [3, 4] (fun ov iv wr => ∃ j : Nat, j ≤ N ∧ iv = .int .i64 j ∧ wr.ownsRow w.heap.size 28 2 ov j (T.rcs M j) ∧ Below w.heap.size w wr) (fun _ iv _ => N - (intOf iv).toNat)
  case atStart => exact ⟨0, Nat.zero_le _, rfl, World.ownsRow_nil _ _ _ _, Below.refl _ _⟩
  case round =>
    obtain ⟨j, hj, rfl, hown, hbe⟩ := hrel
    obtain ⟨la, lc, rfl⟩ := T.row_form hown
    have HO := hide1 hown
    have HBE := hide1 hbe
    have c0 := (hbe.cell (p := ⟨gv, 0, none⟩) hgv).trans C0.out
    clear hown
    by_cases hlt : j < N
    · have hlt' : (j : Int) < (N : Int) := by omega
      go_upto_region 6 with (fail)
      clear c0 hbe
      obtain ⟨wo, hwo⟩ : ∃ W, W = wr := ⟨_, rfl⟩
      subst hwo
      go_wp2
      go_loopw [5, 6] (fun ov iv wr => ∃ k : Nat, k ≤ 128 ∧ iv = .int .i64 k ∧ wr.ownsRow wo.heap.size 4 1 ov k (T.bools (crow L j k)) ∧ Below wo.heap.size wo wr) (fun _ iv _ => 128 - (intOf iv).toNat)
      case atStart => exact ⟨0, Nat.zero_le _, rfl, World.ownsRow_nil _ _ _ _, Below.refl _ _⟩
      case round =>
        obtain ⟨k, hk, rfl, hol, hbq⟩ := hrel
        obtain ⟨ia, ic, rfl⟩ := T.row_form hol
        have HOL := hide1 hol
        have HBQ := hide1 hbq
        clear hol
        by_cases hlk : k < 128
        · have hlk' : (k : Int) < 128 := by omega
          have hwr : Below w.heap.size w wr := HBE.out.trans (hbq.mono HBE.out.size)
          have ck := (hwr.cell (p := ⟨gv, k, none⟩) hgv).trans (HC.out k hlk)
          rw [HNN.out k hlk] at ck
          have hbl := (HBL.out k hlk).below hwr (Nat.le_refl _)
          have hlen : j < (L k).length := by rw [hbl.len]; exact hlt
          obtain ⟨gl, ol, ea, cl'⟩ := hbl.at' j ((L k)[j]'hlen) (List.getElem?_eq_getElem hlen)
          rw [ea] at ck
          have cy : wr.cell? ⟨gl, ol + j, none⟩ = some (.bool ((L k).getD j false)) := by rw [cl', List.getD_eq_getElem?_getD, List.getElem?_eq_getElem hlen]; rfl
          obtain ⟨y, hy⟩ : ∃ y, y = (L k).getD j false := ⟨_, rfl⟩
          have HY := hide1 hy
          rw [← hy] at cy
          have hsz := hbq.size
          obtain ⟨ck2, hck2⟩ : ∃ c, c = cc k := ⟨_, rfl⟩
          rw [← hck2] at ck
          clear hbq hwr hbl hlen ea cl' hy hck2
          go_wp2_with (at_builtin; go_must (refine wpList_append_own _ rfl _ _ 25 rfl wo.heap.size 4 i4 (.bool false) 1 1 Try.underlying25 hi4 hy0 hy1 hy2 rfl (by decide) _ _ _ rfl (HOL.out.alloc _) ⟨wr.heap.size, 0, none⟩ 1 1 [.bool y] rfl rfl (cell_one_new _ _ _) (by simp [Value.oneCell']) (by unfold maxLen; omega) (by omega) (by simp; omega) ?_); intro v' w2 hown' hgrow _)
          go_roundw
          case rel =>
            have e9 : T.bools (crow L j k) ++ [.bool y] = T.bools (crow L j (k + 1)) := by rw [crow_succ, HY.out]; simp [T.bools]
            rw [e9] at hown'
            exact ⟨k + 1, by omega, by go_num, hown', (HBQ.out.alloc HBQ.out.size _).grown hgrow (by simp; omega) (fun b hb => (HOL.out.lt b hb).1)⟩
          case measure => simp [intOf]; omega
        · obtain rfl : k = 128 := by omega
          have hbl := T.own_bl HOL.out (crow_length L j 128)
          have kR := row16_any wr ic ia _ hbl
          unfold rw2 at kR
          rw [← HM.out j 0 (by omega), ← HM.out j 1 (by omega)] at kR
          have KR := hide1 kR
          have hwr := HBE.out.trans (hbq.mono HBE.out.size)
          have HO2 := hide1 (own_below HO.out hbq)
          have HW := hide1 hwr
          obtain ⟨m0, hm0⟩ : ∃ m, m = M j 0 := ⟨_, rfl⟩
          obtain ⟨m1, hm1⟩ : ∃ m, m = M j 1 := ⟨_, rfl⟩
          have HMM := hide1 (And.intro hm0 hm1)
          rw [← hm0, ← hm1] at KR
          clear hbl kR hwr hbq HOL HBQ HO hm0 hm1
          go_wp2_with fail
          go_at_call 52
          refine KR.out.mono ?_
          rintro e w3 ⟨rfl, hb3⟩
          have HO3 := hide1 ((own_below HO2.out hb3).alloc (.cells #[.int .u64 (m0 : Int), .int .u64 (m1 : Int)] 28))
          have HW3 := HW.out.trans (hb3.mono HW.out.size)
          have B3 := hide1 (HW3.alloc HW3.size (.cells #[.int .u64 (m0 : Int), .int .u64 (m1 : Int)] 28))
          have hsz3 := HW3.size
          clear hb3 HW3 KR HO2 HW
          go_wp2_with (at_builtin; go_must (refine wpList_append_lies _ rfl _ _ 45 rfl w.heap.size 28 i0 (.agg #[.int .u64 0, .int .u64 0]) 2 16 Try.underlying45 hi0 hz0 hz1 hz2 rfl (by decide) _ _ _ rfl HO3.out ⟨w3.heap.size, 0, none⟩ 1 1 [.int .u64 (m0 : Int), .int .u64 (m1 : Int)] rfl rfl (T.two_new _ _ _ _) (by simp [Value.oneCell']) (by decide) (by unfold maxLen; omega) (by omega) (by simp; omega) (w3.heap.size + 1) (by simp) ?_); intro g9 cap9 w9 hown9 hgrow9 hlies9 _)
          go_roundw
          case rel =>
            rw [HMM.out.1, HMM.out.2, ← rcs_succ] at hown9
            exact ⟨j + 1, by omega, by go_num, hown9, B3.out.grown hgrow9 (by simp; omega) (fun b hb => (HO3.out.lt b hb).1)⟩
          case measure => simp [intOf]; omega
    · obtain rfl : j = N := by omega
      have hlt' : ¬ (j : Int) < (j : Int) := by omega
      have HR := hide1 (own_rws HO.out HML.out)
      clear hbe
      go_wp2
      go_ret
      exact ⟨la, ⟨lc, rfl⟩, HR.out, HBE.out⟩
end Go.Proofs.Ytdahnbojnleboaa.I
