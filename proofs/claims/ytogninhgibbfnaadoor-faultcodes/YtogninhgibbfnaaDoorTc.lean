/- The document's count of roots. -/
import Derived.Test.YtogninhgibbfnaaDoorTb
namespace Go.Proofs.YtogninhgibbfnaaDoor
open Go.RowKit Go.Shelf
set_option maxRecDepth 100000
attribute [local go_sem] not_any mf_any

theorem info3 : (Tryd.prog.info? 3).map (fun i => (i.zero, i.size, i.bytes)) = some (some (.int .i64 0), 1, 8) := by kernel_rfl

def ints (l : List Int) : List Value := l.map (Value.int .i64)
def cnt : Option Info → Int
  | none => 0
  | some i => if 1000000 < i.codes.length then 1000000 else i.codes.length

theorem cnt_le (o : Option Info) : 0 ≤ cnt o ∧ cnt o ≤ 1000000 := by
  cases o with
  | none => simp [cnt]
  | some i =>
    unfold cnt
    dsimp only
    split <;> omega

theorem ints_at {W : World} {base : Nat} {ov : Value} {k : Nat} {xs : List Int} (h : W.ownsRow base 3 1 ov k (ints xs)) {j : Nat} {x : Int} (hj : xs[j]? = some x) (hjk : j < k) : ∃ g cap, ov = .slice (some ⟨g, 0, none⟩) k cap ∧ W.cell? ⟨g, j, none⟩ = some (.int .i64 x) := by
  have hc := fun g => h.cells (g := g)
  rcases h.2 with ⟨rfl, h0⟩ | ⟨g, cap, cur, rfl, _⟩
  · omega
  · refine ⟨g, cap, rfl, ?_⟩
    have := hc g rfl j (.int .i64 x) (by simp [ints, hj])
    rwa [addr_add] at this

theorem lookI_get {is : List (Option Info)} {n : Nat} {i : Info} (h : lookI is (n : Int) = some i) : is[n]? = some (some i) := by
  unfold lookI look at h
  have h0 : ¬ (n : Int) < 0 := by omega
  simp only [h0, if_false, Int.toNat_natCast] at h
  cases hh : is[n]? with
  | none => simp [hh] at h
  | some o => simp [hh] at h; rw [h]

theorem take_cnt {is : List (Option Info)} {k n : Nat} {i : Info} (h : lookI is (n : Int) = some i) (hn : n < k) : ((is.take k).map cnt)[n]? = some (cnt (some i)) := by
  rw [List.getElem?_map, List.getElem?_take_of_lt hn, lookI_get h]
  rfl

set_option maxHeartbeats 4000000 in
theorem count_any (v : Value) (l : List Rw) (is : List (Option Info)) (hg : Good l is) (hl : l.length ≤ 1000) (W : World) (hv : RowsAt W v l) :
    Calls Tryd.prog 26 #[v] W fun e w' => ∃ ov, e = .returned ov ∧ w'.ownsRow W.heap.size 3 1 ov l.length (ints (is.map cnt)) ∧ Below W.heap.size W w' := by
  obtain ⟨i0, hi, hz0, hz1, hz2⟩ := info_parts info3
  have HV := hide1 hv
  have HG := hide1 hg
  obtain ⟨a, cap, rfl, _⟩ := hv
  clear hg
  go_enter Tryd.func26, Tryd.ntmps26
  go_wp2
  go_loopw [3, 4] (fun ov i wr => ∃ k : Nat, k ≤ l.length ∧ i = .int .i64 k ∧ wr.ownsRow W.heap.size 3 1 ov k (ints ((is.take k).map cnt)) ∧ Below W.heap.size W wr) (fun _ i _ => l.length - (intOf i).toNat)
  case atStart => exact ⟨0, Nat.zero_le _, rfl, World.ownsRow_nil _ _ _ _, Below.refl _ _⟩
  case round =>
    obtain ⟨k, hk, rfl, hrow, hB⟩ := hrel
    by_cases hlt : k < l.length
    · have hvr := HV.out.below hB
      obtain ⟨r, o, hr, ho, _, hf⟩ := HG.out.at hlt
      have hio : is[k]? = some o := by
        have h2 : k < is.length := by rw [← HG.out.1]; exact hlt
        have h3 : is[k]? = some is[k] := List.getElem?_eq_getElem h2
        rw [h3, ← lookI_nat h3, ho]
      obtain ⟨a', cap', hv', hc⟩ := hvr
      cases hv'
      obtain ⟨g, oo, rfl, c0, c1, c2, c3, c4⟩ := hc k r hr
      have hgl := lt_cell c0
      have HIO := hide1 hio
      clear hc hr hio ho
      have HNX : Hid (∀ (x : Int) (v' : Value) (w1 : World), cnt o = x → w1.ownsRow W.heap.size 3 1 v' (k + 1) (ints ((is.take k).map cnt) ++ [.int .i64 x]) → w1.ownsRow W.heap.size 3 1 v' (k + 1) (ints ((is.take (k + 1)).map cnt))) := by
        intro x v' w1 hx hown
        rw [take_snoc' is k o HIO.out]
        simpa [ints, hx] using hown
      rcases hf with ⟨h0, rfl⟩ | ⟨h0, _, rfl⟩ | ⟨h0, _, rfl⟩ | ⟨h0, h1, h2, i, h3, rfl⟩ | ⟨h0, h1, h2, h3, h4, i, j, h5, h6, rfl⟩
      · obtain ⟨la, lc, rfl⟩ := row_form hrow
        have HW := hide1 (And.intro hrow hB)
        clear hrow hB
        rw [h0] at c0
        go_wp2_with (at_builtin; go_must (refine wpList_append_own _ rfl _ _ 29 rfl W.heap.size 3 i0 (.int .i64 0) 1 8 Tryd.underlying29 hi hz0 hz1 hz2 rfl (by decide) _ _ _ rfl (HW.out.1.alloc _) ⟨wr.heap.size, 0, none⟩ 1 1 [.int .i64 (0)] rfl rfl (cell_one_new _ _ _) (by simp [Value.oneCell']) (by unfold maxLen; omega) (by omega) (by have : W.heap.size ≤ wr.heap.size := HW.out.2.size; simp; omega) ?_); intro v' w1 hown' hgrow _)
        go_roundw
        case rel => exact ⟨k + 1, by omega, by go_num, HNX.out (0) _ _ rfl hown', (HW.out.2.alloc HW.out.2.size _).grown hgrow (by have : W.heap.size ≤ wr.heap.size := HW.out.2.size; simp; omega) (fun b hb => (HW.out.1.lt b hb).1)⟩
        case measure => simp [intOf]; omega
      · obtain ⟨la, lc, rfl⟩ := row_form hrow
        have HW := hide1 (And.intro hrow hB)
        clear hrow hB
        rw [h0] at c0
        go_wp2_with (at_builtin; go_must (refine wpList_append_own _ rfl _ _ 29 rfl W.heap.size 3 i0 (.int .i64 0) 1 8 Tryd.underlying29 hi hz0 hz1 hz2 rfl (by decide) _ _ _ rfl (HW.out.1.alloc _) ⟨wr.heap.size, 0, none⟩ 1 1 [.int .i64 (1)] rfl rfl (cell_one_new _ _ _) (by simp [Value.oneCell']) (by unfold maxLen; omega) (by omega) (by have : W.heap.size ≤ wr.heap.size := HW.out.2.size; simp; omega) ?_); intro v' w1 hown' hgrow _)
        go_roundw
        case rel => exact ⟨k + 1, by omega, by go_num, HNX.out (1) _ _ (by simp [cnt, rootI]) hown', (HW.out.2.alloc HW.out.2.size _).grown hgrow (by have : W.heap.size ≤ wr.heap.size := HW.out.2.size; simp; omega) (fun b hb => (HW.out.1.lt b hb).1)⟩
        case measure => simp [intOf]; omega
      · obtain ⟨la, lc, rfl⟩ := row_form hrow
        have HW := hide1 (And.intro hrow hB)
        clear hrow hB
        rw [h0] at c0
        go_wp2_with (at_builtin; go_must (refine wpList_append_own _ rfl _ _ 29 rfl W.heap.size 3 i0 (.int .i64 0) 1 8 Tryd.underlying29 hi hz0 hz1 hz2 rfl (by decide) _ _ _ rfl (HW.out.1.alloc _) ⟨wr.heap.size, 0, none⟩ 1 1 [.int .i64 (1)] rfl rfl (cell_one_new _ _ _) (by simp [Value.oneCell']) (by unfold maxLen; omega) (by omega) (by have : W.heap.size ≤ wr.heap.size := HW.out.2.size; simp; omega) ?_); intro v' w1 hown' hgrow _)
        go_roundw
        case rel => exact ⟨k + 1, by omega, by go_num, HNX.out (1) _ _ (by simp [cnt, errnoI]) hown', (HW.out.2.alloc HW.out.2.size _).grown hgrow (by have : W.heap.size ≤ wr.heap.size := HW.out.2.size; simp; omega) (fun b hb => (HW.out.1.lt b hb).1)⟩
        case measure => simp [intOf]; omega
      · obtain ⟨na, hna⟩ : ∃ na : Nat, r.a = na := ⟨r.a.toNat, by omega⟩
        rw [hna] at h1 h2 h3 c3
        obtain ⟨x, hx⟩ : ∃ x, x = cnt (some i) := ⟨_, rfl⟩
        have hxl := (cnt_le (some i)).2
        have ht := take_cnt h3 (show na < k by omega)
        rw [← hx] at hxl ht
        obtain ⟨ga, ca, rfl, hca⟩ := ints_at hrow ht (by omega)
        have HC := hide1 (show cnt (some (wrapI r.wh i)) = x by rw [hx]; simp [cnt, wrapI])
        have HW := hide1 (And.intro hrow hB)
        clear hrow hB ht h3 hx
        rw [h0] at c0
        go_wp2_with (at_builtin; go_must (refine wpList_append_own _ rfl _ _ 29 rfl W.heap.size 3 i0 (.int .i64 0) 1 8 Tryd.underlying29 hi hz0 hz1 hz2 rfl (by decide) _ _ _ rfl (HW.out.1.alloc _) ⟨wr.heap.size, 0, none⟩ 1 1 [.int .i64 (x)] rfl rfl (cell_one_new _ _ _) (by simp [Value.oneCell']) (by unfold maxLen; omega) (by omega) (by have : W.heap.size ≤ wr.heap.size := HW.out.2.size; simp; omega) ?_); intro v' w1 hown' hgrow _)
        go_roundw
        case rel => exact ⟨k + 1, by omega, by go_num, HNX.out (x) _ _ HC.out hown', (HW.out.2.alloc HW.out.2.size _).grown hgrow (by have : W.heap.size ≤ wr.heap.size := HW.out.2.size; simp; omega) (fun b hb => (HW.out.1.lt b hb).1)⟩
        case measure => simp [intOf]; omega
      · obtain ⟨na, hna⟩ : ∃ na : Nat, r.a = na := ⟨r.a.toNat, by omega⟩
        obtain ⟨nb, hnb⟩ : ∃ nb : Nat, r.b = nb := ⟨r.b.toNat, by omega⟩
        rw [hna] at h1 h2 h5 c3
        rw [hnb] at h3 h4 h6 c4
        obtain ⟨x, hx⟩ : ∃ x, x = cnt (some i) := ⟨_, rfl⟩
        obtain ⟨y, hy⟩ : ∃ y, y = cnt (some j) := ⟨_, rfl⟩
        have hxl := cnt_le (some i)
        have hyl := cnt_le (some j)
        have ht := take_cnt h5 (show na < k by omega)
        have hu := take_cnt h6 (show nb < k by omega)
        rw [← hx] at hxl ht
        rw [← hy] at hyl hu
        obtain ⟨ga, ca, rfl, hca⟩ := ints_at hrow ht (by omega)
        obtain ⟨gb, cb, hgb, hcb⟩ := ints_at hrow hu (by omega)
        cases hgb
        have HC := hide1 (show cnt (some (pairI i j)) = if 1000000 < x + y then 1000000 else x + y by
          rw [hx, hy]
          simp only [cnt, pairI, List.length_append]
          split <;> split <;> split <;> split <;> omega)
        have HW := hide1 (And.intro hrow hB)
        clear hrow hB ht hu h5 h6 hx hy
        rw [h0] at c0
        by_cases hs : 1000000 < x + y
        · have HC' := hide1 (show cnt (some (pairI i j)) = 1000000 by rw [HC.out, if_pos hs])
          go_wp2
          go_quiet (fail)
          have hwz : W.heap.size ≤ wr.heap.size := HW.out.2.size
          have HW := hide1 (And.intro (row_drewN HW.out.1 nq) (below_drewN HW.out.2 nq))
          go_wp2_with (at_builtin; go_must (refine wpList_append_own _ rfl _ _ 29 rfl W.heap.size 3 i0 (.int .i64 0) 1 8 Tryd.underlying29 hi hz0 hz1 hz2 rfl (by decide) _ _ _ rfl (HW.out.1.alloc _) ⟨(wr.drewN nq).heap.size, 0, none⟩ 1 1 [.int .i64 (1000000)] rfl rfl (cell_one_new _ _ _) (by simp [Value.oneCell']) (by unfold maxLen; omega) (by omega) (by have : W.heap.size ≤ wr.heap.size := HW.out.2.size; simp; omega) ?_); intro v' w1 hown' hgrow _)
          go_roundw
          case rel => exact ⟨k + 1, by omega, by go_num, HNX.out (1000000) _ _ HC'.out hown', (HW.out.2.alloc HW.out.2.size _).grown hgrow (by have : W.heap.size ≤ wr.heap.size := HW.out.2.size; simp; omega) (fun b hb => (HW.out.1.lt b hb).1)⟩
          case measure => simp [intOf]; omega
        · have HC' := hide1 (show cnt (some (pairI i j)) = x + y by rw [HC.out, if_neg hs])
          go_wp2
          go_quiet (fail)
          have hwz : W.heap.size ≤ wr.heap.size := HW.out.2.size
          have HW := hide1 (And.intro (row_drewN HW.out.1 nq) (below_drewN HW.out.2 nq))
          go_wp2_with (at_builtin; go_must (refine wpList_append_own _ rfl _ _ 29 rfl W.heap.size 3 i0 (.int .i64 0) 1 8 Tryd.underlying29 hi hz0 hz1 hz2 rfl (by decide) _ _ _ rfl (HW.out.1.alloc _) ⟨(wr.drewN nq).heap.size, 0, none⟩ 1 1 [.int .i64 (x + y)] rfl rfl (cell_one_new _ _ _) (by simp [Value.oneCell']) (by unfold maxLen; omega) (by omega) (by have : W.heap.size ≤ wr.heap.size := HW.out.2.size; simp; omega) ?_); intro v' w1 hown' hgrow _)
          go_roundw
          case rel => exact ⟨k + 1, by omega, by go_num, HNX.out (x + y) _ _ HC'.out hown', (HW.out.2.alloc HW.out.2.size _).grown hgrow (by have : W.heap.size ≤ wr.heap.size := HW.out.2.size; simp; omega) (fun b hb => (HW.out.1.lt b hb).1)⟩
          case measure => simp [intOf]; omega
    · have : k = l.length := by omega
      subst this
      go_wp2
      go_ret
      rw [HG.out.1, List.take_length] at hrow
      rw [HG.out.1]
      exact ⟨_, rfl, hrow, hB⟩

end Go.Proofs.YtogninhgibbfnaaDoor
