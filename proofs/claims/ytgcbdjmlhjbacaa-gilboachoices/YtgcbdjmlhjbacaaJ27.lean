/- The chapter's example. -/
import Derived.Test.YtgcbdjmlhjbacaaJ26
namespace Go.Proofs.Ytgcbdjmlhjbacaa.Gi
open Go.RowKit Ri
set_option maxRecDepth 100000
attribute [local go_sem] Ri.not_any Ri.mf_any

theorem one_nl {w : World} {g x : Nat} (h : w.heap[g]? = some (.cells #[.int .u64 (x : Int)] 44 (0, 0))) : Nl w 1 (some ⟨g, 0, none⟩) [x] := one_Wo h
theorem one_small {x : Nat} (hx : x < 18446744073709551616) : Small [x] := fun j y hj => by
  match j, hj with
  | 0, hj =>
    obtain rfl := Option.some.inj hj
    exact hx
theorem ex_choices (W : World) (c : Nat) (a : Option Addr) (h : Nl W 1 a [5]) : Calls Try.prog 7 #[.int .i64 4, .slice a 1 c] W fun e w' => ∃ av, e = .returned (.tuple #[.agg #[.int .i64 4, .slice av (T.need 4 64) (T.need 4 64)], .int .i64 0]) ∧ T.Vc 0 w' 4 av [true, false, true, false] ∧ Below W.heap.size W w' := by
  refine (choices_any 4 1 c a [5] W (by decide) h (one_small (by decide))).mono ?_
  rw [show okC 4 [5] = true by kernel_rfl]
  rintro e w' ⟨n, av, he, hv, _, hb⟩
  rw [if_pos rfl, show chL 4 1 [5] = [true, false, true, false] by kernel_rfl] at hv
  obtain rfl : 4 = n := hv.len
  exact ⟨av, he, hv, hb⟩
theorem ex_spread (W : World) (c : Nat) (a : Option Addr) (hc : 1 ≤ c) (h : Nl W 1 a [3]) : Calls Try.prog 11 #[.int .i64 4, .int .i64 1, .slice a 1 c] W fun e w' => ∃ a1 c1, e = .returned (.tuple #[.slice a1 4 c1, .int .i64 0]) ∧ Nl w' 4 a1 [3, 6, 12, 8] ∧ Below W.heap.size W w' := by
  refine (spread_any 4 1 1 c a [3] W (by decide) hc h (one_small (by decide))).mono ?_
  rw [show okS 4 1 (1 : Int).toNat 1 [3] = true by kernel_rfl]
  rintro e w' ⟨a1, k1, c1, he, hn, hb⟩
  rw [if_pos rfl, show spL 4 1 1 [3] = [3, 6, 12, 8] by kernel_rfl] at hn
  obtain rfl : 4 = k1 := hn.len
  exact ⟨a1, c1, he, hn, hb⟩
theorem ex_rows (W : World) (ca c : Nat) (aa a : Option Addr) (hc : 1 ≤ c) (haa : Nl W 1 aa [5]) (h : Nl W 1 a [3]) : Calls Try.prog 15 #[.int .i64 4, .int .i64 1, .slice aa 1 ca, .slice a 1 c] W fun e w' => ∃ a1 c1, e = .returned (.tuple #[.slice a1 1 c1, .int .i64 0]) ∧ Nl w' 1 a1 [15] ∧ Below W.heap.size W w' := by
  refine (rows_any 4 1 1 1 ca c aa a [5] [3] W (by decide) (by decide) hc haa h).mono ?_
  rw [show okR 4 1 1 1 = true by kernel_rfl]
  rintro e w' ⟨a1, k1, c1, he, hn, hb⟩
  rw [if_pos rfl, show roL 4 1 1 [5] [3] = [15] by kernel_rfl] at hn
  obtain rfl : 1 = k1 := hn.len
  exact ⟨a1, c1, he, hn, hb⟩

/- what is kept on the way -/
structure Aw (w V : World) (gz : Nat) (av a1 a2 : Option Addr) : Prop where
  bel : Below w.heap.size w V
  zv : V.heap[gz]? = some (.cells #[.int .i64 4, .slice av (T.need 4 64) (T.need 4 64)] 25 (0, 0))
  vc : T.Vc 0 V 4 av [true, false, true, false]
  n1 : Nl V 4 a1 [3, 6, 12, 8]
  n2 : Nl V 1 a2 [15]
theorem Aw.to {w V V' : World} {gz : Nat} {av a1 a2 : Option Addr} (h : Aw w V gz av a1 a2) (hb : Below V.heap.size V V') : Aw w V' gz av a1 a2 :=
  ⟨h.bel.trans (hb.mono h.bel.size), (hb.block _ (lt_heap h.zv)).trans h.zv, h.vc.below hb (Nat.le_refl _), h.n1.below hb (Nat.le_refl _), h.n2.below hb (Nat.le_refl _)⟩
theorem row_bl {w : World} {g : Nat} (h : w.heap[g]? = some (.cells #[.bool true, .bool false, .bool true, .bool false] 4 (0, 0))) : T.Bl w 4 (some ⟨g, 0, none⟩) [true, false, true, false] := bl_row (l := [true, false, true, false]) h
theorem row_nl {w : World} {g : Nat} (h : w.heap[g]? = some (.cells #[.int .u64 3, .int .u64 6, .int .u64 12, .int .u64 8] 44 (0, 0))) : Nl w 4 (some ⟨g, 0, none⟩) [3, 6, 12, 8] := nl_row (ws := [3, 6, 12, 8]) h

set_option maxHeartbeats 8000000 in
theorem awake_any (w : World) : Calls Try.prog 6 #[] w fun e w' => e = .returned (.bool true) ∧ Below w.heap.size w w' := by
  go_enter Try.func6, Try.ntmps6
  go_wp2_with fail
  generalize hX : World.alloc w _ = X
  have x0 : X.heap[w.heap.size]? = some (.cells #[.int .u64 5] 44 (0, 0)) := by rw [← hX]; exact heap_alloc_new _ _
  have xb : Below w.heap.size w X := by rw [← hX]; exact below1 _
  obtain ⟨gx, hgx⟩ : ∃ g, g = w.heap.size := ⟨_, rfl⟩
  rw [← hgx] at x0
  rw [← hgx]
  go_at_call 7
  refine (ex_choices X _ _ (one_nl x0)).mono ?_
  rintro e w1 ⟨av, rfl, hv1, hb1⟩
  have HB1 := hide1 (xb.trans (hb1.mono xb.size))
  have HV1 := hide1 hv1
  clear hX x0 xb hgx hv1 hb1
  go_upto_region 2 with (fail)
  generalize hZ : World.alloc w1 _ = Z
  have zv : Z.heap[w1.heap.size]? = some (.cells #[.int .i64 4, .slice av (T.need 4 64) (T.need 4 64)] 25 (0, 0)) := by rw [← hZ]; exact heap_alloc_new _ _
  have zb : Below w1.heap.size w1 Z := by rw [← hZ]; exact below1 _
  obtain ⟨gz, hgz⟩ : ∃ g, g = w1.heap.size := ⟨_, rfl⟩
  rw [← hgz] at zv
  rw [← hgz]
  have HZV := hide1 zv
  have HZB := hide1 (HB1.out.trans (zb.mono HB1.out.size))
  have HZC : Hid (T.Vc 0 Z 4 av [true, false, true, false]) := HV1.out.below zb (Nat.le_refl _)
  clear hZ zv zb hgz HB1 HV1
  go_wp2_with fail
  generalize hX : World.alloc Z _ = X
  have x0 : X.heap[Z.heap.size]? = some (.cells #[.int .u64 3] 44 (0, 0)) := by rw [← hX]; exact heap_alloc_new _ _
  have xb : Below Z.heap.size Z X := by rw [← hX]; exact below1 _
  obtain ⟨gx, hgx⟩ : ∃ g, g = Z.heap.size := ⟨_, rfl⟩
  rw [← hgx] at x0
  rw [← hgx]
  go_at_call 11
  refine (ex_spread X _ _ (by decide) (one_nl x0)).mono ?_
  rintro e w2 ⟨a1, c1, rfl, hn1, hb2⟩
  have hb := xb.trans (hb2.mono xb.size)
  have HB2 := hide1 (HZB.out.trans (hb.mono HZB.out.size))
  have HV2 : Hid (T.Vc 0 w2 4 av [true, false, true, false]) := HZC.out.below hb (Nat.le_refl _)
  have HZ2 := hide1 ((hb.block _ (lt_heap HZV.out)).trans HZV.out)
  have HN1 := hide1 hn1
  clear hX x0 xb hgx hb2 hb hn1 HZV HZB HZC
  go_wp2_with fail
  generalize hX : World.alloc (World.alloc w2 _) _ = X
  have x0 : X.heap[w2.heap.size]? = some (.cells #[.int .u64 5] 44 (0, 0)) := by rw [← hX]; exact (Below.heap_alloc _ _ _ (by simp)).trans (heap_alloc_new _ _)
  have x1 : X.heap[w2.heap.size + 1]? = some (.cells #[.int .u64 3] 44 (0, 0)) := by
    have h := heap_alloc_new (w2.alloc (.cells #[.int .u64 5] 44)) (.cells #[.int .u64 3] 44)
    rw [World.size_alloc] at h
    rw [← hX]
    exact h
  have xb : Below w2.heap.size w2 X := by rw [← hX]; exact below2 _ _
  obtain ⟨gx, hgx⟩ : ∃ g, g = w2.heap.size := ⟨_, rfl⟩
  rw [← hgx] at x0 x1
  rw [← hgx]
  go_at_call 15
  refine (ex_rows X _ _ _ _ (by decide) (one_nl x0) (one_nl x1)).mono ?_
  rintro e w3 ⟨a2, c2, rfl, hn2, hb3⟩
  have hb := xb.trans (hb3.mono xb.size)
  have A3 : Hid (Aw w w3 gz av a1 a2) := ⟨HB2.out.trans (hb.mono HB2.out.size), (hb.block _ (lt_heap HZ2.out)).trans HZ2.out, HV2.out.below hb (Nat.le_refl _), HN1.out.below hb (Nat.le_refl _), hn2⟩
  have HZA := hide1 A3.out.zv
  clear hX x0 x1 xb hgx hb3 hb hn2 HB2 HV2 HZ2 HN1
  obtain ⟨c0, c1, _, _, _⟩ := T.box2 HZA.out
  go_wp2_with fail
  clear c0 c1
  go_at_call 10
  refine (T.bools_any 0 w3 4 av _ A3.out.vc (by omega)).mono ?_
  rintro e w4 ⟨a4, rfl, hl4, hb4⟩
  have A4 := hide1 (A3.out.to hb4)
  have HL4 := hide1 hl4
  clear hl4 hb4 A3 HZA
  go_wp2_with fail
  generalize hX : World.alloc w4 _ = X
  have x0 : X.heap[w4.heap.size]? = some (.cells #[.bool true, .bool false, .bool true, .bool false] 4 (0, 0)) := by rw [← hX]; exact heap_alloc_new _ _
  have xb : Below w4.heap.size w4 X := by rw [← hX]; exact below1 _
  go_at_call 9
  refine (T.same_any X 4 4 4 4 a4 _ _ _ (HL4.out.below xb (Nat.le_refl _)) (row_bl x0) (by omega) (by omega)).mono ?_
  rintro e w5 ⟨rfl, q5, hq⟩
  have A5 := hide1 (A4.out.to (xb.trans ((show Below X.heap.size X w5 by rw [hq]; exact below_drewN (Below.refl _ _) q5).mono xb.size)))
  clear hX x0 xb hq A4 HL4
  go_wp2_with fail
  generalize hX : World.alloc w5 _ = X
  have x0 : X.heap[w5.heap.size]? = some (.cells #[.int .u64 3, .int .u64 6, .int .u64 12, .int .u64 8] 44 (0, 0)) := by rw [← hX]; exact heap_alloc_new _ _
  have xb : Below w5.heap.size w5 X := by rw [← hX]; exact below1 _
  go_at_call 17
  refine (T.nums_any X 4 c1 4 a1 _ [3, 6, 12, 8] (t_nl (A5.out.to xb).n1) (t_nl (row_nl x0)) (by omega)).mono ?_
  rintro e w6 ⟨rfl, q6, hq⟩
  have A6 := hide1 (A5.out.to (xb.trans ((show Below X.heap.size X w6 by rw [hq]; exact below_drewN (Below.refl _ _) q6).mono xb.size)))
  clear hX x0 xb hq A5
  go_wp2_with fail
  generalize hX : World.alloc w6 _ = X
  have x0 : X.heap[w6.heap.size]? = some (.cells #[.int .u64 15] 44 (0, 0)) := by rw [← hX]; exact heap_alloc_new _ _
  have xb : Below w6.heap.size w6 X := by rw [← hX]; exact below1 _
  go_at_call 17
  refine (T.nums_any X 1 c2 1 a2 _ [15] (t_nl (A6.out.to xb).n2) (t_nl (one_nl x0)) (by omega)).mono ?_
  rintro e w7 ⟨rfl, q7, hq⟩
  have A7 := hide1 (A6.out.to (xb.trans ((show Below X.heap.size X w7 by rw [hq]; exact below_drewN (Below.refl _ _) q7).mono xb.size)))
  clear hX x0 xb hq A6
  go_wp2
  go_ret
  exact ⟨rfl, A7.out.bel⟩
end Go.Proofs.Ytgcbdjmlhjbacaa.Gi
