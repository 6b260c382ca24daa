/- The chapter's example. -/
import Derived.Test.YtdmodknjcdkocaaJ44
namespace Go.Proofs.Ytdmodknjcdkocaa.Co
open Go.RowKit Pg Ro
set_option maxRecDepth 100000
attribute [local go_sem] not_any T.mf_any

theorem one_nl {w : World} {g x : Nat} (h : w.heap[g]? = some (.cells #[.int .u64 (x : Int)] 49 (0, 0))) : T.Nl w 1 (some ⟨g, 0, none⟩) [x] := nl_wrow (ws := [x]) rfl h
theorem one_bl {w : World} {g : Nat} (h : w.heap[g]? = some (.cells #[.bool true] 4 (0, 0))) : T.Bl w 1 (some ⟨g, 0, none⟩) [true] := ⟨rfl, fun j x hj => by
  match j, hj with
  | 0, hj =>
    obtain rfl := Option.some.inj hj
    refine ⟨g, 0, rfl, ?_⟩
    rw [cell_of_row w g _ _ _ _ h]
    rfl⟩
/- what is kept on the way -/
structure Aw (w V : World) (gz : Nat) (av a1 a2 : Option Addr) (F G : Nat → Nat) : Prop where
  bel : Below w.heap.size w V
  zv : V.heap[gz]? = some (.cells #[.int .i64 1, .slice av (T.need 1 64) (T.need 1 64)] 37 (0, 0))
  vc : T.Vc 0 V 1 av [true]
  n1 : T.Nl V 1 a1 (tl F 1)
  n2 : T.Nl V 1 a2 (tl G 1)
theorem Aw.to {w V V' : World} {gz : Nat} {av a1 a2 : Option Addr} {F G : Nat → Nat} (h : Aw w V gz av a1 a2 F G) (hb : Below V.heap.size V V') : Aw w V' gz av a1 a2 F G :=
  ⟨h.bel.trans (hb.mono h.bel.size), (hb.block _ (lt_heap h.zv)).trans h.zv, h.vc.below hb (Nat.le_refl _), h.n1.below hb (Nat.le_refl _), h.n2.below hb (Nat.le_refl _)⟩
theorem tl_one (F : Nat → Nat) : tl F 1 = [F 0] := rfl
theorem some_0 : someF 0 = sd1 1 := pr_0 _ _ 0
theorem some_1 : someF 1 = sd1 2 := pr_1 _ _ 0

set_option maxHeartbeats 8000000 in
theorem awake_any (w : World) : Calls Try.prog 7 #[] w fun e w' => e = .returned (.bool true) ∧ Below w.heap.size w w' := by
  have ho : ok 8 1 1 1 [7] = true := by kernel_rfl
  obtain ⟨F, hF⟩ : ∃ F, F = fixF 8 1 someF (at0 [7]) := ⟨_, rfl⟩
  obtain ⟨G, hG⟩ : ∃ G, G = ownF 8 1 someF := ⟨_, rfl⟩
  have hFl : ∀ k, F k < 2 ^ 8 := fun k => by rw [hF]; exact fixF_lt 8 1 someF (at0 [7]) k
  have hGl : ∀ k, G k < 2 ^ 8 := fun k => by rw [hG]; exact ownF_lt 8 1 someF k
  have HFS : Shy (Ri.Small (tl F 1)) := ⟨tl_lt64 (by decide) hFl⟩
  have HOK : Shy (ok ((8 : Nat) : Int) ((1 : Nat) : Int) 1 1 (tl F 1) = true) := ⟨ok_of (by decide) (by decide) (by decide) (by decide) rfl (tl_fits (by decide) (by decide) (fun k _ => hFl k))⟩
  have kS : Hid (∀ W c a ax, Pd W 1 a someF → T.Nl W 1 ax [7] → Calls Try.prog 8 #[.int .i64 8, .int .i64 1, .slice a 1 c, .slice ax 1 1] W fun e w' => ∃ a1 c1 a2 c2, e = .returned (.tuple #[.slice a1 1 c1, .slice a2 1 c2, .int .i64 0]) ∧ T.Nl w' 1 a1 (tl F 1) ∧ T.Nl w' 1 a2 (tl G 1) ∧ Below W.heap.size W w' ∧ 1 ≤ c1) := fun W c a ax hp hx => by
    rw [hF, hG]
    exact send_good (send_any 8 1 1 1 c 1 a ax someF [7] W hp hx (fun j x hj => by
      match j, hj with
      | 0, hj =>
        obtain rfl := Option.some.inj hj
        decide) (by decide) (by decide) (by decide)) ho
  have kR : Hid (∀ W av ax a cx s ch, 1 ≤ cx → Sd W 1 a s → T.Vc 0 W 1 av ch → T.Nl W 1 ax (tl F 1) → Calls Try.prog 13 #[.int .i64 8, .int .i64 1, .slice a 1 1, .agg #[.int .i64 1, .slice av (T.need 1 64) (T.need 1 64)], .slice ax 1 cx] W fun e w' => ∃ a1 c1, e = .returned (.tuple #[.slice a1 1 c1, .int .i64 0]) ∧ T.Nl w' 1 a1 (tl (gotF 8 1 s (fun j => ch.getD j false) (at0 (tl F 1))) 1) ∧ Below W.heap.size W w') := fun W av ax a cx s ch hcx hs hv hx =>
    receive_good (receive_any 8 1 1 1 1 1 cx a av ax s ch (tl F 1) W hs hv hx HFS.out (by decide) (by decide) (by decide) hcx) HOK.out
  have kO : Hid (∀ W ca cb a b K, T.Nl W 1 a (tl G 1) → T.Nl W 1 b (tl K 1) → Calls Try.prog 16 #[.int .i64 8, .slice a 1 ca, .slice b 1 cb] W fun e w' => ∃ a1 c1, e = .returned (.tuple #[.slice a1 1 c1, .int .i64 0]) ∧ T.Nl w' 1 a1 (tl (fun k => (G k + K k) % 2 ^ 8) 1) ∧ Below W.heap.size W w') := fun W ca cb a b K ha hb =>
    open_good (open_any 8 1 1 ca cb a b (tl G 1) (tl K 1) W ha hb (by decide)) (by decide) (by decide)
  have E1 : Shy (tl (fun k => (G k + gotF 8 1 (fun _ => sd1 2) (fun j => [true].getD j false) (at0 (tl F 1)) k) % 2 ^ 8) 1 = [7]) := ⟨by
    rw [tl_one, hG, opens (X := at0 [7]) (by decide) (by decide) (by decide) (by rw [show (2 * (0 / 1) + 1) = 1 from rfl, some_1]; rfl) (by rw [tl_one, hF]; rfl)]
    rfl⟩
  have E0 : Shy (tl (fun k => (G k + gotF 8 1 (fun _ => sd1 1) (fun j => [false].getD j false) (at0 (tl F 1)) k) % 2 ^ 8) 1 = [0]) := ⟨by
    rw [tl_one, hG, opens (X := at0 [7]) (by decide) (by decide) (by decide) (by rw [show (2 * (0 / 1)) = 0 from rfl, some_0]; rfl) (by rw [tl_one, hF]; rfl)]
    rfl⟩
  clear hF hG hFl hGl HFS HOK ho
  go_enter Try.func7, Try.ntmps7
  go_wp2_with fail
  go_at_call 18
  refine (some_any _).mono ?_
  rintro e w1 ⟨g0, rfl, hp1, hb1⟩
  go_wp2_with fail
  go_at_call 9
  refine (pairs_any 1 1 _ someF w1 hp1 (by omega)).mono ?_
  rintro e w2 ⟨g2, d2, rfl, hp2, hb2⟩
  have B2 := hide1 (hb1.trans (hb2.mono hb1.size))
  have P2 := hide1 hp2
  clear hp1 hb1 hb2 hp2
  go_wp2_with fail
  generalize hX : World.alloc w2 _ = X
  have x0 : X.heap[w2.heap.size]? = some (.cells #[.int .u64 7] 49 (0, 0)) := by rw [← hX]; exact heap_alloc_new _ _
  have xb : Below w2.heap.size w2 X := by rw [← hX]; exact (Below.refl _ _).alloc (Nat.le_refl _) _
  obtain ⟨gx, hgx⟩ : ∃ g, g = w2.heap.size := ⟨_, rfl⟩
  rw [← hgx] at x0
  rw [← hgx]
  go_at_call 8
  refine (kS.out X _ _ _ (P2.out.below xb (Nat.le_refl _)) (one_nl x0)).mono ?_
  rintro e w3 ⟨a1, c1, a2, c2, rfl, n1, n2, hb3, hc1⟩
  have B3 := hide1 (B2.out.trans ((xb.trans (hb3.mono xb.size)).mono B2.out.size))
  have N1 := hide1 n1
  have N2 := hide1 n2
  clear hX x0 xb hgx n1 n2 hb3 B2 P2 kS
  go_wp2_with fail
  generalize hX : World.alloc w3 _ = X
  have x0 : X.heap[w3.heap.size]? = some (.cells #[.bool true] 4 (0, 0)) := by rw [← hX]; exact heap_alloc_new _ _
  have xb : Below w3.heap.size w3 X := by rw [← hX]; exact (Below.refl _ _).alloc (Nat.le_refl _) _
  obtain ⟨gy, hgy⟩ : ∃ g, g = w3.heap.size := ⟨_, rfl⟩
  rw [← hgy] at x0
  rw [← hgy]
  go_at_call 12
  refine (T.of_any X 1 1 _ [true] (one_bl x0) (by omega)).mono ?_
  rintro e w4 ⟨av, rfl, hv, hb4⟩
  have hb := xb.trans (hb4.mono xb.size)
  have B4 := hide1 (B3.out.trans (hb.mono B3.out.size))
  have N1 := hide1 (N1.out.below hb (Nat.le_refl _))
  have N2 := hide1 (N2.out.below hb (Nat.le_refl _))
  have HV := hide1 hv
  clear hX x0 xb hgy hv hb4 hb B3
  go_upto_region 3 with (fail)
  generalize hZ : World.alloc w4 _ = Z
  have zv : Z.heap[w4.heap.size]? = some (.cells #[.int .i64 1, .slice av (T.need 1 64) (T.need 1 64)] 37 (0, 0)) := by rw [← hZ]; exact heap_alloc_new _ _
  have zb : Below w4.heap.size w4 Z := by rw [← hZ]; exact (Below.refl _ _).alloc (Nat.le_refl _) _
  obtain ⟨gz, hgz⟩ : ∃ g, g = w4.heap.size := ⟨_, rfl⟩
  rw [← hgz] at zv
  rw [← hgz]
  have A3 : Hid (Aw w Z gz av a1 a2 F G) := ⟨B4.out.trans (zb.mono B4.out.size), zv, (HV.out.below zb (Nat.le_refl _)).mono (Nat.zero_le _), N1.out.below zb (Nat.le_refl _), N2.out.below zb (Nat.le_refl _)⟩
  have HZA : Hid (∀ o, (Z.alloc o).heap[gz]? = some (.cells #[.int .i64 1, .slice av (T.need 1 64) (T.need 1 64)] 37 (0, 0))) := fun o => (A3.out.to ((Below.refl _ _).alloc (Nat.le_refl _) o)).zv
  clear hZ zv zb hgz B4 N1 N2 HV
  go_wp2_with (first | (refine wpList_load_row rfl 37 (.tmp 4) rfl gz rfl 37 #[.int .i64 1, .slice av (T.need 1 64) (T.need 1 64)] (0, 0) _ (HZA.out _) Try.underlying37 rfl (by kernel_rfl) ?_) | fail)
  generalize hX : World.alloc Z _ = X
  have x0 : Sd X 1 (some ⟨Z.heap.size, 0, none⟩) (fun _ => sd1 2) := sd_row (fun _ => sd1_good (by decide)) (by rw [← hX]; exact (heap_alloc_new _ _).trans (congrArg some (by kernel_rfl)))
  have xb : Below Z.heap.size Z X := by rw [← hX]; exact (Below.refl _ _).alloc (Nat.le_refl _) _
  have AX := A3.out.to xb
  go_at_call 13
  refine (kR.out X av _ _ _ (fun _ => sd1 2) [true] hc1 x0 AX.vc AX.n1).mono ?_
  rintro e w5 ⟨a5, c5, rfl, n5, hb5⟩
  have A5 := hide1 (AX.to hb5)
  have N5 := hide1 n5
  have HZA : Hid (∀ o, (w5.alloc o).heap[gz]? = some (.cells #[.int .i64 1, .slice av (T.need 1 64) (T.need 1 64)] 37 (0, 0))) := fun o => (A5.out.to ((Below.refl _ _).alloc (Nat.le_refl _) o)).zv
  clear hX x0 xb AX n5 hb5 A3
  go_wp2_with (first | (refine wpList_load_row rfl 37 (.tmp 4) rfl gz rfl 37 #[.int .i64 1, .slice av (T.need 1 64) (T.need 1 64)] (0, 0) _ (HZA.out _) Try.underlying37 rfl (by kernel_rfl) ?_) | fail)
  generalize hX : World.alloc w5 _ = X
  have x0 : Sd X 1 (some ⟨w5.heap.size, 0, none⟩) (fun _ => sd1 1) := sd_row (fun _ => sd1_good (by decide)) (by rw [← hX]; exact (heap_alloc_new _ _).trans (congrArg some (by kernel_rfl)))
  have xb : Below w5.heap.size w5 X := by rw [← hX]; exact (Below.refl _ _).alloc (Nat.le_refl _) _
  have AX := A5.out.to xb
  go_at_call 19
  refine (T.vnot_any 0 X 1 av [true] AX.vc (by omega)).mono ?_
  rintro e w6 ⟨an, rfl, hv6, hb6⟩
  have A6 := hide1 (AX.to hb6)
  have S6 := hide1 (x0.below hb6 (Nat.le_refl _))
  have V6 : Hid (T.Vc 0 w6 1 an [false]) := hv6.mono (Nat.zero_le _)
  have N5 := hide1 ((N5.out.below xb (Nat.le_refl _)).below hb6 (Nat.le_refl _))
  clear hX x0 xb AX hv6 hb6 A5 HZA
  go_wp2_with fail
  go_at_call 13
  refine (kR.out w6 an _ _ _ (fun _ => sd1 1) [false] hc1 S6.out V6.out A6.out.n1).mono ?_
  rintro e w7 ⟨a7, c7, rfl, n7, hb7⟩
  have A7 := hide1 (A6.out.to hb7)
  have N5 := hide1 (N5.out.below hb7 (Nat.le_refl _))
  have N7 := hide1 n7
  clear n7 hb7 A6 S6 V6 kR
  go_wp2_with fail
  go_at_call 16
  refine (kO.out w7 _ _ _ _ _ A7.out.n2 N5.out).mono ?_
  rintro e w8 ⟨a8, c8, rfl, n8, hb8⟩
  have A8 := hide1 (A7.out.to hb8)
  have N7 := hide1 (N7.out.below hb8 (Nat.le_refl _))
  rw [E1.out] at n8
  have N8 := hide1 n8
  clear n8 hb8 A7 N5 E1
  go_wp2_with fail
  go_at_call 16
  refine (kO.out w8 _ _ _ _ _ A8.out.n2 N7.out).mono ?_
  rintro e w9 ⟨a9, c9, rfl, n9, hb9⟩
  have B9 := hide1 (A8.out.to hb9).bel
  have N8 := hide1 (N8.out.below hb9 (Nat.le_refl _))
  rw [E0.out] at n9
  have N9 := hide1 n9
  clear n9 hb9 A8 N7 E0 kO
  go_wp2_with fail
  generalize hX : World.alloc w9 _ = X
  have x0 : X.heap[w9.heap.size]? = some (.cells #[.int .u64 7] 49 (0, 0)) := by rw [← hX]; exact heap_alloc_new _ _
  have xb : Below w9.heap.size w9 X := by rw [← hX]; exact (Below.refl _ _).alloc (Nat.le_refl _) _
  go_at_call 11
  refine (T.nums_any X 1 c8 1 a8 _ [7] (N8.out.below xb (Nat.le_refl _)) (one_nl x0) (by omega)).mono ?_
  rintro e w10 ⟨rfl, q10, hq⟩
  have hb := xb.trans ((show Below X.heap.size X w10 by rw [hq]; exact below_drewN' (Below.refl _ _) q10).mono xb.size)
  have B10 := hide1 (B9.out.trans (hb.mono B9.out.size))
  have N9 := hide1 (N9.out.below hb (Nat.le_refl _))
  clear hX x0 xb hq hb B9 N8
  go_wp2_with fail
  generalize hX : World.alloc w10 _ = X
  have x0 : X.heap[w10.heap.size]? = some (.cells #[.int .u64 0] 49 (0, 0)) := by rw [← hX]; exact heap_alloc_new _ _
  have xb : Below w10.heap.size w10 X := by rw [← hX]; exact (Below.refl _ _).alloc (Nat.le_refl _) _
  go_at_call 11
  refine (T.nums_any X 1 c9 1 a9 _ [0] (N9.out.below xb (Nat.le_refl _)) (one_nl x0) (by omega)).mono ?_
  rintro e w11 ⟨rfl, q11, hq⟩
  have hb := xb.trans ((show Below X.heap.size X w11 by rw [hq]; exact below_drewN' (Below.refl _ _) q11).mono xb.size)
  have B11 := hide1 (B10.out.trans (hb.mono B10.out.size))
  clear hX x0 xb hq hb B10 N9
  go_wp2
  go_ret
  exact ⟨rfl, B11.out⟩
end Go.Proofs.Ytdmodknjcdkocaa.Co
