/- The walk of CotBlind. -/
import Derived.Test.YtdmodknjcdkocaaJ46
namespace Go.Proofs.Ytdmodknjcdkocaa.Co
open Go.RowKit Pg Ro
set_option maxRecDepth 100000
attribute [local go_sem] not_any T.mf_any

set_option maxHeartbeats 4000000 in
theorem blind_else (W n : Int) (m N M c cx cy : Nat) (a ax ay : Option Addr) (w : World) (hbig : W < 1 ∨ 64 < W ∨ n < 1 ∨ 6 < n ∨ 20 < m ∨ (N : Int) < n * (m : Int) ∨ (M : Int) < n * (m : Int)) :
    Calls Try.prog 6 #[.int .i64 W, .int .i64 n, .slice a m c, .slice ax N cx, .slice ay M cy] w fun e w' => e = .returned (.bool true) ∧ Below w.heap.size w w' := by
  have kA := fun w => hide1 (awake_any w)
  by_cases h0 : W < 1
  · have t0 : W < 1 := h0
    clear hbig
    go_enter Try.func6, Try.ntmps6
    go_wp2_with fail
    go_at_call 7
    refine (kA _).out.mono ?_
    rintro e w9 ⟨rfl, hb9⟩
    have B9 := hide1 hb9
    clear hb9
    go_wp2
    go_ret
    exact ⟨rfl, B9.out⟩
  · have t0 : ¬ W < 1 := h0
    by_cases h1 : 64 < W
    · have t1 : 64 < W := h1
      clear hbig
      go_enter Try.func6, Try.ntmps6
      go_wp2_with fail
      go_at_call 7
      refine (kA _).out.mono ?_
      rintro e w9 ⟨rfl, hb9⟩
      have B9 := hide1 hb9
      clear hb9
      go_wp2
      go_ret
      exact ⟨rfl, B9.out⟩
    · have t1 : ¬ 64 < W := h1
      by_cases h2 : n < 1
      · have t2 : n < 1 := h2
        clear hbig
        go_enter Try.func6, Try.ntmps6
        go_wp2_with fail
        go_at_call 7
        refine (kA _).out.mono ?_
        rintro e w9 ⟨rfl, hb9⟩
        have B9 := hide1 hb9
        clear hb9
        go_wp2
        go_ret
        exact ⟨rfl, B9.out⟩
      · have t2 : ¬ n < 1 := h2
        by_cases h3 : 6 < n
        · have t3 : 6 < n := h3
          clear hbig
          go_enter Try.func6, Try.ntmps6
          go_wp2_with fail
          go_at_call 7
          refine (kA _).out.mono ?_
          rintro e w9 ⟨rfl, hb9⟩
          have B9 := hide1 hb9
          clear hb9
          go_wp2
          go_ret
          exact ⟨rfl, B9.out⟩
        · have t3 : ¬ 6 < n := h3
          by_cases h4 : 20 < m
          · have t4 : (20 : Int) < (m : Int) := by omega
            clear hbig
            go_enter Try.func6, Try.ntmps6
            go_wp2_with fail
            go_at_call 7
            refine (kA _).out.mono ?_
            rintro e w9 ⟨rfl, hb9⟩
            have B9 := hide1 hb9
            clear hb9
            go_wp2
            go_ret
            exact ⟨rfl, B9.out⟩
          · have t4 : ¬ (20 : Int) < (m : Int) := by omega
            obtain ⟨k, rfl⟩ : ∃ k : Nat, n = (k : Int) := ⟨n.toNat, by omega⟩
            have hk : k ≤ 6 := by omega
            obtain ⟨Q, hQ⟩ : ∃ Q, Q = k * m := ⟨_, rfl⟩
            have hQb : Q ≤ 120 := by rw [hQ]; exact Nat.le_trans (Nat.mul_le_mul hk (show m ≤ 20 by omega)) (by decide)
            have e1 : IntKind.i64.wrap ((k : Int) * (m : Int)) = (Q : Int) := by rw [← Int.natCast_mul, ← hQ, wrap_i64_nat (by omega)]
            have e9 : (k : Int) * (m : Int) = (Q : Int) := by rw [← Int.natCast_mul, ← hQ]
            rw [e9] at hbig
            clear e9 hQ hk
            by_cases h5 : (N : Int) < (Q : Int)
            · have t5 : (N : Int) < (Q : Int) := h5
              clear hbig
              go_enter Try.func6, Try.ntmps6
              go_wp2_with fail
              go_at_call 7
              refine (kA _).out.mono ?_
              rintro e w9 ⟨rfl, hb9⟩
              have B9 := hide1 hb9
              clear hb9
              go_wp2
              go_ret
              exact ⟨rfl, B9.out⟩
            · have t5 : ¬ (N : Int) < (Q : Int) := h5
              have t6 : (M : Int) < (Q : Int) := by omega
              clear hbig
              go_enter Try.func6, Try.ntmps6
              go_wp2_with fail
              go_at_call 7
              refine (kA _).out.mono ?_
              rintro e w9 ⟨rfl, hb9⟩
              have B9 := hide1 hb9
              clear hb9
              go_wp2
              go_ret
              exact ⟨rfl, B9.out⟩

set_option maxHeartbeats 8000000 in
theorem blind_in (B n m N M c cx cy : Nat) (a ax ay : Option Addr) (f : Nat → List Nat) (xs ys : List Nat) (w : World) (hp : Pd w m a f) (hx : T.Nl w N ax xs) (hs : Ri.Small xs) (hy : T.Nl w M ay ys) (hs2 : Ri.Small ys) (h1 : 1 ≤ B) (h2 : B ≤ 64) (h3 : 1 ≤ n) (h4 : n ≤ 6) (hm : m ≤ 20) (hN : n * m ≤ N) (hM : n * m ≤ M) :
    Calls Try.prog 6 #[.int .i64 (B : Int), .int .i64 (n : Int), .slice a m c, .slice ax N cx, .slice ay M cy] w fun e w' => e = .returned (.bool true) ∧ Below w.heap.size w w' := by
  obtain ⟨i0, hi, hz0, hz1, hz2⟩ := info_of info47
  have kA := fun w => hide1 (awake_any w)
  obtain ⟨Q, hQ⟩ : ∃ Q, Q = n * m := ⟨_, rfl⟩
  have hQb : Q ≤ 120 := by rw [hQ]; exact Nat.le_trans (Nat.mul_le_mul h4 hm) (by decide)
  have e1 : IntKind.i64.wrap ((n : Int) * (m : Int)) = (Q : Int) := by rw [← Int.natCast_mul, ← hQ, wrap_i64_nat (by omega)]
  rw [← hQ] at hN hM
  have t0 : ¬ (B : Int) < 1 := by omega
  have t1 : ¬ (64 : Int) < (B : Int) := by omega
  have t2 : ¬ (n : Int) < 1 := by omega
  have t3 : ¬ (6 : Int) < (n : Int) := by omega
  have t4 : ¬ (20 : Int) < (m : Int) := by omega
  have t5 : ¬ (N : Int) < (Q : Int) := by omega
  have t6 : ¬ (M : Int) < (Q : Int) := by omega
  obtain ⟨F, hF⟩ : ∃ F : Nat → Nat, F = fun k => at0 xs k % 2 ^ B := ⟨_, rfl⟩
  obtain ⟨G, hG⟩ : ∃ G : Nat → Nat, G = fun k => at0 ys k % 2 ^ B := ⟨_, rfl⟩
  have hFl : ∀ k, F k < 2 ^ B := fun k => by rw [hF]; exact Nat.mod_lt _ (pow_pos2 B)
  have hGl : ∀ k, G k < 2 ^ B := fun k => by rw [hG]; exact Nat.mod_lt _ (pow_pos2 B)
  have kF : Hid (∀ k, ∀ W, Calls Try.prog 15 #[.int .i64 (B : Int), .int .u64 (at0 xs k : Nat)] W fun e w' => e = .returned (.int .u64 (F k : Nat)) ∧ w' = W) := fun k W => by rw [hF]; exact Ri.rfit_any B _ W h1 h2 (small_at hs k)
  have kG : Hid (∀ k, ∀ W, Calls Try.prog 15 #[.int .i64 (B : Int), .int .u64 (at0 ys k : Nat)] W fun e w' => e = .returned (.int .u64 (G k : Nat)) ∧ w' = W) := fun k W => by rw [hG]; exact Ri.rfit_any B _ W h1 h2 (small_at hs2 k)
  have kS : Hid (∀ (H : Nat → Nat), (∀ k, H k < 2 ^ B) → ∀ d g x cl V, Q ≤ cl → Pd V m g f → T.Nl V Q x (tl H Q) → Calls Try.prog 8 #[.int .i64 (B : Int), .int .i64 (n : Int), .slice g m d, .slice x Q cl] V fun e w' => ∃ a1 c1 a2 c2, e = .returned (.tuple #[.slice a1 Q c1, .slice a2 Q c2, .int .i64 0]) ∧ T.Nl w' Q a2 (tl (ownF B n f) Q) ∧ Below V.heap.size V w') := fun H hH d g x cl V hcl h5 h6 =>
    (send_good (send_any (B : Int) (n : Int) m Q d cl g x f (tl H Q) V h5 h6 (tl_lt64 h2 hH) (by omega) (by omega) hcl) (ok_of h1 h2 h3 h4 (by rw [hQ, Nat.mul_comm]) (tl_fits h1 h2 (fun k _ => hH k)))).mono fun _ _ ⟨a1, c1, a2, c2, he, _, r2, hb, _⟩ => ⟨a1, c1, a2, c2, he, r2, hb⟩
  have kS1 := hide1 (kS.out F hFl)
  have kS2 := hide1 (kS.out G hGl)
  generalize ownF B n f = O at *
  have HP := hide1 hp
  have HX := hide1 hx
  have HY := hide1 hy
  clear hp hx hy hs hs2 h1 h2 h3 h4 hQ hF hG hFl hGl kS hm
  go_enter Try.func6, Try.ntmps6
  go_wp2
  go_loopw [11, 12, 13] (fun v11 v12 v13 wr => ∃ k : Nat, k ≤ Q ∧ v13 = .int .i64 k ∧ Tw wr w.heap.size v11 k F v12 k G ∧ Below w.heap.size w wr) (fun _ _ v13 _ => Q - (intOf v13).toNat)
  case atStart => exact ⟨0, Nat.zero_le _, rfl, Tw.nil _ _ _ _, Below.refl _ _⟩
  case round =>
    obtain ⟨k, hk, rfl, htw, hbe⟩ := hrel
    obtain ⟨la, lc, rfl⟩ := row_form htw.a
    obtain ⟨lb, lcb, rfl⟩ := row_form htw.b
    by_cases hlt : k < Q
    · have bk : (k : Int) < (Q : Int) := by omega
      have bN : (k : Int) < (N : Int) := by omega
      have bM : (k : Int) < (M : Int) := by omega
      have b120 : (k : Int) < 120 := by omega
      obtain ⟨gx, ox, rfl, cx0⟩ := nl_val (HX.out.below hbe (Nat.le_refl _)) (show k < N by omega)
      obtain ⟨gy, oy, rfl, cy0⟩ := nl_val HY.out (show k < M by omega)
      have KF := hide1 (kF.out k)
      have KG := hide1 (kG.out k)
      have HYc : Hid (∀ W, Below w.heap.size w W → W.cell? ⟨gy, oy + k, none⟩ = some (.int .u64 (at0 ys k : Nat))) := fun W h => (h.cell (p := ⟨gy, oy + k, none⟩) (T.lt_cell cy0)).trans cy0
      obtain ⟨v1, hv1⟩ : ∃ v, v = F k := ⟨_, rfl⟩
      obtain ⟨v2, hv2⟩ : ∃ v, v = G k := ⟨_, rfl⟩
      rw [← hv1] at KF
      rw [← hv2] at KG
      have HV1 := hide1 hv1
      have HV2 := hide1 hv2
      generalize at0 xs k = x at *
      generalize at0 ys k = y at *
      obtain ⟨jx, hjx⟩ : ∃ t, t = ox + k := ⟨_, rfl⟩
      obtain ⟨jy, hjy⟩ : ∃ t, t = oy + k := ⟨_, rfl⟩
      rw [← hjx] at cx0
      rw [← hjy] at HYc
      have ejx : ox + k = jx := hjx.symm
      have ejy : oy + k = jy := hjy.symm
      have HTW := hide1 htw
      have HE := hide1 hbe
      clear htw hbe hv1 hv2 cy0 hjx hjy
      go_upto_region 7 with (fail)
      go_upto_region 8 with (first
        | (go_at_call 15; refine (KF.out _).mono ?_; rintro e w' ⟨rfl, he9⟩; obtain rfl := he9.symm; clear he9)
        | (at_builtin; go_must (refine wpList_append_lies _ rfl (.tmp 66) (.tmp 73) 23 rfl w.heap.size 49 i0 (.int .u64 0) 1 8 Try.underlying23 hi hz0 hz1 hz2 rfl (by decide) (.slice la k lc) k (V.u64s (tl F k)) rfl (HTW.out.a.alloc _) ⟨wr.heap.size, 0, none⟩ 1 1 (V.u64s [v1]) rfl rfl (World.news_of_block (heap_alloc_new wr (V.wrow [v1]))) (V.u64s_one _) (by omega) (by unfold maxLen; omega) (by omega) (by have := HE.out.size; rw [size_alloc]; omega) _ rfl ?_; intro g8 cap8 w8 ro8 gr8 wh8 lt8))
        | fail)
      rw [HV1.out] at ro8
      have htw8 := (HTW.out.below ((Below.refl _ _).alloc (Nat.le_refl _) _)).add ro8 gr8 wh8
      have hb8 : Below w.heap.size w w8 := (HE.out.alloc HE.out.size _).grown gr8 (by rw [size_alloc]; have := HE.out.size; omega) (fun k hk => (HTW.out.a.lt k hk).1)
      have HTW8 := hide1 htw8
      have HE8 := hide1 hb8
      have cy0 := HYc.out w8 hb8
      clear ro8 gr8 wh8 lt8 htw8 hb8 cx0 HTW HE KF
      go_wp2_with (first
        | (go_at_call 15; refine (KG.out _).mono ?_; rintro e w' ⟨rfl, he9⟩; obtain rfl := he9.symm; clear he9)
        | (at_builtin; go_must (refine wpList_append_lies _ rfl (.tmp 75) (.tmp 82) 23 rfl w.heap.size 49 i0 (.int .u64 0) 1 8 Try.underlying23 hi hz0 hz1 hz2 rfl (by decide) (.slice lb k lcb) k (V.u64s (tl G k)) rfl (HTW8.out.b.alloc _) ⟨w8.heap.size, 0, none⟩ 1 1 (V.u64s [v2]) rfl rfl (World.news_of_block (heap_alloc_new w8 (V.wrow [v2]))) (V.u64s_one _) (by omega) (by unfold maxLen; omega) (by omega) (by have := HE8.out.size; rw [size_alloc]; omega) _ rfl ?_; intro g9 cap9 w9 ro9 gr9 wh9 lt9))
        | fail)
      rw [HV2.out] at ro9
      have htw9 := ((HTW8.out.below ((Below.refl _ _).alloc (Nat.le_refl _) _)).swap.add ro9 gr9 wh9).swap
      have hb9 : Below w.heap.size w w9 := (HE8.out.alloc HE8.out.size _).grown gr9 (by rw [size_alloc]; have := HE8.out.size; omega) (fun k hk => (HTW8.out.b.lt k hk).1)
      have HTW9 := hide1 htw9
      have HE9 := hide1 hb9
      clear ro9 gr9 wh9 lt9 htw9 hb9 cy0 HTW8 HE8 KG
      go_wp2
      go_roundw
      case rel => exact ⟨k + 1, by omega, by go_num, HTW9.out, HE9.out⟩
      case measure => simp [intOf]; omega
    · obtain rfl : k = Q := by omega
      have hcA := own_cap htw.a
      have hcB := own_cap htw.b
      have N1 := hide1 (own_nl htw.a)
      have N2 := hide1 (own_nl htw.b)
      have HE := hide1 hbe
      have nk : ¬ (k : Int) < (k : Int) := by omega
      have qq : ((k : Int) == (k : Int)) = true := beq_self_eq_true _
      clear htw hbe
      go_wp2_with fail
      go_at_call 9
      refine (pairs_any m c a f wr (HP.out.below HE.out (Nat.le_refl _)) (by omega)).mono ?_
      rintro e w1 ⟨g1, d1, rfl, hp1, hb⟩
      have B1 := hide1 (HE.out.trans (hb.mono HE.out.size))
      have N1 := hide1 (N1.out.below hb (Nat.le_refl _))
      have N2 := hide1 (N2.out.below hb (Nat.le_refl _))
      have P1 := hide1 hp1
      clear hp1 hb HE
      go_wp2_with fail
      go_at_call 8
      refine (kS1.out _ _ _ _ w1 hcA P1.out N1.out).mono ?_
      rintro e w2 ⟨a1, c1, a2, c2, rfl, r2, hb⟩
      have B2 := hide1 (B1.out.trans (hb.mono B1.out.size))
      have N2 := hide1 (N2.out.below hb (Nat.le_refl _))
      have R2 := hide1 r2
      clear r2 hb B1 P1 N1 kS1
      go_wp2_with fail
      go_at_call 9
      refine (pairs_any m c a f w2 (HP.out.below B2.out (Nat.le_refl _)) (by omega)).mono ?_
      rintro e w3 ⟨g3, d3, rfl, hp3, hb⟩
      have B3 := hide1 (B2.out.trans (hb.mono B2.out.size))
      have N2 := hide1 (N2.out.below hb (Nat.le_refl _))
      have R2 := hide1 (R2.out.below hb (Nat.le_refl _))
      have P3 := hide1 hp3
      clear hp3 hb B2
      go_wp2_with fail
      go_at_call 8
      refine (kS2.out _ _ _ _ w3 hcB P3.out N2.out).mono ?_
      rintro e w4 ⟨a3, c3, a4, c4, rfl, r4, hb⟩
      have B4 := hide1 (B3.out.trans (hb.mono B3.out.size))
      have R2 := hide1 (R2.out.below hb (Nat.le_refl _))
      have R4 := hide1 r4
      clear r4 hb B3 P3 N2 kS2
      go_wp2_with fail
      go_at_call 11
      refine (T.nums_any w4 k c2 c4 a2 a4 _ R2.out R4.out (by omega)).mono ?_
      rintro e w5 ⟨rfl, q5, hq⟩
      have hb : Below w4.heap.size w4 w5 := by rw [hq]; exact below_drewN' (Below.refl _ _) q5
      have B5 := hide1 (B4.out.trans (hb.mono B4.out.size))
      clear hq hb B4 R2 R4
      go_wp2_with fail
      go_at_call 7
      refine (kA _).out.mono ?_
      rintro e w6 ⟨rfl, hb6⟩
      have B6 := hide1 (B5.out.trans (hb6.mono B5.out.size))
      clear hb6
      go_wp2
      go_ret
      exact ⟨rfl, B6.out⟩

theorem blind_all (W n : Int) (m N M c cx cy : Nat) (a ax ay : Option Addr) (f : Nat → List Nat) (xs ys : List Nat) (w : World) (hp : Pd w m a f) (hx : T.Nl w N ax xs) (hs : Ri.Small xs) (hy : T.Nl w M ay ys) (hs2 : Ri.Small ys) :
    Calls Try.prog 6 #[.int .i64 W, .int .i64 n, .slice a m c, .slice ax N cx, .slice ay M cy] w fun e w' => e = .returned (.bool true) ∧ Below w.heap.size w w' := by
  by_cases h : W < 1 ∨ 64 < W ∨ n < 1 ∨ 6 < n ∨ 20 < m ∨ (N : Int) < n * (m : Int) ∨ (M : Int) < n * (m : Int)
  · exact blind_else W n m N M c cx cy a ax ay w h
  · obtain ⟨B, rfl⟩ : ∃ B : Nat, W = (B : Int) := ⟨W.toNat, by omega⟩
    obtain ⟨k, rfl⟩ : ∃ k : Nat, n = (k : Int) := ⟨n.toNat, by omega⟩
    have e9 : (k : Int) * (m : Int) = ((k * m : Nat) : Int) := (Int.natCast_mul _ _).symm
    rw [e9] at h
    generalize hQ : k * m = Q at h
    exact blind_in B k m N M c cx cy a ax ay f xs ys w hp hx hs hy hs2 (by omega) (by omega) (by omega) (by omega) (by omega) (by rw [hQ]; omega) (by rw [hQ]; omega)
end Go.Proofs.Ytdmodknjcdkocaa.Co
