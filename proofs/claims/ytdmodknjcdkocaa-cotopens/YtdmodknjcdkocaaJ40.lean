/- The program's Send, where all may be. -/
import Derived.Test.YtdmodknjcdkocaaJ39
namespace Go.Proofs.Ytdmodknjcdkocaa.Co
open Go.RowKit Pg Ro
set_option maxRecDepth 100000
attribute [local go_sem] not_any T.mf_any

theorem pnb_any (s : List Nat) (B n : Nat) (w : World) (hk : s.length = 32) (bk : Lt 256 s) (h1 : 1 ≤ B) (h2 : B ≤ 64) (h3 : 1 ≤ n) (h4 : n ≤ 6) :
    Calls Try.prog 21 #[arr8 s, .int .i64 (B : Int), .int .i64 (n : Int)] w fun e w' => ∃ g c, e = .returned (.tuple #[.slice (some ⟨g, 0, none⟩) n c, .int .i64 0]) ∧ w.heap.size ≤ g ∧ Ro.Mn w' g (nb s B n) ∧ Below w.heap.size w w' := by
  refine (numbers_own s B n w hk bk h1 h2 (by omega)).mono ?_
  rintro e w' ⟨g, c, rfl, hg, hr, hb⟩
  exact ⟨g, c, rfl, hg, ⟨_, hr, by rw [nb, V.u64s]; exact List.take_of_length_le (by simp)⟩, hb⟩

set_option maxHeartbeats 16000000 in
theorem psend_good (B n m N c cx : Nat) (a ax : Option Addr) (f : Nat → List Nat) (xs : List Nat) (w : World) (hp : Pd w m a f) (hx : T.Nl w N ax xs) (hs : Ri.Small xs) (h1 : 1 ≤ B) (h2 : B ≤ 64) (h3 : 1 ≤ n) (h4 : n ≤ 6) (hm : m ≤ 4096) (hN : N = m * n) (hcx : N ≤ cx) (hf : Ri.fitsAll (B : Int) xs = true) :
    Calls Try.prog 8 #[.int .i64 (B : Int), .int .i64 (n : Int), .slice a m c, .slice ax N cx] w fun e w' => ∃ a1 c1 a2 c2, e = .returned (.tuple #[.slice a1 N c1, .slice a2 N c2, .int .i64 0]) ∧ T.Nl w' N a1 (tl (fixF B n f (at0 xs)) N) ∧ T.Nl w' N a2 (tl (ownF B n f) N) ∧ Below w.heap.size w w' ∧ N ≤ c1 := by
  obtain ⟨i0, hi, hz0, hz1, hz2⟩ := info_of info47
  have HP := hide1 hp
  have HGP := hide1 hp.good
  have HX := hide1 hx
  have HS := hide1 hs
  have hn24 : N ≤ 24576 := by rw [hN]; exact Nat.mul_le_mul hm h4
  have kW := hide1 (filled_any (B : Int) (n : Int) m N cx ax xs w hx hs hm hn24)
  rw [ok_of h1 h2 h3 h4 hN hf] at kW
  have kN : Hid (∀ j, ∀ W, Calls Try.prog 21 #[.agg (u8s (f j)).toArray, .int .i64 (B : Int), .int .i64 (n : Int)] W fun e w' => ∃ g c, e = .returned (.tuple #[.slice (some ⟨g, 0, none⟩) n c, .int .i64 0]) ∧ W.heap.size ≤ g ∧ Ro.Mn w' g (nb (f j) B n) ∧ Below W.heap.size W w') := fun j W => pnb_any (f j) B n W (hp.good j).1 (hp.good j).2 h1 h2 h3 h4
  have kA : Hid (∀ x y : Nat, ∀ W, Calls Try.prog 24 #[.int .i64 (B : Int), .int .u64 (x : Int), .int .u64 (y : Int)] W fun e w' => e = .returned (.int .u64 (((x + y) % 2 ^ B : Nat) : Int)) ∧ w' = W) := fun x y W => by
    have h := Ri.add_any (B : Int) x y W
    rwa [Ri.fit_nat h1 h2] at h
  have kS : Hid (∀ x y : Nat, y < 18446744073709551616 → ∀ W, Calls Try.prog 23 #[.int .i64 (B : Int), .int .u64 (x : Int), .int .u64 (y : Int)] W fun e w' => e = .returned (.int .u64 (((x + (18446744073709551616 - y)) % 2 ^ B : Nat) : Int)) ∧ w' = W) := fun x y hy W => by
    have h := Ri.sub_any (B : Int) x y W hy
    rwa [Ri.fit_nat h1 h2] at h
  have kO : Hid (∀ y : Nat, y < 18446744073709551616 → ∀ W, Calls Try.prog 25 #[.int .i64 (B : Int), .int .u64 (y : Int)] W fun e w' => e = .returned (.int .u64 ((ownV B y : Nat) : Int)) ∧ w' = W) := fun y hy W => by
    have h := Ri.neg_any (B : Int) y W hy
    rwa [Ri.fit_nat h1 h2] at h
  have kC : Hid (∀ j g o, j < m → ∀ W, Calls Try.prog 22 #[.int .i64 (n : Int), .int .i64 (j : Int), .slice (some ⟨g, o, none⟩) N cx] W fun e w' => e = .returned (.slice (some ⟨g, o + j * n, none⟩) n (cx - j * n)) ∧ w' = W) := fun j g o hj W => carried_any n j N cx g o W h3 h4 (by omega) (by
    have h : (j + 1) * n ≤ m * n := Nat.mul_le_mul_right n hj
    rw [Nat.succ_mul] at h
    rw [hN]
    exact h) hcx
  have hmk := fun W => run_make (P := Try.prog) W 23 49 i0 (.int .u64 0) Try.underlying23 hi hz0 .i64 .i64 0 (N : Int) (by omega) (by omega) (by rw [hz2]; omega) (by omega)
  simp only [Int.toNat_zero, Int.toNat_natCast] at hmk
  have hpb : Shy (∀ x, x % 2 ^ B < 18446744073709551616) := ⟨fun x => Nat.lt_of_lt_of_le (Nat.mod_lt _ (pow_pos2 B)) (Ro.pow_le64 h2)⟩
  have H2 := hide1 h2
  have H3 := hide1 h3
  have H4 := hide1 h4
  have HN := hide1 hN
  have HM := hide1 hm
  obtain ⟨F, hF⟩ : ∃ F, F = fixF B n f (at0 xs) := ⟨_, rfl⟩
  obtain ⟨G, hG⟩ : ∃ G, G = ownF B n f := ⟨_, rfl⟩
  have HF : Shy (∀ j i, i < n → F (j * n + i) = fixV B (at0 xs (j * n + i)) (at0 (nb (f (2 * j)) B n) i) (at0 (nb (f (2 * j + 1)) B n) i)) := ⟨fun j i h => by rw [hF]; exact fixF_at f (at0 xs) h⟩
  have HG : Shy (∀ j i, i < n → G (j * n + i) = ownV B (at0 (nb (f (2 * j)) B n) i)) := ⟨fun j i h => by rw [hG]; exact ownF_at f h⟩
  rw [← hF, ← hG]
  clear hp hs hx h1 h2 h3 hf hF hG hN hm hcx
  go_enter Try.func8, Try.ntmps8
  go_wp2_with fail
  go_at_call 20
  refine kW.out.mono ?_
  rintro e w0 ⟨rfl, q0, hq0⟩
  have B0 : Hid (Below w.heap.size w w0) := by rw [hq0]; exact below_drewN' (Below.refl _ _) q0
  clear hq0 kW
  go_upto_region 3 with (fail)
  refine region_f (F := []) (S := fun W => Below w0.heap.size w0 W) (by kernel_rfl) ((Below.refl _ _).drew) (fun hS => ?_)
  refine take_p 0 27 (.slice ax N cx) rfl rfl (by kernel_rfl) (by kernel_rfl) (by kernel_rfl) (fun _ _ _ h => h) rfl (fun w => by go_simp) ?_
  try simp only [List.setIfInBounds_toArray, List.set_cons_zero, List.set_cons_succ]
  refine take_p 1 28 (.int .i64 (N : Int)) rfl rfl (by kernel_rfl) (by kernel_rfl) (by kernel_rfl) (fun _ _ _ h => h) rfl (fun w => by go_simp) ?_
  try simp only [List.setIfInBounds_toArray, List.set_cons_zero, List.set_cons_succ]
  refine take_p 3 30 (.slice ax N cx) rfl rfl (by kernel_rfl) (by kernel_rfl) (by kernel_rfl) (fun _ _ _ h => h) rfl (fun w => by go_simp) ?_
  try simp only [List.setIfInBounds_toArray, List.set_cons_zero, List.set_cons_succ]
  refine take_p 4 31 (.int .i64 (N : Int)) rfl rfl (by kernel_rfl) (by kernel_rfl) (by kernel_rfl) (fun _ _ _ h => h) rfl (fun w => by go_simp) ?_
  try simp only [List.setIfInBounds_toArray, List.set_cons_zero, List.set_cons_succ]
  refine makers [(2, 29), (5, 32), (6, 11)] [7] 1 (preOf [(2, Ns (madeRow N) 0 N), (5, Ns (madeRow N) 0 N), (6, Of (fun us => us 2))]) (by kernel_rfl) rfl (fun _ h => hS.trans h) (preOf_stays ⟨ns_stays _ _ _, ns_stays _ _ _, of_stays (fun us us' h => h 2 (by kernel_rfl)), trivial⟩) ?_ ?_
  · refine ⟨⟨{ dst := some 29, op := Op.makeSlice 23 (Operand.const (Value.int IntKind.i64 0)) (Operand.tmp 28), type := 23, pos := "cot.go:16", after := #[{ on := 1, ground := Ground.data }], guard := none }, rfl, fun us lo hi V hV hP hD K hK => ?_⟩, ⟨⟨{ dst := some 32, op := Op.makeSlice 23 (Operand.const (Value.int IntKind.i64 0)) (Operand.tmp 31), type := 23, pos := "cot.go:16", after := #[{ on := 4, ground := Ground.data }], guard := none }, rfl, fun us lo hi V hV hP hD K hK => ?_⟩, ⟨⟨{ dst := some 11, op := Op.assign (Operand.tmp 29), type := 23, pos := "cot.go:16", after := #[{ on := 2, ground := Ground.data }, { on := 0, ground := Ground.phase }, { on := 1, ground := Ground.phase }, { on := 2, ground := Ground.phase }, { on := 3, ground := Ground.textOnly Departure.lateStores }, { on := 4, ground := Ground.textOnly Departure.lateStoresUnsure }, { on := 5, ground := Ground.textOnly Departure.lateStoresUnsure }], guard := none }, rfl, fun us lo hi V hV hP hD K hK => ?_⟩, trivial⟩⟩⟩
    · simp only [fill_cons, fill_nil, List.setIfInBounds_toArray, List.set_cons_zero, List.set_cons_succ]
      go_simp
      refine hK.out _ _ (below_new _ _) (ns_new _ _ _ _ us)
    · simp only [fill_cons, fill_nil, List.setIfInBounds_toArray, List.set_cons_zero, List.set_cons_succ]
      go_simp
      refine hK.out _ _ (below_new _ _) (ns_new _ _ _ _ us)
    · simp only [fill_cons, fill_nil, List.setIfInBounds_toArray, List.set_cons_zero, List.set_cons_succ]
      have p2 := (hP 2 (by kernel_rfl) (by decide)).pre
      go_simp
      exact hK.out _ _ (Below.refl _ _) rfl
  intro us lo hi' Y3 hV hI hD
  obtain ⟨m2, l2, r2⟩ : Ns (madeRow N) 0 N us (us 2) (lo 2) (hi' 2) Y3 := (hI 2 (by decide)).pre
  obtain ⟨m5, l5, r5⟩ : Ns (madeRow N) 0 N us (us 5) (lo 5) (hi' 5) Y3 := (hI 5 (by decide)).pre
  have m6 : us 6 = us 2 := (hI 6 (by decide)).pre
  have b2 := (hI 2 (by decide)).base
  have b5 := (hI 5 (by decide)).base
  have dj := hD 2 (by decide) 5 (by decide) (by decide)
  have hne : lo 2 ≠ lo 5 := by omega
  rw [show w0.drew.heap.size = w0.heap.size from rfl] at b2 b5
  simp only [fill_cons, fill_nil, List.setIfInBounds_toArray, List.set_cons_zero, List.set_cons_succ]
  rw [m6, m2, m5]
  generalize lo 2 = gA at *
  generalize lo 5 = gB at *
  have HV := hide1 (B0.out.trans ((hS.trans hV).mono B0.out.size))
  have hgA : w.heap.size ≤ gA := Nat.le_trans B0.out.size b2
  have hgB : w.heap.size ≤ gB := Nat.le_trans B0.out.size b5
  have TW0 : Hid (Tw Y3 w.heap.size (.slice (some ⟨gA, 0, none⟩) 0 N) 0 F (.slice (some ⟨gB, 0, none⟩) 0 N) 0 G) := ⟨made_own hgA hn24 r2 F, made_own hgB hn24 r5 G, fun x e h9 => hne ((show gA = x by simpa [Value.ownBlock] using e).trans (show gB = x by simpa [Value.ownBlock] using h9).symm)⟩
  clear m6 m2 m5 hI hD dj l2 l5 r2 r5 hV hS us hi' lo hne hgA hgB b2 b5 B0
  refine take_p 7 12 (.slice (some ⟨gB, 0, none⟩) 0 N) rfl rfl (by kernel_rfl) (by kernel_rfl) (by kernel_rfl) (fun _ _ _ h => h) rfl (fun w => by go_simp) ?_
  try simp only [List.setIfInBounds_toArray, List.set_cons_zero, List.set_cons_succ]
  refine done_f (by kernel_rfl) ?_ _
  go_wp2
  go_loopw [11, 12, 35] (fun v11 v12 v35 wr => ∃ j p : Nat, j ≤ m ∧ p = j * n ∧ v35 = .int .i64 j ∧ Tw wr w.heap.size v11 p F v12 p G ∧ Below w.heap.size w wr) (fun _ _ v35 _ => m - (intOf v35).toNat)
  case atStart => exact ⟨0, 0, Nat.zero_le _, by omega, rfl, TW0.out, HV.out⟩
  case round =>
    obtain ⟨j, p, hj, hp0, rfl, htw, hbe⟩ := hrel
    obtain ⟨la, lc, rfl⟩ := row_form htw.a
    obtain ⟨lb, lcb, rfl⟩ := row_form htw.b
    by_cases hlt : j < m
    · have bk : (j : Int) < (m : Int) := by omega
      have bk2 : (j : Int) < 4096 := by have := HM.out; omega
      obtain ⟨ga, oa, rfl, hga, ra⟩ := HP.out.at0 hlt
      have hra := range_two (HGP.out (2 * j)).1 (ra wr hbe j hlt).1 (ra wr hbe j hlt).2
      have hsl := (HGP.out (2 * j)).1
      have htl := (HGP.out (2 * j + 1)).1
      have hP := hiP hsl htl
      have hP' := hiP' hsl htl
      have hip := hi23' hsl
      have hiq := hi23' htl
      have HZ : Shy ((u8s (zeros 64)).toArray.size = (u8s (f (2 * j) ++ f (2 * j + 1))).toArray.size) := ⟨by simp [u8s, zeros, hsl, htl]⟩
      have HSL : Shy ((f (2 * j)).length = 32) := ⟨hsl⟩
      obtain ⟨gx, ox, rfl, _⟩ := nl_val HX.out (show j * n < N by rw [HN.out]; have h := place_lt (n := n) hlt (show 0 < n from H3.out); rwa [Nat.add_zero] at h)
      have KN0 := hide1 (kN.out (2 * j))
      have KN1 := hide1 (kN.out (2 * j + 1))
      have KC := hide1 (kC.out j gx ox hlt)
      have HFj : Shy (∀ i, i < n → F (j * n + i) = fixV B (at0 xs (j * n + i)) (at0 (nb (f (2 * j)) B n) i) (at0 (nb (f (2 * j + 1)) B n) i)) := ⟨HF.out j⟩
      have HGj : Shy (∀ i, i < n → G (j * n + i) = ownV B (at0 (nb (f (2 * j)) B n) i)) := ⟨HG.out j⟩
      have hl1 := nb_length (f (2 * j)) B n
      have hl2 := nb_length (f (2 * j + 1)) B n
      have HL1 : Shy (∀ i, i < n → at0 (nb (f (2 * j)) B n) i < 18446744073709551616) := ⟨fun i h => nb_lt64 _ H2.out h⟩
      have HL2 : Shy (∀ i, i < n → at0 (nb (f (2 * j + 1)) B n) i < 18446744073709551616) := ⟨fun i h => nb_lt64 _ H2.out h⟩
      generalize nb (f (2 * j)) B n = l1 at *
      generalize nb (f (2 * j + 1)) B n = l2 at *
      generalize f (2 * j) = s at *
      generalize f (2 * j + 1) = t at *
      obtain ⟨ja, hja⟩ : ∃ x, x = oa + j * 64 := ⟨_, rfl⟩
      rw [← hja] at hra
      have eja : oa + j * 64 = ja := hja.symm
      have HTW := hide1 htw
      have HE := hide1 hbe
      have HL := hide1 (And.intro hl1 hl2)
      have HP0 := hide1 hp0
      have HRA := hide1 hra
      clear htw hbe hp0 hja hga ra hsl htl hl1 hl2 hra
      go_upto_region 7 with (first
        | (refine wpList_load_mid rfl 58 (.tmp 38) rfl ga ja rfl (u8s (s ++ t)) _ HRA.out Try.underlying58 rfl hP' ?_)
        | (refine wpList_store_own rfl 58 (.tmp 14) (.tmp 39) rfl wr.heap.size rfl (u8s (s ++ t)).toArray rfl 58 _ (heap_alloc_new wr (row8 58 (zeros 64))) hP HZ.out (all_one (u8s_one _)) ?_)
        | fail)
      generalize hZ : World.setRow _ _ _ = Z
      have z0 : Z.heap[wr.heap.size]? = some (.cells (u8s (s ++ t)).toArray 58 (0, 0)) := by rw [← hZ]; exact setRow_heap _ _ _ _ _ _ (heap_alloc_new _ _)
      have zb : Below wr.heap.size wr Z := by rw [← hZ]; exact Below.setRow' ((Below.refl _ _).alloc (Nat.le_refl _) _) (Nat.le_refl _) _
      obtain ⟨gz, hgz⟩ : ∃ g, g = wr.heap.size := ⟨_, rfl⟩
      rw [← hgz] at z0 ⊢
      have HEZ := hide1 (HE.out.trans (zb.mono HE.out.size))
      have HTWZ := hide1 (HTW.out.below zb)
      have hr0 : Z.rangeAt gz 0 (u8s s) := fun k v hk => by
        rw [cell_of_row Z _ _ _ _ _ z0]
        simp only [List.getElem?_toArray]
        rw [u8s_append, Nat.zero_add, List.getElem?_append_left (List.getElem?_eq_some_iff.1 hk).1]
        exact hk
      have hr1 : Z.rangeAt gz 32 (u8s t) := fun k v hk => by
        rw [cell_of_row Z _ _ _ _ _ z0]
        simp only [List.getElem?_toArray]
        rw [u8s_append, List.getElem?_append_right (by rw [u8s_length, HSL.out]; omega), u8s_length, HSL.out, Nat.add_sub_cancel_left]
        exact hk
      have HR0 := hide1 hr0
      have HR1 := hide1 hr1
      have LZ := hide1 (lt_heap z0)
      clear hZ z0 zb hgz HTW HE HRA HZ HSL hr0 hr1
      go_wp2_with (first | (refine wpList_load_mid rfl 46 (.tmp 41) rfl gz 0 rfl (u8s s) _ HR0.out Try.underlying46 rfl hip ?_) | fail)
      go_at_call 21
      refine (KN0.out _).mono ?_
      rintro e w1 ⟨g1, c1, rfl, hg1, hm1, hb1⟩
      have HE1 := hide1 (HEZ.out.trans (hb1.mono HEZ.out.size))
      have HTW1 := hide1 (HTWZ.out.below hb1)
      have O1 : Hid (∀ v x, v = Value.slice la p lc ∨ v = Value.slice lb p lcb → v.ownBlock = some x → x < g1) := fun v x hv e => by
        rcases hv with rfl | rfl
        · exact Nat.lt_of_lt_of_le (HTWZ.out.a.lt x e).2 hg1
        · exact Nat.lt_of_lt_of_le (HTWZ.out.b.lt x e).2 hg1
      have M1 := hide1 hm1
      have hr := range_below HR1.out hb1 LZ.out
      clear hb1 hm1 hg1 HTWZ HEZ KN0 HR0 HR1 LZ
      go_wp2_with (first | (refine wpList_load_mid rfl 46 (.tmp 52) rfl gz 32 rfl (u8s t) _ hr Try.underlying46 rfl hiq ?_) | fail)
      go_at_call 21
      refine (KN1.out _).mono ?_
      rintro e w2 ⟨g2, c2, rfl, hg2, hm2, hb2⟩
      have HE2 := hide1 (HE1.out.trans (hb2.mono HE1.out.size))
      have hst : St w2 w.heap.size (.slice la p lc) p F (.slice lb p lcb) p G g1 l1 g2 l2 := ⟨HTW1.out.below hb2, M1.out.below hb2 M1.out.lt, hm2,
        fun x e => ⟨Nat.ne_of_lt (O1.out _ x (.inl rfl) e), Nat.ne_of_lt (Nat.lt_of_lt_of_le (HTW1.out.a.lt x e).2 hg2)⟩,
        fun x e => ⟨Nat.ne_of_lt (O1.out _ x (.inr rfl) e), Nat.ne_of_lt (Nat.lt_of_lt_of_le (HTW1.out.b.lt x e).2 hg2)⟩⟩
      have ST := hide1 hst
      clear hb2 hm2 hg2 hst hr HTW1 HE1 M1 O1 KN1
      obtain ⟨q, hq⟩ : ∃ q, q = j * n := ⟨_, rfl⟩
      obtain ⟨oq, hoq⟩ : ∃ o, o = ox + j * n := ⟨_, rfl⟩
      obtain ⟨cq, hcq⟩ : ∃ c, c = cx - j * n := ⟨_, rfl⟩
      rw [← hoq, ← hcq] at KC
      have HQ := hide1 hq
      have HOQ := hide1 hoq
      clear hq hoq hcq
      go_wp2_with fail
      go_at_call 22
      refine (KC.out _).mono ?_
      rintro e w3 ⟨rfl, he3⟩
      obtain rfl := he3.symm
      clear he3 KC
      go_wp2
      go_loopw [11, 12, 67] (fun v11 v12 v67 wr => ∃ i p : Nat, i ≤ n ∧ p = j * n + i ∧ v67 = .int .i64 i ∧ St wr w.heap.size v11 p F v12 p G g1 l1 g2 l2 ∧ Below w.heap.size w wr) (fun _ _ v67 _ => n - (intOf v67).toNat)
      case atStart => exact ⟨0, p, Nat.zero_le _, by rw [HP0.out]; rfl, rfl, ST.out, HE2.out⟩
      case round =>
        obtain ⟨i, p, hi0, hpi, rfl, hst, hbe⟩ := hrel
        obtain ⟨la, lc, rfl⟩ := row_form hst.tw.a
        obtain ⟨lb, lcb, rfl⟩ := row_form hst.tw.b
        by_cases hli : i < n
        · have hpN : p < N := by rw [hpi, HN.out]; exact place_lt hlt hli
          have bi : (i : Int) < (n : Int) := by omega
          have bi6 : (i : Int) < 6 := by have := H4.out; omega
          obtain ⟨gx', ox', ex, cx0⟩ := nl_val (HX.out.below hbe (Nat.le_refl _)) hpN
          cases ex
          have cy := hst.m1.cell (j := i) (by rw [HL.out.1]; exact hli)
          have cz := hst.m2.cell (j := i) (by rw [HL.out.2]; exact hli)
          have hy := HL1.out i hli
          have hz := HL2.out i hli
          have hFp := HFj.out i hli
          have hGp := HGj.out i hli
          rw [← hpi] at hFp hGp
          have HM1 : Hid (∀ W, Ro.Mn W g1 l1 → W.cell? ⟨g1, i, none⟩ = some (.int .u64 (at0 l1 i : Nat))) := fun W h => h.cell (j := i) (by rw [HL.out.1]; exact hli)
          obtain ⟨jx, hjx⟩ : ∃ t, t = oq + i := ⟨_, rfl⟩
          rw [show ox + p = jx by rw [hjx, HOQ.out, hpi, Nat.add_assoc]] at cx0
          have ejx : oq + i = jx := hjx.symm
          generalize at0 xs p = x at *
          generalize at0 l1 i = y at *
          generalize at0 l2 i = z at *
          have kA1 := fun W => hide1 (kA.out x y W)
          have bu := hpb.out (x + y)
          have hv1 := fixV_two B x y z
          generalize (x + y) % 2 ^ B = u at *
          have kS1 := fun W => hide1 (kS.out u z hz W)
          have kO1 := fun W => hide1 (kO.out y hy W)
          rw [hv1] at kS1
          rw [← hFp] at kS1
          rw [← hGp] at kO1
          have CY : Hid (∀ W, Below wr.heap.size wr W → W.cell? ⟨g1, i, none⟩ = some (.int .u64 (y : Int))) := fun W h => (h.cell (p := ⟨g1, i, none⟩) (T.lt_cell cy)).trans cy
          have CZ : Hid (∀ W, Below wr.heap.size wr W → W.cell? ⟨g2, i, none⟩ = some (.int .u64 (z : Int))) := fun W h => (h.cell (p := ⟨g2, i, none⟩) (T.lt_cell cz)).trans cz
          have HPI := hide1 hpi
          have HST := hide1 hst
          have HE := hide1 hbe
          have HPN := hide1 hpN
          clear hst hbe hpi hjx hv1 hFp hGp bu hy hz cy cz hpN
          obtain ⟨v1, hv1⟩ : ∃ v, v = F p := ⟨_, rfl⟩
          obtain ⟨v2, hv2⟩ : ∃ v, v = G p := ⟨_, rfl⟩
          rw [← hv1] at kS1
          rw [← hv2] at kO1
          have HV1 := hide1 hv1
          have HV2 := hide1 hv2
          clear hv1 hv2
          go_upto_region 16 with (fail)
          have hpN := HPN.out
          refine region_f (F := [15]) (S := fun W => Below wr.heap.size wr W) (by kernel_rfl) (Below.refl _ _).drew (fun hS => ?_)
          refine take_p 0 72 (.slice la p lc) rfl rfl (by kernel_rfl) (by kernel_rfl) (by kernel_rfl) (fun _ _ _ h => h) rfl (fun w => by go_simp) ?_
          try simp only [List.setIfInBounds_toArray, List.set_cons_zero, List.set_cons_succ]
          refine take_p 1 73 (.int .i64 (B : Int)) rfl rfl (by kernel_rfl) (by kernel_rfl) (by kernel_rfl) (fun _ _ _ h => h) rfl (fun w => by go_simp) ?_
          try simp only [List.setIfInBounds_toArray, List.set_cons_zero, List.set_cons_succ]
          refine take_p 2 74 (.int .i64 (B : Int)) rfl rfl (by kernel_rfl) (by kernel_rfl) (by kernel_rfl) (fun _ _ _ h => h) rfl (fun w => by go_simp) ?_
          try simp only [List.setIfInBounds_toArray, List.set_cons_zero, List.set_cons_succ]
          refine take_p 3 75 (.int .u64 (x : Int)) rfl rfl (by kernel_rfl) (by kernel_rfl) (by kernel_rfl) (fun _ _ _ h => h) rfl (fun w => by go_simp) ?_
          try simp only [List.setIfInBounds_toArray, List.set_cons_zero, List.set_cons_succ]
          refine take_p 4 76 (.slice (some ⟨g1, 0, none⟩) n c1) rfl rfl (by kernel_rfl) (by kernel_rfl) (by kernel_rfl) (fun _ _ _ h => h) rfl (fun w => by go_simp) ?_
          try simp only [List.setIfInBounds_toArray, List.set_cons_zero, List.set_cons_succ]
          refine take_p 5 77 (.int .i64 (i : Int)) rfl rfl (by kernel_rfl) (by kernel_rfl) (by kernel_rfl) (fun _ _ _ h => h) rfl (fun w => by go_simp) ?_
          try simp only [List.setIfInBounds_toArray, List.set_cons_zero, List.set_cons_succ]
          refine take_p 6 78 (.pointer (some ⟨g1, i, none⟩)) rfl rfl (by kernel_rfl) (by kernel_rfl) (by kernel_rfl) (fun _ _ _ h => h) rfl (fun w => by go_simp) ?_
          try simp only [List.setIfInBounds_toArray, List.set_cons_zero, List.set_cons_succ]
          refine take_f 7 79 (.int .u64 (y : Int)) [8, 13, 14, 15, 16] rfl rfl (by kernel_rfl) (by kernel_rfl) (by kernel_rfl) (by kernel_rfl) (by kernel_rfl) (by kernel_rfl) (fun _ _ _ h => h) rfl (fun w hSw => by have h1 := CY.out w hSw; go_simp) hS ?_
          try simp only [List.setIfInBounds_toArray, List.set_cons_zero, List.set_cons_succ]
          refine take_p 9 81 (.slice (some ⟨g2, 0, none⟩) n c2) rfl rfl (by kernel_rfl) (by kernel_rfl) (by kernel_rfl) (fun _ _ _ h => h) rfl (fun w => by go_simp) ?_
          try simp only [List.setIfInBounds_toArray, List.set_cons_zero, List.set_cons_succ]
          refine take_p 10 82 (.int .i64 (i : Int)) rfl rfl (by kernel_rfl) (by kernel_rfl) (by kernel_rfl) (fun _ _ _ h => h) rfl (fun w => by go_simp) ?_
          try simp only [List.setIfInBounds_toArray, List.set_cons_zero, List.set_cons_succ]
          refine take_p 11 83 (.pointer (some ⟨g2, i, none⟩)) rfl rfl (by kernel_rfl) (by kernel_rfl) (by kernel_rfl) (fun _ _ _ h => h) rfl (fun w => by go_simp) ?_
          try simp only [List.setIfInBounds_toArray, List.set_cons_zero, List.set_cons_succ]
          refine take_f 12 84 (.int .u64 (z : Int)) [13, 14, 15, 16] rfl rfl (by kernel_rfl) (by kernel_rfl) (by kernel_rfl) (by kernel_rfl) (by kernel_rfl) (by kernel_rfl) (fun _ _ _ h => h) rfl (fun w hSw => by have h1 := CZ.out w hSw; go_simp) hS ?_
          try simp only [List.setIfInBounds_toArray, List.set_cons_zero, List.set_cons_succ]
          refine ready_f 8 (o := { dst := some 80, op := Op.call { callee := Callee.value (Operand.func 24), args := #[Operand.tmp 74, Operand.tmp 75, Operand.tmp 79], argTypes := #[3, 49, 49] }, type := 49, pos := "cot.go:27", after := #[{ on := 2, ground := Ground.data }, { on := 3, ground := Ground.data }, { on := 7, ground := Ground.data }], guard := none }) (by kernel_rfl) rfl (fun K hK => ?_)
          go_simp
          refine (kA1 _).out.mono ?_
          rintro e w' ⟨rfl, rfl⟩
          refine hK.out _ _ (fun _ h => h) ?_
          clear hK K
          try simp only [Act.put, List.setIfInBounds_toArray, List.set_cons_zero, List.set_cons_succ]
          refine ready_f 13 (o := { dst := some 85, op := Op.call { callee := Callee.value (Operand.func 23), args := #[Operand.tmp 73, Operand.tmp 80, Operand.tmp 84], argTypes := #[3, 49, 49] }, type := 49, pos := "cot.go:27", after := #[{ on := 1, ground := Ground.data }, { on := 8, ground := Ground.data }, { on := 12, ground := Ground.data }, { on := 8, ground := Ground.chain }], guard := none }) (by kernel_rfl) rfl (fun K hK => ?_)
          go_simp
          refine (kS1 _).out.mono ?_
          rintro e w' ⟨rfl, rfl⟩
          refine hK.out _ _ (fun _ h => h) ?_
          clear hK K
          try simp only [Act.put, List.setIfInBounds_toArray, List.set_cons_zero, List.set_cons_succ]
          refine ready_f 14 (o := { dst := some 86, op := Op.buildSlice 23 1 #[(0, Operand.tmp 85)], type := 23, pos := "cot.go:27", after := #[{ on := 13, ground := Ground.data }], guard := none }) (by kernel_rfl) rfl (fun K hK => ?_)
          go_simp
          generalize hU : World.drew (World.alloc _ _) = U
          have hU0 : U.heap[wr.heap.size]? = some (V.wrow [v1]) := by rw [← hU]; exact heap_alloc_new _ _
          have hS3 : Below wr.heap.size wr U := by rw [← hU]; exact ((Below.refl _ _).alloc (Nat.le_refl _) _).drew
          clear hU
          refine hK.out _ _ (fun _ _ => hS3) ?_
          clear hK K
          try simp only [Act.put, List.setIfInBounds_toArray, List.set_cons_zero, List.set_cons_succ]
          have hstW := HST.out.below hS3
          have hz8 := hS3.size
          have hz9 := HE.out.size
          refine ready_f 15 (o := { dst := some 87, op := Op.call { callee := Callee.builtin Builtin.append, args := #[Operand.tmp 72, Operand.tmp 86], argTypes := #[23, 23] }, type := 23, pos := "cot.go:27", after := #[{ on := 0, ground := Ground.data }, { on := 14, ground := Ground.data }, { on := 13, ground := Ground.chain }], guard := none }) (by kernel_rfl) rfl (fun K hK => ?_)
          rw [if_pos (by rfl)]
          refine wp_append_lies _ _ _ 23 rfl w.heap.size 49 i0 (.int .u64 0) 1 8 Try.underlying23 hi hz0 hz1 hz2 rfl (by decide) (.slice la p lc) p (V.u64s (tl F p)) rfl hstW.tw.a ⟨wr.heap.size, 0, none⟩ 1 1 (V.u64s [v1]) rfl rfl (World.news_of_block hU0) (V.u64s_one _) (by omega) (by unfold maxLen; omega) (by omega) (by omega) _ rfl ?_
          intro g8 cap8 w8 ro8 gr8 wh8 lt8
          have hb8 : Below w.heap.size U w8 := (Below.refl _ _).grown gr8 (by omega) (fun k hk => (hstW.tw.a.lt k hk).1)
          have hS6 : Below w.heap.size wr w8 := (hS3.mono (by omega)).trans hb8
          rw [HV1.out] at ro8
          have hst8 := hstW.add ro8 gr8 wh8
          refine hK.out _ _ (fun h => absurd (by decide) h) ?_
          clear hK K
          try simp only [Act.put, List.setIfInBounds_toArray, List.set_cons_zero, List.set_cons_succ]
          refine take_p 16 11 (.slice (some ⟨g8, 0, none⟩) (p + 1) cap8) rfl rfl (by kernel_rfl) (by kernel_rfl) (by kernel_rfl) (fun _ _ _ h => h) rfl (fun w => by go_simp) ?_
          try simp only [List.setIfInBounds_toArray, List.set_cons_zero, List.set_cons_succ]
          refine done_f (by kernel_rfl) ?_ _
          have HST8 := hide1 hst8
          have HE8 := hide1 (HE.out.trans hS6)
          clear hst8 hS6 hb8 hS3 hstW ro8 gr8 wh8 lt8 hU0 hz8 hz9 hS kA1 kS1 cx0
          have cy := HM1.out w8 HST8.out.m1
          go_wp2_with (first
            | (go_at_call 25; refine (kO1 _).out.mono ?_; rintro e w' ⟨rfl, he9⟩; obtain rfl := he9.symm; clear he9)
            | (at_builtin; go_must (refine wpList_append_lies _ rfl (.tmp 88) (.tmp 95) 23 rfl w.heap.size 49 i0 (.int .u64 0) 1 8 Try.underlying23 hi hz0 hz1 hz2 rfl (by decide) (.slice lb p lcb) p (V.u64s (tl G p)) rfl (HST8.out.tw.b.alloc _) ⟨w8.heap.size, 0, none⟩ 1 1 (V.u64s [v2]) rfl rfl (World.news_of_block (heap_alloc_new w8 (V.wrow [v2]))) (V.u64s_one _) (by omega) (by unfold maxLen; omega) (by omega) (by have := HE8.out.size; rw [size_alloc]; omega) _ rfl ?_; intro g9 cap9 w9 ro9 gr9 wh9 lt9))
            | fail)
          rw [HV2.out] at ro9
          have hst9 := ((HST8.out.below ((Below.refl _ _).alloc (Nat.le_refl _) _)).swap.add ro9 gr9 wh9).swap
          have hb9 : Below w.heap.size w w9 := (HE8.out.alloc HE8.out.size _).grown gr9 (by rw [size_alloc]; have := HE8.out.size; omega) (fun k hk => (HST8.out.tw.b.lt k hk).1)
          have HST9 := hide1 hst9
          have HB9 := hide1 hb9
          clear hst9 hb9 ro9 gr9 wh9 lt9 cy hpN
          go_wp2
          go_roundw
          case rel => exact ⟨i + 1, p + 1, by omega, by have := HPI.out; omega, by go_num, HST9.out, HB9.out⟩
          case measure => simp [intOf]; omega
        · obtain rfl : i = n := by omega
          have HTW := hide1 hst.tw
          have HE := hide1 hbe
          have HPI := hide1 hpi
          clear hst hbe hpi
          go_wp2
          go_roundw
          case rel => exact ⟨j + 1, p, by omega, by rw [HPI.out, Nat.succ_mul], by go_num, HTW.out, HE.out⟩
          case measure => simp [intOf]; omega
    · obtain rfl : j = m := by omega
      obtain rfl : p = N := by rw [hp0, HN.out]
      have n1 := own_nl htw.a
      have n2 := own_nl htw.b
      have n3 := own_cap htw.a
      have HNN := hide1 (And.intro n1 (And.intro n2 n3))
      have HE := hide1 hbe
      clear htw hbe n1 n2 n3 hp0
      go_wp2
      refine bodyPost_ret (results_tmp3 rfl _ _ _) rfl ?_
      exact ⟨_, _, _, _, rfl, HNN.out.1, HNN.out.2.1, HE.out, HNN.out.2.2⟩
end Go.Proofs.Ytdmodknjcdkocaa.Co
