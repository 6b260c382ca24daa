/- The document's Send. -/
import Derived.Test.YtdmodknjcdkocaaJ35
namespace Go.Proofs.Ytdmodknjcdkocaa.Co
open Go.RowKit Pg Ro
set_option maxRecDepth 100000
attribute [local go_sem] not_any T.mf_any

/- two lists that grow, beside the numbers of two seeds -/
structure St (w : World) (base : Nat) (vA : Value) (p : Nat) (F : Nat → Nat) (vB : Value) (q : Nat) (G : Nat → Nat) (g1 : Nat) (l1 : List Nat) (g2 : Nat) (l2 : List Nat) : Prop where
  tw : Tw w base vA p F vB q G
  m1 : Ro.Mn w g1 l1
  m2 : Ro.Mn w g2 l2
  ap : ∀ x, vA.ownBlock = some x → x ≠ g1 ∧ x ≠ g2
  bp : ∀ x, vB.ownBlock = some x → x ≠ g1 ∧ x ≠ g2
theorem mn_kept {w w' : World} {g : Nat} {l : List Nat} {row : Option Nat} (h : Ro.Mn w g l) (hg : w.grownBy w' row) (hne : row ≠ some g) : Ro.Mn w' g l := by
  obtain ⟨cur, hh, ht⟩ := h.at'
  exact ⟨cur, (hg.block g (lt_heap hh) (fun e => hne e.symm)).trans hh, ht⟩
theorem St.swap {w : World} {base p q g1 g2 : Nat} {vA vB : Value} {F G : Nat → Nat} {l1 l2 : List Nat} (h : St w base vA p F vB q G g1 l1 g2 l2) : St w base vB q G vA p F g1 l1 g2 l2 := ⟨h.tw.swap, h.m1, h.m2, h.bp, h.ap⟩
theorem St.below {w w' : World} {base p q g1 g2 : Nat} {vA vB : Value} {F G : Nat → Nat} {l1 l2 : List Nat} (h : St w base vA p F vB q G g1 l1 g2 l2) (hb : Below w.heap.size w w') : St w' base vA p F vB q G g1 l1 g2 l2 := ⟨h.tw.below hb, h.m1.below hb h.m1.lt, h.m2.below hb h.m2.lt, h.ap, h.bp⟩
theorem St.add {w w' : World} {base p q g cap g1 g2 : Nat} {vA vB : Value} {F G : Nat → Nat} {l1 l2 : List Nat} (h : St w base vA p F vB q G g1 l1 g2 l2) (ho : w'.ownsRow base 49 1 (.slice (some ⟨g, 0, none⟩) (p + 1) cap) (p + 1) (V.u64s (tl F p) ++ V.u64s [F p]))
    (hg : w.grownBy w' vA.ownBlock) (hl : vA.ownBlock = some g ∨ g = w.heap.size) : St w' base (.slice (some ⟨g, 0, none⟩) (p + 1) cap) (p + 1) F vB q G g1 l1 g2 l2 := by
  refine ⟨h.tw.add ho hg hl, mn_kept h.m1 hg (fun e => (h.ap _ e).1 rfl), mn_kept h.m2 hg (fun e => (h.ap _ e).2 rfl), fun x e => ?_, h.bp⟩
  have e' : g = x := by simpa [Value.ownBlock] using e
  rcases hl with hl | hl
  · rw [← e']; exact h.ap g hl
  · have a1 := h.m1.lt
    have a2 := h.m2.lt
    omega

theorem rnb_any (s : List Nat) (B n : Nat) (w : World) (hk : s.length = 32) (bk : Lt 256 s) (h1 : 1 ≤ B) (h2 : B ≤ 64) (h3 : 1 ≤ n) (h4 : n ≤ 6) :
    Calls Try.prog 27 #[arr8 s, .int .i64 (B : Int), .int .i64 (n : Int)] w fun e w' => ∃ g c, e = .returned (.tuple #[.slice (some ⟨g, 0, none⟩) n c, .int .i64 0]) ∧ w.heap.size ≤ g ∧ Ro.Mn w' g (nb s B n) ∧ Below w.heap.size w w' := by
  refine (rnumbers_own s B n w hk bk h1 h2 (by omega)).mono ?_
  rintro e w' ⟨a, c, rfl, hr, hb⟩
  rcases hr with h | ⟨g, rfl, hg, hm⟩
  · omega
  · exact ⟨g, c, rfl, hg, hm, hb⟩

set_option maxHeartbeats 16000000 in
theorem rsend_good (B n m N c cx : Nat) (a ax : Option Addr) (f : Nat → List Nat) (xs : List Nat) (w : World) (hp : Pd w m a f) (hx : T.Nl w N ax xs) (hs : Ri.Small xs) (h1 : 1 ≤ B) (h2 : B ≤ 64) (h3 : 1 ≤ n) (h4 : n ≤ 6) (hm : m ≤ 4096) (hN : N = m * n) (hf : Ri.fitsAll (B : Int) xs = true) :
    Calls Try.prog 10 #[.int .i64 (B : Int), .int .i64 (n : Int), .slice a m c, .slice ax N cx] w fun e w' => ∃ a1 c1 a2 c2, e = .returned (.tuple #[.slice a1 N c1, .slice a2 N c2, .int .i64 0]) ∧ T.Nl w' N a1 (tl (fixF B n f (at0 xs)) N) ∧ T.Nl w' N a2 (tl (ownF B n f) N) ∧ Below w.heap.size w w' := by
  obtain ⟨i0, hi, hz0, hz1, hz2⟩ := info_of info47
  have HP := hide1 hp
  have HGP := hide1 hp.good
  have HX := hide1 hx
  have HS := hide1 hs
  have hn24 : N ≤ 24576 := by rw [hN]; exact Nat.mul_le_mul hm h4
  have kW := fun w => hide1 (wrong_any (B : Int) (n : Int) w)
  rw [bad_of h1 h2 h3 h4] at kW
  have kF := fun w hx => hide1 (Ri.rfits_any B w N cx ax xs (ri_nl hx) hs (by omega) h1 h2)
  rw [hf] at kF
  have kN : Hid (∀ j, ∀ W, Calls Try.prog 27 #[.agg (u8s (f j)).toArray, .int .i64 (B : Int), .int .i64 (n : Int)] W fun e w' => ∃ g c, e = .returned (.tuple #[.slice (some ⟨g, 0, none⟩) n c, .int .i64 0]) ∧ W.heap.size ≤ g ∧ Ro.Mn w' g (nb (f j) B n) ∧ Below W.heap.size W w') := fun j W => rnb_any (f j) B n W (hp.good j).1 (hp.good j).2 h1 h2 h3 h4
  have kA : Hid (∀ x y : Nat, x < 18446744073709551616 → y < 18446744073709551616 → ∀ W, Calls Try.prog 29 #[.int .i64 (B : Int), .int .u64 (x : Int), .int .u64 (y : Int)] W fun e w' => e = .returned (.int .u64 (((x + y) % 2 ^ B : Nat) : Int)) ∧ w' = W) := fun x y hx hy W => Ri.radd_any B x y W h1 h2 hx hy
  have kS : Hid (∀ x y : Nat, x < 18446744073709551616 → y < 18446744073709551616 → ∀ W, Calls Try.prog 28 #[.int .i64 (B : Int), .int .u64 (x : Int), .int .u64 (y : Int)] W fun e w' => e = .returned (.int .u64 (((x + (18446744073709551616 - y)) % 2 ^ B : Nat) : Int)) ∧ w' = W) := fun x y hx hy W => Ri.rsub_any B x y W h1 h2 hx hy
  have kO : Hid (∀ y : Nat, y < 18446744073709551616 → ∀ W, Calls Try.prog 28 #[.int .i64 (B : Int), .int .u64 0, .int .u64 (y : Int)] W fun e w' => e = .returned (.int .u64 ((ownV B y : Nat) : Int)) ∧ w' = W) := fun y hy W => by
    have h := Ri.rsub_any B 0 y W h1 h2 (by omega) hy
    rw [Nat.zero_add] at h
    exact h
  have hpb : Shy (∀ x, x % 2 ^ B < 18446744073709551616) := ⟨fun x => Nat.lt_of_lt_of_le (Nat.mod_lt _ (pow_pos2 B)) (Ro.pow_le64 h2)⟩
  have H2 := hide1 h2
  have H4 := hide1 h4
  have HN := hide1 hN
  have HM := hide1 hm
  have e1 : IntKind.i64.wrap ((n : Int) * (m : Int)) = (N : Int) := by rw [← Int.natCast_mul, Nat.mul_comm, ← hN, wrap_i64_nat (by omega)]
  have nn : ((N : Int) != (N : Int)) = false := by rw [bne_eq_false_iff_eq]
  obtain ⟨F, hF⟩ : ∃ F, F = fixF B n f (at0 xs) := ⟨_, rfl⟩
  obtain ⟨G, hG⟩ : ∃ G, G = ownF B n f := ⟨_, rfl⟩
  have HF : Shy (∀ j i, i < n → F (j * n + i) = fixV B (at0 xs (j * n + i)) (at0 (nb (f (2 * j)) B n) i) (at0 (nb (f (2 * j + 1)) B n) i)) := ⟨fun j i h => by rw [hF]; exact fixF_at f (at0 xs) h⟩
  have HG : Shy (∀ j i, i < n → G (j * n + i) = ownV B (at0 (nb (f (2 * j)) B n) i)) := ⟨fun j i h => by rw [hG]; exact ownF_at f h⟩
  rw [← hF, ← hG]
  clear hp hs h1 h2 h3 hf hF hG hN hm
  go_enter Try.func10, Try.ntmps10
  go_wp2_with fail
  go_at_call 26
  refine (kW _).out.mono ?_
  rintro e w0 ⟨rfl, he0⟩
  obtain rfl := he0.symm
  go_wp2_with fail
  go_at_call 17
  refine (kF _ hx).out.mono ?_
  rintro e w0 ⟨rfl, q0, hq0⟩
  have B0 : Hid (Below w.heap.size w w0) := by rw [hq0]; exact below_drewN' (Below.refl _ _) q0
  clear hq0 hx kW kF e1 nn
  go_wp2
  go_loopw [11, 12, 13] (fun v11 v12 v13 wr => ∃ j p : Nat, j ≤ m ∧ p = j * n ∧ v13 = .int .i64 j ∧ Tw wr w.heap.size v11 p F v12 p G ∧ Below w.heap.size w wr) (fun _ _ v13 _ => m - (intOf v13).toNat)
  case atStart => exact ⟨0, 0, Nat.zero_le _, by omega, rfl, Tw.nil _ _ _ _, B0.out⟩
  case round =>
    obtain ⟨j, p, hj, hp0, rfl, htw, hbe⟩ := hrel
    obtain ⟨la, lc, rfl⟩ := row_form htw.a
    obtain ⟨lb, lcb, rfl⟩ := row_form htw.b
    by_cases hlt : j < m
    · have bk : (j : Int) < (m : Int) := by omega
      have bk2 : (j : Int) < 4096 := by have := HM.out; omega
      obtain ⟨ga, oa, rfl, hga, ra⟩ := HP.out.at0 hlt
      have RA := hide1 (fun W (h : Below w.heap.size w W) => ra W h j hlt)
      have hsl := (HGP.out (2 * j)).1
      have htl := (HGP.out (2 * j + 1)).1
      have hip := hi23' hsl
      have hiq := hi23' htl
      have KN0 := hide1 (kN.out (2 * j))
      have KN1 := hide1 (kN.out (2 * j + 1))
      have HFj : Shy (∀ i, i < n → F (j * n + i) = fixV B (at0 xs (j * n + i)) (at0 (nb (f (2 * j)) B n) i) (at0 (nb (f (2 * j + 1)) B n) i)) := ⟨HF.out j⟩
      have HGj : Shy (∀ i, i < n → G (j * n + i) = ownV B (at0 (nb (f (2 * j)) B n) i)) := ⟨HG.out j⟩
      have hl1 := nb_length (f (2 * j)) B n
      have hl2 := nb_length (f (2 * j + 1)) B n
      have HL1 : Shy (∀ i, i < n → at0 (nb (f (2 * j)) B n) i < 18446744073709551616) := ⟨fun i h => nb_lt64 _ H2.out h⟩
      have HL2 : Shy (∀ i, i < n → at0 (nb (f (2 * j + 1)) B n) i < 18446744073709551616) := ⟨fun i h => nb_lt64 _ H2.out h⟩
      generalize nb (f (2 * j)) B n = l1 at *
      generalize nb (f (2 * j + 1)) B n = l2 at *
      generalize f (2 * j) = s at *
      generalize f (2 * j + 1) = t at *
      obtain ⟨ja, hja⟩ : ∃ x, x = oa + j * 64 := ⟨_, rfl⟩
      rw [← hja] at RA
      have eja : oa + j * 64 = ja := hja.symm
      have HTW := hide1 htw
      have HE := hide1 hbe
      have HL := hide1 (And.intro hl1 hl2)
      have HP0 := hide1 hp0
      have hr := (RA.out wr hbe).1
      clear htw hbe hp0 hja hga ra hsl htl hl1 hl2
      go_upto_region 7 with (fail)
      go_wp2_with (first | (refine wpList_load_mid rfl 46 (.tmp 47) rfl ga ja rfl (u8s s) _ hr Try.underlying46 rfl hip ?_) | fail)
      go_at_call 27
      refine (KN0.out _).mono ?_
      rintro e w1 ⟨g1, c1, rfl, hg1, hm1, hb1⟩
      have HE1 := hide1 (HE.out.trans (hb1.mono HE.out.size))
      have HTW1 := hide1 (HTW.out.below hb1)
      have O1 : Hid (∀ v x, v = Value.slice la p lc ∨ v = Value.slice lb p lcb → v.ownBlock = some x → x < g1) := fun v x hv e => by
        rcases hv with rfl | rfl
        · exact Nat.lt_of_lt_of_le (HTW.out.a.lt x e).2 hg1
        · exact Nat.lt_of_lt_of_le (HTW.out.b.lt x e).2 hg1
      have M1 := hide1 hm1
      have hr := (RA.out w1 HE1.out).2
      clear hb1 hm1 hg1 HTW HE KN0
      go_upto_region 8 with (fail)
      go_wp2_with (first | (refine wpList_load_mid rfl 46 (.tmp 58) rfl ga (ja + 32) rfl (u8s t) _ hr Try.underlying46 rfl hiq ?_) | fail)
      go_at_call 27
      refine (KN1.out _).mono ?_
      rintro e w2 ⟨g2, c2, rfl, hg2, hm2, hb2⟩
      have HE2 := hide1 (HE1.out.trans (hb2.mono HE1.out.size))
      have hst : St w2 w.heap.size (.slice la p lc) p F (.slice lb p lcb) p G g1 l1 g2 l2 := ⟨HTW1.out.below hb2, M1.out.below hb2 M1.out.lt, hm2,
        fun x e => ⟨Nat.ne_of_lt (O1.out _ x (.inl rfl) e), Nat.ne_of_lt (Nat.lt_of_lt_of_le (HTW1.out.a.lt x e).2 hg2)⟩,
        fun x e => ⟨Nat.ne_of_lt (O1.out _ x (.inr rfl) e), Nat.ne_of_lt (Nat.lt_of_lt_of_le (HTW1.out.b.lt x e).2 hg2)⟩⟩
      have ST := hide1 hst
      clear hb2 hm2 hg2 hst hr HTW1 HE1 M1 O1 KN1
      go_wp2
      go_loopw [11, 12, 18] (fun v11 v12 v18 wr => ∃ i p : Nat, i ≤ n ∧ p = j * n + i ∧ v18 = .int .i64 i ∧ St wr w.heap.size v11 p F v12 p G g1 l1 g2 l2 ∧ Below w.heap.size w wr) (fun _ _ v18 _ => n - (intOf v18).toNat)
      case atStart => exact ⟨0, p, Nat.zero_le _, by rw [HP0.out]; rfl, rfl, ST.out, HE2.out⟩
      case round =>
        obtain ⟨i, p, hi0, hpi, rfl, hst, hbe⟩ := hrel
        obtain ⟨la, lc, rfl⟩ := row_form hst.tw.a
        obtain ⟨lb, lcb, rfl⟩ := row_form hst.tw.b
        by_cases hli : i < n
        · have hpN : p < N := by rw [hpi, HN.out]; exact place_lt hlt hli
          have bp : (p : Int) < (N : Int) := by omega
          have bp2 : (p : Int) < 24576 := by omega
          have bi : (i : Int) < (n : Int) := by omega
          have bi6 : (i : Int) < 6 := by have := H4.out; omega
          obtain ⟨q, hq⟩ : ∃ q, q = j * n := ⟨_, rfl⟩
          have e1 : IntKind.i64.wrap ((j : Int) * (n : Int)) = (q : Int) := by rw [← Int.natCast_mul, ← hq, wrap_i64_nat (by omega)]
          have e2 : (q : Int) + (i : Int) = (p : Int) := by omega
          have bq : (q : Int) ≤ 24576 := by omega
          have e3 : IntKind.i64.wrap (p : Int) = (p : Int) := wrap_i64_nat (by omega)
          obtain ⟨gx, ox, rfl, cx⟩ := nl_val (HX.out.below hbe (Nat.le_refl _)) hpN
          have cy := hst.m1.cell (j := i) (by rw [HL.out.1]; exact hli)
          have cz := hst.m2.cell (j := i) (by rw [HL.out.2]; exact hli)
          have bx := small_at HS.out p
          have hy := HL1.out i hli
          have hz := HL2.out i hli
          have hFp := HFj.out i hli
          have hGp := HGj.out i hli
          rw [← hpi] at hFp hGp
          have HM1 : Hid (∀ W, Ro.Mn W g1 l1 → W.cell? ⟨g1, i, none⟩ = some (.int .u64 (at0 l1 i : Nat))) := fun W h => h.cell (j := i) (by rw [HL.out.1]; exact hli)
          obtain ⟨jx, hjx⟩ : ∃ t, t = ox + p := ⟨_, rfl⟩
          rw [← hjx] at cx
          have ejx : ox + p = jx := hjx.symm
          generalize at0 xs p = x at *
          generalize at0 l1 i = y at *
          generalize at0 l2 i = z at *
          have kA1 := fun W => hide1 (kA.out x y bx hy W)
          have bu := hpb.out (x + y)
          have hv1 := fixV_two B x y z
          generalize (x + y) % 2 ^ B = u at *
          have kS1 := fun W => hide1 (kS.out u z bu hz W)
          have kO1 := fun W => hide1 (kO.out y hy W)
          rw [hv1] at kS1
          rw [← hFp] at kS1
          rw [← hGp] at kO1
          have CX : Hid (∀ W, Below wr.heap.size wr W → W.cell? ⟨gx, jx, none⟩ = some (.int .u64 (x : Int))) := fun W h => (h.cell (p := ⟨gx, jx, none⟩) (T.lt_cell cx)).trans cx
          have CY : Hid (∀ W, Below wr.heap.size wr W → W.cell? ⟨g1, i, none⟩ = some (.int .u64 (y : Int))) := fun W h => (h.cell (p := ⟨g1, i, none⟩) (T.lt_cell cy)).trans cy
          have CZ : Hid (∀ W, Below wr.heap.size wr W → W.cell? ⟨g2, i, none⟩ = some (.int .u64 (z : Int))) := fun W h => (h.cell (p := ⟨g2, i, none⟩) (T.lt_cell cz)).trans cz
          have HPI := hide1 hpi
          have HST := hide1 hst
          have HE := hide1 hbe
          clear hst hbe hpi hq hjx hv1 hFp hGp bx hy hz bu cx cy cz
          obtain ⟨v1, hv1⟩ : ∃ v, v = F p := ⟨_, rfl⟩
          obtain ⟨v2, hv2⟩ : ∃ v, v = G p := ⟨_, rfl⟩
          rw [← hv1] at kS1
          rw [← hv2] at kO1
          have HV1 := hide1 hv1
          have HV2 := hide1 hv2
          clear hv1 hv2
          go_upto_region 12 with (fail)
          refine region_f (F := [22]) (S := fun W => Below wr.heap.size wr W) (by kernel_rfl) (Below.refl _ _).drew (fun hS => ?_)
          refine take_p 0 70 (.slice la p lc) rfl rfl (by kernel_rfl) (by kernel_rfl) (by kernel_rfl) (fun _ _ _ h => h) rfl (fun w => by go_simp) ?_
          try simp only [List.setIfInBounds_toArray, List.set_cons_zero, List.set_cons_succ]
          refine take_p 1 71 (.int .i64 (B : Int)) rfl rfl (by kernel_rfl) (by kernel_rfl) (by kernel_rfl) (fun _ _ _ h => h) rfl (fun w => by go_simp) ?_
          try simp only [List.setIfInBounds_toArray, List.set_cons_zero, List.set_cons_succ]
          refine take_p 2 72 (.int .i64 (B : Int)) rfl rfl (by kernel_rfl) (by kernel_rfl) (by kernel_rfl) (fun _ _ _ h => h) rfl (fun w => by go_simp) ?_
          try simp only [List.setIfInBounds_toArray, List.set_cons_zero, List.set_cons_succ]
          refine take_p 3 73 (.slice (some ⟨gx, ox, none⟩) N cx) rfl rfl (by kernel_rfl) (by kernel_rfl) (by kernel_rfl) (fun _ _ _ h => h) rfl (fun w => by go_simp) ?_
          try simp only [List.setIfInBounds_toArray, List.set_cons_zero, List.set_cons_succ]
          refine take_p 4 74 (.int .i64 (j : Int)) rfl rfl (by kernel_rfl) (by kernel_rfl) (by kernel_rfl) (fun _ _ _ h => h) rfl (fun w => by go_simp) ?_
          try simp only [List.setIfInBounds_toArray, List.set_cons_zero, List.set_cons_succ]
          refine take_p 5 75 (.int .i64 (n : Int)) rfl rfl (by kernel_rfl) (by kernel_rfl) (by kernel_rfl) (fun _ _ _ h => h) rfl (fun w => by go_simp) ?_
          try simp only [List.setIfInBounds_toArray, List.set_cons_zero, List.set_cons_succ]
          refine take_p 6 76 (.int .i64 (q : Int)) rfl rfl (by kernel_rfl) (by kernel_rfl) (by kernel_rfl) (fun _ _ _ h => h) rfl (fun w => by go_simp) ?_
          try simp only [List.setIfInBounds_toArray, List.set_cons_zero, List.set_cons_succ]
          refine take_p 7 77 (.int .i64 (i : Int)) rfl rfl (by kernel_rfl) (by kernel_rfl) (by kernel_rfl) (fun _ _ _ h => h) rfl (fun w => by go_simp) ?_
          try simp only [List.setIfInBounds_toArray, List.set_cons_zero, List.set_cons_succ]
          refine take_p 8 78 (.int .i64 (p : Int)) rfl rfl (by kernel_rfl) (by kernel_rfl) (by kernel_rfl) (fun _ _ _ h => h) rfl (fun w => by go_simp) ?_
          try simp only [List.setIfInBounds_toArray, List.set_cons_zero, List.set_cons_succ]
          refine take_p 9 79 (.pointer (some ⟨gx, jx, none⟩)) rfl rfl (by kernel_rfl) (by kernel_rfl) (by kernel_rfl) (fun _ _ _ h => h) rfl (fun w => by go_simp) ?_
          try simp only [List.setIfInBounds_toArray, List.set_cons_zero, List.set_cons_succ]
          refine take_f 10 80 (.int .u64 (x : Int)) [15, 20, 21, 22, 23] rfl rfl (by kernel_rfl) (by kernel_rfl) (by kernel_rfl) (by kernel_rfl) (by kernel_rfl) (by kernel_rfl) (fun _ _ _ h => h) rfl (fun w hSw => by have h1 := CX.out w hSw; go_simp) hS ?_
          try simp only [List.setIfInBounds_toArray, List.set_cons_zero, List.set_cons_succ]
          refine take_p 11 81 (.slice (some ⟨g1, 0, none⟩) n c1) rfl rfl (by kernel_rfl) (by kernel_rfl) (by kernel_rfl) (fun _ _ _ h => h) rfl (fun w => by go_simp) ?_
          try simp only [List.setIfInBounds_toArray, List.set_cons_zero, List.set_cons_succ]
          refine take_p 12 82 (.int .i64 (i : Int)) rfl rfl (by kernel_rfl) (by kernel_rfl) (by kernel_rfl) (fun _ _ _ h => h) rfl (fun w => by go_simp) ?_
          try simp only [List.setIfInBounds_toArray, List.set_cons_zero, List.set_cons_succ]
          refine take_p 13 83 (.pointer (some ⟨g1, i, none⟩)) rfl rfl (by kernel_rfl) (by kernel_rfl) (by kernel_rfl) (fun _ _ _ h => h) rfl (fun w => by go_simp) ?_
          try simp only [List.setIfInBounds_toArray, List.set_cons_zero, List.set_cons_succ]
          refine take_f 14 84 (.int .u64 (y : Int)) [15, 20, 21, 22, 23] rfl rfl (by kernel_rfl) (by kernel_rfl) (by kernel_rfl) (by kernel_rfl) (by kernel_rfl) (by kernel_rfl) (fun _ _ _ h => h) rfl (fun w hSw => by have h1 := CY.out w hSw; go_simp) hS ?_
          try simp only [List.setIfInBounds_toArray, List.set_cons_zero, List.set_cons_succ]
          refine take_p 16 86 (.slice (some ⟨g2, 0, none⟩) n c2) rfl rfl (by kernel_rfl) (by kernel_rfl) (by kernel_rfl) (fun _ _ _ h => h) rfl (fun w => by go_simp) ?_
          try simp only [List.setIfInBounds_toArray, List.set_cons_zero, List.set_cons_succ]
          refine take_p 17 87 (.int .i64 (i : Int)) rfl rfl (by kernel_rfl) (by kernel_rfl) (by kernel_rfl) (fun _ _ _ h => h) rfl (fun w => by go_simp) ?_
          try simp only [List.setIfInBounds_toArray, List.set_cons_zero, List.set_cons_succ]
          refine take_p 18 88 (.pointer (some ⟨g2, i, none⟩)) rfl rfl (by kernel_rfl) (by kernel_rfl) (by kernel_rfl) (fun _ _ _ h => h) rfl (fun w => by go_simp) ?_
          try simp only [List.setIfInBounds_toArray, List.set_cons_zero, List.set_cons_succ]
          refine take_f 19 89 (.int .u64 (z : Int)) [20, 21, 22, 23] rfl rfl (by kernel_rfl) (by kernel_rfl) (by kernel_rfl) (by kernel_rfl) (by kernel_rfl) (by kernel_rfl) (fun _ _ _ h => h) rfl (fun w hSw => by have h1 := CZ.out w hSw; go_simp) hS ?_
          try simp only [List.setIfInBounds_toArray, List.set_cons_zero, List.set_cons_succ]
          refine ready_f 15 (o := { dst := some 85, op := Op.call { callee := Callee.value (Operand.func 29), args := #[Operand.tmp 72, Operand.tmp 80, Operand.tmp 84], argTypes := #[3, 49, 49] }, type := 49, pos := "ref.go:39", after := #[{ on := 2, ground := Ground.data }, { on := 10, ground := Ground.data }, { on := 14, ground := Ground.data }], guard := none }) (by kernel_rfl) rfl (fun K hK => ?_)
          go_simp
          refine (kA1 _).out.mono ?_
          rintro e w' ⟨rfl, rfl⟩
          refine hK.out _ _ (fun _ h => h) ?_
          clear hK K
          try simp only [Act.put, List.setIfInBounds_toArray, List.set_cons_zero, List.set_cons_succ]
          refine ready_f 20 (o := { dst := some 90, op := Op.call { callee := Callee.value (Operand.func 28), args := #[Operand.tmp 71, Operand.tmp 85, Operand.tmp 89], argTypes := #[3, 49, 49] }, type := 49, pos := "ref.go:39", after := #[{ on := 1, ground := Ground.data }, { on := 15, ground := Ground.data }, { on := 19, ground := Ground.data }, { on := 15, ground := Ground.chain }], guard := none }) (by kernel_rfl) rfl (fun K hK => ?_)
          go_simp
          refine (kS1 _).out.mono ?_
          rintro e w' ⟨rfl, rfl⟩
          refine hK.out _ _ (fun _ h => h) ?_
          clear hK K
          try simp only [Act.put, List.setIfInBounds_toArray, List.set_cons_zero, List.set_cons_succ]
          refine ready_f 21 (o := { dst := some 91, op := Op.buildSlice 23 1 #[(0, Operand.tmp 90)], type := 23, pos := "ref.go:39", after := #[{ on := 20, ground := Ground.data }], guard := none }) (by kernel_rfl) rfl (fun K hK => ?_)
          go_simp
          generalize hU : World.drew (World.alloc _ _) = U
          have hU0 : U.heap[wr.heap.size]? = some (V.wrow [v1]) := by rw [← hU]; exact heap_alloc_new _ _
          have hS3 : Below wr.heap.size wr U := by rw [← hU]; exact ((Below.refl _ _).alloc (Nat.le_refl _) _).drew
          clear hU
          refine hK.out _ _ (fun _ _ => hS3) ?_
          clear hK K
          try simp only [Act.put, List.setIfInBounds_toArray, List.set_cons_zero, List.set_cons_succ]
          have hstW := HST.out.below hS3
          have hz8 := hS3.size
          have hz9 := HE.out.size
          refine ready_f 22 (o := { dst := some 92, op := Op.call { callee := Callee.builtin Builtin.append, args := #[Operand.tmp 70, Operand.tmp 91], argTypes := #[23, 23] }, type := 23, pos := "ref.go:39", after := #[{ on := 0, ground := Ground.data }, { on := 21, ground := Ground.data }, { on := 20, ground := Ground.chain }], guard := none }) (by kernel_rfl) rfl (fun K hK => ?_)
          rw [if_pos (by rfl)]
          refine wp_append_lies _ _ _ 23 rfl w.heap.size 49 i0 (.int .u64 0) 1 8 Try.underlying23 hi hz0 hz1 hz2 rfl (by decide) (.slice la p lc) p (V.u64s (tl F p)) rfl hstW.tw.a ⟨wr.heap.size, 0, none⟩ 1 1 (V.u64s [v1]) rfl rfl (World.news_of_block hU0) (V.u64s_one _) (by omega) (by unfold maxLen; omega) (by omega) (by omega) _ rfl ?_
          intro g8 cap8 w8 ro8 gr8 wh8 lt8
          have hb8 : Below w.heap.size U w8 := (Below.refl _ _).grown gr8 (by omega) (fun k hk => (hstW.tw.a.lt k hk).1)
          have hS6 : Below w.heap.size wr w8 := (hS3.mono (by omega)).trans hb8
          rw [HV1.out] at ro8
          have hst8 := hstW.add ro8 gr8 wh8
          refine hK.out _ _ (fun h => absurd (by decide) h) ?_
          clear hK K
          try simp only [Act.put, List.setIfInBounds_toArray, List.set_cons_zero, List.set_cons_succ]
          refine take_p 23 11 (.slice (some ⟨g8, 0, none⟩) (p + 1) cap8) rfl rfl (by kernel_rfl) (by kernel_rfl) (by kernel_rfl) (fun _ _ _ h => h) rfl (fun w => by go_simp) ?_
          try simp only [List.setIfInBounds_toArray, List.set_cons_zero, List.set_cons_succ]
          refine done_f (by kernel_rfl) ?_ _
          have HST8 := hide1 hst8
          have HE8 := hide1 (HE.out.trans hS6)
          clear hst8 hS6 hb8 hS3 hstW ro8 gr8 wh8 lt8 hU0 hz8 hz9 hS kA1 kS1
          have cy := HM1.out w8 HST8.out.m1
          go_wp2_with (first
            | (go_at_call 28; refine (kO1 _).out.mono ?_; rintro e w' ⟨rfl, he9⟩; obtain rfl := he9.symm; clear he9)
            | (at_builtin; go_must (refine wpList_append_lies _ rfl (.tmp 93) (.tmp 100) 23 rfl w.heap.size 49 i0 (.int .u64 0) 1 8 Try.underlying23 hi hz0 hz1 hz2 rfl (by decide) (.slice lb p lcb) p (V.u64s (tl G p)) rfl (HST8.out.tw.b.alloc _) ⟨w8.heap.size, 0, none⟩ 1 1 (V.u64s [v2]) rfl rfl (World.news_of_block (heap_alloc_new w8 (V.wrow [v2]))) (V.u64s_one _) (by omega) (by unfold maxLen; omega) (by omega) (by have := HE8.out.size; rw [size_alloc]; omega) _ rfl ?_; intro g9 cap9 w9 ro9 gr9 wh9 lt9))
            | fail)
          rw [HV2.out] at ro9
          have hst9 := ((HST8.out.below ((Below.refl _ _).alloc (Nat.le_refl _) _)).swap.add ro9 gr9 wh9).swap
          have hb9 : Below w.heap.size w w9 := (HE8.out.alloc HE8.out.size _).grown gr9 (by rw [size_alloc]; have := HE8.out.size; omega) (fun k hk => (HST8.out.tw.b.lt k hk).1)
          have HST9 := hide1 hst9
          have HB9 := hide1 hb9
          clear hst9 hb9 ro9 gr9 wh9 lt9 cy
          go_wp2
          go_roundw
          case rel => exact ⟨i + 1, p + 1, by omega, by have := HPI.out; omega, by go_num, HST9.out, HB9.out⟩
          case measure => simp [intOf]; omega
        · obtain rfl : i = n := by omega
          have HTW := hide1 hst.tw
          have HE := hide1 hbe
          have HPI := hide1 hpi
          clear hst hbe hpi
          go_wp2
          go_roundw
          case rel => exact ⟨j + 1, p, by omega, by rw [HPI.out, Nat.succ_mul], by go_num, HTW.out, HE.out⟩
          case measure => simp [intOf]; omega
    · obtain rfl : j = m := by omega
      obtain rfl : p = N := by rw [hp0, HN.out]
      have n1 := own_nl htw.a
      have n2 := own_nl htw.b
      have HNN := hide1 (And.intro n1 n2)
      have HE := hide1 hbe
      clear htw hbe n1 n2 hp0
      go_wp2
      refine bodyPost_ret (results_tmp3 rfl _ _ _) rfl ?_
      exact ⟨_, _, _, _, rfl, HNN.out.1, HNN.out.2, HE.out⟩
end Go.Proofs.Ytdmodknjcdkocaa.Co
