/- The program's Receive, where all may be. -/
import Derived.Test.YtdmodknjcdkocaaJ40
import Derived.Test.YtdmodknjcdkocaaJ42
namespace Go.Proofs.Ytdmodknjcdkocaa.Co
open Go.RowKit Pg Ro
set_option maxRecDepth 100000
attribute [local go_sem] not_any T.mf_any

theorem got_two {B l x : Nat} (b : Bool) (h : l < 2 ^ B) : (l + tms b x) % 2 ^ B = gotV B b l x := by
  cases b with
  | true => rfl
  | false => exact Nat.mod_eq_of_lt h

set_option maxHeartbeats 16000000 in
theorem preceive_good (B n m N c cx : Nat) (a av ax : Option Addr) (s : Nat → List Nat) (ch : List Bool) (xs : List Nat) (w : World) (hp : Sd w m a s) (hv : T.Vc 0 w m av ch) (hx : T.Nl w N ax xs) (hs : Ri.Small xs) (h1 : 1 ≤ B) (h2 : B ≤ 64) (h3 : 1 ≤ n) (h4 : n ≤ 6) (hm : m ≤ 4096) (hN : N = m * n) (hcx : N ≤ cx) (hf : Ri.fitsAll (B : Int) xs = true) :
    Calls Try.prog 13 #[.int .i64 (B : Int), .int .i64 (n : Int), .slice a m c, .agg #[.int .i64 (m : Int), .slice av (T.need m 64) (T.need m 64)], .slice ax N cx] w fun e w' => ∃ a1 c1, e = .returned (.tuple #[.slice a1 N c1, .int .i64 0]) ∧ T.Nl w' N a1 (tl (gotF B n s (fun j => ch.getD j false) (at0 xs)) N) ∧ Below w.heap.size w w' := by
  obtain ⟨i0, hi, hz0, hz1, hz2⟩ := info_of info47
  have HP := hide1 hp
  have HV := hide1 hv
  have HGP := hide1 hp.good
  have HX := hide1 hx
  have HS := hide1 hs
  have hn24 : N ≤ 24576 := by rw [hN]; exact Nat.mul_le_mul hm h4
  have kW := fun W (h : T.Nl W N ax xs) => hide1 (filled_any (B : Int) (n : Int) m N cx ax xs W h hs hm hn24)
  rw [ok_of h1 h2 h3 h4 hN hf] at kW
  have kN : Hid (∀ j, ∀ W, Calls Try.prog 21 #[.agg (u8s (s j)).toArray, .int .i64 (B : Int), .int .i64 (n : Int)] W fun e w' => ∃ g c, e = .returned (.tuple #[.slice (some ⟨g, 0, none⟩) n c, .int .i64 0]) ∧ W.heap.size ≤ g ∧ Ro.Mn w' g (nb (s j) B n) ∧ Below W.heap.size W w') := fun j W => pnb_any (s j) B n W (hp.good j).1 (hp.good j).2 h1 h2 h3 h4
  have kA : Hid (∀ x y : Nat, ∀ W, Calls Try.prog 24 #[.int .i64 (B : Int), .int .u64 (x : Int), .int .u64 (y : Int)] W fun e w' => e = .returned (.int .u64 (((x + y) % 2 ^ B : Nat) : Int)) ∧ w' = W) := fun x y W => by
    have h := Ri.add_any (B : Int) x y W
    rwa [Ri.fit_nat h1 h2] at h
  have kC : Hid (∀ j g o, j < m → ∀ W, Calls Try.prog 22 #[.int .i64 (n : Int), .int .i64 (j : Int), .slice (some ⟨g, o, none⟩) N cx] W fun e w' => e = .returned (.slice (some ⟨g, o + j * n, none⟩) n (cx - j * n)) ∧ w' = W) := fun j g o hj W => carried_any n j N cx g o W h3 h4 (by omega) (by
    have h : (j + 1) * n ≤ m * n := Nat.mul_le_mul_right n hj
    rw [Nat.succ_mul] at h
    rw [hN]
    exact h) hcx
  have kG : Hid (∀ j : Nat, ∀ W, Below w.heap.size w W → Calls Try.prog 34 #[.agg #[.int .i64 (m : Int), .slice av (T.need m 64) (T.need m 64)], .int .i64 (j : Int)] W fun e w' => e = .returned (.bool (ch.getD j false)) ∧ Below W.heap.size W w') := fun j W h => by
    rw [← T.getI_nat]
    exact T.get_bl 0 W m av ch (j : Int) (hv.below h (Nat.le_refl _)) (by omega)
  have hmk := fun W => run_make (P := Try.prog) W 23 49 i0 (.int .u64 0) Try.underlying23 hi hz0 .i64 .i64 0 (N : Int) (by omega) (by omega) (by rw [hz2]; omega) (by omega)
  simp only [Int.toNat_zero, Int.toNat_natCast] at hmk
  have H2 := hide1 h2
  have H3 := hide1 h3
  have H4 := hide1 h4
  have HN := hide1 hN
  have HM := hide1 hm
  have nm : ((m : Int) != (m : Int)) = false := by rw [bne_eq_false_iff_eq]
  obtain ⟨F, hF⟩ : ∃ F, F = gotF B n s (fun j => ch.getD j false) (at0 xs) := ⟨_, rfl⟩
  have HF : Shy (∀ j i, i < n → F (j * n + i) = gotV B (ch.getD j false) (at0 (nb (s j) B n) i) (at0 xs (j * n + i))) := ⟨fun j i h => by rw [hF]; exact gotF_at s _ (at0 xs) h⟩
  rw [← hF]
  clear hp hs hv hx h1 h2 h3 hf hF hN hm hcx
  go_enter Try.func13, Try.ntmps13
  go_upto_region 1 with (fail)
  generalize hX : World.alloc w _ = X
  have x0 : X.heap[w.heap.size]? = some (.cells #[.int .i64 (m : Int), .slice av (T.need m 64) (T.need m 64)] 37 (0, 0)) := by rw [← hX]; exact heap_alloc_new _ _
  have xb : Below w.heap.size w X := by rw [← hX]; exact (Below.refl _ _).alloc (Nat.le_refl _) _
  obtain ⟨gv, hgv⟩ : ∃ g, g = w.heap.size := ⟨_, rfl⟩
  rw [← hgv] at x0 ⊢
  obtain ⟨m0, m1, _⟩ := T.box2 x0
  have XB := hide1 xb
  have XV : Hid (∀ V, Below X.heap.size X V → V.heap[gv]? = some (.cells #[.int .i64 (m : Int), .slice av (T.need m 64) (T.need m 64)] 37 (0, 0))) := fun V h => (h.block _ (lt_heap x0)).trans x0
  clear hX x0 xb hgv
  go_wp2_with fail
  go_at_call 32
  refine (T.len_bl (m : Int) _ X rfl).mono ?_
  rintro e w1 ⟨rfl, hb1⟩
  have B1 := hide1 hb1
  clear hb1 m0 m1
  go_wp2_with fail
  go_at_call 20
  refine (kW w1 ((HX.out.below XB.out (Nat.le_refl _)).below B1.out (Nat.le_refl _))).out.mono ?_
  rintro e w2 ⟨rfl, q0, hq0⟩
  have B2 : Hid (Below X.heap.size X w2) := by rw [hq0]; exact below_drewN' B1.out q0
  clear hq0 kW B1 nm
  go_upto_region 4 with (fail)
  generalize hY : World.alloc w2 _ = Y
  have y0 : Y.heap[w2.heap.size]? = some (madeRow N) := by rw [← hY]; exact heap_alloc_new _ _
  have yb : Below w2.heap.size w2 Y := by rw [← hY]; exact (Below.refl _ _).alloc (Nat.le_refl _) _
  have OW0 : Hid (Y.ownsRow X.heap.size 49 1 (.slice (some ⟨w2.heap.size, 0, none⟩) 0 N) 0 (V.u64s (tl F 0))) := made_own B2.out.size hn24 y0 F
  have BY := hide1 (B2.out.trans (yb.mono B2.out.size))
  obtain ⟨gy, hgy⟩ : ∃ g, g = w2.heap.size := ⟨_, rfl⟩
  rw [← hgy] at OW0 ⊢
  clear hY y0 yb B2 hgy
  go_wp2
  go_loopw [12, 38] (fun v12 v38 wr => ∃ j p : Nat, j ≤ m ∧ p = j * n ∧ v38 = .int .i64 j ∧ wr.ownsRow X.heap.size 49 1 v12 p (V.u64s (tl F p)) ∧ Below X.heap.size X wr) (fun _ v38 _ => m - (intOf v38).toNat)
  case atStart => exact ⟨0, 0, Nat.zero_le _, by omega, rfl, OW0.out, BY.out⟩
  case round =>
    obtain ⟨j, p, hj, hp0, rfl, htw, hbe⟩ := hrel
    obtain ⟨la, lc, rfl⟩ := row_form htw
    by_cases hlt : j < m
    · have bk : (j : Int) < (m : Int) := by omega
      have bk2 : (j : Int) < 4096 := by have := HM.out; omega
      obtain ⟨ga, oa, rfl, hga, ra⟩ := HP.out.at0 hlt
      have hra := ra wr (XB.out.trans (hbe.mono XB.out.size)) j hlt
      have hsl := (HGP.out j).1
      have hip := hi23 hsl
      have hip' := hi23' hsl
      have HZ : Shy ((u8s (zeros 32)).toArray.size = (u8s (s j)).toArray.size) := ⟨by simp [u8s, zeros, hsl]⟩
      obtain ⟨gx, ox, rfl, _⟩ := nl_val HX.out (show j * n < N by rw [HN.out]; have h := place_lt (n := n) hlt (show 0 < n from H3.out); rwa [Nat.add_zero] at h)
      have KN0 := hide1 (kN.out j)
      have KC := hide1 (kC.out j gx ox hlt)
      have KG := hide1 (kG.out j)
      have HFj := HF.out j
      obtain ⟨bc, hbc⟩ : ∃ bc, bc = ch.getD j false := ⟨_, rfl⟩
      rw [← hbc] at HFj KG
      have HFj : Shy (∀ i, i < n → F (j * n + i) = gotV B bc (at0 (nb (s j) B n) i) (at0 xs (j * n + i))) := ⟨HFj⟩
      have hl1 := nb_length (s j) B n
      have HL1 : Shy (∀ i, i < n → at0 (nb (s j) B n) i < 2 ^ B) := ⟨fun i h => nb_lt _ H2.out h⟩
      generalize nb (s j) B n = l1 at *
      generalize s j = sj at *
      obtain ⟨ja, hja⟩ : ∃ x, x = oa + j * 32 := ⟨_, rfl⟩
      rw [← hja] at hra
      have eja : oa + j * 32 = ja := hja.symm
      have HTW := hide1 htw
      have HE := hide1 hbe
      have HL := hide1 hl1
      have HP0 := hide1 hp0
      have HRA := hide1 hra
      clear htw hbe hp0 hja hga ra hsl hl1 hra hbc
      go_upto_region 7 with (first
        | (refine wpList_load_mid rfl 46 (.tmp 41) rfl ga ja rfl (u8s sj) _ HRA.out Try.underlying46 rfl hip' ?_)
        | (refine wpList_store_own rfl 46 (.tmp 14) (.tmp 42) rfl wr.heap.size rfl (u8s sj).toArray rfl 46 _ (heap_alloc_new wr (row8 46 (zeros 32))) hip HZ.out (all_one (u8s_one _)) ?_)
        | fail)
      generalize hZ : World.setRow _ _ _ = Z
      have z0 : Z.heap[wr.heap.size]? = some (.cells (u8s sj).toArray 46 (0, 0)) := by rw [← hZ]; exact setRow_heap _ _ _ _ _ _ (heap_alloc_new _ _)
      have zb : Below wr.heap.size wr Z := by rw [← hZ]; exact Below.setRow' ((Below.refl _ _).alloc (Nat.le_refl _) _) (Nat.le_refl _) _
      obtain ⟨gz, hgz⟩ : ∃ g, g = wr.heap.size := ⟨_, rfl⟩
      rw [← hgz] at z0 ⊢
      have HEZ := hide1 (HE.out.trans (zb.mono HE.out.size))
      have HTWZ := hide1 (own_below HTW.out zb)
      have Z0 := hide1 z0
      clear hZ z0 zb hgz HTW HE HRA HZ
      go_wp2_with (first | (refine wpList_load_row rfl 46 (.tmp 14) rfl gz rfl 46 (u8s sj).toArray (0, 0) _ Z0.out Try.underlying46 rfl hip ?_) | fail)
      go_at_call 21
      refine (KN0.out _).mono ?_
      rintro e w3 ⟨g1, c1, rfl, hg1, hm1, hb3⟩
      have HE3 := hide1 (HEZ.out.trans (hb3.mono HEZ.out.size))
      have hso : So w3 X.heap.size (.slice la p lc) p F g1 l1 := ⟨own_below HTWZ.out hb3, hm1, Nat.le_trans HEZ.out.size hg1, fun x e => Nat.ne_of_lt (Nat.lt_of_lt_of_le (HTWZ.out.lt x e).2 hg1)⟩
      have SO := hide1 hso
      clear hb3 hm1 hg1 HTWZ HEZ KN0 Z0 hso
      obtain ⟨oq, hoq⟩ : ∃ o, o = ox + j * n := ⟨_, rfl⟩
      obtain ⟨cq, hcq⟩ : ∃ c, c = cx - j * n := ⟨_, rfl⟩
      rw [← hoq, ← hcq] at KC
      have HOQ := hide1 hoq
      clear hoq hcq
      go_wp2_with fail
      go_at_call 22
      refine (KC.out _).mono ?_
      rintro e w4 ⟨rfl, he4⟩
      obtain rfl := he4.symm
      clear he4 KC
      go_wp2
      go_loopw [12, 58] (fun v12 v58 wr => ∃ i p : Nat, i ≤ n ∧ p = j * n + i ∧ v58 = .int .i64 i ∧ So wr X.heap.size v12 p F g1 l1 ∧ Below X.heap.size X wr) (fun _ v58 _ => n - (intOf v58).toNat)
      case atStart => exact ⟨0, p, Nat.zero_le _, by rw [HP0.out]; rfl, rfl, SO.out, HE3.out⟩
      case round =>
        obtain ⟨i, p, hi0, hpi, rfl, hst, hbe⟩ := hrel
        obtain ⟨la, lc, rfl⟩ := row_form hst.own
        by_cases hli : i < n
        · have hpN : p < N := by rw [hpi, HN.out]; exact place_lt hlt hli
          have bi : (i : Int) < (n : Int) := by omega
          have bi6 : (i : Int) < 6 := by have := H4.out; omega
          have hbw := XB.out.trans (hbe.mono XB.out.size)
          obtain ⟨gx', ox', ex, cx0⟩ := nl_val (HX.out.below hbw (Nat.le_refl _)) hpN
          cases ex
          have cy := hst.m.cell (j := i) (by rw [HL.out]; exact hli)
          have hFp := HFj.out i hli
          rw [← hpi] at hFp
          have hy := HL1.out i hli
          obtain ⟨jx, hjx⟩ : ∃ t, t = oq + i := ⟨_, rfl⟩
          rw [show ox + p = jx by rw [hjx, HOQ.out, hpi, Nat.add_assoc]] at cx0
          have ejx : oq + i = jx := hjx.symm
          generalize at0 xs p = x at *
          generalize at0 l1 i = y at *
          have kT1 := fun W => hide1 (times_any bc x W)
          have hv1 := got_two (x := x) bc hy
          rw [← hFp] at hv1
          generalize tms bc x = u at *
          have kA1 := fun W => hide1 (kA.out y u W)
          rw [hv1] at kA1
          have KG1 : Hid (∀ W, Below wr.heap.size wr W → Calls Try.prog 34 #[.agg #[.int .i64 (m : Int), .slice av (T.need m 64) (T.need m 64)], .int .i64 (j : Int)] W fun e w' => e = .returned (.bool bc) ∧ Below W.heap.size W w') := fun W h => KG.out W (hbw.trans (h.mono hbw.size))
          have CY : Hid (∀ W, Below wr.heap.size wr W → W.cell? ⟨g1, i, none⟩ = some (.int .u64 (y : Int))) := fun W h => (h.cell (p := ⟨g1, i, none⟩) (T.lt_cell cy)).trans cy
          have XW := hide1 (XV.out wr hbe)
          have HPI := hide1 hpi
          have HST := hide1 hst
          have HE := hide1 hbe
          have HPN := hide1 hpN
          clear hst hbe hpi hjx hv1 hFp hy cy hpN hbw
          obtain ⟨v1, hv1⟩ : ∃ v, v = F p := ⟨_, rfl⟩
          rw [← hv1] at kA1
          have HV1 := hide1 hv1
          clear hv1
          go_upto_region 13 with (fail)
          have hpN := HPN.out
          refine region_f (F := [13]) (S := fun W => Below wr.heap.size wr W) (by kernel_rfl) (Below.refl _ _).drew (fun hS => ?_)
          refine take_p 0 63 (.slice la p lc) rfl rfl (by kernel_rfl) (by kernel_rfl) (by kernel_rfl) (fun _ _ _ h => h) rfl (fun w => by go_simp) ?_
          try simp only [List.setIfInBounds_toArray, List.set_cons_zero, List.set_cons_succ]
          refine take_p 1 64 (.int .i64 (B : Int)) rfl rfl (by kernel_rfl) (by kernel_rfl) (by kernel_rfl) (fun _ _ _ h => h) rfl (fun w => by go_simp) ?_
          try simp only [List.setIfInBounds_toArray, List.set_cons_zero, List.set_cons_succ]
          refine take_p 2 65 (.slice (some ⟨g1, 0, none⟩) n c1) rfl rfl (by kernel_rfl) (by kernel_rfl) (by kernel_rfl) (fun _ _ _ h => h) rfl (fun w => by go_simp) ?_
          try simp only [List.setIfInBounds_toArray, List.set_cons_zero, List.set_cons_succ]
          refine take_p 3 66 (.int .i64 (i : Int)) rfl rfl (by kernel_rfl) (by kernel_rfl) (by kernel_rfl) (fun _ _ _ h => h) rfl (fun w => by go_simp) ?_
          try simp only [List.setIfInBounds_toArray, List.set_cons_zero, List.set_cons_succ]
          refine take_p 4 67 (.pointer (some ⟨g1, i, none⟩)) rfl rfl (by kernel_rfl) (by kernel_rfl) (by kernel_rfl) (fun _ _ _ h => h) rfl (fun w => by go_simp) ?_
          try simp only [List.setIfInBounds_toArray, List.set_cons_zero, List.set_cons_succ]
          refine take_f 5 68 (.int .u64 (y : Int)) [11, 12, 13, 14] rfl rfl (by kernel_rfl) (by kernel_rfl) (by kernel_rfl) (by kernel_rfl) (by kernel_rfl) (by kernel_rfl) (fun _ _ _ h => h) rfl (fun w hSw => by have h1 := CY.out w hSw; go_simp) hS ?_
          try simp only [List.setIfInBounds_toArray, List.set_cons_zero, List.set_cons_succ]
          refine take_f 6 69 (.agg #[.int .i64 (m : Int), .slice av (T.need m 64) (T.need m 64)]) [8, 10, 11, 12, 13, 14] rfl rfl (by kernel_rfl) (by kernel_rfl) (by kernel_rfl) (by kernel_rfl) (by kernel_rfl) (by kernel_rfl) (fun _ _ _ h => h) rfl (fun w hSw => by obtain ⟨h1, h2, _⟩ := T.box2 ((hSw.block _ (lt_heap XW.out)).trans XW.out); go_simp) hS ?_
          try simp only [List.setIfInBounds_toArray, List.set_cons_zero, List.set_cons_succ]
          refine take_p 7 70 (.int .i64 (j : Int)) rfl rfl (by kernel_rfl) (by kernel_rfl) (by kernel_rfl) (fun _ _ _ h => h) rfl (fun w => by go_simp) ?_
          try simp only [List.setIfInBounds_toArray, List.set_cons_zero, List.set_cons_succ]
          refine take_p 9 72 (.int .u64 (x : Int)) rfl rfl (by kernel_rfl) (by kernel_rfl) (by kernel_rfl) (fun _ _ _ h => h) rfl (fun w => by go_simp) ?_
          try simp only [List.setIfInBounds_toArray, List.set_cons_zero, List.set_cons_succ]
          refine ready_f 8 (o := { dst := some 71, op := Op.call { callee := Callee.value (Operand.func 34), args := #[Operand.tmp 69, Operand.tmp 70], argTypes := #[37, 3] }, type := 4, pos := "cot.go:46", after := #[{ on := 6, ground := Ground.data }, { on := 7, ground := Ground.data }], guard := none }) (by kernel_rfl) rfl (fun K hK => ?_)
          go_simp
          refine (KG1.out _ hS).mono ?_
          rintro e w1 ⟨rfl, hg1⟩
          have hS1 : Below wr.heap.size wr w1 := hS.trans (hg1.mono hS.size)
          refine hK.out _ _ (fun _ _ => hS1) ?_
          clear hg1
          clear hK K
          try simp only [Act.put, List.setIfInBounds_toArray, List.set_cons_zero, List.set_cons_succ]
          refine ready_f 10 (o := { dst := some 73, op := Op.call { callee := Callee.value (Operand.func 33), args := #[Operand.tmp 71, Operand.tmp 72], argTypes := #[4, 49] }, type := 49, pos := "cot.go:46", after := #[{ on := 8, ground := Ground.data }, { on := 9, ground := Ground.data }, { on := 8, ground := Ground.chain }], guard := none }) (by kernel_rfl) rfl (fun K hK => ?_)
          go_simp
          refine (kT1 _).out.mono ?_
          rintro e w9 ⟨rfl, he9⟩
          obtain rfl := he9.symm
          clear he9
          refine hK.out _ _ (fun _ h => h) ?_
          clear hK K
          try simp only [Act.put, List.setIfInBounds_toArray, List.set_cons_zero, List.set_cons_succ]
          refine ready_f 11 (o := { dst := some 74, op := Op.call { callee := Callee.value (Operand.func 24), args := #[Operand.tmp 64, Operand.tmp 68, Operand.tmp 73], argTypes := #[3, 49, 49] }, type := 49, pos := "cot.go:46", after := #[{ on := 1, ground := Ground.data }, { on := 5, ground := Ground.data }, { on := 10, ground := Ground.data }, { on := 10, ground := Ground.chain }], guard := none }) (by kernel_rfl) rfl (fun K hK => ?_)
          go_simp
          refine (kA1 _).out.mono ?_
          rintro e w9 ⟨rfl, he9⟩
          obtain rfl := he9.symm
          clear he9
          refine hK.out _ _ (fun _ h => h) ?_
          clear hK K
          try simp only [Act.put, List.setIfInBounds_toArray, List.set_cons_zero, List.set_cons_succ]
          refine ready_f 12 (o := { dst := some 75, op := Op.buildSlice 23 1 #[(0, Operand.tmp 74)], type := 23, pos := "cot.go:46", after := #[{ on := 11, ground := Ground.data }], guard := none }) (by kernel_rfl) rfl (fun K hK => ?_)
          go_simp
          generalize hU : World.alloc _ _ = U
          have hU0 : U.heap[w1.heap.size]? = some (V.wrow [v1]) := by rw [← hU]; exact heap_alloc_new _ _
          have hS3 : Below wr.heap.size wr U := by rw [← hU]; exact hS1.alloc hS1.size _
          clear hU
          refine hK.out _ _ (fun _ _ => hS3) ?_
          clear hK K
          try simp only [Act.put, List.setIfInBounds_toArray, List.set_cons_zero, List.set_cons_succ]
          have hstW := HST.out.below hS3
          have hz8 := hS3.size
          have hz9 := HE.out.size
          have hz7 := hS1.size
          refine ready_f 13 (o := { dst := some 76, op := Op.call { callee := Callee.builtin Builtin.append, args := #[Operand.tmp 63, Operand.tmp 75], argTypes := #[23, 23] }, type := 23, pos := "cot.go:46", after := #[{ on := 0, ground := Ground.data }, { on := 12, ground := Ground.data }, { on := 11, ground := Ground.chain }], guard := none }) (by kernel_rfl) rfl (fun K hK => ?_)
          rw [if_pos (by rfl)]
          refine wp_append_lies _ _ _ 23 rfl X.heap.size 49 i0 (.int .u64 0) 1 8 Try.underlying23 hi hz0 hz1 hz2 rfl (by decide) (.slice la p lc) p (V.u64s (tl F p)) rfl hstW.own ⟨w1.heap.size, 0, none⟩ 1 1 (V.u64s [v1]) rfl rfl (World.news_of_block hU0) (V.u64s_one _) (by omega) (by unfold maxLen; omega) (by omega) (by omega) _ rfl ?_
          intro g8 cap8 w8 ro8 gr8 wh8 lt8
          have hb8 : Below X.heap.size U w8 := (Below.refl _ _).grown gr8 (by omega) (fun k hk => (hstW.own.lt k hk).1)
          have hS6 : Below X.heap.size wr w8 := (hS3.mono (by omega)).trans hb8
          rw [HV1.out] at ro8
          have hst8 := hstW.add ro8 gr8 wh8
          refine hK.out _ _ (fun h => absurd (by decide) h) ?_
          clear hK K
          try simp only [Act.put, List.setIfInBounds_toArray, List.set_cons_zero, List.set_cons_succ]
          refine take_p 14 12 (.slice (some ⟨g8, 0, none⟩) (p + 1) cap8) rfl rfl (by kernel_rfl) (by kernel_rfl) (by kernel_rfl) (fun _ _ _ h => h) rfl (fun w => by go_simp) ?_
          try simp only [List.setIfInBounds_toArray, List.set_cons_zero, List.set_cons_succ]
          refine done_f (by kernel_rfl) ?_ _
          have HST8 := hide1 hst8
          have HE8 := hide1 (HE.out.trans hS6)
          clear hst8 hS6 hb8 hS3 hstW ro8 gr8 wh8 lt8 hU0 hz8 hz9 hS hS1 kA1 kT1 cx0 hpN
          go_wp2
          go_roundw
          case rel => exact ⟨i + 1, p + 1, by omega, by have := HPI.out; omega, by go_num, HST8.out, HE8.out⟩
          case measure => simp [intOf]; omega
        · obtain rfl : i = n := by omega
          have HTW := hide1 hst.own
          have HE := hide1 hbe
          have HPI := hide1 hpi
          clear hst hbe hpi
          go_wp2
          go_roundw
          case rel => exact ⟨j + 1, p, by omega, by rw [HPI.out, Nat.succ_mul], by go_num, HTW.out, HE.out⟩
          case measure => simp [intOf]; omega
    · obtain rfl : j = m := by omega
      obtain rfl : p = N := by rw [hp0, HN.out]
      have HNN := hide1 (own_nl htw)
      have HE := hide1 (XB.out.trans (hbe.mono XB.out.size))
      clear htw hbe hp0
      go_wp2
      go_ret2
      exact ⟨_, _, rfl, HNN.out, HE.out⟩
end Go.Proofs.Ytdmodknjcdkocaa.Co
