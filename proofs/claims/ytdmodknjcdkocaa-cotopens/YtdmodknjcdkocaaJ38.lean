/- The document's Receive. -/
import Derived.Test.YtdmodknjcdkocaaJ37
import Derived.Test.YtdmodknjcdkocaaJ20
namespace Go.Proofs.Ytdmodknjcdkocaa.Co
open Go.RowKit Pg Ro
set_option maxRecDepth 100000
attribute [local go_sem] not_any T.mf_any

/- a list that grows, beside a row that is changed on its way -/
structure So (w : World) (base : Nat) (v : Value) (p : Nat) (F : Nat → Nat) (g : Nat) (l : List Nat) : Prop where
  own : w.ownsRow base 49 1 v p (V.u64s (tl F p))
  m : Ro.Mn w g l
  lo : base ≤ g
  off : ∀ x, v.ownBlock = some x → x ≠ g
theorem So.below {w w' : World} {base p g : Nat} {v : Value} {F : Nat → Nat} {l : List Nat} (h : So w base v p F g l) (hb : Below w.heap.size w w') : So w' base v p F g l := ⟨own_below h.own hb, h.m.below hb h.m.lt, h.lo, h.off⟩
theorem own_set {w : World} {base e size n g j : Nat} {v u : Value} {xs : List Value} (h : w.ownsRow base e size v n xs) (ho : ∀ x, v.ownBlock = some x → x ≠ g) : (w.setCell ⟨g, j, none⟩ u).ownsRow base e size v n xs := by
  refine ⟨h.1, ?_⟩
  rcases h.2 with h2 | ⟨g2, cap, cur, hv, hg, hh, r⟩
  · exact .inl h2
  · refine .inr ⟨g2, cap, cur, hv, hg, ?_, r⟩
    rw [heap_setCell_other _ _ _ _ (fun e => ho g2 (by rw [hv]; rfl) e)]
    exact hh
theorem So.set {w : World} {base p g : Nat} {v : Value} {F : Nat → Nat} {l : List Nat} (h : So w base v p F g l) (j x : Nat) : So (w.setCell ⟨g, j, none⟩ (.int .u64 (x : Int))) base v p F g (l.set j x) := ⟨own_set h.own h.off, h.m.set j x, h.lo, h.off⟩
theorem So.add {w w' : World} {base p g g8 cap : Nat} {v : Value} {F : Nat → Nat} {l : List Nat} (h : So w base v p F g l) (ho : w'.ownsRow base 49 1 (.slice (some ⟨g8, 0, none⟩) (p + 1) cap) (p + 1) (V.u64s (tl F p) ++ V.u64s [F p]))
    (hg : w.grownBy w' v.ownBlock) (hl : v.ownBlock = some g8 ∨ g8 = w.heap.size) : So w' base (.slice (some ⟨g8, 0, none⟩) (p + 1) cap) (p + 1) F g l := by
  refine ⟨?_, mn_kept h.m hg (fun e => h.off _ e rfl), h.lo, fun x e => ?_⟩
  · rw [tl_succ, V.u64s, List.map_append]
    exact ho
  · have e' : g8 = x := by simpa [Value.ownBlock] using e
    rcases hl with hl | hl
    · rw [← e']; exact h.off g8 hl
    · have a1 := h.m.lt
      omega
theorem at0_set_ne {l : List Nat} {i k x : Nat} (h : i ≠ k) : at0 (l.set i x) k = at0 l k := by rw [at0, at0, List.getElem?_set_ne h]
theorem at0_set_eq {l : List Nat} {i x : Nat} (h : i < l.length) : at0 (l.set i x) i = x := by rw [at0, List.getElem?_set_self h]; rfl

set_option maxHeartbeats 16000000 in
theorem rreceive_good (B n m N c cc cx : Nat) (a ac ax : Option Addr) (s : Nat → List Nat) (ch : List Bool) (xs : List Nat) (w : World) (hp : Sd w m a s) (hv : T.Bl w m ac ch) (hx : T.Nl w N ax xs) (hs : Ri.Small xs) (h1 : 1 ≤ B) (h2 : B ≤ 64) (h3 : 1 ≤ n) (h4 : n ≤ 6) (hm : m ≤ 4096) (hN : N = m * n) (hf : Ri.fitsAll (B : Int) xs = true) :
    Calls Try.prog 14 #[.int .i64 (B : Int), .int .i64 (n : Int), .slice a m c, .slice ac m cc, .slice ax N cx] w fun e w' => ∃ a1 c1, e = .returned (.tuple #[.slice a1 N c1, .int .i64 0]) ∧ T.Nl w' N a1 (tl (gotF B n s (fun j => ch.getD j false) (at0 xs)) N) ∧ Below w.heap.size w w' := by
  obtain ⟨i0, hi, hz0, hz1, hz2⟩ := info_of info47
  have HP := hide1 hp
  have HV := hide1 hv
  have HGP := hide1 hp.good
  have HX := hide1 hx
  have HS := hide1 hs
  have hn24 : N ≤ 24576 := by rw [hN]; exact Nat.mul_le_mul hm h4
  have kW := fun w => hide1 (wrong_any (B : Int) (n : Int) w)
  rw [bad_of h1 h2 h3 h4] at kW
  have kF := fun w hx => hide1 (Ri.rfits_any B w N cx ax xs (ri_nl hx) hs (by omega) h1 h2)
  rw [hf] at kF
  have kN : Hid (∀ j, ∀ W, Calls Try.prog 27 #[.agg (u8s (s j)).toArray, .int .i64 (B : Int), .int .i64 (n : Int)] W fun e w' => ∃ g c, e = .returned (.tuple #[.slice (some ⟨g, 0, none⟩) n c, .int .i64 0]) ∧ W.heap.size ≤ g ∧ Ro.Mn w' g (nb (s j) B n) ∧ Below W.heap.size W w') := fun j W => rnb_any (s j) B n W (hp.good j).1 (hp.good j).2 h1 h2 h3 h4
  have kA : Hid (∀ x y : Nat, x < 18446744073709551616 → y < 18446744073709551616 → ∀ W, Calls Try.prog 29 #[.int .i64 (B : Int), .int .u64 (x : Int), .int .u64 (y : Int)] W fun e w' => e = .returned (.int .u64 (((x + y) % 2 ^ B : Nat) : Int)) ∧ w' = W) := fun x y hx hy W => Ri.radd_any B x y W h1 h2 hx hy
  have H2 := hide1 h2
  have H4 := hide1 h4
  have HN := hide1 hN
  have HM := hide1 hm
  have e1 : IntKind.i64.wrap ((n : Int) * (m : Int)) = (N : Int) := by rw [← Int.natCast_mul, Nat.mul_comm, ← hN, wrap_i64_nat (by omega)]
  have nn : ((N : Int) != (N : Int)) = false := by rw [bne_eq_false_iff_eq]
  have nm : ((m : Int) != (m : Int)) = false := by rw [bne_eq_false_iff_eq]
  obtain ⟨F, hF⟩ : ∃ F, F = gotF B n s (fun j => ch.getD j false) (at0 xs) := ⟨_, rfl⟩
  have HF : Shy (∀ j i, i < n → F (j * n + i) = gotV B (ch.getD j false) (at0 (nb (s j) B n) i) (at0 xs (j * n + i))) := ⟨fun j i h => by rw [hF]; exact gotF_at s _ (at0 xs) h⟩
  rw [← hF]
  clear hp hs hv h1 h2 h3 hf hF hN hm
  go_enter Try.func14, Try.ntmps14
  go_wp2_with fail
  go_at_call 26
  refine (kW _).out.mono ?_
  rintro e w0 ⟨rfl, he0⟩
  obtain rfl := he0.symm
  go_wp2_with fail
  go_at_call 17
  refine (kF _ hx).out.mono ?_
  rintro e w0 ⟨rfl, q0, hq0⟩
  have B0 : Hid (Below w.heap.size w w0) := by rw [hq0]; exact below_drewN' (Below.refl _ _) q0
  clear hq0 hx kW kF e1 nn nm
  go_wp2
  go_loopw [12, 13] (fun v12 v13 wr => ∃ j p : Nat, j ≤ m ∧ p = j * n ∧ v13 = .int .i64 j ∧ wr.ownsRow w.heap.size 49 1 v12 p (V.u64s (tl F p)) ∧ Below w.heap.size w wr) (fun _ v13 _ => m - (intOf v13).toNat)
  case atStart => exact ⟨0, 0, Nat.zero_le _, by omega, rfl, World.ownsRow_nil _ _ _ _, B0.out⟩
  case round =>
    obtain ⟨j, p, hj, hp0, rfl, htw, hbe⟩ := hrel
    obtain ⟨la, lc, rfl⟩ := row_form htw
    by_cases hlt : j < m
    · have bk : (j : Int) < (m : Int) := by omega
      have bk2 : (j : Int) < 4096 := by have := HM.out; omega
      obtain ⟨ga, oa, rfl, hga, ra⟩ := HP.out.at0 hlt
      have RA := hide1 (fun W (h : Below w.heap.size w W) => ra W h j hlt)
      obtain ⟨bc, hbc⟩ : ∃ bc, ch[j]? = some bc := ⟨_, List.getElem?_eq_getElem (by rw [HV.out.len]; exact hlt)⟩
      obtain ⟨gc, oc, rfl, hcc⟩ := HV.out.at' j bc hbc
      have CC : Hid (∀ V, Below w.heap.size w V → V.cell? ⟨gc, oc + j, none⟩ = some (.bool bc)) := fun V h => (h.cell (p := ⟨gc, oc + j, none⟩) (T.lt_cell hcc)).trans hcc
      have hbd : ch.getD j false = bc := by rw [List.getD_eq_getElem?_getD, hbc]; rfl
      have hip := hi23' (HGP.out j).1
      have KN0 := hide1 (kN.out j)
      have HFj : Shy (∀ i, i < n → F (j * n + i) = gotV B bc (at0 (nb (s j) B n) i) (at0 xs (j * n + i))) := ⟨by have h := HF.out j; rw [hbd] at h; exact h⟩
      have HL : Shy ((nb (s j) B n).length = n) := ⟨nb_length (s j) B n⟩
      have HL1 : Shy (∀ i, i < n → at0 (nb (s j) B n) i < 18446744073709551616) := ⟨fun i h => nb_lt64 _ H2.out h⟩
      generalize nb (s j) B n = l1 at *
      generalize s j = sj at *
      obtain ⟨ja, hja⟩ : ∃ x, x = oa + j * 32 := ⟨_, rfl⟩
      obtain ⟨jc, hjc⟩ : ∃ x, x = oc + j := ⟨_, rfl⟩
      rw [← hja] at RA
      rw [← hjc] at CC
      have eja : oa + j * 32 = ja := hja.symm
      have ejc : oc + j = jc := hjc.symm
      have HTW := hide1 htw
      have HE := hide1 hbe
      have HP0 := hide1 hp0
      have hr := RA.out wr hbe
      clear htw hbe hp0 hja hga ra hjc hcc hbc hbd
      go_upto_region 7 with (fail)
      go_wp2_with (first | (refine wpList_load_mid rfl 46 (.tmp 51) rfl ga ja rfl (u8s sj) _ hr Try.underlying46 rfl hip ?_) | fail)
      go_at_call 27
      refine (KN0.out _).mono ?_
      rintro e w1 ⟨g1, c1, rfl, hg1, hm1, hb1⟩
      have HE1 := hide1 (HE.out.trans (hb1.mono HE.out.size))
      have hso : So w1 w.heap.size (.slice la p lc) p F g1 l1 := ⟨own_below HTW.out hb1, hm1, Nat.le_trans HE.out.size hg1, fun x e => Nat.ne_of_lt (Nat.lt_of_lt_of_le (HTW.out.lt x e).2 hg1)⟩
      have SO := hide1 hso
      clear hb1 hm1 hg1 HTW HE KN0 hr hso
      go_wp2
      go_loopw [12, 16] (fun v12 v16 wr => ∃ (i p : Nat) (l : List Nat), i ≤ n ∧ p = j * n + i ∧ v16 = .int .i64 i ∧ l.length = n ∧ (∀ k, i ≤ k → at0 l k = at0 l1 k) ∧ So wr w.heap.size v12 p F g1 l ∧ Below w.heap.size w wr) (fun _ v16 _ => n - (intOf v16).toNat)
      case atStart => exact ⟨0, p, l1, Nat.zero_le _, by rw [HP0.out]; rfl, rfl, HL.out, fun _ _ => rfl, SO.out, HE1.out⟩
      case round =>
        obtain ⟨i, p, l, hi0, hpi, rfl, hll, hle, hst, hbe⟩ := hrel
        obtain ⟨la, lc, rfl⟩ := row_form hst.own
        by_cases hli : i < n
        · have hpN : p < N := by rw [hpi, HN.out]; exact place_lt hlt hli
          have bp : (p : Int) < (N : Int) := by omega
          have bp2 : (p : Int) < 24576 := by omega
          have bi : (i : Int) < (n : Int) := by omega
          have bi6 : (i : Int) < 6 := by have := H4.out; omega
          obtain ⟨q, hq⟩ : ∃ q, q = j * n := ⟨_, rfl⟩
          have e1 : IntKind.i64.wrap ((j : Int) * (n : Int)) = (q : Int) := by rw [← Int.natCast_mul, ← hq, wrap_i64_nat (by omega)]
          have e2 : (q : Int) + (i : Int) = (p : Int) := by omega
          have bq : (q : Int) ≤ 24576 := by omega
          have e3 : IntKind.i64.wrap (p : Int) = (p : Int) := wrap_i64_nat (by omega)
          obtain ⟨gx, ox, rfl, cx⟩ := nl_val (HX.out.below hbe (Nat.le_refl _)) hpN
          have cy := hst.m.cell (j := i) (by rw [hll]; exact hli)
          have fy := hst.m.frozen i
          have hc0 := CC.out wr hbe
          have bx := small_at HS.out p
          have hy := HL1.out i hli
          have hFp := HFj.out i hli
          rw [← hpi] at hFp
          rw [hle i (Nat.le_refl _)] at cy
          have HLL : Shy (l.length = n ∧ ∀ k, i ≤ k → at0 l k = at0 l1 k) := ⟨hll, hle⟩
          have HYI : Shy (at0 l i = at0 l1 i) := ⟨hle i (Nat.le_refl _)⟩
          obtain ⟨jx, hjx⟩ : ∃ t, t = ox + p := ⟨_, rfl⟩
          rw [← hjx] at cx
          have ejx : ox + p = jx := hjx.symm
          generalize at0 xs p = x at *
          generalize at0 l1 i = y at *
          have CX : Hid (∀ W, Below wr.heap.size wr W → W.cell? ⟨gx, jx, none⟩ = some (.int .u64 (x : Int))) := fun W h => (h.cell (p := ⟨gx, jx, none⟩) (T.lt_cell cx)).trans cx
          have CY : Hid (∀ W, Below wr.heap.size wr W → W.cell? ⟨g1, i, none⟩ = some (.int .u64 (y : Int))) := fun W h => (h.cell (p := ⟨g1, i, none⟩) (T.lt_cell cy)).trans cy
          have HPI := hide1 hpi
          have HST := hide1 hst
          have HE := hide1 hbe
          clear hst hbe hpi hq hjx cx hll hle
          cases bc with
          | false =>
            have HV1 : Shy (y = F p) := ⟨by rw [hFp]; rfl⟩
            clear hFp bx hy fy CX CY
            go_wp2_with (first
              | (at_builtin; go_must (refine wpList_append_lies _ rfl (.tmp 84) (.tmp 89) 23 rfl w.heap.size 49 i0 (.int .u64 0) 1 8 Try.underlying23 hi hz0 hz1 hz2 rfl (by decide) (.slice la p lc) p (V.u64s (tl F p)) rfl (HST.out.own.alloc _) ⟨wr.heap.size, 0, none⟩ 1 1 (V.u64s [y]) rfl rfl (World.news_of_block (heap_alloc_new wr (V.wrow [y]))) (V.u64s_one _) (by omega) (by unfold maxLen; omega) (by omega) (by have := HE.out.size; rw [size_alloc]; omega) _ rfl ?_; intro g9 cap9 w9 ro9 gr9 wh9 lt9))
              | fail)
            rw [HV1.out] at ro9
            have hst9 := (HST.out.below ((Below.refl _ _).alloc (Nat.le_refl _) _)).add ro9 gr9 wh9
            have hb9 : Below w.heap.size w w9 := (HE.out.alloc HE.out.size _).grown gr9 (by rw [size_alloc]; have := HE.out.size; omega) (fun k hk => (HST.out.own.lt k hk).1)
            have HST9 := hide1 hst9
            have HB9 := hide1 hb9
            clear hst9 hb9 ro9 gr9 wh9 lt9 cy
            go_wp2
            go_roundw
            case rel => exact ⟨i + 1, p + 1, l, by omega, by have := HPI.out; omega, by go_num, HLL.out.1, fun k hk => HLL.out.2 k (by omega), HST9.out, HB9.out⟩
            case measure => simp [intOf]; omega
          | true =>
            have kA1 := fun W => hide1 (kA.out y x hy bx W)
            have hFp2 : F p = (y + x) % 2 ^ B := hFp
            rw [← hFp2] at kA1
            obtain ⟨v1, hv1⟩ : ∃ v, v = F p := ⟨_, rfl⟩
            rw [← hv1] at kA1
            have HV1 := hide1 hv1
            clear hv1 hFp hFp2 bx hy cy
            go_upto_region 12 with (fail)
            clear hc0
            refine region_f (F := [17]) (S := fun W => Below wr.heap.size wr W) (by kernel_rfl) (Below.refl _ _).drew (fun hS => ?_)
            refine take_p 0 67 (.slice (some ⟨g1, 0, none⟩) n c1) rfl rfl (by kernel_rfl) (by kernel_rfl) (by kernel_rfl) (fun _ _ _ h => h) rfl (fun w => by go_simp) ?_
            try simp only [List.setIfInBounds_toArray, List.set_cons_zero, List.set_cons_succ]
            refine take_p 1 68 (.int .i64 (i : Int)) rfl rfl (by kernel_rfl) (by kernel_rfl) (by kernel_rfl) (fun _ _ _ h => h) rfl (fun w => by go_simp) ?_
            try simp only [List.setIfInBounds_toArray, List.set_cons_zero, List.set_cons_succ]
            refine take_p 2 69 (.int .i64 (B : Int)) rfl rfl (by kernel_rfl) (by kernel_rfl) (by kernel_rfl) (fun _ _ _ h => h) rfl (fun w => by go_simp) ?_
            try simp only [List.setIfInBounds_toArray, List.set_cons_zero, List.set_cons_succ]
            refine take_p 3 70 (.slice (some ⟨g1, 0, none⟩) n c1) rfl rfl (by kernel_rfl) (by kernel_rfl) (by kernel_rfl) (fun _ _ _ h => h) rfl (fun w => by go_simp) ?_
            try simp only [List.setIfInBounds_toArray, List.set_cons_zero, List.set_cons_succ]
            refine take_p 4 71 (.int .i64 (i : Int)) rfl rfl (by kernel_rfl) (by kernel_rfl) (by kernel_rfl) (fun _ _ _ h => h) rfl (fun w => by go_simp) ?_
            try simp only [List.setIfInBounds_toArray, List.set_cons_zero, List.set_cons_succ]
            refine take_p 5 72 (.pointer (some ⟨g1, i, none⟩)) rfl rfl (by kernel_rfl) (by kernel_rfl) (by kernel_rfl) (fun _ _ _ h => h) rfl (fun w => by go_simp) ?_
            try simp only [List.setIfInBounds_toArray, List.set_cons_zero, List.set_cons_succ]
            refine take_f 6 73 (.int .u64 (y : Int)) [15, 16, 17] rfl rfl (by kernel_rfl) (by kernel_rfl) (by kernel_rfl) (by kernel_rfl) (by kernel_rfl) (by kernel_rfl) (fun _ _ _ h => h) rfl (fun w hSw => by have h1 := CY.out w hSw; go_simp) hS ?_
            try simp only [List.setIfInBounds_toArray, List.set_cons_zero, List.set_cons_succ]
            refine take_p 7 74 (.slice (some ⟨gx, ox, none⟩) N cx) rfl rfl (by kernel_rfl) (by kernel_rfl) (by kernel_rfl) (fun _ _ _ h => h) rfl (fun w => by go_simp) ?_
            try simp only [List.setIfInBounds_toArray, List.set_cons_zero, List.set_cons_succ]
            refine take_p 8 75 (.int .i64 (j : Int)) rfl rfl (by kernel_rfl) (by kernel_rfl) (by kernel_rfl) (fun _ _ _ h => h) rfl (fun w => by go_simp) ?_
            try simp only [List.setIfInBounds_toArray, List.set_cons_zero, List.set_cons_succ]
            refine take_p 9 76 (.int .i64 (n : Int)) rfl rfl (by kernel_rfl) (by kernel_rfl) (by kernel_rfl) (fun _ _ _ h => h) rfl (fun w => by go_simp) ?_
            try simp only [List.setIfInBounds_toArray, List.set_cons_zero, List.set_cons_succ]
            refine take_p 10 77 (.int .i64 (q : Int)) rfl rfl (by kernel_rfl) (by kernel_rfl) (by kernel_rfl) (fun _ _ _ h => h) rfl (fun w => by go_simp) ?_
            try simp only [List.setIfInBounds_toArray, List.set_cons_zero, List.set_cons_succ]
            refine take_p 11 78 (.int .i64 (i : Int)) rfl rfl (by kernel_rfl) (by kernel_rfl) (by kernel_rfl) (fun _ _ _ h => h) rfl (fun w => by go_simp) ?_
            try simp only [List.setIfInBounds_toArray, List.set_cons_zero, List.set_cons_succ]
            refine take_p 12 79 (.int .i64 (p : Int)) rfl rfl (by kernel_rfl) (by kernel_rfl) (by kernel_rfl) (fun _ _ _ h => h) rfl (fun w => by go_simp) ?_
            try simp only [List.setIfInBounds_toArray, List.set_cons_zero, List.set_cons_succ]
            refine take_p 13 80 (.pointer (some ⟨gx, jx, none⟩)) rfl rfl (by kernel_rfl) (by kernel_rfl) (by kernel_rfl) (fun _ _ _ h => h) rfl (fun w => by go_simp) ?_
            try simp only [List.setIfInBounds_toArray, List.set_cons_zero, List.set_cons_succ]
            refine take_f 14 81 (.int .u64 (x : Int)) [15, 16, 17] rfl rfl (by kernel_rfl) (by kernel_rfl) (by kernel_rfl) (by kernel_rfl) (by kernel_rfl) (by kernel_rfl) (fun _ _ _ h => h) rfl (fun w hSw => by have h1 := CX.out w hSw; go_simp) hS ?_
            try simp only [List.setIfInBounds_toArray, List.set_cons_zero, List.set_cons_succ]
            refine ready_f 15 (o := { dst := some 82, op := Op.call { callee := Callee.value (Operand.func 29), args := #[Operand.tmp 69, Operand.tmp 73, Operand.tmp 81], argTypes := #[3, 49, 49] }, type := 49, pos := "ref.go:56", after := #[{ on := 2, ground := Ground.data }, { on := 6, ground := Ground.data }, { on := 14, ground := Ground.data }], guard := none }) (by kernel_rfl) rfl (fun K hK => ?_)
            go_simp
            refine (kA1 _).out.mono ?_
            rintro e w' ⟨rfl, rfl⟩
            refine hK.out _ _ (fun _ h => h) ?_
            clear hK K
            try simp only [Act.put, List.setIfInBounds_toArray, List.set_cons_zero, List.set_cons_succ]
            refine take_p 16 83 (.pointer (some ⟨g1, i, none⟩)) rfl rfl (by kernel_rfl) (by kernel_rfl) (by kernel_rfl) (fun _ _ _ h => h) rfl (fun w => by go_simp) ?_
            try simp only [List.setIfInBounds_toArray, List.set_cons_zero, List.set_cons_succ]
            have cy := CY.out _ hS
            refine ready_f 17 (o := { dst := none, op := Op.store 49 (Operand.tmp 83) (Operand.tmp 82), type := 0, pos := "ref.go:56", after := #[{ on := 16, ground := Ground.data }, { on := 15, ground := Ground.data }, { on := 15, ground := Ground.chain }, { on := 0, ground := Ground.phase }, { on := 1, ground := Ground.phase }, { on := 2, ground := Ground.phase }, { on := 3, ground := Ground.phase }, { on := 4, ground := Ground.phase }, { on := 5, ground := Ground.phase }, { on := 6, ground := Ground.phase }, { on := 7, ground := Ground.phase }, { on := 8, ground := Ground.phase }, { on := 9, ground := Ground.phase }, { on := 10, ground := Ground.phase }, { on := 11, ground := Ground.phase }, { on := 12, ground := Ground.phase }, { on := 13, ground := Ground.phase }, { on := 14, ground := Ground.phase }, { on := 15, ground := Ground.phase }], guard := none }) (by kernel_rfl) rfl (fun K hK => ?_)
            go_simp
            refine hK.out _ _ (fun h => absurd (by decide) h) ?_
            clear hK K
            refine done_f (by kernel_rfl) ?_ _
            clear hS cy kA1 fy
            generalize hZ : World.drew (World.setCell _ _ _) = Z
            have so2 : So Z w.heap.size (.slice la p lc) p F g1 (l.set i v1) := by rw [← hZ]; exact (HST.out.set i v1).below ((Below.refl _ _).drew)
            have be2 : Below w.heap.size w Z := by rw [← hZ]; exact (HE.out.setCell HST.out.lo _).drew
            have cy : Z.cell? ⟨g1, i, none⟩ = some (.int .u64 (v1 : Int)) := by
              have h := so2.m.cell (j := i) (by rw [List.length_set, HLL.out.1]; exact hli)
              rw [at0_set_eq (by rw [HLL.out.1]; exact hli)] at h
              exact h
            have SO2 := hide1 so2
            have BE2 := hide1 be2
            clear so2 be2 hZ
            go_wp2_with (first
              | (at_builtin; go_must (refine wpList_append_lies _ rfl (.tmp 84) (.tmp 89) 23 rfl w.heap.size 49 i0 (.int .u64 0) 1 8 Try.underlying23 hi hz0 hz1 hz2 rfl (by decide) (.slice la p lc) p (V.u64s (tl F p)) rfl (SO2.out.own.alloc _) ⟨Z.heap.size, 0, none⟩ 1 1 (V.u64s [v1]) rfl rfl (World.news_of_block (heap_alloc_new Z (V.wrow [v1]))) (V.u64s_one _) (by omega) (by unfold maxLen; omega) (by omega) (by have := BE2.out.size; rw [size_alloc]; omega) _ rfl ?_; intro g9 cap9 w9 ro9 gr9 wh9 lt9))
              | fail)
            rw [HV1.out] at ro9
            have hst9 := (SO2.out.below ((Below.refl _ _).alloc (Nat.le_refl _) _)).add ro9 gr9 wh9
            have hb9 : Below w.heap.size w w9 := (BE2.out.alloc BE2.out.size _).grown gr9 (by rw [size_alloc]; have := BE2.out.size; omega) (fun k hk => (SO2.out.own.lt k hk).1)
            have HST9 := hide1 hst9
            have HB9 := hide1 hb9
            clear hst9 hb9 ro9 gr9 wh9 lt9 cy
            go_wp2
            go_roundw
            case rel => exact ⟨i + 1, p + 1, l.set i v1, by omega, by have := HPI.out; omega, by go_num, by rw [List.length_set]; exact HLL.out.1, fun k hk => (at0_set_ne (by omega)).trans (HLL.out.2 k (by omega)), HST9.out, HB9.out⟩
            case measure => simp [intOf]; omega
        · obtain rfl : i = n := by omega
          have HTW := hide1 hst.own
          have HE := hide1 hbe
          have HPI := hide1 hpi
          clear hst hbe hpi hll hle
          go_wp2
          go_roundw
          case rel => exact ⟨j + 1, p, by omega, by rw [HPI.out, Nat.succ_mul], by go_num, HTW.out, HE.out⟩
          case measure => simp [intOf]; omega
    · obtain rfl : j = m := by omega
      obtain rfl : p = N := by rw [hp0, HN.out]
      have HNN := hide1 (own_nl htw)
      have HE := hide1 hbe
      clear htw hbe hp0
      go_wp2
      go_ret2
      exact ⟨_, _, rfl, HNN.out, HE.out⟩
end Go.Proofs.Ytdmodknjcdkocaa.Co
