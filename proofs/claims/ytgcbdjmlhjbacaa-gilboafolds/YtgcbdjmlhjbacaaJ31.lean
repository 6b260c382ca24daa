/- The walk of GilboaFolds, where all may be. -/
import Derived.Test.YtgcbdjmlhjbacaaJ30
namespace Go.Proofs.Ytgcbdjmlhjbacaa.Gi
open Go.RowKit Ri
open Go.Proofs.Ytgcbdjmlhjbacaa.St (region_f take_f take_p skip_p ready_f ready2_f done_f)
set_option maxRecDepth 100000
attribute [local go_sem] Ri.not_any Ri.mf_any

set_option maxHeartbeats 64000000 in
theorem folds_good (L n k m u M1 R N Q ca c cu : Nat) (aa a au : Option Addr) (us l ns xs ys ss ones oths : List Nat) (CL : List Bool) (CF : Nat → Bool) (S O T' P1 P2 RR : Nat → Nat) (w : World) (h1 : 1 ≤ L) (h2 : L ≤ 64) (h3 : 1 ≤ n) (h4 : n ≤ 6) (hk1 : 1 ≤ k) (hk8 : k ≤ 8) (hkm : M1 ≤ m) (hu : 1 ≤ u) (haa : Nl w k aa us) (hsa : Small us) (ha : Nl w m a l) (hs : Small l) (hau : Nl w u au ns) (hsu : Small ns)
    (hxs : xs = tl (cutF L us) k) (hys : ys = tl (cutF L l) M1) (K : Ks L n k M1 R N Q u xs ys ns ss ones oths CL CF S O T' P1 P2 RR) :
    Calls Try.prog 5 #[.int .i64 (L : Int), .int .i64 (n : Int), .slice aa k ca, .slice a m c, .slice au u cu] w fun e w' => e = .returned (.bool true) ∧ Below w.heap.size w w' := by
  have mixed := St.mixed
  have kW := fun w => hide1 (wrong_any (L : Int) (n : Int) w)
  rw [show bad (L : Int) (n : Int) = false by unfold bad; rw [okW_of h1 h2, okN_of h3 h4]; rfl] at kW
  obtain ⟨X, hX⟩ : ∃ X, X = cutF L us := ⟨_, rfl⟩
  obtain ⟨Y, hY⟩ : ∃ Y, Y = cutF L l := ⟨_, rfl⟩
  have HX := Shy.mk fun i => congrFun hX i
  have HY := Shy.mk fun i => congrFun hY i
  rw [← hX] at hxs
  rw [← hY] at hys
  subst hxs hys
  have e0 := K.e0
  have e2 := K.e2
  have e3 := K.e3
  have e4 := K.e4
  have bN := K.bN
  have bM := K.bM
  have bQ := K.bQ
  have HA := hide1 haa
  have HL := hide1 ha
  have HU := hide1 hau
  have HSA := hide1 hsa
  have HSL := hide1 hs
  have HSU := hide1 hsu
  have KS := hide1 K
  clear K
  have i1 : ((k : Int) == 0) = false := by rw [beq_eq_false_iff_ne]; omega
  have i2 : ¬ (8 : Int) < (k : Int) := by omega
  have i3 : ¬ (m : Int) < (M1 : Int) := by omega
  have I2 := hide1 (show decide ((8 : Int) < (k : Int)) = false from decide_eq_false i2)
  have I3 := hide1 (show decide (m < M1) = false from decide_eq_false (by omega))
  have i4 : ((u : Int) == 0) = false := by rw [beq_eq_false_iff_ne]; omega
  have i5 : ((N : Int) != (N : Int)) = false := by rw [bne_eq_false_iff_eq]
  have i6 : ((Q : Int) != (Q : Int)) = false := by rw [bne_eq_false_iff_eq]
  have i7 : ((M1 : Int) != (M1 : Int)) = false := by rw [bne_eq_false_iff_eq]
  have j1 : ¬ k = 0 := by omega
  have j2 : ¬ u = 0 := by omega
  have j3 : (n : Int) ≠ 0 := by omega
  have j4 : (u : Int) ≠ 0 := by omega
  have j5 : ¬ n = 0 := by omega
  have HB0 := hide1 (Below.refl w.heap.size w)
  clear haa ha hau hsa hs hsu hX hY
  go_enter Try.func5, Try.ntmps5
  go_wp2_with (first | (go_at_call 18; refine (kW _).out.mono ?_; rintro e w' ⟨rfl, he0⟩; obtain rfl := he0.symm; clear he0) | fail)
  clear kW
  simp only [I2.out, I3.out, Bool.false_or]
  go_loopw [11, 13] (fun v11 v13 wr => ∃ i : Nat, i ≤ k ∧ v13 = .int .i64 i ∧ Wo w.heap.size wr v11 (tl X i) ∧ Below w.heap.size w wr) (fun _ v13 _ => k - (intOf v13).toNat)
  case atStart => exact ⟨0, Nat.zero_le _, rfl, Wo.nil _ _, HB0.out⟩
  case round =>
    clear HB0
    obtain ⟨i, hi, rfl, ho, hbe⟩ := hrel
    obtain ⟨la, lc, rfl⟩ := ho.form
    rw [tl_length] at ho
    rw [tl_length]
    by_cases hil : i < k
    · obtain ⟨g, o, rfl, hc⟩ := (HA.out.below hbe (Nat.le_refl _)).val hil
      have hiq : (i : Int) < (k : Int) := by omega
      have kI1 := fun W => hide1 (KS.out.fit (at0 us i) (small_at HSA.out i) W)
      obtain ⟨x, hx⟩ : ∃ x, x = at0 us i := ⟨_, rfl⟩
      have hv := HX.out i
      rw [cutF, ← hx] at hv
      rw [← hx] at hc
      rw [← hx, ← hv] at kI1
      obtain ⟨v, hv0⟩ : ∃ v, v = X i := ⟨_, rfl⟩
      rw [← hv0] at kI1
      have HV := hide1 hv0
      have HO := hide1 ho
      have HE := hide1 hbe
      clear ho hbe hx hv hv0
      go_wp2_with (first
        | (go_at_call 19; refine (kI1 _).out.mono ?_; rintro e w' ⟨rfl, he9⟩; obtain rfl := he9.symm; clear he9)
        | (at_builtin; go_must (refine wpList_append_Wo rfl _ _ rfl (c := 1) (A := tl X i) (B := w.heap.size) rfl rfl (HO.out.below (below1 _)) (new_word _ _) (by rw [tl_length]; omega) (by have := HE.out.size; rw [World.size_alloc]; omega) ?_); intro a8 c8 w8 ro8 gr8 wh8; have HX8 : Hid (Wo w.heap.size w8 (.slice a8 ((tl X i).length + 1) c8) (tl X i ++ [v]) ∧ Below w.heap.size w w8) := ⟨ro8, grow_below HE.out (below1 _) HO.out gr8⟩; clear ro8 gr8 wh8; rw [tl_length] at HX8; rw [tl_length])
        | fail)
      rw [HV.out, ← tl_succ] at HX8
      go_roundw
      case rel => exact ⟨i + 1, hil, by go_num, HX8.out.1, HX8.out.2⟩
      case measure => simp [intOf]; omega
    · obtain rfl : k = i := by omega
      have XN := hide1 ho.rd
      have HE := hide1 hbe
      clear ho hbe HA HSA HX
      obtain ⟨W2, hW2⟩ : ∃ W, W = wr := ⟨_, rfl⟩
      subst hW2
      have HB2 := hide1 (Below.refl W2.heap.size W2)
      go_wp2
      go_loopw [12, 14] (fun v12 v14 wr => ∃ t : Nat, t ≤ M1 ∧ v14 = .int .i64 t ∧ Wo W2.heap.size wr v12 (tl Y t) ∧ Below W2.heap.size W2 wr) (fun _ v14 _ => M1 - (intOf v14).toNat)
      case atStart => exact ⟨0, Nat.zero_le _, rfl, Wo.nil _ _, HB2.out⟩
      case round =>
        clear HB2
        obtain ⟨t, ht, rfl, ho, hbe⟩ := hrel
        obtain ⟨la2, lc2, rfl⟩ := ho.form
        rw [tl_length] at ho
        rw [tl_length]
        by_cases htl : t < M1
        · obtain ⟨g, o, rfl, hc⟩ := ((HL.out.below HE.out (Nat.le_refl _)).below hbe (Nat.le_refl _)).val (k := t) (by omega)
          have hiq : (t : Int) < (M1 : Int) := by omega
          have hiq2 : (t : Int) < (m : Int) := by omega
          have kI1 := fun W => hide1 (KS.out.fit (at0 l t) (small_at HSL.out t) W)
          obtain ⟨x, hx⟩ : ∃ x, x = at0 l t := ⟨_, rfl⟩
          have hv := HY.out t
          rw [cutF, ← hx] at hv
          rw [← hx] at hc
          rw [← hx, ← hv] at kI1
          obtain ⟨v, hv0⟩ : ∃ v, v = Y t := ⟨_, rfl⟩
          rw [← hv0] at kI1
          have HV := hide1 hv0
          have HO := hide1 ho
          have HE2 := hide1 hbe
          clear ho hbe hx hv hv0
          go_wp2_with (first
            | (go_at_call 19; refine (kI1 _).out.mono ?_; rintro e w' ⟨rfl, he9⟩; obtain rfl := he9.symm; clear he9)
            | (at_builtin; go_must (refine wpList_append_Wo rfl _ _ rfl (c := 1) (A := tl Y t) (B := W2.heap.size) rfl rfl (HO.out.below (below1 _)) (new_word _ _) (by rw [tl_length]; omega) (by have := HE2.out.size; rw [World.size_alloc]; omega) ?_); intro a8 c8 w8 ro8 gr8 wh8; have HX8 : Hid (Wo W2.heap.size w8 (.slice a8 ((tl Y t).length + 1) c8) (tl Y t ++ [v]) ∧ Below W2.heap.size W2 w8) := ⟨ro8, grow_below HE2.out (below1 _) HO.out gr8⟩; clear ro8 gr8 wh8; rw [tl_length] at HX8; rw [tl_length])
            | fail)
          rw [HV.out, ← tl_succ] at HX8
          go_roundw
          case rel => exact ⟨t + 1, htl, by go_num, HX8.out.1, HX8.out.2⟩
          case measure => simp [intOf]; omega
        · obtain rfl : M1 = t := by omega
          have YN := hide1 ho.rd
          have YC := hide1 ho.cap
          have XN := hide1 (XN.out.below hbe (Nat.le_refl _))
          have HE3 := hide1 (HE.out.trans (hbe.mono HE.out.size))
          clear ho hbe HL HSL HY HE
          go_wp2_with fail
          go_at_call 7
          refine (KS.out.choices _ _ _ XN.out).mono ?_
          rintro e w4 ⟨av, rfl, hv4, hb4⟩
          have HE4 := hide1 (HE3.out.trans (hb4.mono HE3.out.size))
          have HV4 := hide1 hv4
          have XN := hide1 (XN.out.below hb4 (Nat.le_refl _))
          have YN := hide1 (YN.out.below hb4 (Nat.le_refl _))
          clear hv4 hb4 HE3
          go_upto_region 13 with (fail)
          generalize hZ : World.alloc w4 _ = Z
          have zv : Z.heap[w4.heap.size]? = some (.cells #[.int .i64 (Q : Int), .slice av (T.need Q 64) (T.need Q 64)] 25 (0, 0)) := by rw [← hZ]; exact heap_alloc_new _ _
          have zb : Below w4.heap.size w4 Z := by rw [← hZ]; exact below1 _
          obtain ⟨gz, hgz⟩ : ∃ g, g = w4.heap.size := ⟨_, rfl⟩
          rw [← hgz] at zv
          rw [← hgz]
          have HZV := hide1 zv
          have HE5 := hide1 (HE4.out.trans (zb.mono HE4.out.size))
          have HZC : Hid (T.Vc 0 Z Q av CL) := HV4.out.below zb (Nat.le_refl _)
          have XN := hide1 (XN.out.below zb (Nat.le_refl _))
          have YN := hide1 (YN.out.below zb (Nat.le_refl _))
          clear hZ zv zb hgz HE4 HV4
          go_wp2_with fail
          go_at_call 11
          refine (KS.out.spread _ _ _ YC.out YN.out).mono ?_
          rintro e w5 ⟨a5, c5, rfl, hn5, hb5⟩
          have HE6 := hide1 (HE5.out.trans (hb5.mono HE5.out.size))
          have SN := hide1 hn5
          have HZV := hide1 ((hb5.block _ (lt_heap HZV.out)).trans HZV.out)
          have HZC : Hid (T.Vc 0 w5 Q av CL) := HZC.out.below hb5 (Nat.le_refl _)
          have XN := hide1 (XN.out.below hb5 (Nat.le_refl _))
          have YN := hide1 (YN.out.below hb5 (Nat.le_refl _))
          obtain ⟨d0, d1, _, _, _⟩ := T.box2 HZV.out
          clear hn5 hb5 HE5
          go_wp2_with fail
          go_at_call 20
          refine (T.len_any (Q : Int) (.slice av (T.need Q 64) (T.need Q 64)) w5 rfl).mono ?_
          rintro e w6 ⟨rfl, hw6⟩
          have hb6 : Below w5.heap.size w5 w6 := by rw [hw6]; exact below1 _
          have HE7 := hide1 (HE6.out.trans (hb6.mono HE6.out.size))
          have SN := hide1 (SN.out.below hb6 (Nat.le_refl _))
          have HZV := hide1 ((hb6.block _ (lt_heap HZV.out)).trans HZV.out)
          have HZC : Hid (T.Vc 0 w6 Q av CL) := HZC.out.below hb6 (Nat.le_refl _)
          have XN := hide1 (XN.out.below hb6 (Nat.le_refl _))
          have YN := hide1 (YN.out.below hb6 (Nat.le_refl _))
          have HB6 := hide1 (Below.refl w6.heap.size w6)
          clear hw6 hb6 HE6 d0 d1
          go_wp2
          go_loopw [19, 20, 21] (fun v19 v20 v21 wr => ∃ t : Nat, t ≤ N ∧ v21 = .int .i64 t ∧ Tw wr w6.heap.size v19 (tl O t) v20 (tl T' t) ∧ Below w6.heap.size w6 wr) (fun _ _ v21 _ => N - (intOf v21).toNat)
          case atStart => exact ⟨0, Nat.zero_le _, rfl, Tw.nil _ _, HB6.out⟩
          case round =>
            clear HB6
            obtain ⟨t, ht, rfl, htw, hbe⟩ := hrel
            obtain ⟨la3, lc3, rfl⟩ := htw.a.form
            obtain ⟨la4, lc4, rfl⟩ := htw.c.form
            rw [tl_length, tl_length] at htw
            rw [tl_length, tl_length]
            by_cases htl : t < N
            · obtain ⟨r, hr⟩ : ∃ r, r = t % u := ⟨_, rfl⟩
              have hru : r < u := by rw [hr]; exact Nat.mod_lt _ hu
              have em : (t : Int).tmod (u : Int) = (r : Int) := by rw [hr]; rfl
              obtain ⟨jt, hjt⟩ : ∃ j, j = t / n := ⟨_, rfl⟩
              have eq : (t : Int).tdiv (n : Int) = (jt : Int) := by rw [hjt]; rfl
              have ewj : IntKind.i64.wrap (jt : Int) = (jt : Int) := wrap_i64_nat (by have h8 := KS.out.dQ t htl; rw [← hjt] at h8; omega)
              have hjQ : jt < Q := by rw [hjt]; exact KS.out.dQ t htl
              obtain ⟨gu, ou, rfl, hcu⟩ := ((HU.out.below HE7.out (Nat.le_refl _)).below hbe (Nat.le_refl _)).val hru
              have hO := KS.out.O' t
              have hT := KS.out.T'' t
              rw [← hr] at hO
              rw [← hjt] at hT
              have kI1 := fun W => hide1 (KS.out.fit (at0 ns r) (small_at HSU.out r) W)
              obtain ⟨x, hx⟩ : ∃ x, x = at0 ns r := ⟨_, rfl⟩
              rw [← hx] at hO hcu
              rw [← hx, ← hO] at kI1
              have kB1 : ∀ z : Nat, z < 18446744073709551616 → ∀ W, Hid (Calls Try.prog 22 #[.int .i64 (L : Int), .int .u64 (z : Int), .int .u64 (O t : Nat)] W fun e w' => e = .returned (.int .u64 (((z + (18446744073709551616 - O t)) % 2 ^ L : Nat) : Int)) ∧ w' = W) := fun z hz W => KS.out.sub z (O t) hz (KS.out.sO t) W
              obtain ⟨v, hv⟩ : ∃ v, v = O t := ⟨_, rfl⟩
              rw [← hv] at kI1 kB1 hT
              have CS := hide1 (fun X (hX : Below wr.heap.size wr X) => (SN.out.below hbe (Nat.le_refl _)).below hX (Nat.le_refl _))
              have ZW := hide1 (fun X (hX : Below wr.heap.size wr X) => (hX.block _ (Nat.lt_of_lt_of_le (lt_heap HZV.out) hbe.size)).trans ((hbe.block _ (lt_heap HZV.out)).trans HZV.out))
              have VW := hide1 (fun X (hX : Below wr.heap.size wr X) => (HZC.out.below hbe (Nat.le_refl _)).below hX (Nat.le_refl _))
              have HSS := hide1 KS.out.ss
              have sS := KS.out.sS t
              have hit : (t : Int) < (N : Int) := by omega
              have hir : (r : Int) < (u : Int) := by omega
              have hi0 : (0 : Int) ≤ (r : Int) := by omega
              have HV := hide1 hv
              have HT := hide1 hT
              have TW := hide1 htw
              have HE := hide1 hbe
              clear hr hjt hO hT hx hv htw hbe hru
              go_upto_region 22 with (first
                | (go_at_call 19; refine (kI1 _).out.mono ?_; rintro e w' ⟨rfl, he9⟩; obtain rfl := he9.symm; clear he9)
                | fail)
              refine region_f (F := []) (S := fun X => Below wr.heap.size wr X) (by kernel_rfl) (Below.refl _ _).drew (fun hS => ?_)
              refine take_f 0 146 (.agg #[.int .i64 (Q : Int), .slice av (T.need Q 64) (T.need Q 64)]) [4] rfl rfl (by kernel_rfl) (by kernel_rfl) (by kernel_rfl) (by kernel_rfl) (by kernel_rfl) (by kernel_rfl) (fun _ _ _ h => h) rfl (fun w hSw => by obtain ⟨d0, d1, _, _, _⟩ := T.box2 (ZW.out w hSw); go_simp) hS ?_
              try simp only [List.setIfInBounds_toArray, List.set_cons_zero, List.set_cons_succ]
              refine take_p 1 147 (.int .i64 (t : Int)) rfl rfl (by kernel_rfl) (by kernel_rfl) (by kernel_rfl) (fun _ _ _ h => h) rfl (fun w => by go_simp) ?_
              try simp only [List.setIfInBounds_toArray, List.set_cons_zero, List.set_cons_succ]
              refine take_p 2 148 (.int .i64 (n : Int)) rfl rfl (by kernel_rfl) (by kernel_rfl) (by kernel_rfl) (fun _ _ _ h => h) rfl (fun w => by go_simp) ?_
              try simp only [List.setIfInBounds_toArray, List.set_cons_zero, List.set_cons_succ]
              refine take_p 3 149 (.int .i64 (jt : Int)) rfl rfl (by kernel_rfl) (by kernel_rfl) (by kernel_rfl) (fun _ _ _ h => h) rfl (fun w => by go_simp) ?_
              try simp only [List.setIfInBounds_toArray, List.set_cons_zero, List.set_cons_succ]
              refine ready_f 4 (o := { dst := some 150, op := Op.call { callee := Callee.value (Operand.func 21), args := #[Operand.tmp 146, Operand.tmp 149], argTypes := #[25, 3] }, type := 4, pos := "law.go:65", after := #[{ on := 0, ground := Ground.data }, { on := 3, ground := Ground.data }], guard := none }) (by kernel_rfl) rfl (fun K hK => ?_)
              go_simp
              refine (KS.out.get _ av jt (VW.out _ hS) hjQ).mono ?_
              rintro e w7 ⟨rfl, hb7⟩
              have HB7 := hide1 (hS.trans hb7)
              refine hK.out _ _ (fun _ _ => HB7.out) ?_
              clear hK K
              try simp only [Act.put, List.setIfInBounds_toArray, List.set_cons_zero, List.set_cons_succ]
              refine done_f (by kernel_rfl) ?_ _
              have TW := hide1 (TW.out.below HB7.out)
              have HE := hide1 (HE.out.trans (HB7.out.mono HE.out.size))
              have CS7 := hide1 (CS.out w7 HB7.out)
              clear CS ZW VW HB7 kI1 hcu
              cases hcf : CF jt with
              | true =>
                rw [hcf, if_pos rfl] at HT
                have hss := CS7.out
                rw [HSS.out] at hss
                obtain ⟨gs, os, es, hcs⟩ := hss.val htl
                rw [tl_at htl] at hcs
                obtain ⟨z, hz⟩ : ∃ z, z = S t := ⟨_, rfl⟩
                rw [← hz] at hcs HT sS
                have kB2 := kB1 z sS
                obtain ⟨y, hy⟩ : ∃ y, y = (z + (18446744073709551616 - v)) % 2 ^ L := ⟨_, rfl⟩
                rw [← hy] at HT kB2
                have HTY := hide1 HT.out
                subst es
                clear HT hss hy hz hcf sS kB1
                go_upto_region 25 with (first
                  | (at_builtin; go_must (refine wpList_append_Wo rfl (.tmp 155) (.tmp 157) rfl (c := 1) (A := tl O t) (B := w6.heap.size) rfl rfl (TW.out.a.below (below1 _)) (new_word _ _) (by rw [tl_length]; omega) (by have := HE.out.size; rw [World.size_alloc]; omega) ?_); intro a8 c8 w8 ro8 gr8 wh8; have HX8 : Hid (Tw w8 w6.heap.size (.slice a8 ((tl O t).length + 1) c8) (tl O t ++ [v]) (.slice la4 t lc4) (tl T' t) ∧ Below w6.heap.size w6 w8) := ⟨(TW.out.below (below1 _)).add ro8 gr8 wh8, grow_below HE.out (below1 _) TW.out.a gr8⟩; clear ro8 gr8 wh8; rw [tl_length] at HX8; rw [tl_length])
                  | fail)
                go_wp2_with (first
                  | (go_at_call 22; refine (kB2 _).out.mono ?_; rintro e w' ⟨rfl, he9⟩; obtain rfl := he9.symm; clear he9)
                  | (at_builtin; go_must (refine wpList_append_Wo rfl (.tmp 159) (.tmp 164) rfl (c := 1) (A := tl T' t) (B := w6.heap.size) rfl rfl (HX8.out.1.c.below (below1 _)) (new_word _ _) (by rw [tl_length]; omega) (by have := HX8.out.2.size; rw [World.size_alloc]; omega) ?_); intro a9 c9 w9 ro9 gr9 wh9; have HX9 : Hid (Tw w9 w6.heap.size (.slice a8 (t + 1) c8) (tl O t ++ [v]) (.slice a9 ((tl T' t).length + 1) c9) (tl T' t ++ [y]) ∧ Below w6.heap.size w6 w9) := ⟨((HX8.out.1.below (below1 _)).swap.add ro9 gr9 wh9).swap, grow_below HX8.out.2 (below1 _) HX8.out.1.c gr9⟩; clear ro9 gr9 wh9; rw [tl_length] at HX9; rw [tl_length])
                  | fail)
                rw [HV.out, ← tl_succ, ← HTY.out, ← tl_succ] at HX9
                go_roundw
                case rel => exact ⟨t + 1, htl, by go_num, HX9.out.1, HX9.out.2⟩
                case measure => simp [intOf]; omega
              | false =>
                rw [hcf, if_neg Bool.false_ne_true] at HT
                have kB2 := kB1 0 (by decide)
                obtain ⟨y, hy⟩ : ∃ y, y = (0 + (18446744073709551616 - v)) % 2 ^ L := ⟨_, rfl⟩
                rw [← hy] at HT kB2
                have HTY := hide1 HT.out
                clear HT hy hcf sS kB1
                go_upto_region 25 with (first
                  | (at_builtin; go_must (refine wpList_append_Wo rfl (.tmp 155) (.tmp 157) rfl (c := 1) (A := tl O t) (B := w6.heap.size) rfl rfl (TW.out.a.below (below1 _)) (new_word _ _) (by rw [tl_length]; omega) (by have := HE.out.size; rw [World.size_alloc]; omega) ?_); intro a8 c8 w8 ro8 gr8 wh8; have HX8 : Hid (Tw w8 w6.heap.size (.slice a8 ((tl O t).length + 1) c8) (tl O t ++ [v]) (.slice la4 t lc4) (tl T' t) ∧ Below w6.heap.size w6 w8) := ⟨(TW.out.below (below1 _)).add ro8 gr8 wh8, grow_below HE.out (below1 _) TW.out.a gr8⟩; clear ro8 gr8 wh8; rw [tl_length] at HX8; rw [tl_length])
                  | fail)
                go_wp2_with (first
                  | (go_at_call 22; refine (kB2 _).out.mono ?_; rintro e w' ⟨rfl, he9⟩; obtain rfl := he9.symm; clear he9)
                  | (at_builtin; go_must (refine wpList_append_Wo rfl (.tmp 159) (.tmp 164) rfl (c := 1) (A := tl T' t) (B := w6.heap.size) rfl rfl (HX8.out.1.c.below (below1 _)) (new_word _ _) (by rw [tl_length]; omega) (by have := HX8.out.2.size; rw [World.size_alloc]; omega) ?_); intro a9 c9 w9 ro9 gr9 wh9; have HX9 : Hid (Tw w9 w6.heap.size (.slice a8 (t + 1) c8) (tl O t ++ [v]) (.slice a9 ((tl T' t).length + 1) c9) (tl T' t ++ [y]) ∧ Below w6.heap.size w6 w9) := ⟨((HX8.out.1.below (below1 _)).swap.add ro9 gr9 wh9).swap, grow_below HX8.out.2 (below1 _) HX8.out.1.c gr9⟩; clear ro9 gr9 wh9; rw [tl_length] at HX9; rw [tl_length])
                  | fail)
                rw [HV.out, ← tl_succ, ← HTY.out, ← tl_succ] at HX9
                go_roundw
                case rel => exact ⟨t + 1, htl, by go_num, HX9.out.1, HX9.out.2⟩
                case measure => simp [intOf]; omega
            · obtain rfl : N = t := by omega
              have ON0 := htw.a.rd
              have OC := hide1 htw.a.cap
              have TN0 := htw.c.rd
              have TC := hide1 htw.c.cap
              rw [← KS.out.ones] at ON0
              rw [← KS.out.oths] at TN0
              have ON := hide1 ON0
              have TN := hide1 TN0
              have HE := hide1 (HE7.out.trans (hbe.mono HE7.out.size))
              have XN := hide1 (XN.out.below hbe (Nat.le_refl _))
              have YN := hide1 (YN.out.below hbe (Nat.le_refl _))
              clear htw hbe ON0 TN0 HE7 SN HZV HZC HU HSU
              go_wp2_with fail
              go_at_call 13
              refine (KS.out.fold1 _ _ _ OC.out ON.out).mono ?_
              rintro e w7 ⟨a7, c7, rfl, hn7, hb7⟩
              have HE := hide1 (HE.out.trans (hb7.mono HE.out.size))
              have TN := hide1 (TN.out.below hb7 (Nat.le_refl _))
              have XN := hide1 (XN.out.below hb7 (Nat.le_refl _))
              have YN := hide1 (YN.out.below hb7 (Nat.le_refl _))
              have PN := hide1 hn7
              clear hn7 hb7 ON OC
              go_wp2_with fail
              go_at_call 13
              refine (KS.out.fold2 _ _ _ TC.out TN.out).mono ?_
              rintro e w8 ⟨a8, c8, rfl, hn8, hb8⟩
              have HE := hide1 (HE.out.trans (hb8.mono HE.out.size))
              have XN := hide1 (XN.out.below hb8 (Nat.le_refl _))
              have YN := hide1 (YN.out.below hb8 (Nat.le_refl _))
              have PN := hide1 (PN.out.below hb8 (Nat.le_refl _))
              have QN := hide1 hn8
              clear hn8 hb8 TN TC
              go_wp2_with fail
              go_at_call 15
              refine (KS.out.rows _ _ _ _ _ YC.out XN.out YN.out).mono ?_
              rintro e w9 ⟨a9, c9, rfl, hn9, hb9⟩
              have HE := hide1 (HE.out.trans (hb9.mono HE.out.size))
              have XN := hide1 (XN.out.below hb9 (Nat.le_refl _))
              have YN := hide1 (YN.out.below hb9 (Nat.le_refl _))
              have PN := hide1 (PN.out.below hb9 (Nat.le_refl _))
              have QN := hide1 (QN.out.below hb9 (Nat.le_refl _))
              have RN := hide1 hn9
              clear hn9 hb9
              go_wp2
              go_loopw [30] (fun v30 wr => ∃ t q : Nat, t ≤ M1 ∧ v30 = .int .i64 t ∧ wr = w9.drewN q) (fun v30 _ => M1 - (intOf v30).toNat)
              case atStart => exact ⟨0, 0, Nat.zero_le _, rfl, rfl⟩
              case round =>
                obtain ⟨t, q, ht, rfl, rfl⟩ := hrel
                by_cases htl : t < M1
                · obtain ⟨jt, hjt⟩ : ∃ j, j = t / n := ⟨_, rfl⟩
                  have eq : (t : Int).tdiv (n : Int) = (jt : Int) := by rw [hjt]; rfl
                  have hjk : jt < k := by rw [hjt]; exact KS.out.dk t htl
                  obtain ⟨gp, op, rfl, hcp⟩ := PN.out.val htl
                  obtain ⟨gq, oq, rfl, hcq⟩ := QN.out.val htl
                  obtain ⟨gr, or, rfl, hcr⟩ := RN.out.val htl
                  obtain ⟨gy, oy, rfl, hcy⟩ := YN.out.val htl
                  obtain ⟨gx, ox, rfl, hcx⟩ := XN.out.val hjk
                  have kA := fun W => hide1 (KS.out.add (P1 t) (P2 t) (KS.out.sP t).1 (KS.out.sP t).2 W)
                  have kM := fun W => hide1 (KS.out.mul (at0 (tl X k) jt) (at0 (tl Y M1) t) (KS.out.sx jt) (KS.out.sy t) W)
                  have hrm := KS.out.RM t htl
                  rw [← hjt] at hrm
                  rw [KS.out.PR t htl] at kA
                  rw [← hrm] at kM
                  rw [tl_at htl] at hcp hcq hcr
                  obtain ⟨p0, hp0⟩ : ∃ x, x = P1 t := ⟨_, rfl⟩
                  obtain ⟨q0, hq0⟩ : ∃ x, x = P2 t := ⟨_, rfl⟩
                  obtain ⟨r0, hr0⟩ : ∃ x, x = RR t := ⟨_, rfl⟩
                  obtain ⟨x0, hx0⟩ : ∃ x, x = at0 (tl X k) jt := ⟨_, rfl⟩
                  obtain ⟨y0, hy0⟩ : ∃ x, x = at0 (tl Y M1) t := ⟨_, rfl⟩
                  rw [← hp0, ← hq0, ← hr0] at kA
                  rw [← hx0, ← hy0, ← hr0] at kM
                  rw [← hp0] at hcp
                  rw [← hq0] at hcq
                  rw [← hr0] at hcr
                  rw [← hx0] at hcx
                  rw [← hy0] at hcy
                  have hit : (t : Int) < (M1 : Int) := by omega
                  have hij : (jt : Int) < (k : Int) := by omega
                  have ne : ((r0 : Int) != (r0 : Int)) = false := by rw [bne_eq_false_iff_eq]
                  have cp : ∀ z, (w9.drewN z).cell? ⟨gp, op + t, none⟩ = some (.int .u64 (p0 : Int)) := fun _ => hcp
                  have cq : ∀ z, (w9.drewN z).cell? ⟨gq, oq + t, none⟩ = some (.int .u64 (q0 : Int)) := fun _ => hcq
                  have cr : ∀ z, (w9.drewN z).cell? ⟨gr, or + t, none⟩ = some (.int .u64 (r0 : Int)) := fun _ => hcr
                  have cx : ∀ z, (w9.drewN z).cell? ⟨gx, ox + jt, none⟩ = some (.int .u64 (x0 : Int)) := fun _ => hcx
                  have cy : ∀ z, (w9.drewN z).cell? ⟨gy, oy + t, none⟩ = some (.int .u64 (y0 : Int)) := fun _ => hcy
                  obtain ⟨WW, hWW⟩ : ∃ W, w9.drewN q = W := ⟨_, rfl⟩
                  have cp := cp q
                  have cq := cq q
                  have cr := cr q
                  have cx := cx q
                  have cy := cy q
                  rw [hWW] at cp cq cr cx cy
                  rw [hWW]
                  have HWW := hide1 hWW
                  clear hjt hcp hcq hcr hcx hcy hrm hp0 hq0 hr0 hx0 hy0 hWW
                  go_wp2
                  go_quiet (first | (go_at_call 23; exact Calls.quiet_of_same (kA _).out) | (go_at_call 24; exact Calls.quiet_of_same (kM _).out))
                  go_wp2
                  go_roundw
                  case rel => exact ⟨t + 1, q + nq, htl, by go_num, by rw [← HWW.out]; exact World.drewN_drewN _ _ _⟩
                  case measure => simp [intOf]; omega
                · obtain rfl : M1 = t := by omega
                  have HE := hide1 (below_drewN HE.out q)
                  clear PN QN RN XN YN
                  go_wp2_with fail
                  go_at_call 6
                  refine (awake_any _).mono ?_
                  rintro e w10 ⟨rfl, hb10⟩
                  have HE := hide1 (HE.out.trans (hb10.mono HE.out.size))
                  clear hb10
                  go_wp2
                  go_ret
                  exact ⟨rfl, HE.out⟩
end Go.Proofs.Ytgcbdjmlhjbacaa.Gi
