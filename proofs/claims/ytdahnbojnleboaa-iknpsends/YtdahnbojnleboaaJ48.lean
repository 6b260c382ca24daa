/- The walk of IknpSends: its loops and its end. -/
import Derived.Test.YtdahnbojnleboaaJ47
namespace Go.Proofs.Ytdahnbojnleboaa.I
open Go.RowKit Pg
set_option maxRecDepth 100000
attribute [local go_sem] not_any T.mf_any

theorem plc_lt {i j n : Nat} (hn : 0 < n) : plc i j n < n := Nat.mod_lt _ hn

set_option maxHeartbeats 16000000 in
theorem sends_in (kl : List Nat) (F N cb x y o : Nat) (av : Option Addr) (sl : List Bool) (w : World) (hk : kl.length = 32) (bk : Lt 256 kl) (hF : F < 18446744073709551616) (hv : T.Bl w N av sl) (hN0 : N ≠ 0) (hN : N ≤ 600) (hx : x < 256) (hy : y < 256) (ho : o < 256) :
    Calls Try.prog 4 #[arr8 kl, .int .u64 (F : Int), .slice av N cb, .int .u8 (x : Int), .int .u8 (y : Int), .int .u8 (o : Int)] w fun e w' => e = .returned (.bool true) ∧ Below w.heap.size w w' := by
  obtain ⟨i4, hi4, hy0, hy1, hy2⟩ := info_of info4
  obtain ⟨i5, hi5, hx0, hx1, hx2⟩ := info_parts infoB
  obtain ⟨i7, hi7, hw0, hw1, hw2⟩ := info_parts T.info32
  have kA := fun w => hide1 (awake_any w)
  have kD : ∀ w, Hid (Calls Try.prog 8 #[.agg (u8s kl).toArray, .int .u64 0] w _) := fun w => hide1 (deal_any kl 0 w hk bk (by omega))
  have hi := hi23 hk
  have hsl : sl.length = N := hv.len
  generalize rt0 kl 0 = p0 at kD
  generalize rt1 kl 0 = p1 at kD
  obtain ⟨m, hm⟩ : ∃ m, m = x % 120 := ⟨_, rfl⟩
  obtain ⟨r, hr⟩ : ∃ r, r = y % 16 := ⟨_, rfl⟩
  obtain ⟨K, hK⟩ : ∃ K, K = 120 + r := ⟨_, rfl⟩
  have hm2 : m < 120 := by omega
  have hK2 : K ≤ 135 := by omega
  have hK0 : 0 < K := by omega
  have n0 : IntKind.i64.wrap (x : Int) = (x : Int) := by rw [IntKind.wrap_i64]; omega
  have n1 : (x : Int) % 120 = (m : Int) := by omega
  have n1' : Int.tmod (x : Int) 120 = (m : Int) := by rw [Int.tmod_eq_emod_of_nonneg (by omega)]; omega
  have n2 : (y : Int) % 16 = (r : Int) := by omega
  have n2' : Int.tmod (y : Int) 16 = (r : Int) := by rw [Int.tmod_eq_emod_of_nonneg (by omega)]; omega
  have n3 : IntKind.i64.wrap (r : Int) = (r : Int) := by rw [IntKind.wrap_i64]; omega
  have n4 : (120 : Int) + (r : Int) = (K : Int) := by omega
  have n5 : IntKind.i64.wrap (o : Int) = (o : Int) := by rw [IntKind.wrap_i64]; omega
  have HB0 := hide1 hv
  have t1 : ((N : Int) == 0) = false := by rw [beq_eq_false_iff_ne]; omega
  have t2 : ¬ (600 : Int) < (N : Int) := by omega
  have A0 := hide1 (On.start w (.cells (u8s kl).toArray 23))
  clear hv hk bk hm hr hK
  unfold arr8
  go_enter Try.func4, Try.ntmps4
  go_upto_region 1 with (fail)
  generalize w.alloc (.cells (u8s kl).toArray 23) = W0 at *
  go_upto_region 2 with (fail)
  clear n0 n1 n1' n2 n2' n3 n4
  go_wp2_with (first | (refine wpList_load_row rfl 23 (.tmp 6) rfl w.heap.size rfl 23 (u8s kl).toArray (0, 0) _ A0.out.h1 Try.underlying23 rfl hi ?_) | fail)
  go_at_call 8
  refine (kD _).out.mono ?_
  rintro e w1 ⟨K0, Z0, O0, K1, Z1, O1, rfl, sK0, sZ0, sO0, sK1, sZ1, sO1, hb1⟩
  obtain ⟨gK0, cK0, rfl, _, _⟩ := sK0.at'
  obtain ⟨gZ0, cZ0, rfl, _, _⟩ := sZ0.at'
  obtain ⟨gO0, cO0, rfl, _, _⟩ := sO0.at'
  obtain ⟨gK1, cK1, rfl, _, _⟩ := sK1.at'
  obtain ⟨gZ1, cZ1, rfl, _, _⟩ := sZ1.at'
  obtain ⟨gO1, cO1, rfl, _, _⟩ := sO1.at'
  have B1 := hide1 (A0.out.to hb1).bel
  have hn0 : wd p0 9 0 < 18446744073709551616 := wd_lt _ _ _
  have hn1 : wd p0 9 1 < 18446744073709551616 := wd_lt _ _ _
  generalize wd p0 9 0 = d0 at *
  generalize wd p0 9 1 = d1 at *
  generalize wd p1 9 0 = y0 at *
  generalize wd p1 9 1 = y1 at *
  go_upto_region 5 with (fail)
  generalize hW2 : World.alloc (World.alloc w1 _) _ = W2
  have hA2 := At.start w1 (.cells #[.int .u64 (d0 : Int), .int .u64 (d1 : Int), .slice (some ⟨gK0, 0, none⟩) 128 cK0, .slice (some ⟨gZ1, 0, none⟩) 128 cZ1, .slice (some ⟨gO1, 0, none⟩) 128 cO1] 35) (.cells #[.int .u64 (y0 : Int), .int .u64 (y1 : Int), .slice (some ⟨gK1, 0, none⟩) 128 cK1, .slice (some ⟨gZ0, 0, none⟩) 128 cZ0, .slice (some ⟨gO0, 0, none⟩) 128 cO0] 35)
  rw [hW2] at hA2
  have x1 := hA2.h1
  have B2 := hide1 (B1.out.trans (hA2.bel.mono B1.out.size))
  have SK2 := hide1 (sK0.below hA2.bel (Nat.le_refl _))
  have BL2 := hide1 (HB0.out.below B2.out (Nat.le_refl _))
  obtain ⟨b1, hb1'⟩ : ∃ b, b = w1.heap.size := ⟨_, rfl⟩
  rw [← hb1'] at x1 ⊢
  have X1 := hide1 x1
  obtain ⟨nR, code, RR, hnR, kSd, kRf⟩ := ends d0 d1 F K (dk p0) (mkN m o) (mkC sl m o) (by omega) hK0 hn0 hn1 hF (good_dk p0) (fun i => by unfold mkN; split <;> omega)
  have KS := hide1 kSd
  have KR := hide1 kRf
  clear kSd kRf
  clear hW2 hA2 sK0 sZ0 sO0 sK1 sZ1 sO1 hb1 kD B1 A0 x1 hb1' HB0
  go_wp2
  go_loopw [17, 18, 19] (fun cv ov iv wr => ∃ (i : Nat) (aA aB : Nat → Option Addr) (nA cA : Nat → Nat), i ≤ K ∧ iv = .int .i64 i ∧ BV wr W2.heap.size cv i aA nA cA ov i aB (mkN m o) (mkC sl m o) ∧ (∀ k, k < i → nA k = mkN m o k) ∧ Below W2.heap.size W2 wr) (fun _ _ iv _ => K - (intOf iv).toNat)
  case atStart => exact ⟨0, _, _, _, _, Nat.zero_le _, rfl, BV.nil _ _ _ _, fun k hk => by omega, Below.refl _ _⟩
  case round =>
    obtain ⟨i, aA, aB, nA, cA, hi', rfl, hT, hn, hbe⟩ := hrel
    obtain ⟨la, lc, rfl⟩ := T.row_form hT.a.ns.own
    obtain ⟨lb, ld, rfl⟩ := T.row_form hT.b.ns.own
    have HBV := hide1 hT
    have HNA := hide1 hn
    have HBE := hide1 hbe
    clear hT hn
    by_cases hlt : i < K
    · have hlt' : (i : Int) < (K : Int) := by omega
      obtain ⟨i7', hi7'⟩ : ∃ v, v = i * 7 := ⟨_, rfl⟩
      have q1 : (i : Int) * 7 = (i7' : Int) := by omega
      have q1b : (i7' : Int) ≤ 1000 := by omega
      have q1c := hide1 hi7'
      clear hi7'
      obtain ⟨wo, hwo⟩ : ∃ W, W = wr := ⟨_, rfl⟩
      subst hwo
      have HBV3 := HBV
      have HBE3 := HBE
      clear HBV HBE
      go_wp2
      go_loopw [20, 21] (fun ov iv wr => ∃ j : Nat, j ≤ m ∧ iv = .int .i64 j ∧ wr.ownsRow wo.heap.size 4 1 ov j (T.bools ((List.range j).map (fun j => sl.getD (plc i j sl.length) false))) ∧ Below wo.heap.size wo wr) (fun _ iv _ => m - (intOf iv).toNat)
      case atStart => exact ⟨0, Nat.zero_le _, rfl, World.ownsRow_nil _ _ _ _, Below.refl _ _⟩
      case round =>
        obtain ⟨j, hj, rfl, hol, hbq⟩ := hrel
        obtain ⟨ia, ic, rfl⟩ := T.row_form hol
        have HOL := hide1 hol
        have HBQ := hide1 hbq
        clear hol
        by_cases hlj : j < m
        · have hlj' : (j : Int) < (m : Int) := by omega
          have hjj0 : j * j ≤ 120 * 120 := Nat.mul_le_mul (by omega) (by omega)
          obtain ⟨jj, hjj⟩ : ∃ v, v = j * j := ⟨_, rfl⟩
          have q2 : (j : Int) * (j : Int) = (jj : Int) := by rw [hjj]; rfl
          have q2b : (jj : Int) ≤ 14400 := by omega
          obtain ⟨sm, hsm⟩ : ∃ v, v = i7' + jj := ⟨_, rfl⟩
          have q3 : (i7' : Int) + (jj : Int) = (sm : Int) := by omega
          have q3b : (sm : Int) ≤ 16000 := by omega
          obtain ⟨pl, hpl⟩ : ∃ v, v = sm % N := ⟨_, rfl⟩
          have hplN : pl < N := by rw [hpl]; exact Nat.mod_lt _ (by omega)
          have q4 : (sm : Int) % (N : Int) = (pl : Int) := by rw [hpl]; rfl
          have q4' : Int.tmod (sm : Int) (N : Int) = (pl : Int) := by rw [Int.tmod_eq_emod_of_nonneg (by omega)]; exact q4
          have hplc : pl = plc i j sl.length := by rw [hpl, hsm, hjj, q1c.out, hsl]; rfl
          have hw9 : Below w.heap.size w wr := B2.out.trans ((HBE3.out.trans (hbq.mono HBE3.out.size)).mono B2.out.size)
          have hb9 := BL2.out.below (HBE3.out.trans (hbq.mono HBE3.out.size)) (Nat.le_refl _)
          have hpl2 : pl < sl.length := by omega
          obtain ⟨gs, os, rfl, cs⟩ := hb9.at' pl (sl[pl]'hpl2) (List.getElem?_eq_getElem hpl2)
          have cs' : wr.cell? ⟨gs, os + pl, none⟩ = some (.bool (sl.getD (plc i j sl.length) false)) := by rw [cs, ← hplc, List.getD_eq_getElem?_getD, List.getElem?_eq_getElem hpl2]; rfl
          obtain ⟨z, hz⟩ : ∃ z, z = sl.getD (plc i j sl.length) false := ⟨_, rfl⟩
          rw [← hz] at cs'
          have HZ := hide1 hz
          have bpl : (pl : Int) < (N : Int) := by omega
          have hszq := hbq.size
          clear hjj0 hjj hsm hpl hplc hw9 hb9 hpl2 cs hz hbq hplN
          go_wp2_with (at_builtin; go_must (refine wpList_append_own _ rfl _ _ 25 rfl wo.heap.size 4 i4 (.bool false) 1 1 Try.underlying25 hi4 hy0 hy1 hy2 rfl (by decide) _ _ _ rfl (HOL.out.alloc _) ⟨wr.heap.size, 0, none⟩ 1 1 [.bool z] rfl rfl (cell_one_new _ _ _) (by simp [Value.oneCell']) (by unfold maxLen; omega) (by omega) (by simp; omega) ?_); intro v' w2 hown' hgrow _)
          go_roundw
          case rel =>
            have e9 : T.bools ((List.range j).map (fun j => sl.getD (plc i j sl.length) false)) ++ [.bool z] = T.bools ((List.range (j + 1)).map (fun j => sl.getD (plc i j sl.length) false)) := by rw [List.range_succ, List.map_append, HZ.out]; simp [T.bools]
            rw [e9] at hown'
            exact ⟨j + 1, by omega, by go_num, hown', (HBQ.out.alloc HBQ.out.size _).grown hgrow (by simp; omega) (fun b hb => (HOL.out.lt b hb).1)⟩
          case measure => simp [intOf]; omega
        · obtain rfl : j = m := by omega
          have hszq := hbq.size
          by_cases ho2 : i = o
          · subst ho2
            have t3 : ((i : Int) == (i : Int)) = true := by simp
            go_wp2_with (at_builtin; go_must (refine wpList_append_lies _ rfl _ _ 25 rfl wo.heap.size 4 i4 (.bool false) 1 1 Try.underlying25 hi4 hy0 hy1 hy2 rfl (by decide) _ _ _ rfl (HOL.out.alloc _) ⟨wr.heap.size, 0, none⟩ 1 1 [.bool true] rfl rfl (cell_one_new _ _ _) (by simp [Value.oneCell']) (by decide) (by unfold maxLen; omega) (by omega) (by simp; omega) (wr.heap.size + 1) (by simp) ?_); intro gc ic2 w4 hown4 hgrow4 hlies4 _)
            obtain ⟨n1, hn1⟩ : ∃ n1, n1 = j + 1 := ⟨_, rfl⟩
            obtain ⟨ia2, hia2⟩ : ∃ a : Option Addr, a = some ⟨gc, 0, none⟩ := ⟨_, rfl⟩
            rw [← hn1, ← hia2] at hown4
            rw [← hn1, ← hia2]
            have HNC : Hid (mkN j i i = n1) := by rw [hn1, mkN, if_pos rfl]; rfl
            have HOC : Hid (w4.ownsRow wo.heap.size 4 1 (.slice ia2 n1 ic2) n1 (T.bools (mkC sl j i i))) := by
              have e9 : T.bools ((List.range j).map (fun j => sl.getD (plc i j sl.length) false)) ++ [.bool true] = T.bools (mkC sl j i i) := by rw [mkC, if_pos rfl]; simp [T.bools]
              rw [← e9]
              exact hown4
            have HB4 := hide1 ((HBQ.out.alloc HBQ.out.size (.cells #[.bool true] 4)).grown hgrow4 (by simp; omega) (fun b hb => (HOL.out.lt b hb).1))
            have hn1b : n1 ≤ 121 := by omega
            clear hown4 hgrow4 hlies4 hia2 hn1 HOL HBQ hbq hszq t3
            have hbl := T.own_bl HOC.out (by rw [mkC_length, HNC.out])
            have kO := hide1 (T.of_any w4 n1 ic2 ia2 _ hbl (by omega))
            go_at_call 9
            refine kO.out.mono ?_
            rintro e w5 ⟨va, rfl, hv5, hb5⟩
            obtain ⟨V5, hV5⟩ : ∃ W, W = w5.alloc (.cells #[.int .i64 (n1 : Int), .slice va (T.need n1 64) (T.need n1 64)] 40) := ⟨_, rfl⟩
            have hb6 : Below w5.heap.size w5 V5 := by rw [hV5]; exact T.below_alloc1 _ _
            have hb7 := hb5.trans (hb6.mono hb5.size)
            obtain ⟨b22, hb22⟩ : ∃ b, b = w5.heap.size := ⟨_, rfl⟩
            have HX5 : Hid (V5.heap[b22]? = some (.cells #[.int .i64 (n1 : Int), .slice va (T.need n1 64) (T.need n1 64)] 40 (0, 0))) := by rw [hV5, hb22]; exact heap_alloc_new _ _
            have HS5 : Hid (S0 V5 W2.heap.size (.slice la i lc) i aA nA cA (.slice lb i ld) aB (mkN j i) (mkC sl j i) ia2 va) := ⟨(HBV3.out.below HB4.out).below hb7, by rw [HNC.out]; exact (hbl.below hb7 (Nat.le_refl _)), fun x hx => by
                have h1 : wo.heap.size ≤ x ∧ x < w4.heap.size := by
                  cases ia2 with
                  | none => cases hx
                  | some ad => cases hx; exact HOC.out.lt ad.block rfl
                have := hb7.size
                exact ⟨by omega, fun h9 => by have := (HBV3.out.a.ns.own.lt x h9).2; omega, fun h9 => by have := (HBV3.out.b.ns.own.lt x h9).2; omega⟩, by rw [HNC.out]; exact ((hv5.below hb6 (Nat.le_refl _)).mono (Nat.zero_le _)), fun x hx => by
                have h1 := hv5.blk x hx
                have := hb6.size
                have := HB4.out.size
                exact ⟨by omega, fun h9 => by have := (HBV3.out.a.ns.own.lt x h9).2; omega, fun h9 => by have := (HBV3.out.b.ns.own.lt x h9).2; omega⟩⟩
            have HB5 := hide1 (HBE3.out.trans ((HB4.out.trans (hb7.mono HB4.out.size)).mono HBE3.out.size))
            have hg22 : wo.heap.size ≤ b22 := by rw [hb22]; have := HB4.out.size; have := hb5.size; omega
            have HFA : Hid (some b22 ≠ (Value.slice la i lc).ownBlock) := fun e => by have := (HBV3.out.a.ns.own.lt _ e.symm).2; omega
            have HFB : Hid (some b22 ≠ (Value.slice lb i ld).ownBlock) := fun e => by have := (HBV3.out.b.ns.own.lt _ e.symm).2; omega
            have HLA : Hid (∀ x, (Value.slice la i lc).ownBlock = some x → x < V5.drew.heap.size) := fun x hx => by
              have := (HBV3.out.a.ns.own.lt x hx).2
              have := HB4.out.size
              have := hb7.size
              show x < V5.heap.size
              omega
            clear hbl kO hv5 hb5 hb6 hb7 HOC hg22
            go_upto_region 18 with (fail)
            rw [← hb22, ← hV5]
            clear hV5 hb22 HBV3 HB4 HBE3
            refine region_f (F := []) (S := fun W' => W'.heap[b22]? = some (.cells #[.int .i64 (n1 : Int), .slice va (T.need n1 64) (T.need n1 64)] 40 (0, 0))) (by kernel_rfl) HX5.out (fun hS => ?_)
            clear hS
            have hS : V5.drew.heap[b22]? = some (.cells #[.int .i64 (n1 : Int), .slice va (T.need n1 64) (T.need n1 64)] 40 (0, 0)) := HX5.out
            refine take_p 0 86 (.slice la i lc) rfl rfl (by kernel_rfl) (by kernel_rfl) (by kernel_rfl) (fun _ _ _ h => h) rfl (fun w => by go_simp) ?_
            try simp only [List.setIfInBounds_toArray, List.set_cons_zero, List.set_cons_succ]
            refine take_p 1 87 (.slice ia2 n1 ic2) rfl rfl (by kernel_rfl) (by kernel_rfl) (by kernel_rfl) (fun _ _ _ h => h) rfl (fun w => by go_simp) ?_
            try simp only [List.setIfInBounds_toArray, List.set_cons_zero, List.set_cons_succ]
            refine take_p 4 90 (.slice lb i ld) rfl rfl (by kernel_rfl) (by kernel_rfl) (by kernel_rfl) (fun _ _ _ h => h) rfl (fun w => by go_simp) ?_
            try simp only [List.setIfInBounds_toArray, List.set_cons_zero, List.set_cons_succ]
            refine take_f 5 91 (.agg #[.int .i64 (n1 : Int), .slice va (T.need n1 64) (T.need n1 64)]) [6, 7, 8, 9] rfl rfl (by kernel_rfl) (by kernel_rfl) (by kernel_rfl) (by kernel_rfl) (by kernel_rfl) (by kernel_rfl) (fun _ _ _ h => h) rfl (fun w hSw => by have h0 := T.box2 hSw; have h1 := h0.1; have h2 := h0.2.1; go_simp) hS ?_
            try simp only [List.setIfInBounds_toArray, List.set_cons_zero, List.set_cons_succ]
            have s0 := HS5.out.below (Below.refl _ _).drew
            have b0 := HB5.out.drew
            generalize V5.drew = U0 at *
            refine ready2_f 2 6 (o := { dst := some 88, op := Op.buildSlice 48 1 #[(0, Operand.tmp 87)], type := 48, pos := "law.go:77", after := #[{ on := 1, ground := Ground.data }], guard := none }) (o' := { dst := some 92, op := Op.buildSlice 44 1 #[(0, Operand.tmp 91)], type := 44, pos := "law.go:77", after := #[{ on := 5, ground := Ground.data }], guard := none }) (by kernel_rfl) rfl rfl (fun K hK => ?_) (fun K hK => ?_)
            · rw [if_pos (by rfl)]
              go_simp
              generalize hX2 : World.alloc _ _ = X2
              have x2 : X2.heap[U0.heap.size]? = some (.cells #[.slice ia2 n1 ic2] 25 (0, 0)) := by rw [← hX2]; exact heap_alloc_new _ _
              have d2 : Below U0.heap.size U0 X2 := by rw [← hX2]; exact T.below_alloc1 _ _
              have s2 := s0.below d2
              have b2 := b0.trans (d2.mono b0.size)
              refine hK.out _ _ (fun _ h => (d2.block _ (T.lt_heap h)).trans h) ?_
              clear hK K
              try simp only [Act.put, List.setIfInBounds_toArray, List.set_cons_zero, List.set_cons_succ]
              refine ready2_f 3 6 (o := { dst := some 89, op := Op.call { callee := Callee.builtin Builtin.append, args := #[Operand.tmp 86, Operand.tmp 88], argTypes := #[48, 48] }, type := 48, pos := "law.go:77", after := #[{ on := 0, ground := Ground.data }, { on := 2, ground := Ground.data }], guard := none }) (o' := { dst := some 92, op := Op.buildSlice 44 1 #[(0, Operand.tmp 91)], type := 44, pos := "law.go:77", after := #[{ on := 5, ground := Ground.data }], guard := none }) (by kernel_rfl) rfl rfl (fun K hK => ?_) (fun K hK => ?_)
              · rw [if_pos (by rfl)]
                have hz3 := b2.size
                refine wp_append_lies _ _ _ 48 rfl W2.heap.size 25 i5 (.slice none 0 0) 1 24 Try.underlying48 hi5 hx0 hx1 hx2 rfl (by decide) _ _ _ rfl s2.bv.a.ns.own ⟨U0.heap.size, 0, none⟩ 1 1 [.slice ia2 n1 ic2] rfl rfl (news1 x2) (by simp [Value.oneCell']) (by decide) (by unfold maxLen; omega) (by omega) (by omega) _ rfl ?_
                intro g9 cap9 w9 hown9 hgrow9 hlies9 _
                have s3 := s2.app (by rw [HNC.out]; exact hown9) hgrow9 hlies9
                have b3 := b2.grown hgrow9 b2.size (fun x hx => (s2.bv.a.ns.own.lt x hx).1)
                refine hK.out _ _ (fun _ h => (hgrow9.block _ (T.lt_heap h) HFA.out).trans h) ?_
                clear hK K
                try simp only [Act.put, List.setIfInBounds_toArray, List.set_cons_zero, List.set_cons_succ]
                refine ready_f 6 (o := { dst := some 92, op := Op.buildSlice 44 1 #[(0, Operand.tmp 91)], type := 44, pos := "law.go:77", after := #[{ on := 5, ground := Ground.data }], guard := none }) (by kernel_rfl) rfl (fun K hK => ?_)
                rw [if_pos (by rfl)]
                unfold Oper.wp
                rw [exec_build1 (n := n1) (a := va) _ rfl rfl]
                generalize hX6 : World.alloc _ _ = X6
                have y6 : X6.heap[w9.heap.size]? = some (.cells #[.int .i64 (n1 : Int), .slice va (T.need n1 64) (T.need n1 64)] 40 (0, 0)) := by rw [← hX6]; exact heap_alloc_new _ _
                have d6 : Below w9.heap.size w9 X6 := by rw [← hX6]; exact T.below_alloc1 _ _
                have s6 := s3.below d6
                have b6 := b3.trans (d6.mono b3.size)
                refine hK.out _ _ (fun _ h => (d6.block _ (T.lt_heap h)).trans h) ?_
                clear hK K
                try simp only [Act.put, List.setIfInBounds_toArray, List.set_cons_zero, List.set_cons_succ]
                refine ready_f 7 (o := { dst := some 93, op := Op.call { callee := Callee.builtin Builtin.append, args := #[Operand.tmp 90, Operand.tmp 92], argTypes := #[44, 44] }, type := 44, pos := "law.go:77", after := #[{ on := 4, ground := Ground.data }, { on := 6, ground := Ground.data }, { on := 3, ground := Ground.chain }], guard := none }) (by kernel_rfl) rfl (fun K hK => ?_)
                rw [if_pos (by rfl)]
                have hz7 := b6.size
                refine wp_append_lies _ _ _ 44 rfl W2.heap.size 40 i7 (.agg #[.int .i64 0, .slice none 0 0]) 2 32 Try.underlying44 hi7 hw0 hw1 hw2 rfl (by decide) _ _ _ rfl s6.bv.b.ns.own ⟨w9.heap.size, 0, none⟩ 1 1 [.int .i64 (n1 : Int), .slice va (T.need n1 64) (T.need n1 64)] rfl rfl (news2 y6) (by simp [Value.oneCell']) (by decide) (by unfold maxLen; omega) (by omega) (by omega) _ rfl ?_
                intro g8 cap8 w8 hown8 hgrow8 hlies8 _
                have r8 := hide1 (s6.app (by rw [HNC.out]; exact hown8) hgrow8 hlies8)
                have b8 := hide1 (b6.grown hgrow8 b6.size (fun x hx => (s6.bv.b.ns.own.lt x hx).1))
                refine hK.out _ _ (fun _ h => (hgrow8.block _ (T.lt_heap h) HFB.out).trans h) ?_
                clear hK K
                try simp only [Act.put, List.setIfInBounds_toArray, List.set_cons_zero, List.set_cons_succ]
                refine take_p 8 17 (.slice (some ⟨g9, 0, none⟩) (i + 1) cap9) rfl rfl (by kernel_rfl) (by kernel_rfl) (by kernel_rfl) (fun _ _ _ h => h) rfl (fun w => by go_simp) ?_
                try simp only [List.setIfInBounds_toArray, List.set_cons_zero, List.set_cons_succ]
                refine take_p 9 18 (.slice (some ⟨g8, 0, none⟩) (i + 1) cap8) rfl rfl (by kernel_rfl) (by kernel_rfl) (by kernel_rfl) (fun _ _ _ h => h) rfl (fun w => by go_simp) ?_
                try simp only [List.setIfInBounds_toArray, List.set_cons_zero, List.set_cons_succ]
                refine done_f (by kernel_rfl) ?_ _
                have R8 := r8
                have B8 := b8
                clear r8 b8
                go_wp2
                go_roundw
                case rel =>
                  refine ⟨i + 1, _, _, _, _, by omega, by go_num, R8.out, fun q hq => ?_, B8.out⟩
                  by_cases e : q = i
                  · rw [e]; exact if_pos rfl
                  · exact (if_neg e).trans (HNA.out q (by omega))
                case measure => simp [intOf]; omega
              · rw [if_pos (by rfl)]
                unfold Oper.wp
                rw [exec_build1 (n := n1) (a := va) _ rfl rfl]
                generalize hX6 : World.alloc _ _ = X6
                have y6 : X6.heap[X2.heap.size]? = some (.cells #[.int .i64 (n1 : Int), .slice va (T.need n1 64) (T.need n1 64)] 40 (0, 0)) := by rw [← hX6]; exact heap_alloc_new _ _
                have d6 : Below X2.heap.size X2 X6 := by rw [← hX6]; exact T.below_alloc1 _ _
                have s6 := s2.below d6
                have b6 := b2.trans (d6.mono b2.size)
                refine hK.out _ _ (fun _ h => (d6.block _ (T.lt_heap h)).trans h) ?_
                clear hK K
                try simp only [Act.put, List.setIfInBounds_toArray, List.set_cons_zero, List.set_cons_succ]
                have x6 := (d6.block _ (T.lt_heap x2)).trans x2
                refine ready_f 3 (o := { dst := some 89, op := Op.call { callee := Callee.builtin Builtin.append, args := #[Operand.tmp 86, Operand.tmp 88], argTypes := #[48, 48] }, type := 48, pos := "law.go:77", after := #[{ on := 0, ground := Ground.data }, { on := 2, ground := Ground.data }], guard := none }) (by kernel_rfl) rfl (fun K hK => ?_)
                rw [if_pos (by rfl)]
                have hz3 := b6.size
                refine wp_append_lies _ _ _ 48 rfl W2.heap.size 25 i5 (.slice none 0 0) 1 24 Try.underlying48 hi5 hx0 hx1 hx2 rfl (by decide) _ _ _ rfl s6.bv.a.ns.own ⟨U0.heap.size, 0, none⟩ 1 1 [.slice ia2 n1 ic2] rfl rfl (news1 x6) (by simp [Value.oneCell']) (by decide) (by unfold maxLen; omega) (by omega) (by omega) _ rfl ?_
                intro g9 cap9 w9 hown9 hgrow9 hlies9 _
                have s3 := s6.app (by rw [HNC.out]; exact hown9) hgrow9 hlies9
                have b3 := b6.grown hgrow9 b6.size (fun x hx => (s6.bv.a.ns.own.lt x hx).1)
                refine hK.out _ _ (fun _ h => (hgrow9.block _ (T.lt_heap h) HFA.out).trans h) ?_
                clear hK K
                try simp only [Act.put, List.setIfInBounds_toArray, List.set_cons_zero, List.set_cons_succ]
                have y3 := (hgrow9.block X2.heap.size (T.lt_heap y6) (fun e => by have := HLA.out _ e.symm; have := d2.size; omega)).trans y6
                refine ready_f 7 (o := { dst := some 93, op := Op.call { callee := Callee.builtin Builtin.append, args := #[Operand.tmp 90, Operand.tmp 92], argTypes := #[44, 44] }, type := 44, pos := "law.go:77", after := #[{ on := 4, ground := Ground.data }, { on := 6, ground := Ground.data }, { on := 3, ground := Ground.chain }], guard := none }) (by kernel_rfl) rfl (fun K hK => ?_)
                rw [if_pos (by rfl)]
                have hz7 := b3.size
                refine wp_append_lies _ _ _ 44 rfl W2.heap.size 40 i7 (.agg #[.int .i64 0, .slice none 0 0]) 2 32 Try.underlying44 hi7 hw0 hw1 hw2 rfl (by decide) _ _ _ rfl s3.bv.b.ns.own ⟨X2.heap.size, 0, none⟩ 1 1 [.int .i64 (n1 : Int), .slice va (T.need n1 64) (T.need n1 64)] rfl rfl (news2 y3) (by simp [Value.oneCell']) (by decide) (by unfold maxLen; omega) (by omega) (by omega) _ rfl ?_
                intro g8 cap8 w8 hown8 hgrow8 hlies8 _
                have r8 := hide1 (s3.app (by rw [HNC.out]; exact hown8) hgrow8 hlies8)
                have b8 := hide1 (b3.grown hgrow8 b3.size (fun x hx => (s3.bv.b.ns.own.lt x hx).1))
                refine hK.out _ _ (fun _ h => (hgrow8.block _ (T.lt_heap h) HFB.out).trans h) ?_
                clear hK K
                try simp only [Act.put, List.setIfInBounds_toArray, List.set_cons_zero, List.set_cons_succ]
                refine take_p 8 17 (.slice (some ⟨g9, 0, none⟩) (i + 1) cap9) rfl rfl (by kernel_rfl) (by kernel_rfl) (by kernel_rfl) (fun _ _ _ h => h) rfl (fun w => by go_simp) ?_
                try simp only [List.setIfInBounds_toArray, List.set_cons_zero, List.set_cons_succ]
                refine take_p 9 18 (.slice (some ⟨g8, 0, none⟩) (i + 1) cap8) rfl rfl (by kernel_rfl) (by kernel_rfl) (by kernel_rfl) (fun _ _ _ h => h) rfl (fun w => by go_simp) ?_
                try simp only [List.setIfInBounds_toArray, List.set_cons_zero, List.set_cons_succ]
                refine done_f (by kernel_rfl) ?_ _
                have R8 := r8
                have B8 := b8
                clear r8 b8
                go_wp2
                go_roundw
                case rel =>
                  refine ⟨i + 1, _, _, _, _, by omega, by go_num, R8.out, fun q hq => ?_, B8.out⟩
                  by_cases e : q = i
                  · rw [e]; exact if_pos rfl
                  · exact (if_neg e).trans (HNA.out q (by omega))
                case measure => simp [intOf]; omega
            · rw [if_pos (by rfl)]
              unfold Oper.wp
              rw [exec_build1 (n := n1) (a := va) _ rfl rfl]
              generalize hX6 : World.alloc _ _ = X6
              have y6 : X6.heap[U0.heap.size]? = some (.cells #[.int .i64 (n1 : Int), .slice va (T.need n1 64) (T.need n1 64)] 40 (0, 0)) := by rw [← hX6]; exact heap_alloc_new _ _
              have d6 : Below U0.heap.size U0 X6 := by rw [← hX6]; exact T.below_alloc1 _ _
              have s6 := s0.below d6
              have b6 := b0.trans (d6.mono b0.size)
              refine hK.out _ _ (fun _ h => (d6.block _ (T.lt_heap h)).trans h) ?_
              clear hK K
              try simp only [Act.put, List.setIfInBounds_toArray, List.set_cons_zero, List.set_cons_succ]
              refine ready_f 2 (o := { dst := some 88, op := Op.buildSlice 48 1 #[(0, Operand.tmp 87)], type := 48, pos := "law.go:77", after := #[{ on := 1, ground := Ground.data }], guard := none }) (by kernel_rfl) rfl (fun K hK => ?_)
              rw [if_pos (by rfl)]
              go_simp
              generalize hX2 : World.alloc _ _ = X2
              have x2 : X2.heap[X6.heap.size]? = some (.cells #[.slice ia2 n1 ic2] 25 (0, 0)) := by rw [← hX2]; exact heap_alloc_new _ _
              have d2 : Below X6.heap.size X6 X2 := by rw [← hX2]; exact T.below_alloc1 _ _
              have s2 := s6.below d2
              have b2 := b6.trans (d2.mono b6.size)
              refine hK.out _ _ (fun _ h => (d2.block _ (T.lt_heap h)).trans h) ?_
              clear hK K
              try simp only [Act.put, List.setIfInBounds_toArray, List.set_cons_zero, List.set_cons_succ]
              have y2 := (d2.block _ (T.lt_heap y6)).trans y6
              refine ready_f 3 (o := { dst := some 89, op := Op.call { callee := Callee.builtin Builtin.append, args := #[Operand.tmp 86, Operand.tmp 88], argTypes := #[48, 48] }, type := 48, pos := "law.go:77", after := #[{ on := 0, ground := Ground.data }, { on := 2, ground := Ground.data }], guard := none }) (by kernel_rfl) rfl (fun K hK => ?_)
              rw [if_pos (by rfl)]
              have hz3 := b2.size
              refine wp_append_lies _ _ _ 48 rfl W2.heap.size 25 i5 (.slice none 0 0) 1 24 Try.underlying48 hi5 hx0 hx1 hx2 rfl (by decide) _ _ _ rfl s2.bv.a.ns.own ⟨X6.heap.size, 0, none⟩ 1 1 [.slice ia2 n1 ic2] rfl rfl (news1 x2) (by simp [Value.oneCell']) (by decide) (by unfold maxLen; omega) (by omega) (by omega) _ rfl ?_
              intro g9 cap9 w9 hown9 hgrow9 hlies9 _
              have s3 := s2.app (by rw [HNC.out]; exact hown9) hgrow9 hlies9
              have b3 := b2.grown hgrow9 b2.size (fun x hx => (s2.bv.a.ns.own.lt x hx).1)
              refine hK.out _ _ (fun _ h => (hgrow9.block _ (T.lt_heap h) HFA.out).trans h) ?_
              clear hK K
              try simp only [Act.put, List.setIfInBounds_toArray, List.set_cons_zero, List.set_cons_succ]
              have y3 := (hgrow9.block U0.heap.size (T.lt_heap y2) (fun e => by have := HLA.out _ e.symm; omega)).trans y2
              refine ready_f 7 (o := { dst := some 93, op := Op.call { callee := Callee.builtin Builtin.append, args := #[Operand.tmp 90, Operand.tmp 92], argTypes := #[44, 44] }, type := 44, pos := "law.go:77", after := #[{ on := 4, ground := Ground.data }, { on := 6, ground := Ground.data }, { on := 3, ground := Ground.chain }], guard := none }) (by kernel_rfl) rfl (fun K hK => ?_)
              rw [if_pos (by rfl)]
              have hz7 := b3.size
              refine wp_append_lies _ _ _ 44 rfl W2.heap.size 40 i7 (.agg #[.int .i64 0, .slice none 0 0]) 2 32 Try.underlying44 hi7 hw0 hw1 hw2 rfl (by decide) _ _ _ rfl s3.bv.b.ns.own ⟨U0.heap.size, 0, none⟩ 1 1 [.int .i64 (n1 : Int), .slice va (T.need n1 64) (T.need n1 64)] rfl rfl (news2 y3) (by simp [Value.oneCell']) (by decide) (by unfold maxLen; omega) (by omega) (by omega) _ rfl ?_
              intro g8 cap8 w8 hown8 hgrow8 hlies8 _
              have r8 := hide1 (s3.app (by rw [HNC.out]; exact hown8) hgrow8 hlies8)
              have b8 := hide1 (b3.grown hgrow8 b3.size (fun x hx => (s3.bv.b.ns.own.lt x hx).1))
              refine hK.out _ _ (fun _ h => (hgrow8.block _ (T.lt_heap h) HFB.out).trans h) ?_
              clear hK K
              try simp only [Act.put, List.setIfInBounds_toArray, List.set_cons_zero, List.set_cons_succ]
              refine take_p 8 17 (.slice (some ⟨g9, 0, none⟩) (i + 1) cap9) rfl rfl (by kernel_rfl) (by kernel_rfl) (by kernel_rfl) (fun _ _ _ h => h) rfl (fun w => by go_simp) ?_
              try simp only [List.setIfInBounds_toArray, List.set_cons_zero, List.set_cons_succ]
              refine take_p 9 18 (.slice (some ⟨g8, 0, none⟩) (i + 1) cap8) rfl rfl (by kernel_rfl) (by kernel_rfl) (by kernel_rfl) (fun _ _ _ h => h) rfl (fun w => by go_simp) ?_
              try simp only [List.setIfInBounds_toArray, List.set_cons_zero, List.set_cons_succ]
              refine done_f (by kernel_rfl) ?_ _
              have R8 := r8
              have B8 := b8
              clear r8 b8
              go_wp2
              go_roundw
              case rel =>
                refine ⟨i + 1, _, _, _, _, by omega, by go_num, R8.out, fun q hq => ?_, B8.out⟩
                by_cases e : q = i
                · rw [e]; exact if_pos rfl
                · exact (if_neg e).trans (HNA.out q (by omega))
              case measure => simp [intOf]; omega
          · have t3 : ((i : Int) == (o : Int)) = false := by rw [beq_eq_false_iff_ne]; omega
            have HNC : Hid (mkN j o i = j) := by rw [mkN, if_neg ho2]; rfl
            have HOC : Hid (wr.ownsRow wo.heap.size 4 1 (.slice ia j ic) j (T.bools (mkC sl j o i))) := by
              have e9 : T.bools ((List.range j).map (fun j => sl.getD (plc i j sl.length) false)) = T.bools (mkC sl j o i) := by rw [mkC, if_neg ho2, List.append_nil]
              rw [← e9]
              exact HOL.out
            have HB4 := HBQ
            clear HOL HBQ hbq hszq ho2
            go_wp2_with fail
            clear t3
            have hbl := T.own_bl HOC.out (by rw [mkC_length, HNC.out])
            have kO := hide1 (T.of_any wr j ic ia _ hbl (by omega))
            go_at_call 9
            refine kO.out.mono ?_
            rintro e w5 ⟨va, rfl, hv5, hb5⟩
            obtain ⟨V5, hV5⟩ : ∃ W, W = w5.alloc (.cells #[.int .i64 (j : Int), .slice va (T.need j 64) (T.need j 64)] 40) := ⟨_, rfl⟩
            have hb6 : Below w5.heap.size w5 V5 := by rw [hV5]; exact T.below_alloc1 _ _
            have hb7 := hb5.trans (hb6.mono hb5.size)
            obtain ⟨b22, hb22⟩ : ∃ b, b = w5.heap.size := ⟨_, rfl⟩
            have HX5 : Hid (V5.heap[b22]? = some (.cells #[.int .i64 (j : Int), .slice va (T.need j 64) (T.need j 64)] 40 (0, 0))) := by rw [hV5, hb22]; exact heap_alloc_new _ _
            have HS5 : Hid (S0 V5 W2.heap.size (.slice la i lc) i aA nA cA (.slice lb i ld) aB (mkN j o) (mkC sl j o) ia va) := ⟨(HBV3.out.below HB4.out).below hb7, by rw [HNC.out]; exact (hbl.below hb7 (Nat.le_refl _)), fun x hx => by
                have h1 : wo.heap.size ≤ x ∧ x < wr.heap.size := by
                  cases ia with
                  | none => cases hx
                  | some ad => cases hx; exact HOC.out.lt ad.block rfl
                have := hb7.size
                exact ⟨by omega, fun h9 => by have := (HBV3.out.a.ns.own.lt x h9).2; omega, fun h9 => by have := (HBV3.out.b.ns.own.lt x h9).2; omega⟩, by rw [HNC.out]; exact ((hv5.below hb6 (Nat.le_refl _)).mono (Nat.zero_le _)), fun x hx => by
                have h1 := hv5.blk x hx
                have := hb6.size
                have := HB4.out.size
                exact ⟨by omega, fun h9 => by have := (HBV3.out.a.ns.own.lt x h9).2; omega, fun h9 => by have := (HBV3.out.b.ns.own.lt x h9).2; omega⟩⟩
            have HB5 := hide1 (HBE3.out.trans ((HB4.out.trans (hb7.mono HB4.out.size)).mono HBE3.out.size))
            have hg22 : wo.heap.size ≤ b22 := by rw [hb22]; have := HB4.out.size; have := hb5.size; omega
            have HFA : Hid (some b22 ≠ (Value.slice la i lc).ownBlock) := fun e => by have := (HBV3.out.a.ns.own.lt _ e.symm).2; omega
            have HFB : Hid (some b22 ≠ (Value.slice lb i ld).ownBlock) := fun e => by have := (HBV3.out.b.ns.own.lt _ e.symm).2; omega
            have HLA : Hid (∀ x, (Value.slice la i lc).ownBlock = some x → x < V5.drew.heap.size) := fun x hx => by
              have := (HBV3.out.a.ns.own.lt x hx).2
              have := HB4.out.size
              have := hb7.size
              show x < V5.heap.size
              omega
            clear hbl kO hv5 hb5 hb6 hb7 HOC hg22
            go_upto_region 18 with (fail)
            rw [← hb22, ← hV5]
            clear hV5 hb22 HBV3 HB4 HBE3
            refine region_f (F := []) (S := fun W' => W'.heap[b22]? = some (.cells #[.int .i64 (j : Int), .slice va (T.need j 64) (T.need j 64)] 40 (0, 0))) (by kernel_rfl) HX5.out (fun hS => ?_)
            clear hS
            have hS : V5.drew.heap[b22]? = some (.cells #[.int .i64 (j : Int), .slice va (T.need j 64) (T.need j 64)] 40 (0, 0)) := HX5.out
            refine take_p 0 86 (.slice la i lc) rfl rfl (by kernel_rfl) (by kernel_rfl) (by kernel_rfl) (fun _ _ _ h => h) rfl (fun w => by go_simp) ?_
            try simp only [List.setIfInBounds_toArray, List.set_cons_zero, List.set_cons_succ]
            refine take_p 1 87 (.slice ia j ic) rfl rfl (by kernel_rfl) (by kernel_rfl) (by kernel_rfl) (fun _ _ _ h => h) rfl (fun w => by go_simp) ?_
            try simp only [List.setIfInBounds_toArray, List.set_cons_zero, List.set_cons_succ]
            refine take_p 4 90 (.slice lb i ld) rfl rfl (by kernel_rfl) (by kernel_rfl) (by kernel_rfl) (fun _ _ _ h => h) rfl (fun w => by go_simp) ?_
            try simp only [List.setIfInBounds_toArray, List.set_cons_zero, List.set_cons_succ]
            refine take_f 5 91 (.agg #[.int .i64 (j : Int), .slice va (T.need j 64) (T.need j 64)]) [6, 7, 8, 9] rfl rfl (by kernel_rfl) (by kernel_rfl) (by kernel_rfl) (by kernel_rfl) (by kernel_rfl) (by kernel_rfl) (fun _ _ _ h => h) rfl (fun w hSw => by have h0 := T.box2 hSw; have h1 := h0.1; have h2 := h0.2.1; go_simp) hS ?_
            try simp only [List.setIfInBounds_toArray, List.set_cons_zero, List.set_cons_succ]
            have s0 := HS5.out.below (Below.refl _ _).drew
            have b0 := HB5.out.drew
            generalize V5.drew = U0 at *
            refine ready2_f 2 6 (o := { dst := some 88, op := Op.buildSlice 48 1 #[(0, Operand.tmp 87)], type := 48, pos := "law.go:77", after := #[{ on := 1, ground := Ground.data }], guard := none }) (o' := { dst := some 92, op := Op.buildSlice 44 1 #[(0, Operand.tmp 91)], type := 44, pos := "law.go:77", after := #[{ on := 5, ground := Ground.data }], guard := none }) (by kernel_rfl) rfl rfl (fun K hK => ?_) (fun K hK => ?_)
            · rw [if_pos (by rfl)]
              go_simp
              generalize hX2 : World.alloc _ _ = X2
              have x2 : X2.heap[U0.heap.size]? = some (.cells #[.slice ia j ic] 25 (0, 0)) := by rw [← hX2]; exact heap_alloc_new _ _
              have d2 : Below U0.heap.size U0 X2 := by rw [← hX2]; exact T.below_alloc1 _ _
              have s2 := s0.below d2
              have b2 := b0.trans (d2.mono b0.size)
              refine hK.out _ _ (fun _ h => (d2.block _ (T.lt_heap h)).trans h) ?_
              clear hK K
              try simp only [Act.put, List.setIfInBounds_toArray, List.set_cons_zero, List.set_cons_succ]
              refine ready2_f 3 6 (o := { dst := some 89, op := Op.call { callee := Callee.builtin Builtin.append, args := #[Operand.tmp 86, Operand.tmp 88], argTypes := #[48, 48] }, type := 48, pos := "law.go:77", after := #[{ on := 0, ground := Ground.data }, { on := 2, ground := Ground.data }], guard := none }) (o' := { dst := some 92, op := Op.buildSlice 44 1 #[(0, Operand.tmp 91)], type := 44, pos := "law.go:77", after := #[{ on := 5, ground := Ground.data }], guard := none }) (by kernel_rfl) rfl rfl (fun K hK => ?_) (fun K hK => ?_)
              · rw [if_pos (by rfl)]
                have hz3 := b2.size
                refine wp_append_lies _ _ _ 48 rfl W2.heap.size 25 i5 (.slice none 0 0) 1 24 Try.underlying48 hi5 hx0 hx1 hx2 rfl (by decide) _ _ _ rfl s2.bv.a.ns.own ⟨U0.heap.size, 0, none⟩ 1 1 [.slice ia j ic] rfl rfl (news1 x2) (by simp [Value.oneCell']) (by decide) (by unfold maxLen; omega) (by omega) (by omega) _ rfl ?_
                intro g9 cap9 w9 hown9 hgrow9 hlies9 _
                have s3 := s2.app (by rw [HNC.out]; exact hown9) hgrow9 hlies9
                have b3 := b2.grown hgrow9 b2.size (fun x hx => (s2.bv.a.ns.own.lt x hx).1)
                refine hK.out _ _ (fun _ h => (hgrow9.block _ (T.lt_heap h) HFA.out).trans h) ?_
                clear hK K
                try simp only [Act.put, List.setIfInBounds_toArray, List.set_cons_zero, List.set_cons_succ]
                refine ready_f 6 (o := { dst := some 92, op := Op.buildSlice 44 1 #[(0, Operand.tmp 91)], type := 44, pos := "law.go:77", after := #[{ on := 5, ground := Ground.data }], guard := none }) (by kernel_rfl) rfl (fun K hK => ?_)
                rw [if_pos (by rfl)]
                unfold Oper.wp
                rw [exec_build1 (n := j) (a := va) _ rfl rfl]
                generalize hX6 : World.alloc _ _ = X6
                have y6 : X6.heap[w9.heap.size]? = some (.cells #[.int .i64 (j : Int), .slice va (T.need j 64) (T.need j 64)] 40 (0, 0)) := by rw [← hX6]; exact heap_alloc_new _ _
                have d6 : Below w9.heap.size w9 X6 := by rw [← hX6]; exact T.below_alloc1 _ _
                have s6 := s3.below d6
                have b6 := b3.trans (d6.mono b3.size)
                refine hK.out _ _ (fun _ h => (d6.block _ (T.lt_heap h)).trans h) ?_
                clear hK K
                try simp only [Act.put, List.setIfInBounds_toArray, List.set_cons_zero, List.set_cons_succ]
                refine ready_f 7 (o := { dst := some 93, op := Op.call { callee := Callee.builtin Builtin.append, args := #[Operand.tmp 90, Operand.tmp 92], argTypes := #[44, 44] }, type := 44, pos := "law.go:77", after := #[{ on := 4, ground := Ground.data }, { on := 6, ground := Ground.data }, { on := 3, ground := Ground.chain }], guard := none }) (by kernel_rfl) rfl (fun K hK => ?_)
                rw [if_pos (by rfl)]
                have hz7 := b6.size
                refine wp_append_lies _ _ _ 44 rfl W2.heap.size 40 i7 (.agg #[.int .i64 0, .slice none 0 0]) 2 32 Try.underlying44 hi7 hw0 hw1 hw2 rfl (by decide) _ _ _ rfl s6.bv.b.ns.own ⟨w9.heap.size, 0, none⟩ 1 1 [.int .i64 (j : Int), .slice va (T.need j 64) (T.need j 64)] rfl rfl (news2 y6) (by simp [Value.oneCell']) (by decide) (by unfold maxLen; omega) (by omega) (by omega) _ rfl ?_
                intro g8 cap8 w8 hown8 hgrow8 hlies8 _
                have r8 := hide1 (s6.app (by rw [HNC.out]; exact hown8) hgrow8 hlies8)
                have b8 := hide1 (b6.grown hgrow8 b6.size (fun x hx => (s6.bv.b.ns.own.lt x hx).1))
                refine hK.out _ _ (fun _ h => (hgrow8.block _ (T.lt_heap h) HFB.out).trans h) ?_
                clear hK K
                try simp only [Act.put, List.setIfInBounds_toArray, List.set_cons_zero, List.set_cons_succ]
                refine take_p 8 17 (.slice (some ⟨g9, 0, none⟩) (i + 1) cap9) rfl rfl (by kernel_rfl) (by kernel_rfl) (by kernel_rfl) (fun _ _ _ h => h) rfl (fun w => by go_simp) ?_
                try simp only [List.setIfInBounds_toArray, List.set_cons_zero, List.set_cons_succ]
                refine take_p 9 18 (.slice (some ⟨g8, 0, none⟩) (i + 1) cap8) rfl rfl (by kernel_rfl) (by kernel_rfl) (by kernel_rfl) (fun _ _ _ h => h) rfl (fun w => by go_simp) ?_
                try simp only [List.setIfInBounds_toArray, List.set_cons_zero, List.set_cons_succ]
                refine done_f (by kernel_rfl) ?_ _
                have R8 := r8
                have B8 := b8
                clear r8 b8
                go_wp2
                go_roundw
                case rel =>
                  refine ⟨i + 1, _, _, _, _, by omega, by go_num, R8.out, fun q hq => ?_, B8.out⟩
                  by_cases e : q = i
                  · rw [e]; exact if_pos rfl
                  · exact (if_neg e).trans (HNA.out q (by omega))
                case measure => simp [intOf]; omega
              · rw [if_pos (by rfl)]
                unfold Oper.wp
                rw [exec_build1 (n := j) (a := va) _ rfl rfl]
                generalize hX6 : World.alloc _ _ = X6
                have y6 : X6.heap[X2.heap.size]? = some (.cells #[.int .i64 (j : Int), .slice va (T.need j 64) (T.need j 64)] 40 (0, 0)) := by rw [← hX6]; exact heap_alloc_new _ _
                have d6 : Below X2.heap.size X2 X6 := by rw [← hX6]; exact T.below_alloc1 _ _
                have s6 := s2.below d6
                have b6 := b2.trans (d6.mono b2.size)
                refine hK.out _ _ (fun _ h => (d6.block _ (T.lt_heap h)).trans h) ?_
                clear hK K
                try simp only [Act.put, List.setIfInBounds_toArray, List.set_cons_zero, List.set_cons_succ]
                have x6 := (d6.block _ (T.lt_heap x2)).trans x2
                refine ready_f 3 (o := { dst := some 89, op := Op.call { callee := Callee.builtin Builtin.append, args := #[Operand.tmp 86, Operand.tmp 88], argTypes := #[48, 48] }, type := 48, pos := "law.go:77", after := #[{ on := 0, ground := Ground.data }, { on := 2, ground := Ground.data }], guard := none }) (by kernel_rfl) rfl (fun K hK => ?_)
                rw [if_pos (by rfl)]
                have hz3 := b6.size
                refine wp_append_lies _ _ _ 48 rfl W2.heap.size 25 i5 (.slice none 0 0) 1 24 Try.underlying48 hi5 hx0 hx1 hx2 rfl (by decide) _ _ _ rfl s6.bv.a.ns.own ⟨U0.heap.size, 0, none⟩ 1 1 [.slice ia j ic] rfl rfl (news1 x6) (by simp [Value.oneCell']) (by decide) (by unfold maxLen; omega) (by omega) (by omega) _ rfl ?_
                intro g9 cap9 w9 hown9 hgrow9 hlies9 _
                have s3 := s6.app (by rw [HNC.out]; exact hown9) hgrow9 hlies9
                have b3 := b6.grown hgrow9 b6.size (fun x hx => (s6.bv.a.ns.own.lt x hx).1)
                refine hK.out _ _ (fun _ h => (hgrow9.block _ (T.lt_heap h) HFA.out).trans h) ?_
                clear hK K
                try simp only [Act.put, List.setIfInBounds_toArray, List.set_cons_zero, List.set_cons_succ]
                have y3 := (hgrow9.block X2.heap.size (T.lt_heap y6) (fun e => by have := HLA.out _ e.symm; have := d2.size; omega)).trans y6
                refine ready_f 7 (o := { dst := some 93, op := Op.call { callee := Callee.builtin Builtin.append, args := #[Operand.tmp 90, Operand.tmp 92], argTypes := #[44, 44] }, type := 44, pos := "law.go:77", after := #[{ on := 4, ground := Ground.data }, { on := 6, ground := Ground.data }, { on := 3, ground := Ground.chain }], guard := none }) (by kernel_rfl) rfl (fun K hK => ?_)
                rw [if_pos (by rfl)]
                have hz7 := b3.size
                refine wp_append_lies _ _ _ 44 rfl W2.heap.size 40 i7 (.agg #[.int .i64 0, .slice none 0 0]) 2 32 Try.underlying44 hi7 hw0 hw1 hw2 rfl (by decide) _ _ _ rfl s3.bv.b.ns.own ⟨X2.heap.size, 0, none⟩ 1 1 [.int .i64 (j : Int), .slice va (T.need j 64) (T.need j 64)] rfl rfl (news2 y3) (by simp [Value.oneCell']) (by decide) (by unfold maxLen; omega) (by omega) (by omega) _ rfl ?_
                intro g8 cap8 w8 hown8 hgrow8 hlies8 _
                have r8 := hide1 (s3.app (by rw [HNC.out]; exact hown8) hgrow8 hlies8)
                have b8 := hide1 (b3.grown hgrow8 b3.size (fun x hx => (s3.bv.b.ns.own.lt x hx).1))
                refine hK.out _ _ (fun _ h => (hgrow8.block _ (T.lt_heap h) HFB.out).trans h) ?_
                clear hK K
                try simp only [Act.put, List.setIfInBounds_toArray, List.set_cons_zero, List.set_cons_succ]
                refine take_p 8 17 (.slice (some ⟨g9, 0, none⟩) (i + 1) cap9) rfl rfl (by kernel_rfl) (by kernel_rfl) (by kernel_rfl) (fun _ _ _ h => h) rfl (fun w => by go_simp) ?_
                try simp only [List.setIfInBounds_toArray, List.set_cons_zero, List.set_cons_succ]
                refine take_p 9 18 (.slice (some ⟨g8, 0, none⟩) (i + 1) cap8) rfl rfl (by kernel_rfl) (by kernel_rfl) (by kernel_rfl) (fun _ _ _ h => h) rfl (fun w => by go_simp) ?_
                try simp only [List.setIfInBounds_toArray, List.set_cons_zero, List.set_cons_succ]
                refine done_f (by kernel_rfl) ?_ _
                have R8 := r8
                have B8 := b8
                clear r8 b8
                go_wp2
                go_roundw
                case rel =>
                  refine ⟨i + 1, _, _, _, _, by omega, by go_num, R8.out, fun q hq => ?_, B8.out⟩
                  by_cases e : q = i
                  · rw [e]; exact if_pos rfl
                  · exact (if_neg e).trans (HNA.out q (by omega))
                case measure => simp [intOf]; omega
            · rw [if_pos (by rfl)]
              unfold Oper.wp
              rw [exec_build1 (n := j) (a := va) _ rfl rfl]
              generalize hX6 : World.alloc _ _ = X6
              have y6 : X6.heap[U0.heap.size]? = some (.cells #[.int .i64 (j : Int), .slice va (T.need j 64) (T.need j 64)] 40 (0, 0)) := by rw [← hX6]; exact heap_alloc_new _ _
              have d6 : Below U0.heap.size U0 X6 := by rw [← hX6]; exact T.below_alloc1 _ _
              have s6 := s0.below d6
              have b6 := b0.trans (d6.mono b0.size)
              refine hK.out _ _ (fun _ h => (d6.block _ (T.lt_heap h)).trans h) ?_
              clear hK K
              try simp only [Act.put, List.setIfInBounds_toArray, List.set_cons_zero, List.set_cons_succ]
              refine ready_f 2 (o := { dst := some 88, op := Op.buildSlice 48 1 #[(0, Operand.tmp 87)], type := 48, pos := "law.go:77", after := #[{ on := 1, ground := Ground.data }], guard := none }) (by kernel_rfl) rfl (fun K hK => ?_)
              rw [if_pos (by rfl)]
              go_simp
              generalize hX2 : World.alloc _ _ = X2
              have x2 : X2.heap[X6.heap.size]? = some (.cells #[.slice ia j ic] 25 (0, 0)) := by rw [← hX2]; exact heap_alloc_new _ _
              have d2 : Below X6.heap.size X6 X2 := by rw [← hX2]; exact T.below_alloc1 _ _
              have s2 := s6.below d2
              have b2 := b6.trans (d2.mono b6.size)
              refine hK.out _ _ (fun _ h => (d2.block _ (T.lt_heap h)).trans h) ?_
              clear hK K
              try simp only [Act.put, List.setIfInBounds_toArray, List.set_cons_zero, List.set_cons_succ]
              have y2 := (d2.block _ (T.lt_heap y6)).trans y6
              refine ready_f 3 (o := { dst := some 89, op := Op.call { callee := Callee.builtin Builtin.append, args := #[Operand.tmp 86, Operand.tmp 88], argTypes := #[48, 48] }, type := 48, pos := "law.go:77", after := #[{ on := 0, ground := Ground.data }, { on := 2, ground := Ground.data }], guard := none }) (by kernel_rfl) rfl (fun K hK => ?_)
              rw [if_pos (by rfl)]
              have hz3 := b2.size
              refine wp_append_lies _ _ _ 48 rfl W2.heap.size 25 i5 (.slice none 0 0) 1 24 Try.underlying48 hi5 hx0 hx1 hx2 rfl (by decide) _ _ _ rfl s2.bv.a.ns.own ⟨X6.heap.size, 0, none⟩ 1 1 [.slice ia j ic] rfl rfl (news1 x2) (by simp [Value.oneCell']) (by decide) (by unfold maxLen; omega) (by omega) (by omega) _ rfl ?_
              intro g9 cap9 w9 hown9 hgrow9 hlies9 _
              have s3 := s2.app (by rw [HNC.out]; exact hown9) hgrow9 hlies9
              have b3 := b2.grown hgrow9 b2.size (fun x hx => (s2.bv.a.ns.own.lt x hx).1)
              refine hK.out _ _ (fun _ h => (hgrow9.block _ (T.lt_heap h) HFA.out).trans h) ?_
              clear hK K
              try simp only [Act.put, List.setIfInBounds_toArray, List.set_cons_zero, List.set_cons_succ]
              have y3 := (hgrow9.block U0.heap.size (T.lt_heap y2) (fun e => by have := HLA.out _ e.symm; omega)).trans y2
              refine ready_f 7 (o := { dst := some 93, op := Op.call { callee := Callee.builtin Builtin.append, args := #[Operand.tmp 90, Operand.tmp 92], argTypes := #[44, 44] }, type := 44, pos := "law.go:77", after := #[{ on := 4, ground := Ground.data }, { on := 6, ground := Ground.data }, { on := 3, ground := Ground.chain }], guard := none }) (by kernel_rfl) rfl (fun K hK => ?_)
              rw [if_pos (by rfl)]
              have hz7 := b3.size
              refine wp_append_lies _ _ _ 44 rfl W2.heap.size 40 i7 (.agg #[.int .i64 0, .slice none 0 0]) 2 32 Try.underlying44 hi7 hw0 hw1 hw2 rfl (by decide) _ _ _ rfl s3.bv.b.ns.own ⟨U0.heap.size, 0, none⟩ 1 1 [.int .i64 (j : Int), .slice va (T.need j 64) (T.need j 64)] rfl rfl (news2 y3) (by simp [Value.oneCell']) (by decide) (by unfold maxLen; omega) (by omega) (by omega) _ rfl ?_
              intro g8 cap8 w8 hown8 hgrow8 hlies8 _
              have r8 := hide1 (s3.app (by rw [HNC.out]; exact hown8) hgrow8 hlies8)
              have b8 := hide1 (b3.grown hgrow8 b3.size (fun x hx => (s3.bv.b.ns.own.lt x hx).1))
              refine hK.out _ _ (fun _ h => (hgrow8.block _ (T.lt_heap h) HFB.out).trans h) ?_
              clear hK K
              try simp only [Act.put, List.setIfInBounds_toArray, List.set_cons_zero, List.set_cons_succ]
              refine take_p 8 17 (.slice (some ⟨g9, 0, none⟩) (i + 1) cap9) rfl rfl (by kernel_rfl) (by kernel_rfl) (by kernel_rfl) (fun _ _ _ h => h) rfl (fun w => by go_simp) ?_
              try simp only [List.setIfInBounds_toArray, List.set_cons_zero, List.set_cons_succ]
              refine take_p 9 18 (.slice (some ⟨g8, 0, none⟩) (i + 1) cap8) rfl rfl (by kernel_rfl) (by kernel_rfl) (by kernel_rfl) (fun _ _ _ h => h) rfl (fun w => by go_simp) ?_
              try simp only [List.setIfInBounds_toArray, List.set_cons_zero, List.set_cons_succ]
              refine done_f (by kernel_rfl) ?_ _
              have R8 := r8
              have B8 := b8
              clear r8 b8
              go_wp2
              go_roundw
              case rel =>
                refine ⟨i + 1, _, _, _, _, by omega, by go_num, R8.out, fun q hq => ?_, B8.out⟩
                by_cases e : q = i
                · rw [e]; exact if_pos rfl
                · exact (if_neg e).trans (HNA.out q (by omega))
              case measure => simp [intOf]; omega
    · obtain rfl : i = K := by omega
      have hbv := HBV.out
      obtain ⟨g, c, e9, hcap, hvcs⟩ := hbv.b.vcs (by omega) (fun i hi => by unfold mkN; split <;> omega)
      cases e9
      have HBD := hide1 (hbv.a.brd (by omega))
      have x1 := (hbe.block _ (T.lt_heap X1.out)).trans X1.out
      have XX := hide1 x1
      have hsk := SK2.out.below hbe (Nat.le_refl _)
      have SK := hide1 hsk
      have kS := hide1 (KS.out wr _ _ ld aB hvcs hsk hcap)
      have rr := view_send x1
      have BB := hide1 (B2.out.trans (hbe.mono B2.out.size))
      clear hbv hvcs x1 hsk hbe HBV HBE
      go_wp2_with (first | (refine wpList_load_mid rfl 31 (.tmp 95) rfl b1 0 rfl [.int .u64 (d0 : Int), .int .u64 (d1 : Int), .slice (some ⟨gK0, 0, none⟩) 128 cK0] _ rr Try.underlying31 rfl (by kernel_rfl) ?_) | fail)
      go_at_call 15
      refine kS.out.mono ?_
      rintro e w5 ⟨ta, tc, rfl, hrs, hb5⟩
      have x5 := (hb5.block _ (T.lt_heap XX.out)).trans XX.out
      have z0 : w5.cell? ⟨b1, 0, none⟩ = some (.int .u64 (d0 : Int)) := by rw [cell_of_row w5 b1 _ _ _ _ x5]; rfl
      have z1 : w5.cell? ⟨b1, 1, none⟩ = some (.int .u64 (d1 : Int)) := by rw [cell_of_row w5 b1 _ _ _ _ x5]; rfl
      have z2 : w5.cell? ⟨b1, 2, none⟩ = some (.slice (some ⟨gK0, 0, none⟩) 128 cK0) := by rw [cell_of_row w5 b1 _ _ _ _ x5]; rfl
      have kR := KR.out w5 _ _ aA nA cA (HBD.out.below hb5) HNA.out (SK.out.below hb5 (Nat.le_refl _))
      unfold rw2 at kR
      have KRR := hide1 kR
      have RS := hide1 hrs
      have B5 := hide1 (BB.out.trans (hb5.mono BB.out.size))
      have tcc : ((code : Int) == (code : Int)) = true := by simp
      clear kS rr hrs hb5 x5 kR XX HBD SK BB
      go_wp2_with fail
      go_at_call 16
      refine KRR.out.mono ?_
      rintro e w6 ⟨tb, td, rfl, hrs2, hb6⟩
      have kW := hide1 (rows_same w6 nR tc td ta tb RR (RS.out.below hb6 (Nat.le_refl _)) hrs2 hnR)
      have B6 := hide1 (B5.out.trans (hb6.mono B5.out.size))
      clear hrs2 hb6 KRR z0 z1 z2 RS
      go_wp2_with fail
      go_at_call 12
      refine kW.out.mono ?_
      rintro e w7 ⟨rfl, hb7⟩
      have B7 := hide1 (B6.out.trans (hb7.mono B6.out.size))
      clear hb7 kW
      go_wp2_with fail
      go_at_call 7
      refine (kA _).out.mono ?_
      rintro e w9 ⟨rfl, hb9⟩
      have B9 := hide1 (B7.out.trans (hb9.mono B7.out.size))
      clear hb9
      go_wp2
      go_ret
      exact ⟨rfl, B9.out⟩

theorem sends_all (kl : List Nat) (F N cb x y o : Nat) (av : Option Addr) (sl : List Bool) (w : World) (hk : kl.length = 32) (bk : Lt 256 kl) (hF : F < 18446744073709551616) (hv : T.Bl w N av sl) (hx : x < 256) (hy : y < 256) (ho : o < 256) :
    Calls Try.prog 4 #[arr8 kl, .int .u64 (F : Int), .slice av N cb, .int .u8 (x : Int), .int .u8 (y : Int), .int .u8 (o : Int)] w fun e w' => e = .returned (.bool true) ∧ Below w.heap.size w w' := by
  by_cases h : N = 0 ∨ 600 < N
  · exact sends_else kl F N cb x y o av w hx hy ho h
  · exact sends_in kl F N cb x y o av sl w hk bk hF hv (by omega) (by omega) hx hy ho
end Go.Proofs.Ytdahnbojnleboaa.I
