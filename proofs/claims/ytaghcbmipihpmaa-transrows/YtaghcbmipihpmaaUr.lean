/- TransRows. -/
import Derived.Test.YtaghcbmipihpmaaUw
namespace Go.Proofs.Ytaghcbmipihpmaa
open Go.RowKit
set_option maxRecDepth 100000
attribute [local go_sem] not_any

/- the columns that the statement makes -/
def cb (sd : List Bool) (len m i j : Nat) : Bool := sd.getD ((i * m + j * j) % len) false
def rl (sd : List Bool) (len m od i : Nat) : List Bool := (List.range m).map (cb sd len m i) ++ (if i = od then [true] else [])
def rn (m od i : Nat) : Nat := m + (if i = od then 1 else 0)
theorem rl_length (sd : List Bool) (len m od i : Nat) : (rl sd len m od i).length = rn m od i := by
  unfold rl rn
  by_cases h : i = od <;> simp [h]
theorem rn_le (m od i : Nat) : rn m od i ≤ m + 1 := by unfold rn; split <;> omega
theorem rn_same {m od i : Nat} (h : ¬ i = od) : rn m od i = m := by unfold rn; rw [if_neg h]; rfl
theorem rn_odd (m od : Nat) : rn m od od = m + 1 := by unfold rn; rw [if_pos rfl]
theorem ev_no {K m od : Nat} (h : K ≠ 128 ∨ od < 128) : evn K (rn m od) = false := by
  refine decide_eq_false (fun h1 => ?_)
  obtain ⟨rfl, h2⟩ := h1
  have ho : od < 128 := by omega
  by_cases e : od = 0
  · have := h2 1 (by omega)
    rw [rn_same (by omega), e, rn_odd] at this
    omega
  · have := h2 od ho
    rw [rn_odd, rn_same (by omega)] at this
    omega
theorem range_snoc {f : Nat → Bool} (j : Nat) : (List.range (j + 1)).map f = (List.range j).map f ++ [f j] := by rw [List.range_succ, List.map_append]; rfl

set_option maxHeartbeats 8000000 in
theorem rows_small (w : World) (len cap : Nat) (a : Option Addr) (sd : List Bool) (hl : Bl w len a sd) (x1 x2 x3 : Nat) (b1 : x1 < 256) (b2 : x2 < 256) (b3 : x3 < 256) (h600 : len ≤ 600) (h0 : 0 < len) :
    Calls Try.prog 4 #[.slice a len cap, .int .u8 x1, .int .u8 x2, .int .u8 x3] w fun e w' => e = .returned (.bool true) ∧ Below w.heap.size w w' := by
  have kA := fun w => hide1 (awake_any w)
  obtain ⟨j0, hj0, jz0, jz1, jz2⟩ := info_parts info4
  obtain ⟨i0, hi0, hz0, hz1, hz2⟩ := info_parts info29
  have t1 : ¬ (600 : Int) < (len : Int) := by omega
  have t2 : ((len : Int) == 0) = false := by rw [beq_eq_false_iff_ne]; omega
  have t3 : ¬ (len : Int) = 0 := by omega
  have t4 : ¬ len = 0 := by omega
  obtain ⟨k0, hk0⟩ : ∃ k0, k0 = x2 % 16 := ⟨_, rfl⟩
  obtain ⟨m, hm⟩ : ∃ m, m = x1 % 150 := ⟨_, rfl⟩
  obtain ⟨K, hK⟩ : ∃ K, K = 120 + k0 := ⟨_, rfl⟩
  have u1 : (x2 : Int) % 16 = (k0 : Int) := by omega
  have u2 : (x2 : Int).tmod 16 = (k0 : Int) := by rw [Int.tmod_eq_emod_of_nonneg (by omega)]; omega
  have u3 : IntKind.i64.wrap (k0 : Int) = (k0 : Int) := by rw [IntKind.wrap_i64]; omega
  have u4 : (120 : Int) + (k0 : Int) = (K : Int) := by omega
  have u5 : IntKind.i64.wrap (x1 : Int) = (x1 : Int) := by rw [IntKind.wrap_i64]; omega
  have u6 : (x1 : Int) % 150 = (m : Int) := by omega
  have u7 : (x1 : Int).tmod 150 = (m : Int) := by rw [Int.tmod_eq_emod_of_nonneg (by omega)]; omega
  have u8 : IntKind.i64.wrap (K : Int) = (K : Int) := by rw [IntKind.wrap_i64]; omega
  have u9 : IntKind.i64.wrap (x3 : Int) = (x3 : Int) := by rw [IntKind.wrap_i64]; omega
  have m150 : m < 150 := by omega
  have K136 : K < 136 := by omega
  have K120 : 120 ≤ K := by omega
  have HSD := hide1 hl
  clear hl hk0 hm hK
  go_enter Try.func4, Try.ntmps4
  go_wp2
  clear u1 u2 u3 u4 u5 u6 u7 t1 t2
  go_loopw [9, 12] (fun ov iv wr => ∃ (i : Nat) (aa : Nat → Option Addr) (nn cc : Nat → Nat), i ≤ K ∧ iv = .int .i64 i ∧ Bmk wr w.heap.size ov i aa nn cc (rl sd len m x3) ∧ (∀ k, k < i → nn k = rn m x3 k) ∧ Below w.heap.size w wr) (fun _ iv _ => K - (intOf iv).toNat)
  case atStart => exact ⟨0, _, _, _, Nat.zero_le _, rfl, Bmk.nil _ _ _, fun k hk => by omega, Below.refl _ _⟩
  case round =>
    obtain ⟨i, aa, nn, cc, hi, rfl, hM, hE, hB⟩ := hrel
    obtain ⟨la, lc, rfl⟩ := row_form hM.ns.own
    have HM := hide1 hM
    have HE := hide1 hE
    have HB := hide1 hB
    clear hM hE hB
    by_cases hlt : i < K
    · obtain ⟨Z, hZ⟩ : ∃ Z, Z = wr := ⟨_, rfl⟩
      subst hZ
      have hlt' : (i : Int) < (K : Int) := by omega
      go_wp2
      go_loopw [13, 14] (fun cv jv wr => ∃ j : Nat, j ≤ m ∧ jv = .int .i64 j ∧ wr.ownsRow Z.heap.size 4 1 cv j (bools ((List.range j).map (cb sd len m i))) ∧ Below Z.heap.size Z wr) (fun _ jv _ => m - (intOf jv).toNat)
      case atStart => exact ⟨0, Nat.zero_le _, rfl, World.ownsRow_nil _ _ _ _, Below.refl _ _⟩
      case round =>
        obtain ⟨j, hj, rfl, hrow, hB2⟩ := hrel
        obtain ⟨ra, rc, rfl⟩ := row_form hrow
        have HW := hide1 (And.intro hrow hB2)
        clear hrow hB2
        by_cases hlt2 : j < m
        · obtain ⟨im, him⟩ : ∃ im, im = i * m := ⟨_, rfl⟩
          obtain ⟨jj, hjj⟩ : ∃ jj, jj = j * j := ⟨_, rfl⟩
          have e1 : im ≤ 136 * 150 := by rw [him]; exact Nat.mul_le_mul (by omega) (by omega)
          have e2 : jj ≤ 150 * 150 := by rw [hjj]; exact Nat.mul_le_mul (by omega) (by omega)
          obtain ⟨ss, hss⟩ : ∃ ss, ss = im + jj := ⟨_, rfl⟩
          obtain ⟨ix, hix⟩ : ∃ ix, ix = ss % len := ⟨_, rfl⟩
          have f1 : (i : Int) * (m : Int) = (im : Int) := by rw [him, Int.natCast_mul]
          have f2 : (j : Int) * (j : Int) = (jj : Int) := by rw [hjj, Int.natCast_mul]
          have f3 : IntKind.i64.wrap (im : Int) = (im : Int) := by rw [IntKind.wrap_i64]; omega
          have f4 : IntKind.i64.wrap (jj : Int) = (jj : Int) := by rw [IntKind.wrap_i64]; omega
          have f5 : (im : Int) + (jj : Int) = (ss : Int) := by omega
          have f6 : IntKind.i64.wrap (ss : Int) = (ss : Int) := by rw [IntKind.wrap_i64]; omega
          have f7 : (ss : Int) % (len : Int) = (ix : Int) := by rw [hix, Int.natCast_emod]
          have f8 : (ss : Int).tmod (len : Int) = (ix : Int) := by rw [hix]; rfl
          have f9 : ix < len := by rw [hix]; exact Nat.mod_lt _ h0
          obtain ⟨y, hy⟩ : ∃ y, sd[ix]? = some y := ⟨_, List.getElem?_eq_getElem (by rw [HSD.out.len]; exact f9)⟩
          have HCB : Hid (cb sd len m i j = y) := by
            unfold Hid cb
            rw [← him, ← hjj, ← hss, ← hix, List.getD_eq_getElem?_getD, hy]
            rfl
          obtain ⟨gq, oq, rfl, cq⟩ := HSD.out.at' ix y hy
          have hbw := HB.out.trans (HW.out.2.mono HB.out.size)
          have cq' := (hbw.cell (p := ⟨gq, oq + ix, none⟩) (lt_cell cq)).trans cq
          have hszw := HW.out.2.size
          clear him hjj e1 e2 hss hix hy cq hbw
          go_wp2_with (at_builtin; go_must (refine wpList_append_own _ rfl _ _ 29 rfl Z.heap.size 4 j0 (.bool false) 1 1 Try.underlying29 hj0 jz0 jz1 jz2 rfl (by decide) _ _ _ rfl (HW.out.1.alloc _) ⟨wr.heap.size, 0, none⟩ 1 1 [.bool y] rfl rfl (cell_one_new _ _ _) (by simp [Value.oneCell']) (by unfold maxLen; omega) (by omega) (by simp; omega) ?_); intro v' w2 hown' hgrow _)
          go_roundw
          case rel =>
            refine ⟨j + 1, by omega, by go_num, ?_, (HW.out.2.alloc HW.out.2.size _).grown hgrow (by simp; omega) (fun b hb => (HW.out.1.lt b hb).1)⟩
            rw [range_snoc, HCB.out]
            simpa [bools] using hown'
          case measure => simp [intOf]; omega
        · obtain rfl : j = m := by omega
          by_cases hod : i = x3
          · subst hod
            have v1 : ((i : Int) == (i : Int)) = true := by simp
            have hszw := HW.out.2.size
            go_upto_region 16 with (at_builtin; go_must (refine wpList_append_own _ rfl _ _ 29 rfl Z.heap.size 4 j0 (.bool false) 1 1 Try.underlying29 hj0 jz0 jz1 jz2 rfl (by decide) _ _ _ rfl (HW.out.1.alloc _) ⟨wr.heap.size, 0, none⟩ 1 1 [.bool true] rfl rfl (cell_one_new _ _ _) (by simp [Value.oneCell']) (by unfold maxLen; omega) (by omega) (by simp; omega) ?_); intro v' w2 hown' hgrow _)
            obtain ⟨ra, rc, rfl⟩ := row_form hown'
            have HW2 : Hid (w2.ownsRow Z.heap.size 4 1 (.slice ra (j + 1) rc) (j + 1) (bools (rl sd len j i i)) ∧ Below Z.heap.size Z w2) := by
              refine ⟨?_, (HW.out.2.alloc HW.out.2.size _).grown hgrow (by simp; omega) (fun b hb => (HW.out.1.lt b hb).1)⟩
              unfold rl
              rw [if_pos rfl]
              simpa [bools] using hown'
            have BL2 : Hid (Bl w2 (j + 1) ra (rl sd len j i i)) := own_bl HW2.out.1 (by rw [rl_length, rn_odd])
            clear hown' hgrow HW
            have HBL := hide1 (BL2.out.below (below_alloc1 w2 (.cells #[.slice ra (j + 1) rc] 29)) (Nat.le_refl _))
            have HM2 := hide1 ((HM.out.below HW2.out.2).below (below_alloc1 w2 (.cells #[.slice ra (j + 1) rc] 29)))
            have HFA : Hid (∀ b, ra.map (·.block) = some b → b < (w2.alloc (.cells #[.slice ra (j + 1) rc] 29)).heap.size ∧ (Value.slice la i lc).ownBlock ≠ some b) := fun b hb => by
              obtain ⟨ad, rfl, rfl⟩ := Option.map_eq_some_iff.1 hb
              obtain ⟨f1, f2⟩ := own_far HW2.out.1 ad rfl
              refine ⟨by simp; omega, fun h9 => ?_⟩
              have := (HM.out.ns.own.lt _ h9).2
              omega
            have hsz1 := (HB.out.trans (HW2.out.2.mono HB.out.size)).size
            go_wp2_with (at_builtin; go_must (refine wpList_append_lies _ rfl _ _ 41 rfl w.heap.size 29 i0 (.slice none 0 0) 1 24 Try.underlying41 hi0 hz0 hz1 hz2 rfl (by decide) _ _ _ rfl HM2.out.ns.own ⟨w2.heap.size, 0, none⟩ 1 1 [.slice ra (j + 1) rc] rfl rfl (cell_one_new _ _ _) (by simp [Value.oneCell']) (by decide) (by unfold maxLen; omega) (by omega) (by simp; omega) (w2.heap.size + 1) (by simp) ?_); intro g cap' w9 hown' hgrow hlies _)
            go_roundw
            case rel =>
              have h9 := HM2.out.add HFA.out HBL.out hown' hgrow (by
                rcases hlies with h | h
                · exact .inl h
                · exact .inr (by simpa using h))
              refine ⟨i + 1, _, _, _, by omega, by go_num, h9, fun q hq => ?_, ((HB.out.trans (HW2.out.2.mono HB.out.size)).alloc hsz1 _).grown hgrow (by simp; omega) (fun b hb => (HM2.out.ns.own.lt b hb).1)⟩
              by_cases e : q = i
              · rw [e]; exact (if_pos rfl).trans (rn_odd j i).symm
              · exact (if_neg e).trans (HE.out q (by omega))
            case measure => simp [intOf]; omega
          · have v1 : ((i : Int) == (x3 : Int)) = false := by rw [beq_eq_false_iff_ne]; omega
            have v2 : ¬ (i : Int) = (x3 : Int) := by omega
            have HW2 : Hid (wr.ownsRow Z.heap.size 4 1 (.slice ra j rc) j (bools (rl sd len j x3 i)) ∧ Below Z.heap.size Z wr) := by
              refine ⟨?_, HW.out.2⟩
              unfold rl
              rw [if_neg hod, List.append_nil]
              exact HW.out.1
            have BL2 : Hid (Bl wr j ra (rl sd len j x3 i)) := own_bl HW2.out.1 (by rw [rl_length, rn_same hod])
            have HOD := hide1 hod
            clear HW hod
            have HBL := hide1 (BL2.out.below (below_alloc1 wr (.cells #[.slice ra j rc] 29)) (Nat.le_refl _))
            have HM2 := hide1 ((HM.out.below HW2.out.2).below (below_alloc1 wr (.cells #[.slice ra j rc] 29)))
            have HFA : Hid (∀ b, ra.map (·.block) = some b → b < (wr.alloc (.cells #[.slice ra j rc] 29)).heap.size ∧ (Value.slice la i lc).ownBlock ≠ some b) := fun b hb => by
              obtain ⟨ad, rfl, rfl⟩ := Option.map_eq_some_iff.1 hb
              obtain ⟨f1, f2⟩ := own_far HW2.out.1 ad rfl
              refine ⟨by simp; omega, fun h9 => ?_⟩
              have := (HM.out.ns.own.lt _ h9).2
              omega
            have hsz1 := (HB.out.trans (HW2.out.2.mono HB.out.size)).size
            go_wp2_with (at_builtin; go_must (refine wpList_append_lies _ rfl _ _ 41 rfl w.heap.size 29 i0 (.slice none 0 0) 1 24 Try.underlying41 hi0 hz0 hz1 hz2 rfl (by decide) _ _ _ rfl HM2.out.ns.own ⟨wr.heap.size, 0, none⟩ 1 1 [.slice ra j rc] rfl rfl (cell_one_new _ _ _) (by simp [Value.oneCell']) (by decide) (by unfold maxLen; omega) (by omega) (by simp; omega) (wr.heap.size + 1) (by simp) ?_); intro g cap' w9 hown' hgrow hlies _)
            go_roundw
            case rel =>
              have h9 := HM2.out.add HFA.out HBL.out hown' hgrow (by
                rcases hlies with h | h
                · exact .inl h
                · exact .inr (by simpa using h))
              refine ⟨i + 1, _, _, _, by omega, by go_num, h9, fun q hq => ?_, ((HB.out.trans (HW2.out.2.mono HB.out.size)).alloc hsz1 _).grown hgrow (by simp; omega) (fun b hb => (HM2.out.ns.own.lt b hb).1)⟩
              by_cases e : q = i
              · rw [e]; exact (if_pos rfl).trans (rn_same HOD.out).symm
              · exact (if_neg e).trans (HE.out q (by omega))
            case measure => simp [intOf]; omega
    · obtain rfl : i = K := by omega
      have HBR : Hid (Brd wr (.slice la i lc) i aa (rn m x3) cc (rl sd len m x3)) := by
        obtain ⟨⟨g, c, e9, hgl, hcs⟩, hbl⟩ := HM.out.brd (by omega)
        refine ⟨⟨g, c, e9, hgl, fun q hq => ?_⟩, fun q hq => ?_⟩
        · rw [hcs q hq, HE.out q hq]
        · have := hbl q hq
          rw [HE.out q hq] at this
          exact this
      have kC := hide1 (columns_any wr i _ _ _ _ _ HBR.out (by omega) (by omega) (fun q _ => by have := rn_le m x3 q; omega))
      clear HM HE
      go_wp2_with fail
      go_at_call 12
      refine kC.out.mono ?_
      rintro e w1 ⟨g1, c1, a1, rfl, hcap1, hv1, hb1⟩
      have B1 := hide1 (HB.out.trans (hb1.mono HB.out.size))
      have R1 := hide1 (HBR.out.below hb1)
      clear kC hb1 HB HBR
      by_cases hgood : i = 128 ∧ 128 ≤ x3
      · obtain ⟨rfl, hx3⟩ := hgood
        have kR := hide1 (rows_yes w1 m c1 _ _ _ _ hv1 hcap1 (fun q hq => rn_same (by omega)) (by omega))
        clear hv1
        go_wp2_with fail
        go_at_call 11
        refine kR.out.mono ?_
        rintro e w2 ⟨gr, rfl, hr2, hb2⟩
        have B2 := hide1 (B1.out.trans (hb2.mono B1.out.size))
        have R2 := hide1 (R1.out.below hb2)
        have RR2 := hide1 hr2
        have kC := hide1 (columns_any w2 128 _ _ _ _ _ R2.out (by omega) (by omega) (fun q _ => by have := rn_le m x3 q; omega))
        clear hb2 kR R1 B1 hr2
        go_wp2_with fail
        go_at_call 12
        refine kC.out.mono ?_
        rintro e w3 ⟨g3, c3, a3, rfl, hcap3, hv3, hb3⟩
        have B3 := hide1 (B2.out.trans (hb3.mono B2.out.size))
        have R3 := hide1 (R2.out.below hb3)
        have RR3 : Hid (w3.heap[gr]? = some (rrow (rowV (rl sd len m x3)) m)) := (hb3.block _ (lt_heap RR2.out)).trans RR2.out
        have kP := hide1 (pack_yes w3 m c3 _ _ _ _ hv3 (fun q hq => rn_same (by omega)) (by omega))
        clear hb3 kC R2 B2 hv3 RR2
        go_wp2_with fail
        go_at_call 13
        refine kP.out.mono ?_
        rintro e w4 ⟨rfl, hb4⟩
        have B4 := hide1 (B3.out.trans (hb4.mono B3.out.size))
        have R4 := hide1 (R3.out.below hb4)
        have RR4 : Hid (w4.heap[gr]? = some (rrow (rowV (rl sd len m x3)) m)) := (hb4.block _ (lt_heap RR3.out)).trans RR3.out
        have kQ := hide1 (rpack_any w4 128 _ _ _ _ _ R4.out (by omega) (fun q _ => by have := rn_le m x3 q; omega))
        obtain ⟨tt, htt⟩ : ∃ tt : ByteArray, tt = ⟨(pkL (rl sd len m x3) 128).toArray⟩ := ⟨_, rfl⟩
        rw [← htt] at kQ ⊢
        have y1 : ((128 : Int) != 128) = false := by decide
        have y2 : ¬ (x3 : Int) < 128 := by omega
        have y3 : ((m : Int) != (m : Int)) = false := by simp
        clear hb4 kP B3 R3 RR3 htt
        go_wp2_with fail
        go_at_call 14
        refine kQ.out.mono ?_
        rintro e w5 ⟨rfl, hb5⟩
        have B5 := hide1 (B4.out.trans (hb5.mono B4.out.size))
        have R5 := hide1 (R4.out.below hb5)
        have RR5 : Hid (w5.heap[gr]? = some (rrow (rowV (rl sd len m x3)) m)) := (hb5.block _ (lt_heap RR4.out)).trans RR4.out
        clear hb5 kQ B4 R4 RR4
        go_wp2
        go_loopw [19] (fun jv wr => ∃ j : Nat, j ≤ m ∧ jv = .int .i64 j ∧ Below w5.heap.size w5 wr) (fun jv _ => m - (intOf jv).toNat)
        case atStart => exact ⟨0, Nat.zero_le _, rfl, Below.refl _ _⟩
        case round =>
          obtain ⟨j, hj, rfl, hbe⟩ := hrel
          have HBE := hide1 hbe
          clear hbe
          by_cases hlt2 : j < m
          · obtain ⟨V, hV⟩ : ∃ V, V = wr := ⟨_, rfl⟩
            subst hV
            go_wp2
            go_loopw [20] (fun iv wr => ∃ i : Nat, i ≤ 128 ∧ iv = .int .i64 i ∧ Below w5.heap.size w5 wr) (fun iv _ => 128 - (intOf iv).toNat)
            case atStart => exact ⟨0, Nat.zero_le _, rfl, HBE.out⟩
            case round =>
              obtain ⟨i, hi, rfl, hbe⟩ := hrel
              have HBF := hide1 hbe
              by_cases hlt3 : i < 128
              · obtain ⟨Z, hZ⟩ : ∃ Z, Z = wr := ⟨_, rfl⟩
                subst hZ
                have hrow := (hbe.block _ (lt_heap RR5.out)).trans RR5.out
                have q0 := rrow_cell (p := 0) hrow hlt2 (by omega)
                have q1 := rrow_cell (p := 1) hrow hlt2 (by omega)
                rw [Nat.add_zero] at q0
                obtain ⟨⟨gl, cl, e9, hgl, hcs⟩, hbl⟩ := R5.out.below hbe
                cases e9
                obtain ⟨y, hy⟩ : ∃ y, (rl sd len m x3 i)[j]? = some y := ⟨_, List.getElem?_eq_getElem (by rw [rl_length, rn_same (by omega)]; exact hlt2)⟩
                have kb := fun w => hide1 (rbit_any (rowV (rl sd len m x3) j 0) (rowV (rl sd len m x3) j 1) (i : Int) w)
                rw [bt_col (rowV (rl sd len m x3)) j i hlt3, rowV_bit _ _ _ _ (Nat.mod_lt _ (by omega)), show i / 64 * 64 + i % 64 = i by omega, List.getD_eq_getElem?_getD, hy, Option.getD_some] at kb
                unfold rw2 at kb
                obtain ⟨gq, oq, haq, cq⟩ := (hbl i hlt3).at' j y hy
                have hci := hcs i hlt3
                rw [haq, rn_same (show ¬ i = x3 by omega)] at hci
                generalize rowV (rl sd len m x3) j 0 = x0 at *
                generalize rowV (rl sd len m x3) j 1 = x1' at *
                generalize cc i = ci at *
                have CA : Hid (∀ W', Below Z.heap.size Z W' → W'.cell? ⟨gr, j * 2, none⟩ = some (.int .u64 (x0 : Int)) ∧ W'.cell? ⟨gr, j * 2 + 1, none⟩ = some (.int .u64 (x1' : Int))) := fun W' h => ⟨(h.cell (p := ⟨gr, j * 2, none⟩) (lt_heap hrow)).trans q0, (h.cell (p := ⟨gr, j * 2 + 1, none⟩) (lt_heap hrow)).trans q1⟩
                have CB : Hid (∀ W', Below Z.heap.size Z W' → W'.cell? ⟨gl, i, none⟩ = some (.slice (some ⟨gq, oq, none⟩) m ci)) := fun W' h => (h.cell (p := ⟨gl, i, none⟩) hgl).trans hci
                have CC : Hid (∀ W', Below Z.heap.size Z W' → W'.cell? ⟨gq, oq + j, none⟩ = some (.bool y)) := fun W' h => (h.cell (p := ⟨gq, oq + j, none⟩) (lt_cell cq)).trans cq
                have hjm : (j : Int) < (m : Int) := by omega
                have hi128 : (i : Int) < 128 := by omega
                clear hrow q0 q1 hcs hbl haq cq hci hy hbe
                go_upto_region 29 with (fail)
                refine region_f (F := []) (S := fun W' => Below Z.heap.size Z W') (by kernel_rfl) (Below.refl _ _).drew (fun hS => ?_)
                refine take_p 0 140 (.slice (some ⟨gr, 0, none⟩) m m) rfl rfl (by kernel_rfl) (by kernel_rfl) (by kernel_rfl) (fun _ _ _ h => h) rfl (fun w => by go_simp) ?_
                try simp only [List.setIfInBounds_toArray, List.set_cons_zero, List.set_cons_succ]
                refine take_p 1 141 (.int .i64 (j : Int)) rfl rfl (by kernel_rfl) (by kernel_rfl) (by kernel_rfl) (fun _ _ _ h => h) rfl (fun w => by go_simp) ?_
                try simp only [List.setIfInBounds_toArray, List.set_cons_zero, List.set_cons_succ]
                refine take_p 2 142 (.pointer (some ⟨gr, j * 2, none⟩)) rfl rfl (by kernel_rfl) (by kernel_rfl) (by kernel_rfl) (fun _ _ _ h => h) rfl (fun w => by go_simp) ?_
                try simp only [List.setIfInBounds_toArray, List.set_cons_zero, List.set_cons_succ]
                refine take_f 3 143 (.agg #[.int .u64 (x0 : Int), .int .u64 (x1' : Int)]) [5, 13] rfl rfl (by kernel_rfl) (by kernel_rfl) (by kernel_rfl) (by kernel_rfl) (by kernel_rfl) (by kernel_rfl) (fun _ _ _ h => h) rfl (fun w hSw => by have h1 := (CA.out w hSw).1; have h2 := (CA.out w hSw).2; go_simp) hS ?_
                try simp only [List.setIfInBounds_toArray, List.set_cons_zero, List.set_cons_succ]
                refine take_p 4 144 (.int .i64 (i : Int)) rfl rfl (by kernel_rfl) (by kernel_rfl) (by kernel_rfl) (fun _ _ _ h => h) rfl (fun w => by go_simp) ?_
                try simp only [List.setIfInBounds_toArray, List.set_cons_zero, List.set_cons_succ]
                refine take_p 6 146 (.slice (some ⟨gl, 0, none⟩) 128 lc) rfl rfl (by kernel_rfl) (by kernel_rfl) (by kernel_rfl) (fun _ _ _ h => h) rfl (fun w => by go_simp) ?_
                try simp only [List.setIfInBounds_toArray, List.set_cons_zero, List.set_cons_succ]
                refine take_p 7 147 (.int .i64 (i : Int)) rfl rfl (by kernel_rfl) (by kernel_rfl) (by kernel_rfl) (fun _ _ _ h => h) rfl (fun w => by go_simp) ?_
                try simp only [List.setIfInBounds_toArray, List.set_cons_zero, List.set_cons_succ]
                refine take_p 8 148 (.pointer (some ⟨gl, i, none⟩)) rfl rfl (by kernel_rfl) (by kernel_rfl) (by kernel_rfl) (fun _ _ _ h => h) rfl (fun w => by go_simp) ?_
                try simp only [List.setIfInBounds_toArray, List.set_cons_zero, List.set_cons_succ]
                refine take_f 9 149 (.slice (some ⟨gq, oq, none⟩) m ci) [11, 12, 13] rfl rfl (by kernel_rfl) (by kernel_rfl) (by kernel_rfl) (by kernel_rfl) (by kernel_rfl) (by kernel_rfl) (fun _ _ _ h => h) rfl (fun w hSw => by have h1 := CB.out w hSw; go_simp) hS ?_
                try simp only [List.setIfInBounds_toArray, List.set_cons_zero, List.set_cons_succ]
                refine take_p 10 150 (.int .i64 (j : Int)) rfl rfl (by kernel_rfl) (by kernel_rfl) (by kernel_rfl) (fun _ _ _ h => h) rfl (fun w => by go_simp) ?_
                try simp only [List.setIfInBounds_toArray, List.set_cons_zero, List.set_cons_succ]
                refine take_p 11 151 (.pointer (some ⟨gq, oq + j, none⟩)) rfl rfl (by kernel_rfl) (by kernel_rfl) (by kernel_rfl) (fun _ _ _ h => h) rfl (fun w => by go_simp) ?_
                try simp only [List.setIfInBounds_toArray, List.set_cons_zero, List.set_cons_succ]
                refine take_f 12 152 (.bool y) [13] rfl rfl (by kernel_rfl) (by kernel_rfl) (by kernel_rfl) (by kernel_rfl) (by kernel_rfl) (by kernel_rfl) (fun _ _ _ h => h) rfl (fun w hSw => by have h1 := CC.out w hSw; go_simp) hS ?_
                try simp only [List.setIfInBounds_toArray, List.set_cons_zero, List.set_cons_succ]
                refine ready_f 5 (o := { dst := some 145, op := Op.call { callee := Callee.value (Operand.func 15), args := #[Operand.tmp 143, Operand.tmp 144], argTypes := #[39, 3] }, type := 4, pos := "law.go:83", after := #[{ on := 3, ground := Ground.data }, { on := 4, ground := Ground.data }], guard := none }) (by kernel_rfl) rfl (fun K hK => ?_)
                go_simp
                refine (kb _).out.mono ?_
                rintro e w1 ⟨rfl, hb1⟩
                have hS1 := hS.trans (hb1.mono hS.size)
                refine hK.out _ _ (fun _ _ => hS1) ?_
                clear hK K
                try simp only [Act.put, List.setIfInBounds_toArray, List.set_cons_zero, List.set_cons_succ]
                refine take_p 13 153 (.bool false) rfl rfl (by kernel_rfl) (by kernel_rfl) (by kernel_rfl) (fun _ _ _ h => h) rfl (fun w => by cases y <;> go_simp) ?_
                try simp only [List.setIfInBounds_toArray, List.set_cons_zero, List.set_cons_succ]
                refine done_f (by kernel_rfl) ?_ _
                have HS1 := hide1 hS1
                clear hS1 hS kb
                go_wp2
                go_roundw
                case rel => exact ⟨i + 1, by omega, by go_num, HBF.out.trans (HS1.out.mono HBF.out.size)⟩
                case measure => simp [intOf]; omega
              · obtain rfl : i = 128 := by omega
                clear hbe
                go_wp2
                go_roundw
                case rel => exact ⟨j + 1, by omega, by go_num, HBF.out⟩
                case measure => simp [intOf]; omega
          · obtain rfl : j = m := by omega
            go_wp2_with fail
            go_at_call 6
            refine (kA _).out.mono ?_
            rintro e w9 ⟨rfl, hb9⟩
            have HB9 := hide1 hb9
            clear hb9
            go_wp2
            go_ret
            have h9 := B5.out.trans (HBE.out.mono B5.out.size)
            exact ⟨rfl, h9.trans (HB9.out.mono h9.size)⟩
      · have hev := ev_no (K := i) (m := m) (od := x3) (by omega)
        have kR := hide1 (rows_no w1 i c1 _ _ _ _ hv1 (by omega) hev)
        have HG : Shy (i ≠ 128 ∨ x3 < 128) := ⟨by omega⟩
        clear hv1 hgood
        go_wp2_with fail
        go_at_call 11
        refine kR.out.mono ?_
        rintro e w2 ⟨rfl, hb2⟩
        have B2 := hide1 (B1.out.trans (hb2.mono B1.out.size))
        have R2 := hide1 (R1.out.below hb2)
        have kC := hide1 (columns_any w2 i _ _ _ _ _ R2.out (by omega) (by omega) (fun q _ => by have := rn_le m x3 q; omega))
        clear hb2 kR R1 B1
        go_wp2_with fail
        go_at_call 12
        refine kC.out.mono ?_
        rintro e w3 ⟨g3, c3, a3, rfl, hcap3, hv3, hb3⟩
        have B3 := hide1 (B2.out.trans (hb3.mono B2.out.size))
        have kP := hide1 (pack_no w3 i c3 _ _ _ _ hv3 (by omega) hev)
        clear hb3 kC R2 B2 hv3 hev
        go_wp2_with fail
        go_at_call 13
        refine kP.out.mono ?_
        rintro e w4 ⟨rfl, hb4⟩
        have B4 := hide1 (B3.out.trans (hb4.mono B3.out.size))
        clear hb4 kP B3
        have fin : ∀ (P : Prop), P → P := fun _ h => h
        clear fin
        by_cases hi128 : i = 128
        · have hx : (x3 : Int) < 128 := by have := HG.out; omega
          subst hi128
          go_wp2_with fail
          go_at_call 6
          refine (kA _).out.mono ?_
          rintro e w9 ⟨rfl, hb9⟩
          have HB9 := hide1 hb9
          clear hb9
          go_wp2
          go_ret
          exact ⟨rfl, B4.out.trans (HB9.out.mono B4.out.size)⟩
        · have hx : ((i : Int) != 128) = true := by rw [bne_iff_ne]; omega
          go_wp2_with fail
          go_at_call 6
          refine (kA _).out.mono ?_
          rintro e w9 ⟨rfl, hb9⟩
          have HB9 := hide1 hb9
          clear hb9
          go_wp2
          go_ret
          exact ⟨rfl, B4.out.trans (HB9.out.mono B4.out.size)⟩

theorem rows_law (w : World) (len cap : Nat) (a : Option Addr) (sd : List Bool) (hl : Bl w len a sd) (x1 x2 x3 : Nat) (b1 : x1 < 256) (b2 : x2 < 256) (b3 : x3 < 256) :
    Calls Try.prog 4 #[.slice a len cap, .int .u8 x1, .int .u8 x2, .int .u8 x3] w fun e w' => e = .returned (.bool true) ∧ Below w.heap.size w w' := by
  by_cases h : len ≤ 600 ∧ 0 < len
  · exact rows_small w len cap a sd hl x1 x2 x3 b1 b2 b3 h.1 h.2
  · have kA := fun w => hide1 (awake_any w)
    clear hl
    by_cases hb : 600 < len
    · have t1 : (600 : Int) < (len : Int) := by omega
      go_enter Try.func4, Try.ntmps4
      go_wp2_with fail
      go_at_call 6
      refine (kA _).out.mono ?_
      rintro e w9 ⟨rfl, hb9⟩
      have HB9 := hide1 hb9
      clear hb9
      go_wp2
      go_ret
      exact ⟨rfl, HB9.out⟩
    · obtain rfl : len = 0 := by omega
      show Calls _ _ #[.slice a 0 cap, _, _, _] _ _
      go_enter Try.func4, Try.ntmps4
      go_wp2_with fail
      go_at_call 6
      refine (kA _).out.mono ?_
      rintro e w9 ⟨rfl, hb9⟩
      have HB9 := hide1 hb9
      clear hb9
      go_wp2
      go_ret
      exact ⟨rfl, HB9.out⟩
end Go.Proofs.Ytaghcbmipihpmaa
