/- Unpack, and the document's. -/
import Derived.Test.YtaghcbmipihpmaaUt
namespace Go.Proofs.Ytaghcbmipihpmaa
open Go.RowKit
set_option maxRecDepth 100000
attribute [local go_sem] not_any mf_any

set_option maxHeartbeats 2000000 in
theorem unpack_any (n : Nat) (s : ByteArray) (w : World) (hn : n ≤ 65536) :
    Calls Try.prog 16 #[.int .i64 n, .string s] w fun e w' => (s.size = 128 * need n 8 → Got w w' n (fun i => rbits n (prt s (need n 8) i)) (fun i => cd n (prt s (need n 8) i)) e) ∧ (s.size ≠ 128 * need n 8 → e = .returned (.tuple #[.slice none 0 0, .int .i64 11]) ∧ Below w.heap.size w w') := by
  have h0 : ¬ (n : Int) < 0 := by omega
  have h1 : ¬ (65536 : Int) < (n : Int) := by omega
  obtain ⟨sz, hsz⟩ : ∃ sz, sz = need n 8 := ⟨_, rfl⟩
  have kN : ∀ w, Hid (Calls Try.prog 19 #[.int .i64 n, .int .i64 8] w fun e w' => e = .returned (.int .i64 (sz : Nat)) ∧ w' = w) := fun w => by rw [hsz]; exact tneeded_any n 8 w (by omega) (.inl rfl)
  have hs2 : sz ≤ 8192 := by rw [hsz, need8]; omega
  have HSZ := hide1 hsz
  rw [← hsz]
  clear hsz
  obtain ⟨m, hm⟩ : ∃ m, m = 128 * sz := ⟨_, rfl⟩
  have q1 : (128 : Int) * (sz : Int) = (m : Int) := by omega
  have q2 : IntKind.i64.wrap (128 * (sz : Int)) = (m : Int) := by rw [IntKind.wrap_i64]; omega
  have q3 : IntKind.i64.wrap (m : Int) = (m : Int) := by rw [IntKind.wrap_i64]; omega
  obtain ⟨W, hW⟩ : ∃ W, W = (w.alloc (.cells #[.int .i64 n] 3)).alloc (.cells #[.string s] 9) := ⟨_, rfl⟩
  have x1 : W.heap[w.heap.size]? = some (.cells #[.int .i64 n] 3 (0, 0)) := by rw [hW]; exact heap_alloc2_old _ _ _
  have x2 : W.heap[w.heap.size + 1]? = some (.cells #[.string s] 9 (0, 0)) := by rw [hW]; exact heap_alloc2_new _ _ _
  have x3 : Below w.heap.size w W := by rw [hW]; exact ((Below.refl _ _).alloc (Nat.le_refl _) _).alloc (by simp) _
  have y1 : W.cell? ⟨w.heap.size, 0, none⟩ = some (.int .i64 n) := by rw [cell_of_row W _ 0 _ _ _ x1]; rfl
  have y2 : W.cell? ⟨w.heap.size + 1, 0, none⟩ = some (.string s) := by rw [cell_of_row W _ 0 _ _ _ x2]; rfl
  have X3 := hide1 x3
  have l2 := lt_heap x2
  clear x1 x2 x3
  go_enter Try.func16, Try.ntmps16
  go_upto_region 1 with (fail)
  rw [← hW]
  obtain ⟨bn, hbn⟩ : ∃ bn, bn = w.heap.size := ⟨_, rfl⟩
  have HBN := hide1 hbn
  rw [← hbn] at y1 y2 X3 l2 ⊢
  obtain ⟨bs, hbs⟩ : ∃ bs, bs = bn + 1 := ⟨_, rfl⟩
  rw [← hbs] at y2 l2 ⊢
  have hbs2 : bn < bs := by omega
  clear hW hbn hbs
  go_wp2_with fail
  go_at_call 19
  refine (kN _).out.mono ?_
  rintro e w' ⟨rfl, rfl⟩
  have B4 : Hid (Below w'.heap.size w' (w'.alloc (.cells #[.int .i64 sz] 3))) := below_alloc1 _ _
  have z1 := (B4.out.cell (p := ⟨bn, 0, none⟩) (lt_cell y1)).trans y1
  have z2 := (B4.out.cell (p := ⟨bs, 0, none⟩) (lt_cell y2)).trans y2
  have z3 : (w'.alloc (.cells #[.int .i64 sz] 3)).cell? ⟨w'.heap.size, 0, none⟩ = some (.int .i64 sz) := by rw [cell_of_row _ _ 0 _ _ _ (heap_alloc_new w' _)]; rfl
  have BW : Hid (Below bn w (w'.alloc (.cells #[.int .i64 sz] 3))) := X3.out.trans (B4.out.mono (by omega))
  clear B4 y1 y2 X3 kN
  go_upto_region 4 with (fail)
  generalize w'.alloc (.cells #[.int .i64 sz] 3) = W5 at *
  generalize w'.heap.size = bz at *
  by_cases hse : s.size = m
  · have t1 : ((s.size : Int) != (m : Int)) = false := by rw [bne_eq_false_iff_eq]; omega
    have kK := hide1 (coll_unp bn bs bz n (fun i => rbits n (prt s sz i)) (fun i => cd n (prt s sz i)) W5 (by omega) (fun W i hi hb => unp1_any W n i bn bs bz sz s ((hb.cell (p := ⟨bn, 0, none⟩) (lt_cell z1)).trans z1) ((hb.cell (p := ⟨bs, 0, none⟩) (lt_cell z2)).trans z2) ((hb.cell (p := ⟨bz, 0, none⟩) (lt_cell z3)).trans z3) HSZ.out (by omega) hi hn))
    have HSE := hide1 hse
    have HM := hide1 hm
    clear hse hm
    go_wp2_with fail
    go_at_call 24
    refine kK.out.mono ?_
    rintro e w9 ⟨hb9, hg9⟩
    have HB9 := hide1 (BW.out.trans (hb9.mono (by rw [HBN.out]; exact BW.out.size)))
    rcases hg9 with ⟨k, g1, g2, g3, rfl⟩ | ⟨g1, g, aa, rfl, hv9⟩
    · have G1 := hide1 g1
      have G2 := hide1 g2
      have G3 := hide1 g3
      obtain ⟨ck, hck⟩ : ∃ ck, ck = cd n (prt s sz k) := ⟨_, rfl⟩
      have HCK := hide1 hck
      rw [← hck]
      clear g1 g2 g3 kK hb9 hck
      go_wp2
      go_ret2
      refine ⟨fun _ => ⟨by rw [← HBN.out]; exact HB9.out, .inl ⟨k, G1.out, G2.out, G3.out, ?_⟩⟩, fun h => absurd (HSE.out.trans HM.out) h⟩
      rw [← HCK.out]
      rfl
    · have G1 := hide1 g1
      have HV9 := hide1 hv9
      clear g1 kK hb9 hv9
      go_wp2
      go_ret2
      exact ⟨fun _ => ⟨by rw [← HBN.out]; exact HB9.out, .inr ⟨G1.out, g, aa, rfl, HV9.out⟩⟩, fun h => absurd (HSE.out.trans HM.out) h⟩
  · have t1 : ((s.size : Int) != (m : Int)) = true := by rw [bne_iff_ne]; omega
    have HSE := hide1 hse
    have HM := hide1 hm
    clear hse hm
    go_wp2
    go_ret2
    exact ⟨fun h => absurd (h.trans HM.out.symm) HSE.out, fun _ => ⟨rfl, by rw [← HBN.out]; exact BW.out⟩⟩

/- what the document's tells -/
structure RGot (w w' : World) (n : Nat) (L : Nat → List Bool) (E : Nat → Nat) (e : Ending) : Prop where
  bel : Below w.heap.size w w'
  is : (∃ k, k < 128 ∧ (∀ i, i < k → E i = 0) ∧ E k ≠ 0 ∧ e = .returned (.tuple #[.slice none 0 0, .int .i64 (E k : Nat)])) ∨ ((∀ i, i < 128 → E i = 0) ∧ ∃ g c aa cc, e = .returned (.tuple #[.slice (some ⟨g, 0, none⟩) 128 c, .int .i64 0]) ∧ Brd w' (.slice (some ⟨g, 0, none⟩) 128 c) 128 aa (fun _ => n) cc L)

set_option maxHeartbeats 4000000 in
theorem runpack_any (n : Nat) (s : ByteArray) (w : World) (hn : n ≤ 65536) :
    Calls Try.prog 17 #[.int .i64 n, .string s] w fun e w' => (s.size = 128 * need n 8 → RGot w w' n (fun i => rbits n (prt s (need n 8) i)) (fun i => cd n (prt s (need n 8) i)) e) ∧ (s.size ≠ 128 * need n 8 → e = .returned (.tuple #[.slice none 0 0, .int .i64 11]) ∧ Below w.heap.size w w') := by
  have h0 : ¬ (n : Int) < 0 := by omega
  have h1 : ¬ (65536 : Int) < (n : Int) := by omega
  obtain ⟨sz, hsz⟩ : ∃ sz, sz = need n 8 := ⟨_, rfl⟩
  have hs1 : sz = (n + 7) / 8 := by rw [hsz, need8]
  have hs2 : sz ≤ 8192 := by omega
  have q0 : ((n : Int) + 7) / 8 = (sz : Int) := by omega
  have q0' : IntKind.i64.wrap (((n : Int) + 7) / 8) = (sz : Int) := by rw [IntKind.wrap_i64]; omega
  have HSZ := hide1 hsz
  rw [← hsz]
  clear hsz hs1
  obtain ⟨m, hm⟩ : ∃ m, m = 128 * sz := ⟨_, rfl⟩
  have q1 : (128 : Int) * (sz : Int) = (m : Int) := by omega
  have q2 : IntKind.i64.wrap (128 * (sz : Int)) = (m : Int) := by rw [IntKind.wrap_i64]; omega
  have q3 : IntKind.i64.wrap (m : Int) = (m : Int) := by rw [IntKind.wrap_i64]; omega
  have q4 : IntKind.i64.wrap (sz : Int) = (sz : Int) := by rw [IntKind.wrap_i64]; omega
  by_cases hse : s.size = m
  · have t1 : ((s.size : Int) != (m : Int)) = false := by rw [bne_eq_false_iff_eq]; omega
    have HS : Hid (s.size = 128 * sz) := hse.trans hm
    obtain ⟨i0, hi0, hz0, hz1, hz2⟩ := info_parts info29
    clear hse hm
    go_enter Try.func17, Try.ntmps17
    go_wp2
    clear q1 q2 q0 q0' t1
    go_loopw [7, 8] (fun ov iv wr => ∃ (k : Nat) (aa : Nat → Option Addr) (nn cc : Nat → Nat), k ≤ 128 ∧ iv = .int .i64 k ∧ Bmk wr w.heap.size ov k aa nn cc (fun i => rbits n (prt s sz i)) ∧ (∀ i, i < k → nn i = n ∧ cd n (prt s sz i) = 0) ∧ Below w.heap.size w wr) (fun _ iv _ => 128 - (intOf iv).toNat)
    case atStart => exact ⟨0, _, _, _, Nat.zero_le _, rfl, Bmk.nil _ _ _, fun i hi => by omega, Below.refl _ _⟩
    case round =>
      obtain ⟨k, aa, nn, cc, hk, rfl, hM, hE, hB⟩ := hrel
      obtain ⟨la, lc, rfl⟩ := row_form hM.ns.own
      have HMK := hide1 hM
      have HE := hide1 hE
      have HB := hide1 hB
      clear hM hE hB
      by_cases hlt : k < 128
      · have hmp := mul_place (sz := sz) hlt
        obtain ⟨p, hp⟩ : ∃ p, p = k * sz := ⟨_, rfl⟩
        obtain ⟨q, hq⟩ : ∃ q, q = p + sz := ⟨_, rfl⟩
        rw [← hp, ← hq] at hmp
        have r1 : (k : Int) * (sz : Int) = (p : Int) := by rw [← Int.natCast_mul, ← hp]
        have r2 : IntKind.i64.wrap (p : Int) = (p : Int) := by rw [IntKind.wrap_i64]; omega
        have r3 : (p : Int) + (sz : Int) = (q : Int) := by omega
        have r4 : IntKind.i64.wrap (q : Int) = (q : Int) := by rw [IntKind.wrap_i64]; omega
        have hcut := run_cut s p q (by omega) (by have := HS.out; omega)
        have HT : Hid (s.extract p q = prt s sz k) := by rw [hq, hp]; rfl
        rw [HT.out] at hcut
        have kR := hide1 (rread_any n wr (prt s sz k) (by omega) (by rw [prt_size HS.out hlt]; exact HSZ.out))
        obtain ⟨t, ht⟩ : ∃ t, t = prt s sz k := ⟨_, rfl⟩
        have HTT := hide1 ht
        rw [← ht] at hcut kR
        clear HT ht hp hq hmp
        go_wp2_with fail
        go_at_call 40
        refine kR.out.mono ?_
        rintro e w1 ⟨v, f, rfl, hT, hb1⟩
        have HM1 := hide1 (HMK.out.below hb1)
        have HB1 := hide1 (HB.out.trans (hb1.mono HB.out.size))
        rcases hT with ⟨hc, rfl, a, c, rfl, hbl, hfar⟩ | ⟨hc, rfl⟩
        · have HBL := hide1 (hbl.below (below_alloc1 w1 (.cells #[.slice a n c] 29)) (Nat.le_refl _))
          have HM2 := hide1 (HM1.out.below (below_alloc1 w1 (.cells #[.slice a n c] 29)))
          have HFA : Hid (∀ b, a.map (·.block) = some b → b < (w1.alloc (.cells #[.slice a n c] 29)).heap.size ∧ (Value.slice la k lc).ownBlock ≠ some b) := fun b hb => by
            obtain ⟨ad, rfl, rfl⟩ := Option.map_eq_some_iff.1 hb
            obtain ⟨f1, f2⟩ := hfar ad rfl
            refine ⟨by simp; omega, fun h9 => ?_⟩
            have := (HMK.out.ns.own.lt _ h9).2
            omega
          have HC := hide1 hc
          have hsz1 := HB1.out.size
          clear hbl hfar hc kR hb1 HMK
          go_wp2_with (at_builtin; go_must (refine wpList_append_lies _ rfl _ _ 41 rfl w.heap.size 29 i0 (.slice none 0 0) 1 24 Try.underlying41 hi0 hz0 hz1 hz2 rfl (by decide) _ _ _ rfl HM2.out.ns.own ⟨w1.heap.size, 0, none⟩ 1 1 [.slice a n c] rfl rfl (cell_one_new _ _ _) (by simp [Value.oneCell']) (by decide) (by unfold maxLen; omega) (by omega) (by simp; omega) (w1.heap.size + 1) (by simp) ?_); intro g cap w2 hown' hgrow hlies _)
          go_roundw
          case rel =>
            have h9 := HM2.out.add HFA.out (by rw [← HTT.out]; exact HBL.out) hown' hgrow (by
              rcases hlies with h | h
              · exact .inl h
              · exact .inr (by simpa using h))
            refine ⟨k + 1, _, _, _, by omega, by go_num, h9, fun i hi => ?_, (HB1.out.alloc hsz1 _).grown hgrow (by simp; omega) (fun b hb => (HM2.out.ns.own.lt b hb).1)⟩
            by_cases e : i = k
            · rw [e, ← HTT.out]; exact ⟨if_pos rfl, cd_clean HC.out⟩
            · exact ⟨(if_neg e).trans (HE.out i (by omega)).1, (HE.out i (by omega)).2⟩
          case measure => simp [intOf]; omega
        · have HC := hide1 hc
          clear hc kR hb1
          go_wp2
          go_ret2
          refine ⟨fun _ => ⟨HB1.out, .inl ⟨k, hlt, fun i hi => (HE.out i hi).2, ?_, ?_⟩⟩, fun h => absurd HS.out h⟩
          · rw [← HTT.out, cd_not HC.out]; decide
          · rw [← HTT.out, cd_not HC.out]
            rfl
      · obtain rfl : k = 128 := by omega
        obtain ⟨g, c, e9, hgl, hcs⟩ := (HMK.out.brd (by omega)).at'
        cases e9
        have HBR : Hid (Brd wr (.slice (some ⟨g, 0, none⟩) 128 lc) 128 aa (fun _ => n) cc (fun i => rbits n (prt s sz i))) := by
          refine ⟨⟨g, lc, rfl, hgl, fun i hi => ?_⟩, fun i hi => ?_⟩
          · rw [hcs i hi, (HE.out i hi).1]
          · have := HMK.out.bl i hi
            rw [(HE.out i hi).1] at this
            exact this
        clear hcs
        go_wp2
        go_ret2
        exact ⟨fun _ => ⟨HB.out, .inr ⟨fun i hi => (HE.out i hi).2, g, lc, aa, cc, rfl, HBR.out⟩⟩, fun h => absurd HS.out h⟩
  · have t1 : ((s.size : Int) != (m : Int)) = true := by rw [bne_iff_ne]; omega
    have HSE := hide1 hse
    have HM := hide1 hm
    clear hse hm
    go_enter Try.func17, Try.ntmps17
    go_wp2
    go_ret2
    exact ⟨fun h => absurd (h.trans HM.out.symm) HSE.out, fun _ => ⟨rfl, Below.refl _ _⟩⟩
end Go.Proofs.Ytaghcbmipihpmaa
