/- TapeApart: its walk. -/
import Derived.Test.YtdkakodlkbkhnaaDoorR
namespace Go.Proofs.YtdkakodlkbkhnaaDoor
open Go.RowKit
set_option maxRecDepth 100000
attribute [local go_sem] not_any mf_any

theorem apart_long (w : World) (L c : Nat) (a : Option Addr) (n : Int) (he : Et w) (hL : 500 < L) :
    Calls Tryd.prog 6 #[.slice a L c, .int .i64 n] w fun e w' => e = .returned (.bool true) ∧ Below w.heap.size w w' := by
  have HA := hide1 (awake_any w he)
  have h1 : (500 : Int) < (L : Int) := by omega
  clear he
  go_enter Tryd.func6, Tryd.ntmps6
  go_wp2_with fail
  refine HA.out.mono ?_
  rintro e w1 ⟨rfl, hb⟩
  go_wp2
  go_ret
  exact ⟨rfl, hb⟩

theorem No.below {w w' : World} {v : Value} (h : No w v) (hb : Below w.heap.size w w') : No w' v := by
  rcases h with h | ⟨t, h, hc⟩
  · exact .inl h
  · exact .inr ⟨t, h, (hb.cell (p := ⟨t, 0, none⟩) (ltc hc)).trans hc⟩

theorem code3 {w : World} {b : Nat} (he : Et w) (hr : Rt w b 3) : Hid (Calls Tryd.prog 17 #[.iface 93 (.pointer (some ⟨b, 0, none⟩))] w fun x w' => x = .returned (.int .i64 3) ∧ Below w.heap.size w w') :=
  code_root b 3 w he hr rfl

/- what is known behind the calls of no tape: errors that tell 3, and a seed of zeros -/
structure Ap (wr W : World) (x : Value) (ps : List Nat) (bs : Nat) : Prop where
  rs : ∀ p ∈ ps, Rt W p 3
  sd : W.heap[bs]? = some (row8 51 (zeros 32))
  no : No W x
  et : Et W
  bl : Below wr.heap.size wr W
theorem Ap.next {wr W W' : World} {x : Value} {ps : List Nat} {bs : Nat} (h : Ap wr W x ps bs) (hb : Below W.heap.size W W') : Ap wr W' x ps bs :=
  ⟨fun p hp => (h.rs p hp).below hb (h.rs p hp).lt, (hb.block _ (lt_of_heap h.sd)).trans h.sd, h.no.below hb, h.et.below hb h.et.pos, h.bl.trans (hb.mono h.bl.size)⟩
theorem Ap.more {wr W : World} {x : Value} {ps : List Nat} {bs q : Nat} (h : Ap wr W x ps bs) (hq : Rt W q 3) : Ap wr W x (q :: ps) bs :=
  ⟨fun p hp => by
    rcases List.mem_cons.1 hp with rfl | hp
    · exact hq
    · exact h.rs p hp, h.sd, h.no, h.et, h.bl⟩

/- a whole row loaded, under a guard that is met -/
theorem wpList_load_want {P : Program} {ops : Array Oper} {rest : List Oper} {o : Oper} {a : Act} {w : World} {Q : Exit → Act → World → Prop} (hw : Region.wanted o (yielded ops a.tmps) = true) (ty : TypeId) (x : Operand) (ho : o.op = .load ty x)
    (g : Nat) (hx : a.eval x = .pointer (some ⟨g, 0, none⟩)) (t : TypeId) (cs : Array Value) (fr : Nat × Nat) (d : TypeDesc) (hg : w.heap[g]? = some (.cells cs t fr))
    (hu : P.underlying ty = some d) (hd : (match d with | .struct _ | .array _ _ => true | _ => false) = true) (hi : (P.info? ty).map (·.size) = some cs.size)
    (h : wpList P ops Q rest (a.put o.dst (.agg cs)) w) : wpList P ops Q (o :: rest) a w :=
  wpList_step fun K hK => by rw [if_pos hw]; exact wp_load_row ty x ho g hx t cs fr d hg hu hd hi (hK _ _ h)

theorem eq_zeros (w : World) : (Op.equalIn 10000 51 (.agg (u8s (zeros 32)).toArray) (.agg #[.int .u8 0, .int .u8 0, .int .u8 0, .int .u8 0, .int .u8 0, .int .u8 0, .int .u8 0, .int .u8 0, .int .u8 0, .int .u8 0, .int .u8 0, .int .u8 0, .int .u8 0, .int .u8 0, .int .u8 0, .int .u8 0, .int .u8 0, .int .u8 0, .int .u8 0, .int .u8 0, .int .u8 0, .int .u8 0, .int .u8 0, .int .u8 0, .int .u8 0, .int .u8 0, .int .u8 0, .int .u8 0, .int .u8 0, .int .u8 0, .int .u8 0, .int .u8 0])).run Tryd.prog w = .ok true w :=
  eq_seed (l := zeros 32) (by simp [zeros]) (by intro x hx; rw [zeros, List.mem_replicate] at hx; omega) w

set_option maxHeartbeats 8000000 in
theorem apart_short (w : World) (L c : Nat) (a : Option Addr) (ws : List Nat) (n : Int) (he : Et w) (ha : Nl w L a ws) (hL : L ≤ 500) :
    Calls Tryd.prog 6 #[.slice a L c, .int .i64 n] w fun e w' => e = .returned (.bool true) ∧ Below w.heap.size w w' := by
  have HLn : Shy (ws.length = L) := ⟨ha.len⟩
  have H := hide1 (And.intro he ha)
  have h1 : ¬ (500 : Int) < (L : Int) := by omega
  have hb0 : Below w.heap.size w (w.alloc (.cells #[] 44)) := (Below.refl _ _).alloc (Nat.le_refl _) _
  have HB0 := hide1 hb0
  have HO : Hid ((w.alloc (.cells #[] 44)).ownsRow w.heap.size 44 1 (.slice (some ⟨w.heap.size, 0, none⟩) 0 0) 0 (u64s [])) := own_empty w w.heap.size (Nat.le_refl _)
  have HNa : Hid (Nl (w.alloc (.cells #[] 44)) L a ws) := ha.next hb0
  have HNM : Shy (0 + L ≤ 2000000) := ⟨by omega⟩
  clear he ha hb0
  go_enter Tryd.func6, Tryd.ntmps6
  go_wp2_with (first
    | (at_builtin; go_must (refine wpList_append_nl rfl (.tmp 25) (.tmp 26) rfl w.heap.size (.slice (some ⟨w.heap.size, 0, none⟩) 0 0) 0 [] rfl HO.out a L c ws rfl HNa.out HNM.out (by simp) ?_; intro a6 cap6 w6 ro6 gr6; have RO := hide1 ro6; have GR := hide1 gr6; clear ro6 gr6)) | fail)
  have hb6 : Below w.heap.size (w.alloc (.cells #[] 44)) w6 := Below.own GR.out (base := w.heap.size) (fun k hk => by simp [Value.ownBlock] at hk; omega) (Nat.le_refl _) (by simp)
  have ho6 : Ow w6 w.heap.size L a6 ws := ow_own HLn.out (by simpa using RO.out)
  have HN := hide1 (new_tape w6 L cap6 a6 ws ho6.nl (by omega))
  have HB6 := hide1 (HB0.out.trans hb6)
  have HO6 := hide1 ho6
  clear RO GR hb6 ho6 HO HNa HB0
  refine HN.out.mono ?_
  rintro e W1 ⟨t, b, rfl, hb1, hbt, hT1, hr1, hB1⟩
  have hs6 := HB6.out.size
  rw [HLn.out] at hT1
  have HF := hide1 (And.intro (show w.heap.size ≤ b by omega) (And.intro hbt (And.intro hT1 (And.intro hr1 (And.intro (HB6.out.trans (hB1.mono hs6)) (HO6.out.next hB1))))))
  have HG : Hid (∀ g, a6 = some ⟨g, 0, none⟩ → 0 < L → g < b) := by
    intro g hg hL0
    rcases HO6.out.at' with h0 | ⟨g', h1, _, h3⟩
    · omega
    · rw [hg] at h1
      cases h1
      have := h3.lt
      omega
  clear hb1 hbt hT1 hr1 hB1 hs6 HN HB6 HO6
  go_wp2
  go_loopw [8] (fun i wr => ∃ (j : Nat) (l' : List Nat), j ≤ L ∧ i = .int .i64 (j : Int) ∧ Ow wr w.heap.size L a6 l' ∧ Tp wr t b 0 L ∧ wr.heap[b]? = some (wrow ws) ∧ Below w.heap.size w wr) (fun i _ => L - (intOf i).toNat)
  case atStart => exact ⟨0, ws, Nat.zero_le _, rfl, HF.out.2.2.2.2.2, HF.out.2.2.1, HF.out.2.2.2.1, HF.out.2.2.2.2.1⟩
  case round =>
    obtain ⟨j, l', hj, rfl, ho, hT, hr, hB⟩ := hrel
    by_cases hlt : j < L
    · obtain ⟨g, rfl, hg, hc, hf⟩ := ho.get hlt
      have hgb := HG.out g rfl (by omega)
      have HS := hide1 (And.intro ho (And.intro hT (And.intro hr (And.intro hB (And.intro hg hgb)))))
      generalize at0 l' j = x at *
      clear ho hT hr hB hg hgb
      go_wp2
      obtain ⟨ho, hT, hr, hB, hg, hgb⟩ := HS.out
      have hbt := HF.out.2.1
      refine ⟨⟨j + 1, l'.set j 7, by omega, by go_num, ho.set j 7, hT.to (Below.heap_setCell _ _ _ _ (by show t ≠ g; omega)), (Below.heap_setCell _ _ _ _ (by show b ≠ g; omega)).trans hr, hB.setCell hg _⟩, by simp [intOf]; omega⟩
    · have : j = L := by omega
      subst this
      have HT := hide1 (take_yes t b 0 j ws wr (by rw [HLn.out]; exact hT) hr (by rw [HLn.out]; omega) (by rw [HLn.out]; omega))
      have HB := hide1 hB
      clear ho hT hr hB
      go_wp2_with fail
      refine HT.out.mono ?_
      rintro e w1 ⟨rfl, r1, _, k1⟩
      have hbt := HF.out.2.1
      have hb1 := HF.out.1
      have b1 : Below w.heap.size w w1 := HB.out.trans (k1.below HB.out.size (fun _ _ h => by omega))
      rw [List.drop_zero, List.take_of_length_le (by rw [HLn.out]; exact Nat.le_refl _)] at r1
      have n1 := nl_row r1
      rw [HLn.out] at n1
      have HNm := hide1 (nums_any w1 j j c _ a ws n1 (H.out.2.next b1) (by omega))
      have HB1 := hide1 b1
      clear r1 k1 n1 b1 HT HB hbt hb1
      go_wp2_with fail
      refine HNm.out.mono ?_
      rintro e w2 ⟨rfl, q, hq⟩
      have HB2 : Hid (Below w.heap.size w w2) := by rw [hq]; exact below_drewN HB1.out q
      clear hq HNm HB1
      go_wp2
      generalize hX : World.alloc (World.alloc w2 _) _ = X
      have xb : X.heap[w2.heap.size]? = some (.cells #[.bool false, .slice none 0 0, .int .i64 0] 46 (0, 0)) := by rw [← hX]; exact heap_alloc2_old _ _ _
      have xs : X.heap[w2.heap.size + 1]? = some (.cells #[.pointer none, .pointer (some ⟨w2.heap.size, 0, none⟩)] 25 (0, 0)) := by rw [← hX]; exact heap_alloc2_new _ _ _
      have xl : Below w.heap.size w X := by rw [← hX]; exact (HB2.out.alloc HB2.out.size _).alloc (by have := HB2.out.size; simp; omega) _
      obtain ⟨bx, hbx⟩ : ∃ bx, w2.heap.size = bx := ⟨_, rfl⟩
      rw [hbx] at xb xs ⊢
      have HX := hide1 (And.intro xb (And.intro xs xl))
      clear hX xb xs xl hbx HB2 HF HG
      go_loopw [65] (fun i wr => ∃ (j : Nat), j ≤ 2 ∧ i = .int .i64 (j : Int) ∧ Below X.heap.size X wr) (fun i _ => 2 - (intOf i).toNat)
      case atStart => exact ⟨0, Nat.zero_le _, rfl, Below.refl _ _⟩
      case round =>
        obtain ⟨i, hi, rfl, hB⟩ := hrel
        obtain ⟨x1, x2, x3⟩ := HX.out
        have HBX := hide1 hB
        have HBw := hide1 (x3.trans (hB.mono x3.size))
        by_cases hlt : i < 2
        · have hi2 : (i : Int) < 2 := by omega
          obtain ⟨x, hcx, hno⟩ : ∃ x, wr.cell? ⟨bx + 1, i, none⟩ = some x ∧ No wr x := by
            have e1 := (hB.block _ (lt_of_heap x1)).trans x1
            have e2 := (hB.block _ (lt_of_heap x2)).trans x2
            obtain rfl | rfl : i = 0 ∨ i = 1 := by omega
            · exact ⟨_, (box2 e2).1, .inl rfl⟩
            · exact ⟨_, (box2 e2).2.1, .inr ⟨bx, rfl, by simp [World.cell?, e1]⟩⟩
          have HE := hide1 (H.out.1.below HBw.out H.out.1.pos)
          have HT := hide1 (take_none x n wr hno)
          have HNo := hide1 hno
          clear x1 x2 x3 hB hno
          go_wp2_with fail
          refine HT.out.mono ?_
          rintro e w3 ⟨rfl, q1, b3⟩
          have HT2 := hide1 (next_none x w3 (HNo.out.below b3))
          have HF3 := hide1 (And.intro q1 b3)
          clear q1 b3 HT
          go_wp2_with fail
          refine HT2.out.mono ?_
          rintro e w4 ⟨rfl, q2, b4⟩
          have b4' : Below wr.heap.size wr w4 := HF3.out.2.trans (b4.mono HF3.out.2.size)
          have HT3 := hide1 (seed_none x w4 (HNo.out.below b4'))
          have HF4 := hide1 (And.intro (HF3.out.1.below b4 HF3.out.1.lt) (And.intro q2 b4'))
          clear q2 b4 b4' HT2 HF3
          unfold arr8 at HT3
          go_wp2_with fail
          refine HT3.out.mono ?_
          rintro e w5 ⟨rfl, q3, b5⟩
          have HN5 := hide1 (World.alloc_heap_new w5 (row8 51 (zeros 32)))
          have b5' : Below wr.heap.size wr w5 := HF4.out.2.2.trans (b5.mono HF4.out.2.2.size)
          have HF5 := hide1 (And.intro (HF4.out.1.below b5 HF4.out.1.lt) (And.intro (HF4.out.2.1.below b5 HF4.out.2.1.lt) (And.intro q3 b5')))
          clear q3 b5 b5' HT3 HF4
          go_upto_region 18 with (first | (refine wpList_store_own rfl 51 (.tmp 17) (.tmp 83) rfl w5.heap.size rfl (u8s (zeros 32)).toArray rfl 51 _ HN5.out (by rw [zeros_size]; kernel_rfl) (by rw [zeros_size]) (all_one (u8s_one _)) ?_) | fail)
          generalize hY : World.setRow (World.alloc w5 _) _ _ = Y
          have y1 : Y.heap[w5.heap.size]? = some (row8 51 (zeros 32)) := by rw [← hY]; exact setRow_heap _ _ _ _ _ _ HN5.out
          have yb : Below w5.heap.size w5 Y := by rw [← hY]; exact Below.setRow' ((Below.refl _ _).alloc (Nat.le_refl _) _) (Nat.le_refl _) _
          obtain ⟨g1, hg1⟩ : ∃ g, wr.heap.size = g := ⟨_, rfl⟩
          obtain ⟨g2, hg2⟩ : ∃ g, w3.heap.size = g := ⟨_, rfl⟩
          obtain ⟨g3, hg3⟩ : ∃ g, w4.heap.size + 1 = g := ⟨_, rfl⟩
          obtain ⟨bs, hbs⟩ : ∃ g, w5.heap.size = g := ⟨_, rfl⟩
          have hA : Ap wr Y x [g1, g2, g3] bs := by
            obtain ⟨p1, p2, p3, p4⟩ := HF5.out
            rw [hg1] at p1
            rw [hg2] at p2
            rw [hg3] at p3
            rw [hbs] at y1
            have yb' : Below wr.heap.size wr Y := p4.trans (yb.mono p4.size)
            refine ⟨fun p hp => ?_, y1, HNo.out.below yb', HE.out.below yb' HE.out.pos, yb'⟩
            simp only [List.mem_cons, List.not_mem_nil, or_false] at hp
            rcases hp with rfl | rfl | rfl
            · exact p1.below yb p1.lt
            · exact p2.below yb p2.lt
            · exact p3.below yb p3.lt
          rw [hg1, hg2, hg3, hbs]
          have HA0 := hide1 hA
          have HT4 := hide1 (bits_none x n Y hA.no)
          clear hY y1 yb hg1 hg2 hg3 hbs hA HF5 HN5 HNo
          go_wp2_with fail
          refine HT4.out.mono ?_
          rintro e w6' ⟨rfl, q4, b6⟩
          obtain ⟨g4, hg4⟩ : ∃ g, Y.heap.size = g := ⟨_, rfl⟩
          rw [hg4] at q4 ⊢
          have HA1 := hide1 ((HA0.out.next b6).more q4)
          have HC1 := code3 HA1.out.et (HA1.out.rs g1 (by simp))
          clear q4 b6 hg4 HT4 HA0
          have heq := eq_zeros
          have hg51 := guard51
          go_wp2_with fail
          refine HC1.out.mono ?_
          rintro e v1 ⟨rfl, b1⟩
          have HA2 := hide1 (HA1.out.next b1)
          have HC2 := code3 HA2.out.et (HA2.out.rs g2 (by simp))
          clear b1 HC1 HA1
          go_wp2_with fail
          refine HC2.out.mono ?_
          rintro e v2 ⟨rfl, b1⟩
          have HA3 := hide1 (HA2.out.next b1)
          have HC3 := code3 HA3.out.et (HA3.out.rs g3 (by simp))
          clear b1 HC2 HA2
          go_wp2_with (first | (refine wpList_load_want rfl 51 (.tmp 17) rfl bs rfl 51 (u8s (zeros 32)).toArray (0, 0) _ HA3.out.sd Tryd.underlying51 rfl (by rw [zeros_size]; kernel_rfl) ?_) | fail)
          refine HC3.out.mono ?_
          rintro e v3 ⟨rfl, b1⟩
          have HA4 := hide1 (HA3.out.next b1)
          have HC4 := code3 HA4.out.et (HA4.out.rs g4 (by simp))
          clear b1 HC3 HA3
          go_wp2_with fail
          refine HC4.out.mono ?_
          rintro e v4 ⟨rfl, b1⟩
          have HA5 := hide1 (HA4.out.next b1)
          have HS := hide1 (skip_none x n v4 HA5.out.no)
          clear b1 HC4 HA4
          go_wp2_with fail
          refine HS.out.mono ?_
          rintro e v5 ⟨rfl, q5, b1⟩
          obtain ⟨g5, hg5⟩ : ∃ g, v4.heap.size = g := ⟨_, rfl⟩
          rw [hg5] at q5 ⊢
          have HA6 := hide1 ((HA5.out.next b1).more q5)
          have HC5 := code3 HA6.out.et (HA6.out.rs g5 (by simp))
          clear b1 q5 hg5 HS HA5
          go_wp2_with fail
          refine HC5.out.mono ?_
          rintro e v6 ⟨rfl, b1⟩
          have HA7 := hide1 (HA6.out.next b1)
          have HAt := hide1 (at_no x v6 HA7.out.no)
          have HLe := hide1 (left_no x v6 HA7.out.no)
          clear b1 HC5 HA6
          go_wp2_with fail
          refine HAt.out.mono ?_
          rintro e v7 ⟨rfl, hv7⟩
          cases hv7
          go_wp2_with fail
          refine HLe.out.mono ?_
          rintro e v7 ⟨rfl, hv7⟩
          cases hv7
          have HBn := hide1 (HBX.out.trans (HA7.out.bl.mono HBX.out.size))
          clear HA7 HAt HLe
          go_wp2
          exact ⟨⟨i + 1, by omega, by go_num, HBn.out⟩, by simp [intOf]; omega⟩
        · have : i = 2 := by omega
          subst this
          have HA := hide1 (awake_any wr (H.out.1.below HBw.out H.out.1.pos))
          clear x1 x2 x3 hB
          rw [show ((2 : Nat) : Int) = 2 from rfl]
          go_wp2_with fail
          refine HA.out.mono ?_
          rintro e v1 ⟨rfl, hb⟩
          have HB1 := hide1 (HBw.out.trans (hb.mono HBw.out.size))
          clear hb
          go_wp2
          go_ret
          exact ⟨rfl, HB1.out⟩

theorem apart_all (w : World) (L c : Nat) (a : Option Addr) (ws : List Nat) (n : Int) (he : Et w) (ha : Nl w L a ws) :
    Calls Tryd.prog 6 #[.slice a L c, .int .i64 n] w fun e w' => e = .returned (.bool true) ∧ Below w.heap.size w w' := by
  by_cases hL : L ≤ 500
  · exact apart_short w L c a ws n he ha hL
  · exact apart_long w L c a n he (by omega)

end Go.Proofs.YtdkakodlkbkhnaaDoor
