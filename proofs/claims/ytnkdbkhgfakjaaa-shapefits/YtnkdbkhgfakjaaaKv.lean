/- The document's Fits. -/
import Derived.Test.YtnkdbkhgfakjaaaKu
import Derived.Test.YtnkdbkhgfakjaaaKj
namespace Go.Proofs.Ytnkdbkhgfakjaaa
open Go.RowKit
set_option maxRecDepth 100000
attribute [local go_sem] not_any mf_any

theorem At5.below {b : Nat} {x y z s t : Value} {W W' : World} (h : At5 b x y z s t W) (hb : Below W.heap.size W W') (hl : b < W.heap.size) : At5 b x y z s t W' :=
  ⟨(hb.cell hl).trans h.1, (hb.cell hl).trans h.2.1, (hb.cell hl).trans h.2.2.1, (hb.cell hl).trans h.2.2.2.1, (hb.cell hl).trans h.2.2.2.2⟩

theorem rfits_no (k b m q n : Int) (u0 u1 u2 : Value) (w : World) (_h0 : u0.oneCell' = true) (_h1 : u1.oneCell' = true) (_h2 : u2.oneCell' = true) (hm : ¬ May k b m q n) :
    Calls Try.prog 18 #[cls k b m q n, .agg #[u0, u1, u2]] w fun e w' => e = .returned (.bool false) ∧ Below w.heap.size w w' := by
  have kM := fun w => hide1 (rcheck_any k b m q n w)
  have hne : (chk k b m q n != 0) = true := by simpa using chk_not hm
  generalize chk k b m q n = c at *
  unfold cls at *
  go_enter Try.func18, Try.ntmps18
  go_upto_region 1 with (fail)
  generalize hX : World.alloc (World.alloc w _) _ = X
  have HX : Hid (Below w.heap.size w X) := by rw [← hX]; exact ((Below.refl _ _).alloc (Nat.le_refl _) _).alloc (by simp) _
  have H1 := hide1 (hX ▸ heap_alloc2_old w _ _)
  clear hX
  obtain ⟨p0, p1, p2, p3, p4, l0⟩ := box5 H1.out
  go_wp2_with fail
  refine (kM _).out.mono ?_
  rintro e w1 ⟨rfl, hb⟩
  have HX1 := hide1 (HX.out.trans (hb.mono HX.out.size))
  clear hb p0 p1 p2 p3 p4 l0 H1 HX
  go_wp2
  go_ret
  exact ⟨rfl, HX1.out⟩

/- a part: its words, how many there must be, of how many bits less one -/
structure Pt where
  a : Option Addr
  n : Nat
  c : Nat
  l : List Nat
  z : Int
  v : Nat
def Pt.ok (p : Pt) : Bool := fitP p.z (p.v + 1) p.l
theorem all_three (f : Pt → Bool) (p0 p1 p2 : Pt) : (f p0 && f p1 && f p2) = decide (∀ p ∈ [p0, p1, p2], f p = true) := by
  cases h0 : f p0 <;> cases h1 : f p1 <;> cases h2 : f p2 <;> simp [h0, h1, h2]

set_option maxHeartbeats 4000000 in
theorem rfits_yes (k b m q n : Int) (p0 p1 p2 : Pt) (w : World) (hm : May k b m q n) (hl : ∀ p ∈ [p0, p1, p2], Ul w p.n p.a p.l ∧ p.n ≤ 60 ∧ p.v + 1 ≤ 64)
    (hz0 : sz1 k b m q n = p0.z) (hz1 : sz2 k b m q n = p1.z) (hz2 : sz3 k b m q n = p2.z) (hw0 : wd1 k b m q n = ((p0.v + 1 : Nat) : Int)) (hw1 : wd2 k b m q n = ((p1.v + 1 : Nat) : Int)) (hw2 : wd2 k b m q n = ((p2.v + 1 : Nat) : Int)) :
    Calls Try.prog 18 #[cls k b m q n, .agg #[.slice p0.a p0.n p0.c, .slice p1.a p1.n p1.c, .slice p2.a p2.n p2.c]] w fun e w' => e = .returned (.bool (p0.ok && p1.ok && p2.ok)) ∧ Below w.heap.size w w' := by
  have mx := mixed
  have kM := fun w => hide1 (rcheck_any k b m q n w)
  rw [chk_ok hm] at kM
  have kS := fun w => hide1 (rsizes_any k b m q n w)
  have kW := fun w => hide1 (rwidths_any k b m q n w)
  rw [hz0, hz1, hz2] at kS
  rw [hw0] at kW
  have kW : ∀ w, Hid (Calls Try.prog 9 #[cls k b m q n] w fun e w' => Tri w w' e ((p0.v + 1 : Nat) : Int) ((p1.v + 1 : Nat) : Int) ((p2.v + 1 : Nat) : Int)) := fun w => by
    have h := (kW w).out
    rw [hw1] at h
    rw [show ((p2.v + 1 : Nat) : Int) = ((p1.v + 1 : Nat) : Int) by rw [← hw2, hw1]]
    exact hide1 h
  have HL := hide1 hl
  rw [all_three Pt.ok]
  obtain ⟨r, hr⟩ : ∃ r, decide (∀ p ∈ [p0, p1, p2], p.ok = true) = r := ⟨_, rfl⟩
  have HR0 : Shy (decide (∀ p ∈ [p0, p1, p2], p.ok = true) = r) := ⟨hr⟩
  rw [hr]
  clear hr
  clear hm hl hz0 hz1 hz2 hw0 hw1 hw2
  unfold cls at *
  go_enter Try.func18, Try.ntmps18
  go_upto_region 1 with (fail)
  generalize hX : World.alloc (World.alloc w _) _ = X
  have HX : Hid (Below w.heap.size w X) := by rw [← hX]; exact ((Below.refl _ _).alloc (Nat.le_refl _) _).alloc (by simp) _
  have H1 := hide1 (hX ▸ heap_alloc2_old w _ _)
  have H2 := hide1 (hX ▸ heap_alloc2_new w _ _)
  obtain ⟨b2, hb2⟩ : ∃ b, w.heap.size + 1 = b := ⟨_, rfl⟩
  obtain ⟨b1, hb1⟩ : ∃ b, w.heap.size = b := ⟨_, rfl⟩
  rw [hb2] at H2 ⊢
  rw [hb1] at H1 ⊢
  clear hX hb1 hb2
  obtain ⟨c0, c1, c2, c3, c4, lp⟩ := box5 H1.out
  go_wp2_with fail
  refine (kM _).out.mono ?_
  rintro e w1 ⟨rfl, hb⟩
  have H3 := hide1 ((hb.block _ (lt_heap H1.out)).trans H1.out)
  have H4 := hide1 ((hb.block _ (lt_heap H2.out)).trans H2.out)
  have HX1 := hide1 (HX.out.trans (hb.mono HX.out.size))
  clear hb c0 c1 c2 c3 c4 lp H1 H2 HX kM
  have HS : Shy (At5 b1 (.int .i64 k) (.int .i64 b) (.int .i64 m) (.int .i64 q) (.int .i64 n) w1 ∧ b1 < w1.heap.size) := by
    obtain ⟨c0, c1, c2, c3, c4, lp⟩ := box5 H3.out
    exact ⟨⟨c0, c1, c2, c3, c4⟩, lp⟩
  clear H3
  go_upto_region 3 with (fail)
  refine region_f (F := [3]) (S := fun W => At5 b1 (.int .i64 k) (.int .i64 b) (.int .i64 m) (.int .i64 q) (.int .i64 n) W ∧ b1 < W.heap.size) (by kernel_rfl) HS.out (fun hS => ?_)
  refine take_f 0 13 (.agg #[.int .i64 k, .int .i64 b, .int .i64 m, .int .i64 q, .int .i64 n]) [1, 3, 4, 5] rfl rfl (by kernel_rfl) (by kernel_rfl) (by kernel_rfl) (by kernel_rfl) (by kernel_rfl) (by kernel_rfl) (fun _ _ _ h => h) rfl (fun w hSw => by obtain ⟨⟨g0, g1, g2, g3, g4⟩, _⟩ := hSw; go_simp) hS ?_
  try simp only [List.setIfInBounds_toArray, List.set_cons_zero, List.set_cons_succ]
  refine take_f 2 15 (.agg #[.int .i64 k, .int .i64 b, .int .i64 m, .int .i64 q, .int .i64 n]) [3, 4, 5] rfl rfl (by kernel_rfl) (by kernel_rfl) (by kernel_rfl) (by kernel_rfl) (by kernel_rfl) (by kernel_rfl) (fun _ _ _ h => h) rfl (fun w hSw => by obtain ⟨⟨g0, g1, g2, g3, g4⟩, _⟩ := hSw; go_simp) hS ?_
  try simp only [List.setIfInBounds_toArray, List.set_cons_zero, List.set_cons_succ]
  refine ready_f 1 (o := { dst := some 14, op := Op.call { callee := Callee.value (Operand.func 7), args := #[Operand.tmp 13], argTypes := #[23] }, type := 26, pos := "ref.go:87", after := #[{ on := 0, ground := Ground.data }], guard := none }) (by kernel_rfl) rfl (fun K hK => ?_)
  go_simp
  refine (kS _).out.mono ?_
  rintro e w2 ⟨gs, rfl, hgs, hls, hb2⟩
  refine hK.out _ _ (fun _ h => ⟨h.1.below hb2 h.2, Nat.lt_of_lt_of_le h.2 hb2.size⟩) ?_
  clear hK K
  try simp only [Act.put, List.setIfInBounds_toArray, List.set_cons_zero, List.set_cons_succ]
  have TS := hide1 hgs
  have X2 := hide1 (HX1.out.drew.trans (hb2.mono HX1.out.size))
  have Y2 := hide1 ((hb2.block _ (lt_heap H4.out)).trans H4.out)
  clear hgs hls hb2
  refine ready_f 3 (o := { dst := some 16, op := Op.call { callee := Callee.value (Operand.func 9), args := #[Operand.tmp 15], argTypes := #[23] }, type := 26, pos := "ref.go:87", after := #[{ on := 2, ground := Ground.data }, { on := 1, ground := Ground.chain }], guard := none }) (by kernel_rfl) rfl (fun K hK => ?_)
  go_simp
  refine (kW _).out.mono ?_
  rintro e w3 ⟨gt, rfl, hgt, hlt, hb3⟩
  refine hK.out _ _ (fun h => absurd (by decide) h) ?_
  clear hK K
  try simp only [Act.put, List.setIfInBounds_toArray, List.set_cons_zero, List.set_cons_succ]
  have TT := hide1 hgt
  have TS3 := hide1 ((hb3.block _ (lt_heap TS.out)).trans TS.out)
  have X3 := hide1 (X2.out.trans (hb3.mono X2.out.size))
  have Y3 := hide1 ((hb3.block _ (lt_heap Y2.out)).trans Y2.out)
  clear hgt hlt hb3 TS X2 Y2
  refine take_p 4 5 (.slice (some ⟨gs, 0, none⟩) 3 3) rfl rfl (by kernel_rfl) (by kernel_rfl) (by kernel_rfl) (fun _ _ _ h => h) rfl (fun w => by go_simp) ?_
  try simp only [List.setIfInBounds_toArray, List.set_cons_zero, List.set_cons_succ]
  refine take_p 5 6 (.slice (some ⟨gt, 0, none⟩) 3 3) rfl rfl (by kernel_rfl) (by kernel_rfl) (by kernel_rfl) (fun _ _ _ h => h) rfl (fun w => by go_simp) ?_
  try simp only [List.setIfInBounds_toArray, List.set_cons_zero, List.set_cons_succ]
  refine done_f (by kernel_rfl) ?_ _
  obtain ⟨d0, d1, d2, ld⟩ := box3s Y3.out
  go_upto_region 5 with (fail)
  generalize hX : World.alloc w3 _ = X
  have HX : Hid (Below w.heap.size w X) := by rw [← hX]; exact X3.out.alloc X3.out.size _
  have TP := hide1 (hX ▸ heap_alloc_new w3 _)
  have TS4 := hide1 (hX ▸ (Below.heap_alloc _ _ _ (lt_heap TS3.out)).trans TS3.out)
  have TT4 := hide1 (hX ▸ (Below.heap_alloc _ _ _ (lt_heap TT.out)).trans TT.out)
  obtain ⟨gp, hgp⟩ : ∃ b, w3.heap.size = b := ⟨_, rfl⟩
  rw [hgp] at TP ⊢
  clear hX hgp d0 d1 d2 ld TT TS3 X3 Y3 HX1 H4 HS
  have LP := lt_heap TP.out
  have LS := lt_heap TS4.out
  have LT := lt_heap TT4.out
  obtain ⟨ps, hps⟩ : ∃ ps, ps = [p0, p1, p2] := ⟨_, rfl⟩
  have HC : Shy (∀ (i : Nat) (p : Pt), ps[i]? = some p → X.cell? ⟨gp, i, none⟩ = some (.slice p.a p.n p.c) ∧ X.cell? ⟨gs, i, none⟩ = some (.int .i64 p.z) ∧ X.cell? ⟨gt, i, none⟩ = some (.int .i64 ((p.v + 1 : Nat) : Int))) := ⟨by
    intro i p hp
    rw [hps] at hp
    obtain ⟨x0, x1, x2, _⟩ := tri_cells TP.out
    obtain ⟨y0, y1, y2, _⟩ := tri_cells TS4.out
    obtain ⟨z0, z1, z2, _⟩ := tri_cells TT4.out
    rcases i with _ | _ | _ | i
    · cases hp; exact ⟨x0, y0, z0⟩
    · cases hp; exact ⟨x1, y1, z1⟩
    · cases hp; exact ⟨x2, y2, z2⟩
    · simp at hp⟩
  have HU : Shy (∀ p ∈ ps, Ul X p.n p.a p.l ∧ p.n ≤ 60 ∧ p.v + 1 ≤ 64) := ⟨fun p hp => by
    rw [hps] at hp
    obtain ⟨h1, h2, h3⟩ := HL.out p hp
    exact ⟨h1.below HX.out, h2, h3⟩⟩
  have hlen : ps.length = 3 := by rw [hps]; rfl
  have HR : Shy (decide (∀ p ∈ ps, p.ok = true) = r) := ⟨by rw [hps]; exact HR0.out⟩
  clear hps HR0 HL TP TS4 TT4 kS kW
  generalize Value.slice p0.a p0.n p0.c = e0
  generalize Value.slice p1.a p1.n p1.c = e1
  generalize Value.slice p2.a p2.n p2.c = e2
  go_wp2_with fail
  go_loopw [8] (fun i wr => ∃ j : Nat, j ≤ 3 ∧ i = .int .i64 j ∧ Below X.heap.size X wr ∧ ∀ p ∈ ps.take j, p.ok = true) (fun i _ => 3 - (intOf i).toNat)
  case atStart => exact ⟨0, Nat.zero_le _, rfl, Below.refl _ _, fun p hp => by simp at hp⟩
  case round =>
    obtain ⟨j, hj, rfl, hB, hall⟩ := hrel
    have HB := hide1 hB
    have HA := hide1 hall
    clear hall
    by_cases hjlt : j < 3
    · obtain ⟨p, hp⟩ : ∃ p, ps[j]? = some p := ⟨ps[j]'(by omega), List.getElem?_eq_getElem (by omega)⟩
      obtain ⟨x1, x2, x3⟩ := HC.out j p hp
      have hmem := List.mem_of_getElem? hp
      obtain ⟨hU, hn60, hv64⟩ := HU.out p hmem
      have HM : Shy (p ∈ ps) := ⟨hmem⟩
      have HTK : Shy (ps.take (j + 1) = ps.take j ++ [p]) := ⟨by rw [List.take_add_one, hp]; rfl⟩
      have lp : gp < wr.heap.size := Nat.lt_of_lt_of_le LP hB.size
      have ls : gs < wr.heap.size := Nat.lt_of_lt_of_le LS hB.size
      have lt : gt < wr.heap.size := Nat.lt_of_lt_of_le LT hB.size
      have y1 := (hB.cell (p := ⟨gp, j, none⟩) LP).trans x1
      have y2 := (hB.cell (p := ⟨gs, j, none⟩) LS).trans x2
      have y3 := (hB.cell (p := ⟨gt, j, none⟩) LT).trans x3
      have HUL := hide1 hU
      obtain ⟨pa, pn, pc, pl, pz, pv⟩ := p
      dsimp only at *
      have hlp := hU.len
      clear hp hmem hU hB
      by_cases hz : (pn : Int) = pz
      · subst hz
        have hz' : ((pn : Int) != (pn : Int)) = false := by simp
        go_wp2
        go_quiet (fail)
        go_wp2
        generalize hZ : World.drewN wr _ = Z
        have HBZ : Hid (Below X.heap.size X Z) := by rw [← hZ]; exact belowN HB.out _
        clear hZ y1 y2 y3 lp ls lt HB
        go_loopw [9] (fun i wr => ∃ t : Nat, t ≤ pn ∧ i = .int .i64 t ∧ Below X.heap.size X wr ∧ ∀ x ∈ pl.take t, x < 2 ^ (pv + 1)) (fun i _ => pn - (intOf i).toNat)
        case atStart => exact ⟨0, Nat.zero_le _, rfl, HBZ.out, fun x hx => by simp at hx⟩
        case round =>
          obtain ⟨t, ht, rfl, hB, hall⟩ := hrel
          have HB := hide1 hB
          have HA2 := hide1 hall
          clear hall
          have lp : gp < wr.heap.size := Nat.lt_of_lt_of_le LP hB.size
          have lt : gt < wr.heap.size := Nat.lt_of_lt_of_le LT hB.size
          have y1 := (hB.cell (p := ⟨gp, j, none⟩) LP).trans x1
          have y3 := (hB.cell (p := ⟨gt, j, none⟩) LT).trans x3
          by_cases htlt : t < pn
          · obtain ⟨x, hx⟩ : ∃ x, pl[t]? = some x := ⟨pl[t]'(by omega), List.getElem?_eq_getElem (by omega)⟩
            obtain ⟨g, o, ha, hc, hg⟩ := HUL.out.at' t x hx
            have HMX : Shy (x ∈ pl) := ⟨List.mem_of_getElem? hx⟩
            have HTX : Shy (pl.take (t + 1) = pl.take t ++ [x]) := ⟨by rw [List.take_add_one, hx]; rfl⟩
            have hbx := HUL.out.lt x HMX.out
            have hcx := (hB.cell hg).trans hc
            have hgx : g < wr.heap.size := Nat.lt_of_lt_of_le hg hB.size
            subst ha
            clear hx hc hg hB x1 x2 x3
            have HQ : Shy ((x < 2 ^ (pv + 1)) ↔ x / 2 / 2 ^ pv = 0) := ⟨by
              rw [Nat.div_div_eq_div_mul, show 2 * 2 ^ pv = 2 ^ (pv + 1) by rw [Nat.pow_succ, Nat.mul_comm]]
              exact ⟨fun h => Nat.div_eq_of_lt h, fun h => (Nat.div_eq_zero_iff.1 h).resolve_left (by have := Nat.two_pow_pos (pv + 1); omega)⟩⟩
            have e1 : IntKind.i64.wrap (((pv + 1 : Nat) : Int) - 1) = (pv : Int) := by rw [IntKind.wrap_i64]; omega
            have e2 : IntKind.u64.wrap (pv : Int) = (pv : Int) := by rw [IntKind.wrap_u64]; omega
            have e3 : (x : Int) / 2 / 2 ^ pv = ((x / 2 / 2 ^ pv : Nat) : Int) := by simp
            by_cases hq : x / 2 / 2 ^ pv = 0
            · have hq' : ((x : Int) / 2 / 2 ^ pv != 0) = false := by rw [e3, hq]; rfl
              have HZ : Shy (x < 2 ^ (pv + 1)) := ⟨HQ.out.2 hq⟩
              clear hq HQ e3
              go_wp2
              go_quiet (fail)
              go_wp2
              go_roundw
              case rel => exact ⟨t + 1, by omega, by go_num, belowN HB.out _, by rw [HTX.out]; intro y hy; exact (List.mem_append.1 hy).elim (HA2.out y) (fun h => by rw [List.mem_singleton.1 h]; exact HZ.out)⟩
              case measure => simp [intOf]; omega
            · have hq' : ((x : Int) / 2 / 2 ^ pv != 0) = true := by rw [e3, bne_iff_ne]; intro e; exact hq (by exact_mod_cast e)
              have HF : Shy (r = false) := ⟨by rw [← HR.out]; exact decide_eq_false (fun h => by
                have := h _ HM.out
                exact hq (HQ.out.1 ((of_decide_eq_true this).2 x HMX.out)))⟩
              clear hq HQ e3
              go_wp2
              go_quiet (fail)
              go_wp2
              go_ret
              rw [HF.out]
              exact ⟨rfl, HX.out.trans ((belowN HB.out _).mono HX.out.size)⟩
          · have HOK : Shy (Pt.ok ⟨pa, pn, pc, pl, (pn : Int), pv⟩ = true) := ⟨decide_eq_true ⟨by show ((pl.length : Nat) : Int) = (pn : Int); omega, fun x hx => HA2.out x (by rw [List.take_of_length_le (by omega)]; exact hx)⟩⟩
            clear hB
            go_wp2
            go_roundw
            case rel => exact ⟨j + 1, by omega, by go_num, HB.out, by rw [HTK.out]; intro y hy; exact (List.mem_append.1 hy).elim (HA.out y) (fun h => by rw [List.mem_singleton.1 h]; exact HOK.out)⟩
            case measure => simp [intOf]; omega
      · have hz' : ((pn : Int) != pz) = true := by simpa using hz
        have HF : Shy (r = false) := ⟨by rw [← HR.out]; exact decide_eq_false (fun h => by
          have := h _ HM.out
          have h2 : ((pl.length : Nat) : Int) = pz := (of_decide_eq_true this).1
          exact hz (by omega))⟩
        clear hz
        go_wp2
        go_quiet (fail)
        go_wp2
        go_ret
        rw [HF.out]
        exact ⟨rfl, HX.out.trans ((belowN HB.out _).mono HX.out.size)⟩
    · have HF : Shy (r = true) := ⟨by rw [← HR.out]; exact decide_eq_true (fun p hp => HA.out p (by rw [List.take_of_length_le (by omega)]; exact hp))⟩
      go_wp2
      go_ret
      rw [HF.out]
      exact ⟨rfl, HX.out.trans (HB.out.mono HX.out.size)⟩

end Go.Proofs.Ytnkdbkhgfakjaaa
