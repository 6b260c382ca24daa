/- What happens between two ends: a tick; nothing. -/
import Derived.Test.YtcadlcpccemkbaaEb
namespace Go.Proofs.Ytcadlcpccemkbaa
open Go.RowKit
set_option maxRecDepth 100000
attribute [local go_sem] not_any

theorem i64_and1 (n : Int) : bits .and .i64 n 1 = n % 2 := by
  have h1 : (BitVec.ofInt 64 1).toNat = 2 ^ 1 - 1 := by decide
  have key : (BitVec.ofInt 64 n &&& BitVec.ofInt 64 1).toNat = (n % ((2 ^ 64 : Nat) : Int)).toNat % 2 ^ 1 := by
    rw [BitVec.toNat_and, BitVec.toNat_ofInt, h1, Nat.and_two_pow_sub_one_eq_mod]
  show IntKind.i64.wrap ((BitVec.ofInt 64 n &&& BitVec.ofInt 64 1).toNat : Nat) = n % 2
  rw [key, IntKind.wrap_i64]
  omega
/- what both keep to -/
structure Es.Ok (N : Nat) (S : Es) : Prop where
  L : ∀ i, i < 2 → (S.L i).Ok N
  way : ∀ i, 2 ≤ i → i < 4 → (S.ls i).length ≤ 60 ∧ ∀ t ∈ S.ls i, t.size ≤ 281474976710656
  oth : ∀ i, 4 ≤ i → i < 8 → (S.ls i).length ≤ N
  ow : ∀ i, i < 2 → (S.L i).own ≤ N
def Es.putS (S : Es) (W : Nat) (F : List ByteArray) : Es := ⟨S.L, upd S.ls (3 - W) (put60 (S.ls (3 - W)) F)⟩
def Es.lnk (S : Es) (W : Nat) (x : Ls) : Es := ⟨upd S.L W x, S.ls⟩
def Es.lst (S : Es) (i : Nat) (A : List ByteArray) : Es := ⟨S.L, upd S.ls i A⟩
/- a tick -/
def Es.mv1 (S : Es) (W : Nat) : Es := (S.lnk W (S.L W).flush).putS W (S.L W).tickF
/- a flush -/
def Es.fl (S : Es) (W : Nat) : Es := (S.lnk W (S.L W).flush).putS W (S.L W).flushF
theorem Ls.tickF_len {N : Nat} {x : Ls} (h : x.Ok N) : x.tickF.length ≤ 1000 := by
  unfold Ls.tickF Ls.tell
  split
  · simp
  · have := h.mv.A16
    rw [List.length_map, pend_length]
    omega
theorem Ls.flushF_len {N : Nat} {x : Ls} (h : x.Ok N) : x.flushF.length ≤ 1000 := by
  unfold Ls.flushF
  split
  · simp
  · unfold Ls.tell
    split
    · simp
    · obtain ⟨h1, h2, h3⟩ := Ls.mv_A h
      rw [List.length_map, Ls.mvd, pend_length, List.length_take]
      omega
/- behind a call of an end that told frames: they lie apart -/
theorem Em.told {B e n i : Nat} {p : Nat → Nat} {vl : Nat → Value} {Fp : Nat → Nat → Prop} {S : Es} {x' : Ls} {v m u r : Value} {F : List ByteArray} {n' : Nat} {w w' : World} (h : Em B e p vl Fp n S w) (hi : i < 2) (hn : n ≤ n') (h1 : Lkm B (p i) v m u n (S.L i) w) (h0 : ∀ g, Fp i g ↔ Lf (p i) v m u g) (hf : Flp B (p i) v m u w n' x' r F w') :
    ∃ Fp', Em B e p vl Fp' n' (S.lnk i x') w' ∧ Below B w w' ∧ Rdl w' r F ∧ Lst w.heap.size w' r F ∧ ∀ g, r.ownBlock = some g → ∀ j, j < 9 → ¬ Fp' j g := by
  obtain ⟨v', m', u', k1, k2, k3, k4, k5⟩ := hf
  refine ⟨_, h.link hi h0 hn k1 k2 k3, k2.below h.hB fun g hg => (h1.flt hg).1, k4.rd, k4, fun g hg j hj e9 => ?_⟩
  by_cases hji : j = i
  · subst hji
    rw [upd_same] at e9
    exact k5 g hg e9
  · rw [upd_other _ _ hji] at e9
    have a1 := (h.fb hj e9).2
    have a2 := (k4.lt hg).1
    omega

set_option maxHeartbeats 2000000 in
theorem move1_0 {N B e n : Nat} {p : Nat → Nat} {vl : Nat → Value} {Fp : Nat → Nat → Prop} {S : Es} {w : World} (h : Em B e p vl Fp n S w) (hS : S.Ok N) (hN : N + 1000 < 4294967296) (hn : n < 1000000) (who : Int) (pick : Nat) (hpk : pick < 256) (body : ByteArray) (hw : who % 2 = 0) (hbd : body.size ≤ 100) :
    Calls Try.prog 6 #[.pointer (some ⟨e, 0, none⟩), .agg #[.int .i64 1, .int .i64 who, .int .u8 (pick : Int), .string body]] w fun x w' => x = .returned (.bool true) ∧ Ebx B e (n + 1) (S.mv1 0) w w' := by
  have H := hide1 h
  have HS := hide1 hS
  have HN := hide1 hN
  have Hn := hide1 hn
  have HBD := hide1 hbd
  have hwb : bits BinOp.and IntKind.i64 who 1 = 0 := by rw [i64_and1]; exact hw
  obtain ⟨L0, _⟩ := h.ls 2 (by omega) (by omega)
  obtain ⟨ta, tc, htv⟩ := L0.form
  obtain ⟨tn, htn⟩ : ∃ k, (S.ls 2).length = k := ⟨_, rfl⟩
  rw [htn] at htv
  have HTN := hide1 htn
  have htn60 : tn ≤ 60 := by have := (hS.way 2 (by omega) (by omega)).1; omega
  obtain ⟨P, hP⟩ : ∃ P : World → Prop, P = fun w' => Ebx B e (n + 1) (S.mv1 0) w w' := ⟨_, rfl⟩
  have HP : Hid (∀ w', Ebx B e (n + 1) (S.mv1 0) w w' → P w') := fun w' h => by rw [hP]; exact h
  suffices hs : Calls Try.prog 6 #[.pointer (some ⟨e, 0, none⟩), .agg #[.int .i64 1, .int .i64 who, .int .u8 (pick : Int), .string body]] w fun x w' => x = .returned (.bool true) ∧ P w' by rw [hP] at hs; exact hs
  clear hP h hS hN hn hw hbd htn L0
  have HTV := hide1 htv
  clear htv
  by_cases htp : tn = 0
  · subst htp
    go_enter Try.func6, Try.ntmps6
    go_upto_region 1 with (fail)
    generalize hX : World.alloc w _ = W0
    have B0 : Hid (Below w.heap.size w W0) := by rw [← hX]; exact below1 _
    have RM := hide1 (hX ▸ heap_alloc_new w _)
    obtain ⟨gm, hgm⟩ : ∃ g, w.heap.size = g := ⟨_, rfl⟩
    rw [hgm] at RM ⊢
    clear hX
    have E0 := hide1 (H.out.below B0.out (Nat.le_refl _))
    obtain ⟨m0, m1, m2, m3⟩ : W0.cell? ⟨gm, 0, none⟩ = some (.int .i64 1) ∧ W0.cell? ⟨gm, 1, none⟩ = some (.int .i64 who) ∧ W0.cell? ⟨gm, 2, none⟩ = some (.int .u8 (pick : Int)) ∧ W0.cell? ⟨gm, 3, none⟩ = some (.string body) := ⟨by rw [cell_of_row _ gm 0 _ _ _ RM.out]; rfl, by rw [cell_of_row _ gm 1 _ _ _ RM.out]; rfl, by rw [cell_of_row _ gm 2 _ _ _ RM.out]; rfl, by rw [cell_of_row _ gm 3 _ _ _ RM.out]; rfl⟩
    have cT := (box13 E0.out.row).1.2.2.1
    rw [HTV.out] at cT
    have HGM := hide1 hgm
    clear hgm
    have cL := (box13 E0.out.row).1.1
    obtain ⟨lv, lm, lu, hlk, hlf⟩ := E0.out.lk 0 (by omega)
    have kT := hide1 (ltick_any hlk E0.out.hB (HS.out.L 0 (by omega)) HN.out)
    go_wp2_with fail
    refine kT.out.mono ?_
    rintro x9 W1 ⟨r, rfl, hf⟩
    obtain ⟨Fp1, E1, B1, R1, _, D1⟩ := E0.out.told (by omega) (Nat.le_refl _) hlk hlf hf
    have kP := hide1 (put0_any E1 R1 D1 (by exact (HS.out.way 3 (by omega) (by omega)).1) (Ls.tickF_len (HS.out.L 0 (by omega))))
    have BB := hide1 ((B0.out.mono H.out.hB).trans B1)
    clear kT hf E1 B1 R1 D1 hlk hlf cL cT m0 m1 m2 m3
    go_wp2_with fail
    refine kP.out.mono ?_
    rintro x9 W2 ⟨rfl, p2, vl2, Fp2, E2, B2⟩
    have fin := hide1 (HP.out W2 ⟨p2, vl2, Fp2, E2.mono (Nat.le_succ _), BB.out.trans B2⟩)
    clear E2 B2 kP
    go_wp2
    go_ret
    exact ⟨rfl, fin.out⟩
  · have htp0 : (0 : Int) < (tn : Int) := by omega
    have htpb : ¬ ((tn : Int) = 0) := by omega
    go_enter Try.func6, Try.ntmps6
    go_upto_region 1 with (fail)
    generalize hX : World.alloc w _ = W0
    have B0 : Hid (Below w.heap.size w W0) := by rw [← hX]; exact below1 _
    have RM := hide1 (hX ▸ heap_alloc_new w _)
    obtain ⟨gm, hgm⟩ : ∃ g, w.heap.size = g := ⟨_, rfl⟩
    rw [hgm] at RM ⊢
    clear hX
    have E0 := hide1 (H.out.below B0.out (Nat.le_refl _))
    obtain ⟨m0, m1, m2, m3⟩ : W0.cell? ⟨gm, 0, none⟩ = some (.int .i64 1) ∧ W0.cell? ⟨gm, 1, none⟩ = some (.int .i64 who) ∧ W0.cell? ⟨gm, 2, none⟩ = some (.int .u8 (pick : Int)) ∧ W0.cell? ⟨gm, 3, none⟩ = some (.string body) := ⟨by rw [cell_of_row _ gm 0 _ _ _ RM.out]; rfl, by rw [cell_of_row _ gm 1 _ _ _ RM.out]; rfl, by rw [cell_of_row _ gm 2 _ _ _ RM.out]; rfl, by rw [cell_of_row _ gm 3 _ _ _ RM.out]; rfl⟩
    have cT := (box13 E0.out.row).1.2.2.1
    rw [HTV.out] at cT
    have HGM := hide1 hgm
    clear hgm
    have cL := (box13 E0.out.row).1.1
    obtain ⟨lv, lm, lu, hlk, hlf⟩ := E0.out.lk 0 (by omega)
    have kT := hide1 (ltick_any hlk E0.out.hB (HS.out.L 0 (by omega)) HN.out)
    go_wp2_with fail
    refine kT.out.mono ?_
    rintro x9 W1 ⟨r, rfl, hf⟩
    obtain ⟨Fp1, E1, B1, R1, _, D1⟩ := E0.out.told (by omega) (Nat.le_refl _) hlk hlf hf
    have kP := hide1 (put0_any E1 R1 D1 (by exact (HS.out.way 3 (by omega) (by omega)).1) (Ls.tickF_len (HS.out.L 0 (by omega))))
    have BB := hide1 ((B0.out.mono H.out.hB).trans B1)
    clear kT hf E1 B1 R1 D1 hlk hlf cL cT m0 m1 m2 m3
    go_wp2_with fail
    refine kP.out.mono ?_
    rintro x9 W2 ⟨rfl, p2, vl2, Fp2, E2, B2⟩
    have fin := hide1 (HP.out W2 ⟨p2, vl2, Fp2, E2.mono (Nat.le_succ _), BB.out.trans B2⟩)
    clear E2 B2 kP
    go_wp2
    go_ret
    exact ⟨rfl, fin.out⟩

set_option maxHeartbeats 2000000 in
theorem move1_1 {N B e n : Nat} {p : Nat → Nat} {vl : Nat → Value} {Fp : Nat → Nat → Prop} {S : Es} {w : World} (h : Em B e p vl Fp n S w) (hS : S.Ok N) (hN : N + 1000 < 4294967296) (hn : n < 1000000) (who : Int) (pick : Nat) (hpk : pick < 256) (body : ByteArray) (hw : who % 2 = 1) (hbd : body.size ≤ 100) :
    Calls Try.prog 6 #[.pointer (some ⟨e, 0, none⟩), .agg #[.int .i64 1, .int .i64 who, .int .u8 (pick : Int), .string body]] w fun x w' => x = .returned (.bool true) ∧ Ebx B e (n + 1) (S.mv1 1) w w' := by
  have H := hide1 h
  have HS := hide1 hS
  have HN := hide1 hN
  have Hn := hide1 hn
  have HBD := hide1 hbd
  have hwb : bits BinOp.and IntKind.i64 who 1 = 1 := by rw [i64_and1]; exact hw
  obtain ⟨L0, _⟩ := h.ls 3 (by omega) (by omega)
  obtain ⟨ta, tc, htv⟩ := L0.form
  obtain ⟨tn, htn⟩ : ∃ k, (S.ls 3).length = k := ⟨_, rfl⟩
  rw [htn] at htv
  have HTN := hide1 htn
  have htn60 : tn ≤ 60 := by have := (hS.way 3 (by omega) (by omega)).1; omega
  obtain ⟨P, hP⟩ : ∃ P : World → Prop, P = fun w' => Ebx B e (n + 1) (S.mv1 1) w w' := ⟨_, rfl⟩
  have HP : Hid (∀ w', Ebx B e (n + 1) (S.mv1 1) w w' → P w') := fun w' h => by rw [hP]; exact h
  suffices hs : Calls Try.prog 6 #[.pointer (some ⟨e, 0, none⟩), .agg #[.int .i64 1, .int .i64 who, .int .u8 (pick : Int), .string body]] w fun x w' => x = .returned (.bool true) ∧ P w' by rw [hP] at hs; exact hs
  clear hP h hS hN hn hw hbd htn L0
  have HTV := hide1 htv
  clear htv
  by_cases htp : tn = 0
  · subst htp
    go_enter Try.func6, Try.ntmps6
    go_upto_region 1 with (fail)
    generalize hX : World.alloc w _ = W0
    have B0 : Hid (Below w.heap.size w W0) := by rw [← hX]; exact below1 _
    have RM := hide1 (hX ▸ heap_alloc_new w _)
    obtain ⟨gm, hgm⟩ : ∃ g, w.heap.size = g := ⟨_, rfl⟩
    rw [hgm] at RM ⊢
    clear hX
    have E0 := hide1 (H.out.below B0.out (Nat.le_refl _))
    obtain ⟨m0, m1, m2, m3⟩ : W0.cell? ⟨gm, 0, none⟩ = some (.int .i64 1) ∧ W0.cell? ⟨gm, 1, none⟩ = some (.int .i64 who) ∧ W0.cell? ⟨gm, 2, none⟩ = some (.int .u8 (pick : Int)) ∧ W0.cell? ⟨gm, 3, none⟩ = some (.string body) := ⟨by rw [cell_of_row _ gm 0 _ _ _ RM.out]; rfl, by rw [cell_of_row _ gm 1 _ _ _ RM.out]; rfl, by rw [cell_of_row _ gm 2 _ _ _ RM.out]; rfl, by rw [cell_of_row _ gm 3 _ _ _ RM.out]; rfl⟩
    have cT := (box13 E0.out.row).1.2.2.2
    rw [HTV.out] at cT
    have HGM := hide1 hgm
    clear hgm
    have cL := (box13 E0.out.row).1.2.1
    obtain ⟨lv, lm, lu, hlk, hlf⟩ := E0.out.lk 1 (by omega)
    have kT := hide1 (ltick_any hlk E0.out.hB (HS.out.L 1 (by omega)) HN.out)
    go_wp2_with fail
    refine kT.out.mono ?_
    rintro x9 W1 ⟨r, rfl, hf⟩
    obtain ⟨Fp1, E1, B1, R1, _, D1⟩ := E0.out.told (by omega) (Nat.le_refl _) hlk hlf hf
    have kP := hide1 (put1_any E1 R1 D1 (by exact (HS.out.way 2 (by omega) (by omega)).1) (Ls.tickF_len (HS.out.L 1 (by omega))))
    have BB := hide1 ((B0.out.mono H.out.hB).trans B1)
    clear kT hf E1 B1 R1 D1 hlk hlf cL cT m0 m1 m2 m3
    go_wp2_with fail
    refine kP.out.mono ?_
    rintro x9 W2 ⟨rfl, p2, vl2, Fp2, E2, B2⟩
    have fin := hide1 (HP.out W2 ⟨p2, vl2, Fp2, E2.mono (Nat.le_succ _), BB.out.trans B2⟩)
    clear E2 B2 kP
    go_wp2
    go_ret
    exact ⟨rfl, fin.out⟩
  · have htp0 : (0 : Int) < (tn : Int) := by omega
    have htpb : ¬ ((tn : Int) = 0) := by omega
    go_enter Try.func6, Try.ntmps6
    go_upto_region 1 with (fail)
    generalize hX : World.alloc w _ = W0
    have B0 : Hid (Below w.heap.size w W0) := by rw [← hX]; exact below1 _
    have RM := hide1 (hX ▸ heap_alloc_new w _)
    obtain ⟨gm, hgm⟩ : ∃ g, w.heap.size = g := ⟨_, rfl⟩
    rw [hgm] at RM ⊢
    clear hX
    have E0 := hide1 (H.out.below B0.out (Nat.le_refl _))
    obtain ⟨m0, m1, m2, m3⟩ : W0.cell? ⟨gm, 0, none⟩ = some (.int .i64 1) ∧ W0.cell? ⟨gm, 1, none⟩ = some (.int .i64 who) ∧ W0.cell? ⟨gm, 2, none⟩ = some (.int .u8 (pick : Int)) ∧ W0.cell? ⟨gm, 3, none⟩ = some (.string body) := ⟨by rw [cell_of_row _ gm 0 _ _ _ RM.out]; rfl, by rw [cell_of_row _ gm 1 _ _ _ RM.out]; rfl, by rw [cell_of_row _ gm 2 _ _ _ RM.out]; rfl, by rw [cell_of_row _ gm 3 _ _ _ RM.out]; rfl⟩
    have cT := (box13 E0.out.row).1.2.2.2
    rw [HTV.out] at cT
    have HGM := hide1 hgm
    clear hgm
    have cL := (box13 E0.out.row).1.2.1
    obtain ⟨lv, lm, lu, hlk, hlf⟩ := E0.out.lk 1 (by omega)
    have kT := hide1 (ltick_any hlk E0.out.hB (HS.out.L 1 (by omega)) HN.out)
    go_wp2_with fail
    refine kT.out.mono ?_
    rintro x9 W1 ⟨r, rfl, hf⟩
    obtain ⟨Fp1, E1, B1, R1, _, D1⟩ := E0.out.told (by omega) (Nat.le_refl _) hlk hlf hf
    have kP := hide1 (put1_any E1 R1 D1 (by exact (HS.out.way 2 (by omega) (by omega)).1) (Ls.tickF_len (HS.out.L 1 (by omega))))
    have BB := hide1 ((B0.out.mono H.out.hB).trans B1)
    clear kT hf E1 B1 R1 D1 hlk hlf cL cT m0 m1 m2 m3
    go_wp2_with fail
    refine kP.out.mono ?_
    rintro x9 W2 ⟨rfl, p2, vl2, Fp2, E2, B2⟩
    have fin := hide1 (HP.out W2 ⟨p2, vl2, Fp2, E2.mono (Nat.le_succ _), BB.out.trans B2⟩)
    clear E2 B2 kP
    go_wp2
    go_ret
    exact ⟨rfl, fin.out⟩

end Go.Proofs.Ytcadlcpccemkbaa
