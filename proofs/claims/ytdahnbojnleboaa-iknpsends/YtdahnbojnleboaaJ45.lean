/- The document's Receive. -/
import Derived.Test.YtdahnbojnleboaaJ44
import Derived.Deep.AppendLies
namespace Go.Proofs.Ytdahnbojnleboaa.I
open Go.RowKit Pg
set_option maxRecDepth 100000
attribute [local go_sem] not_any T.mf_any

/- two lists of lists of truths, as they are made -/
theorem bmk_kept {w w' : World} {base m : Nat} {v : Value} {aa : Nat → Option Addr} {nn cc : Nat → Nat} {L : Nat → List Bool} {row : Option Nat} (h : T.Bmk w base v m aa nn cc L) (hg : w.grownBy w' row)
    (hv : ∀ x, v.ownBlock = some x → row ≠ some x) (hf : ∀ i, i < m → ∀ x, (aa i).map (·.block) = some x → row ≠ some x) : T.Bmk w' base v m aa nn cc L := by
  refine ⟨⟨h.ns.own.kept hg ?_, fun i hi b e => ⟨Nat.lt_of_lt_of_le (h.ns.far i hi b e).1 hg.size, (h.ns.far i hi b e).2⟩⟩, fun i hi => T.Bl.kept (h.bl i hi) (fun b hb => hg.block b (h.ns.far i hi b hb).1 (fun e => hf i hi b hb e.symm))⟩
  cases hb : v.ownBlock with
  | none => exact .inl rfl
  | some x => exact .inr (fun e => hv x hb e.symm)
structure Two (w : World) (base : Nat) (vA : Value) (mA : Nat) (aA : Nat → Option Addr) (nA cA : Nat → Nat) (LA : Nat → List Bool) (vB : Value) (mB : Nat) (aB : Nat → Option Addr) (nB cB : Nat → Nat) (LB : Nat → List Bool) : Prop where
  a : T.Bmk w base vA mA aA nA cA LA
  b : T.Bmk w base vB mB aB nB cB LB
  ap : ∀ x, vA.ownBlock = some x → vB.ownBlock ≠ some x
  fa : ∀ i, i < mA → ∀ x, (aA i).map (·.block) = some x → vB.ownBlock ≠ some x
  fb : ∀ i, i < mB → ∀ x, (aB i).map (·.block) = some x → vA.ownBlock ≠ some x
theorem Two.swap {w : World} {base mA mB : Nat} {vA vB : Value} {aA aB : Nat → Option Addr} {nA cA nB cB : Nat → Nat} {LA LB : Nat → List Bool} (h : Two w base vA mA aA nA cA LA vB mB aB nB cB LB) : Two w base vB mB aB nB cB LB vA mA aA nA cA LA :=
  ⟨h.b, h.a, fun x e h9 => h.ap x h9 e, h.fb, h.fa⟩
theorem Two.below {w w' : World} {base mA mB : Nat} {vA vB : Value} {aA aB : Nat → Option Addr} {nA cA nB cB : Nat → Nat} {LA LB : Nat → List Bool} (h : Two w base vA mA aA nA cA LA vB mB aB nB cB LB) (hb : Below w.heap.size w w') : Two w' base vA mA aA nA cA LA vB mB aB nB cB LB :=
  ⟨h.a.below hb, h.b.below hb, h.ap, h.fa, h.fb⟩
theorem Two.add {w w' : World} {base mA mB g cap n c : Nat} {vA vB : Value} {aA aB : Nat → Option Addr} {nA cA nB cB : Nat → Nat} {LA LB : Nat → List Bool} (h : Two w base vA mA aA nA cA LA vB mB aB nB cB LB) {a : Option Addr}
    (hn : ∀ x, a.map (·.block) = some x → x < w.heap.size ∧ vA.ownBlock ≠ some x ∧ vB.ownBlock ≠ some x) (hb : T.Bl w n a (LA mA))
    (ho : w'.ownsRow base 25 1 (.slice (some ⟨g, 0, none⟩) (mA + 1) cap) (mA + 1) (T.sls aA nA cA mA ++ [.slice a n c])) (hg : w.grownBy w' vA.ownBlock) (hl : vA.ownBlock = some g ∨ g = w.heap.size) :
    Two w' base (.slice (some ⟨g, 0, none⟩) (mA + 1) cap) (mA + 1) (fun i => if i = mA then a else aA i) (fun i => if i = mA then n else nA i) (fun i => if i = mA then c else cA i) LA vB mB aB nB cB LB := by
  refine ⟨h.a.add (fun b e => ⟨(hn b e).1, (hn b e).2.1⟩) hb ho hg hl, bmk_kept h.b hg (fun x e h9 => h.ap x h9 e) (fun i hi x e h9 => h.fb i hi x e h9), fun x e h9 => ?_, fun i hi x e => ?_, fun i hi x e h9 => ?_⟩
  · have e' : g = x := by simpa [Value.ownBlock] using e
    rcases hl with hl | hl
    · exact h.ap g hl (by rw [e']; exact h9)
    · have := (h.b.ns.own.lt x h9).2; omega
  · by_cases h1 : i = mA
    · simp only [if_pos h1] at e; exact (hn x e).2.2
    · simp only [if_neg h1] at e; exact h.fa i (by omega) x e
  · have e' : g = x := by simpa [Value.ownBlock] using h9
    rcases hl with hl | hl
    · exact h.fb i hi x e (by rw [hl, e'])
    · have := (h.b.ns.far i hi x e).1; omega
theorem Two.nil (w : World) (base : Nat) (LA LB : Nat → List Bool) : Two w base (.slice none 0 0) 0 (fun _ => none) (fun _ => 0) (fun _ => 0) LA (.slice none 0 0) 0 (fun _ => none) (fun _ => 0) (fun _ => 0) LB :=
  ⟨T.Bmk.nil _ _ _, T.Bmk.nil _ _ _, (fun x e => by cases e), (fun i hi => by omega), (fun i hi => by omega)⟩
theorem infoB : (Try.prog.info? 25).map (fun i => (i.zero, i.size, i.bytes)) = some (some (.slice none 0 0), 1, 24) := by kernel_rfl

theorem rreceive_no (Z O : Value) (F N c cb : Nat) (av : Option Addr) (w : World) (hF : F < 18446744073709551616) (hN : N ≤ 4194304) (hc : nC F N = c) (hc0 : c ≠ 0) :
    Calls Try.prog 11 #[Z, O, .int .u64 (F : Int), .slice av N cb] w fun e w' => e = .returned (.tuple #[.slice none 0 0, .slice none 0 0, .int .i64 (c : Int)]) ∧ Below w.heap.size w w' := by
  have kn := fun w => hide1 (rspan_any F N w hF hN)
  rw [hc] at kn
  have tc : ((c : Int) != 0) = true := by rw [bne_iff_ne]; omega
  clear hc
  go_enter Try.func11, Try.ntmps11
  go_wp2_with fail
  go_at_call 29
  refine (kn _).out.mono ?_
  rintro e w1 ⟨rfl, rfl⟩
  go_wp2
  refine bodyPost_ret (results_tmp3 rfl _ _ _) rfl ?_
  exact ⟨rfl, Below.refl _ _⟩
theorem rreceive_shape (az ao : Option Addr) (mz mo cz co F N cb : Nat) (av : Option Addr) (w : World) (hF : F < 18446744073709551616) (hN : N ≤ 4194304) (hc : nC F N = 0) (hm : ¬ (mz = 128 ∧ mo = 128)) :
    Calls Try.prog 11 #[.slice az mz cz, .slice ao mo co, .int .u64 (F : Int), .slice av N cb] w fun e w' => e = .returned (.tuple #[.slice none 0 0, .slice none 0 0, .int .i64 11]) ∧ Below w.heap.size w w' := by
  have kn := fun w => hide1 (rspan_any F N w hF hN)
  rw [hc] at kn
  clear hc
  by_cases hz : mz = 128
  · subst hz
    have t1 : ((128 : Int) != 128) = false := by decide
    have t2 : ((mo : Int) != 128) = true := by rw [bne_iff_ne]; omega
    clear hm
    go_enter Try.func11, Try.ntmps11
    go_wp2_with fail
    go_at_call 29
    refine (kn _).out.mono ?_
    rintro e w1 ⟨rfl, rfl⟩
    go_wp2
    refine bodyPost_ret (results_tmp3 rfl _ _ _) rfl ?_
    exact ⟨rfl, Below.refl _ _⟩
  · have t2 : ((mz : Int) != 128) = true := by rw [bne_iff_ne]; omega
    clear hm hz
    go_enter Try.func11, Try.ntmps11
    go_wp2_with fail
    go_at_call 29
    refine (kn _).out.mono ?_
    rintro e w1 ⟨rfl, rfl⟩
    go_wp2
    refine bodyPost_ret (results_tmp3 rfl _ _ _) rfl ?_
    exact ⟨rfl, Below.refl _ _⟩

theorem take_snoc (l : List Bool) {j : Nat} (h : j < l.length) : T.bools (l.take j) ++ [.bool (l.getD j false)] = T.bools (l.take (j + 1)) := by
  rw [List.take_succ_eq_append_getElem h, List.getD_eq_getElem?_getD, List.getElem?_eq_getElem h]
  unfold T.bools
  rw [List.map_append]
  rfl
theorem bits_ref (kl : List Nat) (F N : Nat) (w : World) (hk : kl.length = 32) (bk : Lt 256 kl) (hN : N ≤ 65536) (hF : F ≤ 1073741824) :
    Calls Try.prog 30 #[.agg (u8s kl).toArray, .int .u32 0, .int .i64 (F : Int), .int .i64 (N : Int)] w fun e w' => ∃ a c, e = .returned (.tuple #[.slice a N c, .int .i64 0]) ∧ T.Bl w' N a (cl kl F N) ∧ Below w.heap.size w w' ∧ ∀ b, a.map (·.block) = some b → w.heap.size ≤ b ∧ b < w'.heap.size := by
  refine (rbits_yes kl 0 F N w hk bk (by omega) hN hF).mono ?_
  rintro e w' ⟨a, m, c, rfl, hv, hb, hf⟩
  obtain rfl : N = m := by rw [← hv.len, bts_length]
  exact ⟨a, c, rfl, bl_same hv, hb, hf⟩

set_option maxHeartbeats 16000000 in
theorem rreceive_yes (Z O : Value) (fz fo : Nat → List Nat) (F N cb : Nat) (av : Option Addr) (ch : List Bool) (w : World) (hZ : Sds w Z fz 128) (hO : Sds w O fo 128) (hfz : ∀ i, (fz i).length = 32 ∧ Lt 256 (fz i)) (hfo : ∀ i, (fo i).length = 32 ∧ Lt 256 (fo i))
    (hv : T.Bl w N av ch) (hc : nC F N = 0) (hF : F ≤ 67108864) (hN : N ≤ 4096) (hN1 : 1 ≤ N) :
    Calls Try.prog 11 #[Z, O, .int .u64 (F : Int), .slice av N cb] w fun e w' => ∃ (vc : Value) (la : Option Addr) (lc : Nat) (aa : Nat → Option Addr) (nn cc : Nat → Nat), e = .returned (.tuple #[vc, .slice la N lc, .int .i64 0]) ∧ T.Brd w' vc 128 aa nn cc (sentC fz fo F N ch) ∧ (∀ i, i < 128 → nn i = N) ∧ T.Rws w' N la (T.rowV (fun i => cl (fz i) F N)) ∧ Below w.heap.size w w' := by
  obtain ⟨i4, hi4, hy0, hy1, hy2⟩ := info_of info4
  obtain ⟨i5, hi5, hx0, hx1, hx2⟩ := info_parts infoB
  obtain ⟨gz, cz, rfl, hgz, hrz⟩ := hZ.at'
  obtain ⟨go, co, rfl, hgo, hro⟩ := hO.at'
  have HRZ := hide1 hrz
  have HRO := hide1 hro
  have HVB := hide1 hv
  have HFZ := hide1 hfz
  have HFO := hide1 hfo
  have kn := fun w => hide1 (rspan_any F N w (by omega) (by omega))
  rw [hc] at kn
  have kz := fun w i => hide1 (bits_ref (fz i) F N w (hfz i).1 (hfz i).2 (by omega) (by omega))
  have ko := fun w i => hide1 (bits_ref (fo i) F N w (hfo i).1 (hfo i).2 (by omega) (by omega))
  have e1 : IntKind.i64.wrap (F : Int) = (F : Int) := by rw [IntKind.wrap_i64]; omega
  have hcl : ch.length = N := hv.len
  have t1 : ((128 : Int) != 128) = false := by decide
  clear hc hrz hro hv hfz hfo hZ hO
  go_enter Try.func11, Try.ntmps11
  go_wp2_with fail
  go_at_call 29
  refine (kn _).out.mono ?_
  rintro e w1 ⟨rfl, rfl⟩
  go_wp2
  go_loopw [12, 13, 14] (fun cv ov iv wr => ∃ (i : Nat) (aA aB : Nat → Option Addr) (nA cA nB cB : Nat → Nat), i ≤ 128 ∧ iv = .int .i64 i ∧ Two wr w1.heap.size cv i aA nA cA (sentC fz fo F N ch) ov i aB nB cB (fun i => cl (fz i) F N) ∧ (∀ k, k < i → nA k = N ∧ nB k = N) ∧ Below w1.heap.size w1 wr) (fun _ _ iv _ => 128 - (intOf iv).toNat)
  case atStart => exact ⟨0, _, _, _, _, _, _, Nat.zero_le _, rfl, Two.nil _ _ _ _, fun k hk => by omega, Below.refl _ _⟩
  case round =>
    obtain ⟨i, aA, aB, nA, cA, nB, cB, hi, rfl, hT, hn, hbe⟩ := hrel
    obtain ⟨la, lc, rfl⟩ := T.row_form hT.a.ns.own
    obtain ⟨lb, ld, rfl⟩ := T.row_form hT.b.ns.own
    have HT := hide1 hT
    have HNN := hide1 hn
    have HBE := hide1 hbe
    clear hT hn
    by_cases hlt : i < 128
    · have hlt' : (i : Int) < 128 := by omega
      have hi1 := hi23' (HFZ.out i).1
      have hi2 := hi23' (HFO.out i).1
      have ra : Hid (wr.rangeAt gz (i * 32) (u8s (fz i))) := fun j u hu => (hbe.cell (p := ⟨gz, i * 32 + j, none⟩) (by simpa using hgz)).trans (HRZ.out i hlt j u hu)
      go_wp2_with (first | (refine wpList_load_mid rfl 23 (.tmp 44) rfl gz (i * 32) rfl (u8s (fz i)) _ ra.out Try.underlying23 rfl hi1 ?_) | fail)
      go_at_call 30
      refine (kz _ i).out.mono ?_
      rintro e w2 ⟨ta, tc, rfl, htl, hb2, htf⟩
      have hb2' := HBE.out.trans (hb2.mono HBE.out.size)
      have rb : Hid (w2.rangeAt go (i * 32) (u8s (fo i))) := fun j u hu => (hb2'.cell (p := ⟨go, i * 32 + j, none⟩) (by simpa using hgo)).trans (HRO.out i hlt j u hu)
      have HT2 := hide1 (HT.out.below hb2)
      have B2 := hide1 hb2'
      have HTL := hide1 htl
      have HTF := hide1 htf
      have hsz2 := hb2.size
      clear ra htl hb2 htf hb2' hbe
      go_wp2_with (first | (refine wpList_load_mid rfl 23 (.tmp 56) rfl go (i * 32) rfl (u8s (fo i)) _ rb.out Try.underlying23 rfl hi2 ?_) | fail)
      go_at_call 30
      refine (ko _ i).out.mono ?_
      rintro e wo ⟨ua, uc, rfl, hul, hb3, huf⟩
      have HT3 := hide1 (HT2.out.below hb3)
      have hb3' := B2.out.trans (hb3.mono B2.out.size)
      have B3 := hide1 hb3'
      have HTL3 := hide1 (HTL.out.below hb3 (Nat.le_refl _))
      have HUL3 := hide1 hul
      have HVB3 := hide1 (HVB.out.below hb3' (Nat.le_refl _))
      have HTF3 : Hid (∀ b, ta.map (·.block) = some b → b < wo.heap.size ∧ (Value.slice la i lc).ownBlock ≠ some b ∧ (Value.slice lb i ld).ownBlock ≠ some b) := fun b hb => by
        have h1 := HTF.out b hb
        have := hb3.size
        exact ⟨by omega, fun h9 => by have := (HT.out.a.ns.own.lt b h9).2; omega, fun h9 => by have := (HT.out.b.ns.own.lt b h9).2; omega⟩
      clear rb hul hb3 huf hb3' HT2 B2 HTL HTF hsz2 HBE
      go_wp2
      go_loopw [19, 20] (fun ov iv wr => ∃ j : Nat, j ≤ N ∧ iv = .int .i64 j ∧ wr.ownsRow wo.heap.size 4 1 ov j (T.bools ((sentC fz fo F N ch i).take j)) ∧ Below wo.heap.size wo wr) (fun _ iv _ => N - (intOf iv).toNat)
      case atStart => exact ⟨0, Nat.zero_le _, rfl, World.ownsRow_nil _ _ _ _, Below.refl _ _⟩
      case round =>
        obtain ⟨j, hj, rfl, hol, hbq⟩ := hrel
        obtain ⟨ia, ic, rfl⟩ := T.row_form hol
        have HOL := hide1 hol
        have HBQ := hide1 hbq
        clear hol
        by_cases hlj : j < N
        · have hlj' : (j : Int) < (N : Int) := by omega
          have gt : ∀ {a : Option Addr} {l : List Bool}, T.Bl wo N a l → ∃ g o, a = some ⟨g, o, none⟩ ∧ wr.cell? ⟨g, o + j, none⟩ = some (.bool (l.getD j false)) := fun {a l} h => by
            have hl : j < l.length := by rw [h.len]; exact hlj
            obtain ⟨g, o, ea, hc⟩ := (h.below hbq (Nat.le_refl _)).at' j (l[j]'hl) (List.getElem?_eq_getElem hl)
            exact ⟨g, o, ea, by rw [hc, List.getD_eq_getElem?_getD, List.getElem?_eq_getElem hl]; rfl⟩
          obtain ⟨gt1, ot1, rfl, cx⟩ := gt HTL3.out
          obtain ⟨gu1, ou1, rfl, cy⟩ := gt HUL3.out
          obtain ⟨gv1, ov1, rfl, cz1⟩ := gt HVB3.out
          have HEE' := take_snoc (sentC fz fo F N ch i) (j := j) (by rw [sentC_len fz fo F hcl i]; exact hlj)
          rw [sentC_get fz fo F hcl i hlj] at HEE'
          obtain ⟨x, hx⟩ : ∃ x, x = (cl (fz i) F N).getD j false := ⟨_, rfl⟩
          obtain ⟨y, hy⟩ : ∃ x, x = (cl (fo i) F N).getD j false := ⟨_, rfl⟩
          obtain ⟨z, hz⟩ : ∃ x, x = ch.getD j false := ⟨_, rfl⟩
          rw [← hx] at cx HEE'
          rw [← hy] at cy HEE'
          rw [← hz] at cz1 HEE'
          have HEE := hide1 HEE'
          have hszq := hbq.size
          clear gt HEE' hx hy hz hbq
          cases x with
          | true =>
            cases y with
            | true =>
              cases z with
              | true =>
                have HE9 : Hid (T.bools ((sentC fz fo F N ch i).take j) ++ [.bool true] = T.bools ((sentC fz fo F N ch i).take (j + 1))) := HEE.out
                go_wp2_with (at_builtin; go_must (refine wpList_append_own _ rfl _ _ 25 rfl wo.heap.size 4 i4 (.bool false) 1 1 Try.underlying25 hi4 hy0 hy1 hy2 rfl (by decide) _ _ _ rfl (HOL.out.alloc _) ⟨wr.heap.size, 0, none⟩ 1 1 [.bool true] rfl rfl (cell_one_new _ _ _) (by simp [Value.oneCell']) (by unfold maxLen; omega) (by omega) (by simp; omega) ?_); intro v' w2 hown' hgrow _)
                go_roundw
                case rel =>
                  have e9 := HE9.out
                  exact ⟨j + 1, by omega, by go_num, by rw [← e9]; exact hown', (HBQ.out.alloc HBQ.out.size _).grown hgrow (by simp; omega) (fun b hb => (HOL.out.lt b hb).1)⟩
                case measure => simp [intOf]; omega
              | false =>
                have HE9 : Hid (T.bools ((sentC fz fo F N ch i).take j) ++ [.bool false] = T.bools ((sentC fz fo F N ch i).take (j + 1))) := HEE.out
                go_wp2_with (at_builtin; go_must (refine wpList_append_own _ rfl _ _ 25 rfl wo.heap.size 4 i4 (.bool false) 1 1 Try.underlying25 hi4 hy0 hy1 hy2 rfl (by decide) _ _ _ rfl (HOL.out.alloc _) ⟨wr.heap.size, 0, none⟩ 1 1 [.bool false] rfl rfl (cell_one_new _ _ _) (by simp [Value.oneCell']) (by unfold maxLen; omega) (by omega) (by simp; omega) ?_); intro v' w2 hown' hgrow _)
                go_roundw
                case rel =>
                  have e9 := HE9.out
                  exact ⟨j + 1, by omega, by go_num, by rw [← e9]; exact hown', (HBQ.out.alloc HBQ.out.size _).grown hgrow (by simp; omega) (fun b hb => (HOL.out.lt b hb).1)⟩
                case measure => simp [intOf]; omega
            | false =>
              cases z with
              | true =>
                have HE9 : Hid (T.bools ((sentC fz fo F N ch i).take j) ++ [.bool false] = T.bools ((sentC fz fo F N ch i).take (j + 1))) := HEE.out
                go_wp2_with (at_builtin; go_must (refine wpList_append_own _ rfl _ _ 25 rfl wo.heap.size 4 i4 (.bool false) 1 1 Try.underlying25 hi4 hy0 hy1 hy2 rfl (by decide) _ _ _ rfl (HOL.out.alloc _) ⟨wr.heap.size, 0, none⟩ 1 1 [.bool false] rfl rfl (cell_one_new _ _ _) (by simp [Value.oneCell']) (by unfold maxLen; omega) (by omega) (by simp; omega) ?_); intro v' w2 hown' hgrow _)
                go_roundw
                case rel =>
                  have e9 := HE9.out
                  exact ⟨j + 1, by omega, by go_num, by rw [← e9]; exact hown', (HBQ.out.alloc HBQ.out.size _).grown hgrow (by simp; omega) (fun b hb => (HOL.out.lt b hb).1)⟩
                case measure => simp [intOf]; omega
              | false =>
                have HE9 : Hid (T.bools ((sentC fz fo F N ch i).take j) ++ [.bool true] = T.bools ((sentC fz fo F N ch i).take (j + 1))) := HEE.out
                go_wp2_with (at_builtin; go_must (refine wpList_append_own _ rfl _ _ 25 rfl wo.heap.size 4 i4 (.bool false) 1 1 Try.underlying25 hi4 hy0 hy1 hy2 rfl (by decide) _ _ _ rfl (HOL.out.alloc _) ⟨wr.heap.size, 0, none⟩ 1 1 [.bool true] rfl rfl (cell_one_new _ _ _) (by simp [Value.oneCell']) (by unfold maxLen; omega) (by omega) (by simp; omega) ?_); intro v' w2 hown' hgrow _)
                go_roundw
                case rel =>
                  have e9 := HE9.out
                  exact ⟨j + 1, by omega, by go_num, by rw [← e9]; exact hown', (HBQ.out.alloc HBQ.out.size _).grown hgrow (by simp; omega) (fun b hb => (HOL.out.lt b hb).1)⟩
                case measure => simp [intOf]; omega
          | false =>
            cases y with
            | true =>
              cases z with
              | true =>
                have HE9 : Hid (T.bools ((sentC fz fo F N ch i).take j) ++ [.bool false] = T.bools ((sentC fz fo F N ch i).take (j + 1))) := HEE.out
                go_wp2_with (at_builtin; go_must (refine wpList_append_own _ rfl _ _ 25 rfl wo.heap.size 4 i4 (.bool false) 1 1 Try.underlying25 hi4 hy0 hy1 hy2 rfl (by decide) _ _ _ rfl (HOL.out.alloc _) ⟨wr.heap.size, 0, none⟩ 1 1 [.bool false] rfl rfl (cell_one_new _ _ _) (by simp [Value.oneCell']) (by unfold maxLen; omega) (by omega) (by simp; omega) ?_); intro v' w2 hown' hgrow _)
                go_roundw
                case rel =>
                  have e9 := HE9.out
                  exact ⟨j + 1, by omega, by go_num, by rw [← e9]; exact hown', (HBQ.out.alloc HBQ.out.size _).grown hgrow (by simp; omega) (fun b hb => (HOL.out.lt b hb).1)⟩
                case measure => simp [intOf]; omega
              | false =>
                have HE9 : Hid (T.bools ((sentC fz fo F N ch i).take j) ++ [.bool true] = T.bools ((sentC fz fo F N ch i).take (j + 1))) := HEE.out
                go_wp2_with (at_builtin; go_must (refine wpList_append_own _ rfl _ _ 25 rfl wo.heap.size 4 i4 (.bool false) 1 1 Try.underlying25 hi4 hy0 hy1 hy2 rfl (by decide) _ _ _ rfl (HOL.out.alloc _) ⟨wr.heap.size, 0, none⟩ 1 1 [.bool true] rfl rfl (cell_one_new _ _ _) (by simp [Value.oneCell']) (by unfold maxLen; omega) (by omega) (by simp; omega) ?_); intro v' w2 hown' hgrow _)
                go_roundw
                case rel =>
                  have e9 := HE9.out
                  exact ⟨j + 1, by omega, by go_num, by rw [← e9]; exact hown', (HBQ.out.alloc HBQ.out.size _).grown hgrow (by simp; omega) (fun b hb => (HOL.out.lt b hb).1)⟩
                case measure => simp [intOf]; omega
            | false =>
              cases z with
              | true =>
                have HE9 : Hid (T.bools ((sentC fz fo F N ch i).take j) ++ [.bool true] = T.bools ((sentC fz fo F N ch i).take (j + 1))) := HEE.out
                go_wp2_with (at_builtin; go_must (refine wpList_append_own _ rfl _ _ 25 rfl wo.heap.size 4 i4 (.bool false) 1 1 Try.underlying25 hi4 hy0 hy1 hy2 rfl (by decide) _ _ _ rfl (HOL.out.alloc _) ⟨wr.heap.size, 0, none⟩ 1 1 [.bool true] rfl rfl (cell_one_new _ _ _) (by simp [Value.oneCell']) (by unfold maxLen; omega) (by omega) (by simp; omega) ?_); intro v' w2 hown' hgrow _)
                go_roundw
                case rel =>
                  have e9 := HE9.out
                  exact ⟨j + 1, by omega, by go_num, by rw [← e9]; exact hown', (HBQ.out.alloc HBQ.out.size _).grown hgrow (by simp; omega) (fun b hb => (HOL.out.lt b hb).1)⟩
                case measure => simp [intOf]; omega
              | false =>
                have HE9 : Hid (T.bools ((sentC fz fo F N ch i).take j) ++ [.bool false] = T.bools ((sentC fz fo F N ch i).take (j + 1))) := HEE.out
                go_wp2_with (at_builtin; go_must (refine wpList_append_own _ rfl _ _ 25 rfl wo.heap.size 4 i4 (.bool false) 1 1 Try.underlying25 hi4 hy0 hy1 hy2 rfl (by decide) _ _ _ rfl (HOL.out.alloc _) ⟨wr.heap.size, 0, none⟩ 1 1 [.bool false] rfl rfl (cell_one_new _ _ _) (by simp [Value.oneCell']) (by unfold maxLen; omega) (by omega) (by simp; omega) ?_); intro v' w2 hown' hgrow _)
                go_roundw
                case rel =>
                  have e9 := HE9.out
                  exact ⟨j + 1, by omega, by go_num, by rw [← e9]; exact hown', (HBQ.out.alloc HBQ.out.size _).grown hgrow (by simp; omega) (fun b hb => (HOL.out.lt b hb).1)⟩
                case measure => simp [intOf]; omega
        · obtain rfl : j = N := by omega
          have htk : (sentC fz fo F j ch i).take j = sentC fz fo F j ch i := List.take_of_length_le (by rw [sentC_len fz fo F hcl i]; omega)
          have hol := HOL.out
          rw [htk] at hol
          have hcb := T.own_bl hol (sentC_len fz fo F hcl i)
          have HT4 := HT3.out.below hbq
          have M2 := hide1 (HT4.below (T.below_alloc1 wr (.cells #[.slice ia j ic] 25)))
          have BC := hide1 (hcb.below (T.below_alloc1 wr (.cells #[.slice ia j ic] 25)) (Nat.le_refl _))
          have hb4 := B3.out.trans (hbq.mono B3.out.size)
          have B4 := hide1 (hb4.alloc hb4.size (.cells #[.slice ia j ic] 25))
          have TL4 := hide1 ((HTL3.out.below hbq (Nat.le_refl _)).below (T.below_alloc1 wr (.cells #[.slice ia j ic] 25)) (Nat.le_refl _))
          have hszq := hbq.size
          have hsz4 := hb4.size
          have FC : Hid (∀ x, ia.map (·.block) = some x → x < (wr.alloc (.cells #[.slice ia j ic] 25)).heap.size ∧ (Value.slice la i lc).ownBlock ≠ some x ∧ (Value.slice lb i ld).ownBlock ≠ some x) := fun x hx => by
            have h1 : wo.heap.size ≤ x ∧ x < wr.heap.size := by
              cases ia with
              | none => cases hx
              | some ad => cases hx; exact hol.lt ad.block rfl
            exact ⟨by rw [size_alloc]; omega, fun h9 => by have := (HT3.out.a.ns.own.lt x h9).2; omega, fun h9 => by have := (HT3.out.b.ns.own.lt x h9).2; omega⟩
          have FT : Hid (∀ x, ta.map (·.block) = some x → x < wr.heap.size ∧ (Value.slice la i lc).ownBlock ≠ some x ∧ (Value.slice lb i ld).ownBlock ≠ some x) := fun x hx => by
            obtain ⟨h1, h2, h3⟩ := HTF3.out x hx
            exact ⟨by omega, h2, h3⟩
          clear hol hcb HT4 hb4 hbq HOL HBQ htk HTF3 HTL3 HUL3 HVB3 HT3 B3 HT kz ko
          go_wp2_with (first
            | (at_builtin; refine wpList_append_lies _ rfl (.tmp 95) (.tmp 97) 48 rfl w1.heap.size 25 i5 (.slice none 0 0) 1 24 Try.underlying48 hi5 hx0 hx1 hx2 rfl (by decide) _ _ _ rfl M2.out.a.ns.own ⟨wr.heap.size, 0, none⟩ 1 1 [.slice ia j ic] rfl rfl (cell_one_new _ _ _) (by simp [Value.oneCell']) (by decide) (by unfold maxLen; omega) (by omega) (by simp; omega) (wr.heap.size + 1) (by simp) ?_; intro g9 cap9 w9 hown9 hgrow9 hlies9 _; have T9 := hide1 (M2.out.add FC.out BC.out hown9 hgrow9 (by
                rcases hlies9 with h | h
                · exact .inl h
                · exact .inr (by simpa using h))); have B9 := hide1 (B4.out.grown hgrow9 (by simp; omega) (fun b hb => (M2.out.a.ns.own.lt b hb).1)); have F9 : Hid (∀ x, ta.map (·.block) = some x → x < (w9.alloc (.cells #[.slice ta j tc] 25)).heap.size ∧ (Value.slice lb i ld).ownBlock ≠ some x ∧ (Value.slice (some ⟨g9, 0, none⟩) (i + 1) cap9).ownBlock ≠ some x) := (fun x hx => by
                obtain ⟨h1, h2, h3⟩ := FT.out x hx
                have hz9 := hgrow9.size
                refine ⟨by rw [size_alloc]; simp at hz9; omega, h3, fun h9 => ?_⟩
                have e9 : g9 = x := by simpa [Value.ownBlock] using h9
                rcases hlies9 with h | h
                · exact h2 (by rw [← e9]; exact h)
                · omega); have TL9 : Hid (T.Bl w9 j ta (cl (fz i) F j)) := T.Bl.kept TL4.out (fun b hb => hgrow9.block b (by have := (FT.out b hb).1; simp; omega) (fun e => (FT.out b hb).2.1 e.symm)); have T10 := hide1 (T9.out.swap.below (T.below_alloc1 w9 (.cells #[.slice ta j tc] 25))); have TL10 := hide1 (TL9.out.below (T.below_alloc1 w9 (.cells #[.slice ta j tc] 25)) (Nat.le_refl _)); have B10 := hide1 (B9.out.alloc B9.out.size (.cells #[.slice ta j tc] 25)); have hsz9 := B9.out.size; clear hown9 hgrow9 hlies9 M2 FC BC B4 TL4 T9 B9 TL9 FT)
            | (at_builtin; refine wpList_append_lies _ rfl (.tmp 99) (.tmp 101) 48 rfl w1.heap.size 25 i5 (.slice none 0 0) 1 24 Try.underlying48 hi5 hx0 hx1 hx2 rfl (by decide) _ _ _ rfl T10.out.a.ns.own ⟨w9.heap.size, 0, none⟩ 1 1 [.slice ta j tc] rfl rfl (cell_one_new _ _ _) (by simp [Value.oneCell']) (by decide) (by unfold maxLen; omega) (by omega) (by simp; omega) (w9.heap.size + 1) (by simp) ?_; intro g8 cap8 w8 hown8 hgrow8 hlies8 _)
            | fail)
          go_roundw
          case rel =>
            have T11 := T10.out.add F9.out TL10.out hown8 hgrow8 (by
              rcases hlies8 with h | h
              · exact .inl h
              · exact .inr (by simpa using h))
            refine ⟨i + 1, _, _, _, _, _, _, by omega, by go_num, T11.swap, fun k hk => ?_, B10.out.grown hgrow8 (by simp; omega) (fun b hb => (T10.out.a.ns.own.lt b hb).1)⟩
            by_cases e : k = i
            · exact ⟨if_pos e, if_pos e⟩
            · exact ⟨(if_neg e).trans (HNN.out k (by omega)).1, (if_neg e).trans (HNN.out k (by omega)).2⟩
          case measure => simp [intOf]; omega
    · obtain rfl : i = 128 := by omega
      have HBA := hide1 (HT.out.a.brd (by omega))
      have kR := hide1 (rrows_any wr _ N aB nB cB _ (HT.out.b.brd (by omega)) (fun i hi => (HNN.out i hi).2) hN)
      clear hbe
      go_wp2_with fail
      go_at_call 31
      refine kR.out.mono ?_
      rintro e w5 ⟨ra, rc, rfl, hrw, hb5⟩
      have HBA5 := hide1 (HBA.out.below hb5)
      have RW := hide1 hrw
      have B5 := hide1 (HBE.out.trans (hb5.mono HBE.out.size))
      clear hrw hb5 kR
      go_wp2
      refine bodyPost_ret (results_tmp3 rfl _ _ _) rfl ?_
      exact ⟨_, _, _, aA, nA, cA, rfl, HBA5.out, fun i hi => (HNN.out i hi).1, RW.out, B5.out⟩
end Go.Proofs.Ytdahnbojnleboaa.I
