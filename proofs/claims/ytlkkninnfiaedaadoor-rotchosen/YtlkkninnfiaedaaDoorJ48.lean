/- The walk of RotChosen. -/
import Derived.Test.YtlkkninnfiaedaaDoorJ47
namespace Go.Proofs.YtlkkninnfiaedaaDoor.Ro
open Go.RowKit Pg
set_option maxRecDepth 100000
attribute [local go_sem] not_any T.mf_any

theorem chosens_else (m n N c d cc : Nat) (a b ac : Option Addr) (t : Bool) (w : World) (hL : Sh.Laid w) (hbig : 60 < m ∨ 60 < n ∨ 60 < N) :
    Calls Tryd.prog 5 #[.slice a m c, .slice b n d, .slice ac N cc, .bool t] w fun e w' => e = .returned (.bool true) ∧ Below w.heap.size w w' := by
  have kA := hide1 (awake_any w hL)
  clear hL
  by_cases h1 : 60 < m
  · have t1 : (60 : Int) < (m : Int) := by omega
    clear hbig h1
    go_enter Tryd.func5, Tryd.ntmps5
    go_wp2_with fail
    go_at_call 7
    refine kA.out.mono ?_
    rintro e w9 ⟨rfl, hb9⟩
    have B9 := hide1 hb9
    clear hb9
    go_wp2
    go_ret
    exact ⟨rfl, B9.out⟩
  · have t1 : ¬ (60 : Int) < (m : Int) := by omega
    by_cases h2 : 60 < n
    · have t2 : (60 : Int) < (n : Int) := by omega
      clear hbig h1 h2
      go_enter Tryd.func5, Tryd.ntmps5
      go_wp2_with fail
      go_at_call 7
      refine kA.out.mono ?_
      rintro e w9 ⟨rfl, hb9⟩
      have B9 := hide1 hb9
      clear hb9
      go_wp2
      go_ret
      exact ⟨rfl, B9.out⟩
    · have t2 : ¬ (60 : Int) < (n : Int) := by omega
      have t3 : (60 : Int) < (N : Int) := by omega
      clear hbig h1 h2
      go_enter Tryd.func5, Tryd.ntmps5
      go_wp2_with fail
      go_at_call 7
      refine kA.out.mono ?_
      rintro e w9 ⟨rfl, hb9⟩
      have B9 := hide1 hb9
      clear hb9
      go_wp2
      go_ret
      exact ⟨rfl, B9.out⟩

/- what lies in memory behind bits.Of -/
set_option maxHeartbeats 16000000 in
theorem chosens_in (f s : Nat → List Nat) (ch : List Bool) (m n N c d cc : Nat) (a b ac : Option Addr) (t : Bool) (w : World) (hL : Sh.Laid w) (hp : Pd w m a f) (hs : Sd w n b s) (hc : T.Bl w N ac ch) (hm : m ≤ 60) (hn : n ≤ 60) (hN : N ≤ 60) :
    Calls Tryd.prog 5 #[.slice a m c, .slice b n d, .slice ac N cc, .bool t] w fun e w' => e = .returned (.bool true) ∧ Below w.heap.size w w' := by
  obtain ⟨i0, hi0, hz0, hz1, hz2⟩ := info_of info_seed
  have kA : Hid (∀ W, Below w.heap.size w W → Calls Tryd.prog 7 #[] W fun e w' => e = .returned (.bool true) ∧ Below W.heap.size W w') := fun W hW => awake_any W (hL.below hW hL.two)
  have kP : Hid (∀ W, Below w.heap.size w W → Calls Tryd.prog 24 #[.slice a m c] W fun e w' => ∃ g d, e = .returned (.slice g m d) ∧ Pd w' m g f ∧ Below W.heap.size W w') := fun W hW => pairs_any m c a f W (hp.below hW (Nat.le_refl _)) (by omega)
  have kO := hide1 (T.of_any w N cc ac ch hc (by omega))
  have HP := hide1 hp
  have HS := hide1 hs
  have HC := hide1 hc
  have HGP := hide1 hp.good
  have t1 : ¬ (60 : Int) < (m : Int) := by omega
  have t2 : ¬ (60 : Int) < (n : Int) := by omega
  have t3 : ¬ (60 : Int) < (N : Int) := by omega
  clear hL hp hs hc
  cases t with
  | false =>
    go_enter Tryd.func5, Tryd.ntmps5
    go_wp2_with fail
    go_at_call 22
    refine kO.out.mono ?_
    rintro e w1 ⟨av, rfl, hv, hb1⟩
    go_upto_region 4 with (fail)
    generalize hZ : World.alloc w1 _ = Z
    have zv : Z.heap[w1.heap.size]? = some (.cells #[.int .i64 (N : Int), .slice av (T.need N 64) (T.need N 64)] 41 (0, 0)) := by rw [← hZ]; exact heap_alloc_new _ _
    have zb : Below w1.heap.size w1 Z := by rw [← hZ]; exact (Below.refl _ _).alloc (Nat.le_refl _) _
    obtain ⟨gv, hgv⟩ : ∃ g, g = w1.heap.size := ⟨_, rfl⟩
    rw [← hgv] at zv ⊢
    have XW := hide1 (hb1.trans (zb.mono hb1.size))
    have XV := hide1 zv
    have VCZ : Hid (T.Vc 0 Z N av ch) := (hv.below zb (Nat.le_refl _)).mono (Nat.zero_le _)
    clear hZ zv zb hgv hv hb1 kO
    have HSd := hide1 (HS.out.below XW.out (Nat.le_refl _))
    go_upto_region 13 with (fail)
    refine region_f (F := []) (S := fun V => Below Z.heap.size Z V) (by kernel_rfl) (Below.refl _ _).drew (fun hS => ?_)
    refine take_p 0 63 (.slice a m c) rfl rfl (by kernel_rfl) (by kernel_rfl) (by kernel_rfl) (fun _ _ _ h => h) rfl (fun w => by go_simp) ?_
    try simp only [List.setIfInBounds_toArray, List.set_cons_zero, List.set_cons_succ]
    refine take_p 2 65 (.slice b n d) rfl rfl (by kernel_rfl) (by kernel_rfl) (by kernel_rfl) (fun _ _ _ h => h) rfl (fun w => by go_simp) ?_
    try simp only [List.setIfInBounds_toArray, List.set_cons_zero, List.set_cons_succ]
    refine take_f 3 66 (.agg #[.int .i64 (N : Int), .slice av (T.need N 64) (T.need N 64)]) [4, 8, 9, 10, 11, 12, 13] rfl rfl (by kernel_rfl) (by kernel_rfl) (by kernel_rfl) (by kernel_rfl) (by kernel_rfl) (by kernel_rfl) (fun _ _ _ h => h) rfl (fun w hSw => by obtain ⟨h1, h2, _⟩ := T.box2 ((hSw.block _ (lt_heap XV.out)).trans XV.out); go_simp) hS ?_
    try simp only [List.setIfInBounds_toArray, List.set_cons_zero, List.set_cons_succ]
    refine take_p 5 68 (.slice a m c) rfl rfl (by kernel_rfl) (by kernel_rfl) (by kernel_rfl) (fun _ _ _ h => h) rfl (fun w => by go_simp) ?_
    try simp only [List.setIfInBounds_toArray, List.set_cons_zero, List.set_cons_succ]
    refine take_p 6 69 (.slice b n d) rfl rfl (by kernel_rfl) (by kernel_rfl) (by kernel_rfl) (fun _ _ _ h => h) rfl (fun w => by go_simp) ?_
    try simp only [List.setIfInBounds_toArray, List.set_cons_zero, List.set_cons_succ]
    refine take_p 7 70 (.slice ac N cc) rfl rfl (by kernel_rfl) (by kernel_rfl) (by kernel_rfl) (fun _ _ _ h => h) rfl (fun w => by go_simp) ?_
    try simp only [List.setIfInBounds_toArray, List.set_cons_zero, List.set_cons_succ]
    refine ready_f 1 (o := { dst := some 64, op := Op.call { callee := Callee.value (Operand.func 24), args := #[Operand.tmp 63], argTypes := #[33] }, type := 31, pos := "law.go:104", after := #[{ on := 0, ground := Ground.data }], guard := none }) (by kernel_rfl) rfl (fun K hK => ?_)
    go_simp
    refine (kP.out _ (XW.out.trans (hS.mono XW.out.size))).mono ?_
    rintro e w1 ⟨g1, d1, rfl, hp1, hb1⟩
    have hS1 := hS.trans (hb1.mono hS.size)
    refine hK.out _ _ (fun _ _ => hS1) ?_
    clear hb1
    clear hK K
    try simp only [Act.put, List.setIfInBounds_toArray, List.set_cons_zero, List.set_cons_succ]
    refine ready_f 4 (o := { dst := some 67, op := Op.call { callee := Callee.value (Operand.func 23), args := #[Operand.tmp 64, Operand.tmp 65, Operand.tmp 66], argTypes := #[31, 36, 41] }, type := 4, pos := "law.go:104", after := #[{ on := 1, ground := Ground.data }, { on := 2, ground := Ground.data }, { on := 3, ground := Ground.data }, { on := 1, ground := Ground.chain }], guard := none }) (by kernel_rfl) rfl (fun K hK => ?_)
    go_simp
    refine (chosen_any f _ ch m n N d1 d g1 _ av w1 hp1 (HSd.out.below hS1 (Nat.le_refl _)) (VCZ.out.below hS1 (Nat.le_refl _)) (by omega) (by omega) (by omega)).mono ?_
    rintro e w2 ⟨rfl, hb2⟩
    have hS2 := hS1.trans (hb2.mono hS1.size)
    refine hK.out _ _ (fun _ _ => hS2) ?_
    clear hb2
    clear hK K
    try simp only [Act.put, List.setIfInBounds_toArray, List.set_cons_zero, List.set_cons_succ]
    refine ready_f 8 (o := { dst := some 71, op := Op.call { callee := Callee.value (Operand.func 25), args := #[Operand.tmp 68, Operand.tmp 69, Operand.tmp 70], argTypes := #[33, 36, 53] }, type := 4, pos := "law.go:104", after := #[{ on := 5, ground := Ground.data }, { on := 6, ground := Ground.data }, { on := 7, ground := Ground.data }, { on := 4, ground := Ground.chain }], guard := none }) (by kernel_rfl) rfl (fun K hK => ?_)
    go_simp
    refine (rchosen_any f s ch m n N c d cc a _ ac w2 (HP.out.below (XW.out.trans (hS2.mono XW.out.size)) (Nat.le_refl _)) (HSd.out.below hS2 (Nat.le_refl _)) (HC.out.below (XW.out.trans (hS2.mono XW.out.size)) (Nat.le_refl _)) (by omega)).mono ?_
    rintro e w3 ⟨rfl, hb3⟩
    have hS3 := hS2.trans (hb3.mono hS2.size)
    refine hK.out _ _ (fun _ _ => hS3) ?_
    clear hb3
    clear hK K
    try simp only [Act.put, List.setIfInBounds_toArray, List.set_cons_zero, List.set_cons_succ]
    generalize chs f s ch m n N = BB
    have hbb : (BB == BB) = true := beq_self_eq_true BB
    refine take_p 9 72 (.bool true) rfl rfl (by kernel_rfl) (by kernel_rfl) (by kernel_rfl) (fun _ _ _ h => h) rfl (fun w => by go_simp) ?_
    try simp only [List.setIfInBounds_toArray, List.set_cons_zero, List.set_cons_succ]
    refine take_p 10 73 (.bool true) rfl rfl (by kernel_rfl) (by kernel_rfl) (by kernel_rfl) (fun _ _ _ h => h) rfl (fun w => by go_simp) ?_
    try simp only [List.setIfInBounds_toArray, List.set_cons_zero, List.set_cons_succ]
    refine ready_f 11 (o := { dst := some 74, op := Op.call { callee := Callee.value (Operand.func 7), args := #[], argTypes := #[] }, type := 4, pos := "law.go:104", after := #[{ on := 10, ground := Ground.chain }, { on := 10, ground := Ground.guard }], guard := some (10, true) }) (by kernel_rfl) rfl (fun K hK => ?_)
    go_simp
    refine (kA.out _ (XW.out.trans (hS3.mono XW.out.size))).mono ?_
    rintro e w4 ⟨rfl, hb4⟩
    have hS4 := hS3.trans (hb4.mono hS3.size)
    refine hK.out _ _ (fun _ _ => hS4) ?_
    clear hb4
    clear hK K
    try simp only [Act.put, List.setIfInBounds_toArray, List.set_cons_zero, List.set_cons_succ]
    refine take_p 12 75 (.bool true) rfl rfl (by kernel_rfl) (by kernel_rfl) (by kernel_rfl) (fun _ _ _ h => h) rfl (fun w => by go_simp) ?_
    try simp only [List.setIfInBounds_toArray, List.set_cons_zero, List.set_cons_succ]
    refine take_p 13 8 (.bool true) rfl rfl (by kernel_rfl) (by kernel_rfl) (by kernel_rfl) (fun _ _ _ h => h) rfl (fun w => by go_simp) ?_
    try simp only [List.setIfInBounds_toArray, List.set_cons_zero, List.set_cons_succ]
    refine done_f (by kernel_rfl) ?_ _
    have HS4 := hide1 (XW.out.trans (hS4.mono XW.out.size))
    clear hS hS1 hS2 hS3 hS4 hbb
    go_wp2
    go_ret
    exact ⟨rfl, HS4.out⟩
  | true =>
    obtain ⟨SS, hSS⟩ : ∃ SS : Nat → List Nat, SS = fun j => pick (ch.getD j false) (f (2 * j)) (f (2 * j + 1)) := ⟨_, rfl⟩
    have HGS : Shy (∀ j, (SS j).length = 32 ∧ Lt 256 (SS j)) := ⟨fun j => by
      rw [hSS]
      show (pick _ _ _).length = 32 ∧ Lt 256 (pick _ _ _)
      unfold pick
      split
      · exact HGP.out _
      · exact HGP.out _⟩
    have HSE : Shy (∀ j, SS j = pick (ch.getD j false) (f (2 * j)) (f (2 * j + 1))) := ⟨fun j => by rw [hSS]⟩
    clear hSS
    go_enter Tryd.func5, Tryd.ntmps5
    go_wp2_with fail
    go_at_call 22
    refine kO.out.mono ?_
    rintro e w1 ⟨av, rfl, hv, hb1⟩
    go_upto_region 4 with (fail)
    generalize hZ : World.alloc w1 _ = Z
    have zv : Z.heap[w1.heap.size]? = some (.cells #[.int .i64 (N : Int), .slice av (T.need N 64) (T.need N 64)] 41 (0, 0)) := by rw [← hZ]; exact heap_alloc_new _ _
    have zb : Below w1.heap.size w1 Z := by rw [← hZ]; exact (Below.refl _ _).alloc (Nat.le_refl _) _
    obtain ⟨gv, hgv⟩ : ∃ g, g = w1.heap.size := ⟨_, rfl⟩
    rw [← hgv] at zv ⊢
    have XW := hide1 (hb1.trans (zb.mono hb1.size))
    have XV := hide1 zv
    have VCZ : Hid (T.Vc 0 Z N av ch) := (hv.below zb (Nat.le_refl _)).mono (Nat.zero_le _)
    clear hZ zv zb hgv hv hb1 kO
    go_wp2
    go_loopw [1, 11] (fun v1 v11 wr => ∃ k : Nat, k ≤ m ∧ k ≤ N ∧ v11 = .int .i64 k ∧ (∃ a c, v1 = .slice a k c) ∧ wr.ownsRow Z.heap.size 28 32 v1 k (u8s (flt SS k)) ∧ Below Z.heap.size Z wr) (fun _ v11 _ => m - (intOf v11).toNat)
    case atStart => exact ⟨0, Nat.zero_le _, Nat.zero_le _, rfl, ⟨none, 0, rfl⟩, World.ownsRow_nil _ _ _ _, Below.refl _ _⟩
    case round =>
      obtain ⟨k, hkm, hkN, rfl, ⟨a3, c3, rfl⟩, hro, hbe⟩ := hrel
      by_cases hlm : k < m
      · have bm : (k : Int) < (m : Int) := by omega
        by_cases hlN : k < N
        · have bN : (k : Int) < (N : Int) := by omega
          have bk : (k : Int) < 60 := by omega
          have hbw := XW.out.trans (hbe.mono XW.out.size)
          obtain ⟨ga, oa, rfl, hga, ra⟩ := HP.out.at0 hlm
          obtain ⟨bc, hbc⟩ : ∃ bc, ch[k]? = some bc := ⟨_, List.getElem?_eq_getElem (by rw [HC.out.len]; exact hlN)⟩
          obtain ⟨gc, oc, rfl, hcc⟩ := HC.out.at' k bc hbc
          have hra := ra wr hbw k hlm
          have hlp := (HGP.out (2 * k)).1
          have hlq := (HGP.out (2 * k + 1)).1
          have hip := hi23 hlp
          have hip' := hi23' hlp
          have hiq := hi23 hlq
          have hiq' := hi23' hlq
          have hsf : flt SS k ++ pick bc (f (2 * k)) (f (2 * k + 1)) = flt SS (k + 1) := by rw [flt, HSE.out k, List.getD_eq_getElem?_getD, hbc]; rfl
          generalize f (2 * k) = p at *
          generalize f (2 * k + 1) = q at *
          have HLp := hide1 hlp
          have HLq := hide1 hlq
          have HMp : Hid ((u8s p).length = 1 * 32) := by show (u8s p).length = 1 * 32; rw [u8s_length, hlp]
          have HMq : Hid ((u8s q).length = 1 * 32) := by show (u8s q).length = 1 * 32; rw [u8s_length, hlq]
          have HZp : Shy ((u8s (zeros 32)).toArray.size = (u8s p).toArray.size) := ⟨by simp [u8s, zeros, hlp]⟩
          have HZq : Shy ((u8s p).toArray.size = (u8s q).toArray.size) := ⟨by simp [u8s, hlp, hlq]⟩
          have HSF0 := hide1 hsf
          obtain ⟨ja, hja⟩ : ∃ j, j = oa + k * 64 := ⟨_, rfl⟩
          obtain ⟨jc, hjc⟩ : ∃ j, j = oc + k := ⟨_, rfl⟩
          rw [← hja] at hra
          rw [← hjc] at hcc
          have eja : oa + k * 64 = ja := hja.symm
          have ejc : oc + k = jc := hjc.symm
          have HRA := hide1 hra
          have HCC : Hid (∀ V, Below w.heap.size w V → V.cell? ⟨gc, jc, none⟩ = some (.bool bc)) := fun V h => (h.cell (p := ⟨gc, jc, none⟩) (T.lt_cell hcc)).trans hcc
          have HBW := hide1 hbw
          have HE := hide1 hbe
          have HRO := hide1 hro
          clear hro hbe hbw ra hra hbc hcc hlp hlq hsf hja hjc
          go_upto_region 10 with (first
            | (refine wpList_load_mid rfl 28 (.tmp 48) rfl ga ja rfl (u8s p) _ HRA.out.1 Tryd.underlying28 rfl hip' ?_)
            | (refine wpList_store_own rfl 28 (.tmp 12) (.tmp 49) rfl wr.heap.size rfl (u8s p).toArray rfl 28 _ (heap_alloc_new wr (row8 28 (zeros 32))) hip HZp.out (all_one (u8s_one _)) ?_)
            | fail)
          generalize hZ1 : World.setRow _ _ _ = Z1
          have z0 : Z1.heap[wr.heap.size]? = some (.cells (u8s p).toArray 28 (0, 0)) := by rw [← hZ1]; exact setRow_heap _ _ _ _ _ _ (heap_alloc_new _ _)
          have zb : Below wr.heap.size wr Z1 := by rw [← hZ1]; exact Below.setRow' ((Below.refl _ _).alloc (Nat.le_refl _) _) (Nat.le_refl _) _
          obtain ⟨gz, hgz⟩ : ∃ g, g = wr.heap.size := ⟨_, rfl⟩
          have hzgz : Z.heap.size ≤ gz := by rw [hgz]; exact HE.out.size
          rw [← hgz] at z0 ⊢
          have hc1 := HCC.out Z1 (HBW.out.trans (zb.mono HBW.out.size))
          have Z0 := hide1 z0
          cases bc with
          | false =>
            have HSF : Shy (flt SS k ++ p = flt SS (k + 1)) := ⟨HSF0.out⟩
            have RO1 := hide1 (own_below HRO.out zb)
            have ZB1 := hide1 (HE.out.trans (zb.mono HE.out.size))
            clear hZ1 z0 zb hgz HRO HE HRA HCC HSF0 HBW
            go_wp2_with (first
              | (refine wpList_load_row rfl 28 (.tmp 12) rfl gz rfl 28 (u8s p).toArray (0, 0) _ Z0.out Tryd.underlying28 rfl hip ?_)
              | (refine wpList_build_seed rfl (.tmp 60) rfl rfl HLp.out ?_)
              | (at_builtin; go_must (refine wpList_append_lies _ rfl (.tmp 59) (.tmp 61) 36 rfl Z.heap.size 28 i0 (arr8 (zeros 32)) 32 32 Tryd.underlying36 hi0 hz0 hz1 hz2 (by kernel_rfl) (by decide) (.slice a3 k c3) k (u8s (flt SS k)) rfl (RO1.out.alloc _) ⟨Z1.heap.size, 0, none⟩ 1 1 (u8s p) rfl HMp.out (World.news_of_block (heap_alloc_new Z1 (row8 28 p))) (u8s_one _) (by omega) (by unfold maxLen; omega) (by omega) (by have := ZB1.out.size; rw [size_alloc]; omega) _ rfl ?_; intro g8 cap8 w8 ro8 gr8 wh8 lt8))
              | fail)
            rw [← u8s_append, HSF.out] at ro8
            have hb8 : Below Z.heap.size (Z1.alloc (row8 28 p)) w8 := (Below.refl _ _).grown gr8 (by rw [size_alloc]; have := ZB1.out.size; omega) (fun k hk => (RO1.out.lt k hk).1)
            have hE8 : Below Z.heap.size Z w8 := (ZB1.out.alloc ZB1.out.size _).trans hb8
            have RO8 := hide1 ro8
            have HB8 := hide1 hE8
            clear ro8 hb8 gr8 wh8 lt8 hE8
            go_wp2
            go_roundw
            case rel => exact ⟨k + 1, by omega, by omega, by go_num, ⟨_, _, rfl⟩, RO8.out, HB8.out⟩
            case measure => simp [intOf]; omega
          | true =>
            have HSF : Shy (flt SS k ++ q = flt SS (k + 1)) := ⟨HSF0.out⟩
            have hr2 := range_below HRA.out.2 zb (Nat.lt_of_lt_of_le hga HBW.out.size)
            have HR2 := hide1 hr2
            have ZBz := hide1 zb
            have HGZ := hide1 hgz
            clear hZ1 z0 zb hgz hr2
            go_upto_region 12 with (first
              | (refine wpList_load_mid rfl 28 (.tmp 57) rfl ga (ja + 32) rfl (u8s q) _ HR2.out Tryd.underlying28 rfl hiq' ?_)
              | (refine wpList_store_own rfl 28 (.tmp 12) (.tmp 58) rfl gz rfl (u8s q).toArray rfl 28 _ Z0.out hiq HZq.out (all_one (u8s_one _)) ?_)
              | fail)
            generalize hZ2 : World.setRow _ _ _ = Z2
            have z0 : Z2.heap[gz]? = some (.cells (u8s q).toArray 28 (0, 0)) := by rw [← hZ2]; exact setRow_heap _ _ _ _ _ _ Z0.out
            have zb : Below wr.heap.size wr Z2 := by rw [← hZ2]; exact Below.setRow' ZBz.out (by rw [HGZ.out]; exact Nat.le_refl _) _
            have Z0b := hide1 z0
            have RO1 := hide1 (own_below HRO.out zb)
            have ZB1 := hide1 (HE.out.trans (zb.mono HE.out.size))
            clear hZ2 z0 zb HRO HE HRA HCC HSF0 HBW Z0 HR2 ZBz HGZ hc1
            go_wp2_with (first
              | (refine wpList_load_row rfl 28 (.tmp 12) rfl gz rfl 28 (u8s q).toArray (0, 0) _ Z0b.out Tryd.underlying28 rfl hiq ?_)
              | (refine wpList_build_seed rfl (.tmp 60) rfl rfl HLq.out ?_)
              | (at_builtin; go_must (refine wpList_append_lies _ rfl (.tmp 59) (.tmp 61) 36 rfl Z.heap.size 28 i0 (arr8 (zeros 32)) 32 32 Tryd.underlying36 hi0 hz0 hz1 hz2 (by kernel_rfl) (by decide) (.slice a3 k c3) k (u8s (flt SS k)) rfl (RO1.out.alloc _) ⟨Z2.heap.size, 0, none⟩ 1 1 (u8s q) rfl HMq.out (World.news_of_block (heap_alloc_new Z2 (row8 28 q))) (u8s_one _) (by omega) (by unfold maxLen; omega) (by omega) (by have := ZB1.out.size; rw [size_alloc]; omega) _ rfl ?_; intro g8 cap8 w8 ro8 gr8 wh8 lt8))
              | fail)
            rw [← u8s_append, HSF.out] at ro8
            have hb8 : Below Z.heap.size (Z2.alloc (row8 28 q)) w8 := (Below.refl _ _).grown gr8 (by rw [size_alloc]; have := ZB1.out.size; omega) (fun k hk => (RO1.out.lt k hk).1)
            have hE8 : Below Z.heap.size Z w8 := (ZB1.out.alloc ZB1.out.size _).trans hb8
            have RO8 := hide1 ro8
            have HB8 := hide1 hE8
            clear ro8 hb8 gr8 wh8 lt8 hE8
            go_wp2
            go_roundw
            case rel => exact ⟨k + 1, by omega, by omega, by go_num, ⟨_, _, rfl⟩, RO8.out, HB8.out⟩
            case measure => simp [intOf]; omega
        · obtain rfl : k = N := by omega
          have bN : ¬ (k : Int) < (k : Int) := by omega
          have bk : (k : Int) < 60 := by omega
          have hbw := XW.out.trans (hbe.mono XW.out.size)
          have hsd := sd_own HGS.out hro
          have HSd := hide1 hsd
          have xv := (hbe.block _ (lt_heap XV.out)).trans XV.out
          have VCr : Hid (T.Vc 0 wr k av ch) := VCZ.out.below hbe (Nat.le_refl _)
          clear XV XW
          have XW := hide1 hbw
          have XV := hide1 xv
          clear VCZ
          have VCZ := VCr
          clear hro hbe hbw hsd xv HGS HSE HGP
          go_upto_region 13 with (fail)
          refine region_f (F := []) (S := fun V => Below wr.heap.size wr V) (by kernel_rfl) (Below.refl _ _).drew (fun hS => ?_)
          refine take_p 0 63 (.slice a m c) rfl rfl (by kernel_rfl) (by kernel_rfl) (by kernel_rfl) (fun _ _ _ h => h) rfl (fun w => by go_simp) ?_
          try simp only [List.setIfInBounds_toArray, List.set_cons_zero, List.set_cons_succ]
          refine take_p 2 65 (.slice a3 k c3) rfl rfl (by kernel_rfl) (by kernel_rfl) (by kernel_rfl) (fun _ _ _ h => h) rfl (fun w => by go_simp) ?_
          try simp only [List.setIfInBounds_toArray, List.set_cons_zero, List.set_cons_succ]
          refine take_f 3 66 (.agg #[.int .i64 (k : Int), .slice av (T.need k 64) (T.need k 64)]) [4, 8, 9, 10, 11, 12, 13] rfl rfl (by kernel_rfl) (by kernel_rfl) (by kernel_rfl) (by kernel_rfl) (by kernel_rfl) (by kernel_rfl) (fun _ _ _ h => h) rfl (fun w hSw => by obtain ⟨h1, h2, _⟩ := T.box2 ((hSw.block _ (lt_heap XV.out)).trans XV.out); go_simp) hS ?_
          try simp only [List.setIfInBounds_toArray, List.set_cons_zero, List.set_cons_succ]
          refine take_p 5 68 (.slice a m c) rfl rfl (by kernel_rfl) (by kernel_rfl) (by kernel_rfl) (fun _ _ _ h => h) rfl (fun w => by go_simp) ?_
          try simp only [List.setIfInBounds_toArray, List.set_cons_zero, List.set_cons_succ]
          refine take_p 6 69 (.slice a3 k c3) rfl rfl (by kernel_rfl) (by kernel_rfl) (by kernel_rfl) (fun _ _ _ h => h) rfl (fun w => by go_simp) ?_
          try simp only [List.setIfInBounds_toArray, List.set_cons_zero, List.set_cons_succ]
          refine take_p 7 70 (.slice ac k cc) rfl rfl (by kernel_rfl) (by kernel_rfl) (by kernel_rfl) (fun _ _ _ h => h) rfl (fun w => by go_simp) ?_
          try simp only [List.setIfInBounds_toArray, List.set_cons_zero, List.set_cons_succ]
          refine ready_f 1 (o := { dst := some 64, op := Op.call { callee := Callee.value (Operand.func 24), args := #[Operand.tmp 63], argTypes := #[33] }, type := 31, pos := "law.go:104", after := #[{ on := 0, ground := Ground.data }], guard := none }) (by kernel_rfl) rfl (fun K hK => ?_)
          go_simp
          refine (kP.out _ (XW.out.trans (hS.mono XW.out.size))).mono ?_
          rintro e w1 ⟨g1, d1, rfl, hp1, hb1⟩
          have hS1 := hS.trans (hb1.mono hS.size)
          refine hK.out _ _ (fun _ _ => hS1) ?_
          clear hb1
          clear hK K
          try simp only [Act.put, List.setIfInBounds_toArray, List.set_cons_zero, List.set_cons_succ]
          refine ready_f 4 (o := { dst := some 67, op := Op.call { callee := Callee.value (Operand.func 23), args := #[Operand.tmp 64, Operand.tmp 65, Operand.tmp 66], argTypes := #[31, 36, 41] }, type := 4, pos := "law.go:104", after := #[{ on := 1, ground := Ground.data }, { on := 2, ground := Ground.data }, { on := 3, ground := Ground.data }, { on := 1, ground := Ground.chain }], guard := none }) (by kernel_rfl) rfl (fun K hK => ?_)
          go_simp
          refine (chosen_any f _ ch m k k d1 c3 g1 _ av w1 hp1 (HSd.out.below hS1 (Nat.le_refl _)) (VCZ.out.below hS1 (Nat.le_refl _)) (by omega) (by omega) (by omega)).mono ?_
          rintro e w2 ⟨rfl, hb2⟩
          have hS2 := hS1.trans (hb2.mono hS1.size)
          refine hK.out _ _ (fun _ _ => hS2) ?_
          clear hb2
          clear hK K
          try simp only [Act.put, List.setIfInBounds_toArray, List.set_cons_zero, List.set_cons_succ]
          refine ready_f 8 (o := { dst := some 71, op := Op.call { callee := Callee.value (Operand.func 25), args := #[Operand.tmp 68, Operand.tmp 69, Operand.tmp 70], argTypes := #[33, 36, 53] }, type := 4, pos := "law.go:104", after := #[{ on := 5, ground := Ground.data }, { on := 6, ground := Ground.data }, { on := 7, ground := Ground.data }, { on := 4, ground := Ground.chain }], guard := none }) (by kernel_rfl) rfl (fun K hK => ?_)
          go_simp
          refine (rchosen_any f SS ch m k k c c3 cc a _ ac w2 (HP.out.below (XW.out.trans (hS2.mono XW.out.size)) (Nat.le_refl _)) (HSd.out.below hS2 (Nat.le_refl _)) (HC.out.below (XW.out.trans (hS2.mono XW.out.size)) (Nat.le_refl _)) (by omega)).mono ?_
          rintro e w3 ⟨rfl, hb3⟩
          have hS3 := hS2.trans (hb3.mono hS2.size)
          refine hK.out _ _ (fun _ _ => hS3) ?_
          clear hb3
          clear hK K
          try simp only [Act.put, List.setIfInBounds_toArray, List.set_cons_zero, List.set_cons_succ]
          generalize chs f SS ch m k k = BB
          have hbb : (BB == BB) = true := beq_self_eq_true BB
          refine take_p 9 72 (.bool true) rfl rfl (by kernel_rfl) (by kernel_rfl) (by kernel_rfl) (fun _ _ _ h => h) rfl (fun w => by go_simp) ?_
          try simp only [List.setIfInBounds_toArray, List.set_cons_zero, List.set_cons_succ]
          refine take_p 10 73 (.bool true) rfl rfl (by kernel_rfl) (by kernel_rfl) (by kernel_rfl) (fun _ _ _ h => h) rfl (fun w => by go_simp) ?_
          try simp only [List.setIfInBounds_toArray, List.set_cons_zero, List.set_cons_succ]
          refine ready_f 11 (o := { dst := some 74, op := Op.call { callee := Callee.value (Operand.func 7), args := #[], argTypes := #[] }, type := 4, pos := "law.go:104", after := #[{ on := 10, ground := Ground.chain }, { on := 10, ground := Ground.guard }], guard := some (10, true) }) (by kernel_rfl) rfl (fun K hK => ?_)
          go_simp
          refine (kA.out _ (XW.out.trans (hS3.mono XW.out.size))).mono ?_
          rintro e w4 ⟨rfl, hb4⟩
          have hS4 := hS3.trans (hb4.mono hS3.size)
          refine hK.out _ _ (fun _ _ => hS4) ?_
          clear hb4
          clear hK K
          try simp only [Act.put, List.setIfInBounds_toArray, List.set_cons_zero, List.set_cons_succ]
          refine take_p 12 75 (.bool true) rfl rfl (by kernel_rfl) (by kernel_rfl) (by kernel_rfl) (fun _ _ _ h => h) rfl (fun w => by go_simp) ?_
          try simp only [List.setIfInBounds_toArray, List.set_cons_zero, List.set_cons_succ]
          refine take_p 13 8 (.bool true) rfl rfl (by kernel_rfl) (by kernel_rfl) (by kernel_rfl) (fun _ _ _ h => h) rfl (fun w => by go_simp) ?_
          try simp only [List.setIfInBounds_toArray, List.set_cons_zero, List.set_cons_succ]
          refine done_f (by kernel_rfl) ?_ _
          have HS4 := hide1 (XW.out.trans (hS4.mono XW.out.size))
          clear hS hS1 hS2 hS3 hS4 hbb
          go_wp2
          go_ret
          exact ⟨rfl, HS4.out⟩
      · obtain rfl : k = m := by omega
        have bm : ¬ (k : Int) < (k : Int) := by omega
        have hbw := XW.out.trans (hbe.mono XW.out.size)
        have hsd := sd_own HGS.out hro
        have HSd := hide1 hsd
        have xv := (hbe.block _ (lt_heap XV.out)).trans XV.out
        have VCr : Hid (T.Vc 0 wr N av ch) := VCZ.out.below hbe (Nat.le_refl _)
        clear XV XW
        have XW := hide1 hbw
        have XV := hide1 xv
        clear VCZ
        have VCZ := VCr
        clear hro hbe hbw hsd xv HGS HSE HGP
        go_upto_region 13 with (fail)
        refine region_f (F := []) (S := fun V => Below wr.heap.size wr V) (by kernel_rfl) (Below.refl _ _).drew (fun hS => ?_)
        refine take_p 0 63 (.slice a k c) rfl rfl (by kernel_rfl) (by kernel_rfl) (by kernel_rfl) (fun _ _ _ h => h) rfl (fun w => by go_simp) ?_
        try simp only [List.setIfInBounds_toArray, List.set_cons_zero, List.set_cons_succ]
        refine take_p 2 65 (.slice a3 k c3) rfl rfl (by kernel_rfl) (by kernel_rfl) (by kernel_rfl) (fun _ _ _ h => h) rfl (fun w => by go_simp) ?_
        try simp only [List.setIfInBounds_toArray, List.set_cons_zero, List.set_cons_succ]
        refine take_f 3 66 (.agg #[.int .i64 (N : Int), .slice av (T.need N 64) (T.need N 64)]) [4, 8, 9, 10, 11, 12, 13] rfl rfl (by kernel_rfl) (by kernel_rfl) (by kernel_rfl) (by kernel_rfl) (by kernel_rfl) (by kernel_rfl) (fun _ _ _ h => h) rfl (fun w hSw => by obtain ⟨h1, h2, _⟩ := T.box2 ((hSw.block _ (lt_heap XV.out)).trans XV.out); go_simp) hS ?_
        try simp only [List.setIfInBounds_toArray, List.set_cons_zero, List.set_cons_succ]
        refine take_p 5 68 (.slice a k c) rfl rfl (by kernel_rfl) (by kernel_rfl) (by kernel_rfl) (fun _ _ _ h => h) rfl (fun w => by go_simp) ?_
        try simp only [List.setIfInBounds_toArray, List.set_cons_zero, List.set_cons_succ]
        refine take_p 6 69 (.slice a3 k c3) rfl rfl (by kernel_rfl) (by kernel_rfl) (by kernel_rfl) (fun _ _ _ h => h) rfl (fun w => by go_simp) ?_
        try simp only [List.setIfInBounds_toArray, List.set_cons_zero, List.set_cons_succ]
        refine take_p 7 70 (.slice ac N cc) rfl rfl (by kernel_rfl) (by kernel_rfl) (by kernel_rfl) (fun _ _ _ h => h) rfl (fun w => by go_simp) ?_
        try simp only [List.setIfInBounds_toArray, List.set_cons_zero, List.set_cons_succ]
        refine ready_f 1 (o := { dst := some 64, op := Op.call { callee := Callee.value (Operand.func 24), args := #[Operand.tmp 63], argTypes := #[33] }, type := 31, pos := "law.go:104", after := #[{ on := 0, ground := Ground.data }], guard := none }) (by kernel_rfl) rfl (fun K hK => ?_)
        go_simp
        refine (kP.out _ (XW.out.trans (hS.mono XW.out.size))).mono ?_
        rintro e w1 ⟨g1, d1, rfl, hp1, hb1⟩
        have hS1 := hS.trans (hb1.mono hS.size)
        refine hK.out _ _ (fun _ _ => hS1) ?_
        clear hb1
        clear hK K
        try simp only [Act.put, List.setIfInBounds_toArray, List.set_cons_zero, List.set_cons_succ]
        refine ready_f 4 (o := { dst := some 67, op := Op.call { callee := Callee.value (Operand.func 23), args := #[Operand.tmp 64, Operand.tmp 65, Operand.tmp 66], argTypes := #[31, 36, 41] }, type := 4, pos := "law.go:104", after := #[{ on := 1, ground := Ground.data }, { on := 2, ground := Ground.data }, { on := 3, ground := Ground.data }, { on := 1, ground := Ground.chain }], guard := none }) (by kernel_rfl) rfl (fun K hK => ?_)
        go_simp
        refine (chosen_any f _ ch k k N d1 c3 g1 _ av w1 hp1 (HSd.out.below hS1 (Nat.le_refl _)) (VCZ.out.below hS1 (Nat.le_refl _)) (by omega) (by omega) (by omega)).mono ?_
        rintro e w2 ⟨rfl, hb2⟩
        have hS2 := hS1.trans (hb2.mono hS1.size)
        refine hK.out _ _ (fun _ _ => hS2) ?_
        clear hb2
        clear hK K
        try simp only [Act.put, List.setIfInBounds_toArray, List.set_cons_zero, List.set_cons_succ]
        refine ready_f 8 (o := { dst := some 71, op := Op.call { callee := Callee.value (Operand.func 25), args := #[Operand.tmp 68, Operand.tmp 69, Operand.tmp 70], argTypes := #[33, 36, 53] }, type := 4, pos := "law.go:104", after := #[{ on := 5, ground := Ground.data }, { on := 6, ground := Ground.data }, { on := 7, ground := Ground.data }, { on := 4, ground := Ground.chain }], guard := none }) (by kernel_rfl) rfl (fun K hK => ?_)
        go_simp
        refine (rchosen_any f SS ch k k N c c3 cc a _ ac w2 (HP.out.below (XW.out.trans (hS2.mono XW.out.size)) (Nat.le_refl _)) (HSd.out.below hS2 (Nat.le_refl _)) (HC.out.below (XW.out.trans (hS2.mono XW.out.size)) (Nat.le_refl _)) (by omega)).mono ?_
        rintro e w3 ⟨rfl, hb3⟩
        have hS3 := hS2.trans (hb3.mono hS2.size)
        refine hK.out _ _ (fun _ _ => hS3) ?_
        clear hb3
        clear hK K
        try simp only [Act.put, List.setIfInBounds_toArray, List.set_cons_zero, List.set_cons_succ]
        generalize chs f SS ch k k N = BB
        have hbb : (BB == BB) = true := beq_self_eq_true BB
        refine take_p 9 72 (.bool true) rfl rfl (by kernel_rfl) (by kernel_rfl) (by kernel_rfl) (fun _ _ _ h => h) rfl (fun w => by go_simp) ?_
        try simp only [List.setIfInBounds_toArray, List.set_cons_zero, List.set_cons_succ]
        refine take_p 10 73 (.bool true) rfl rfl (by kernel_rfl) (by kernel_rfl) (by kernel_rfl) (fun _ _ _ h => h) rfl (fun w => by go_simp) ?_
        try simp only [List.setIfInBounds_toArray, List.set_cons_zero, List.set_cons_succ]
        refine ready_f 11 (o := { dst := some 74, op := Op.call { callee := Callee.value (Operand.func 7), args := #[], argTypes := #[] }, type := 4, pos := "law.go:104", after := #[{ on := 10, ground := Ground.chain }, { on := 10, ground := Ground.guard }], guard := some (10, true) }) (by kernel_rfl) rfl (fun K hK => ?_)
        go_simp
        refine (kA.out _ (XW.out.trans (hS3.mono XW.out.size))).mono ?_
        rintro e w4 ⟨rfl, hb4⟩
        have hS4 := hS3.trans (hb4.mono hS3.size)
        refine hK.out _ _ (fun _ _ => hS4) ?_
        clear hb4
        clear hK K
        try simp only [Act.put, List.setIfInBounds_toArray, List.set_cons_zero, List.set_cons_succ]
        refine take_p 12 75 (.bool true) rfl rfl (by kernel_rfl) (by kernel_rfl) (by kernel_rfl) (fun _ _ _ h => h) rfl (fun w => by go_simp) ?_
        try simp only [List.setIfInBounds_toArray, List.set_cons_zero, List.set_cons_succ]
        refine take_p 13 8 (.bool true) rfl rfl (by kernel_rfl) (by kernel_rfl) (by kernel_rfl) (fun _ _ _ h => h) rfl (fun w => by go_simp) ?_
        try simp only [List.setIfInBounds_toArray, List.set_cons_zero, List.set_cons_succ]
        refine done_f (by kernel_rfl) ?_ _
        have HS4 := hide1 (XW.out.trans (hS4.mono XW.out.size))
        clear hS hS1 hS2 hS3 hS4 hbb
        go_wp2
        go_ret
        exact ⟨rfl, HS4.out⟩

theorem chosens_all (f s : Nat → List Nat) (ch : List Bool) (m n N c d cc : Nat) (a b ac : Option Addr) (t : Bool) (w : World) (hL : Sh.Laid w) (hp : Pd w m a f) (hs : Sd w n b s) (hc : T.Bl w N ac ch) :
    Calls Tryd.prog 5 #[.slice a m c, .slice b n d, .slice ac N cc, .bool t] w fun e w' => e = .returned (.bool true) ∧ Below w.heap.size w w' := by
  by_cases h : 60 < m ∨ 60 < n ∨ 60 < N
  · exact chosens_else m n N c d cc a b ac t w hL h
  · exact chosens_in f s ch m n N c d cc a b ac t w hL hp hs hc (by omega) (by omega) (by omega)
end Go.Proofs.YtlkkninnfiaedaaDoor.Ro
