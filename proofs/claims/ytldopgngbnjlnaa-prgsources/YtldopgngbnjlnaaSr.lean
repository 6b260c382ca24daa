/- The walk of PrgSources. -/
import Derived.Test.YtldopgngbnjlnaaRl
namespace Go.Proofs.Ytldopgngbnjlnaa
open Go.RowKit
set_option maxRecDepth 100000
attribute [local go_sem] not_any mf_any

/- both, at any bound -/
theorem both_below (kl : List Nat) (x b d g : Nat) (Y : World) (hk : kl.length = 32) (bk : Lt 256 kl) (hx : x < 4294967296) (hb : b < 18446744073709551616) (hd : d + 64 ≤ 134217728) (h : Y.heap[g]? = some (srow true kl x d)) :
    ∃ r : Nat × Nat × Int, (d ≤ r.2.1 ∧ r.2.1 ≤ d + 64) ∧ Hid (Calls Try.prog 23 #[.pointer (some ⟨g, 0, none⟩), .int .u64 (b : Int)] Y (SPost kl x g Y r)) ∧ Hid (∀ w, Calls Try.prog 24 #[arr8 kl, .int .u32 (x : Int), .int .i64 (d : Int), .int .u64 (b : Int)] w (RPost w r)) := by
  by_cases h0 : 0 < b
  · exact ⟨siftP kl x b 64 d, siftP_told kl x b 64 d, below_any kl x b d g Y hk bk hx h0 hb hd h, fun w => rbelow_any kl x b d w hk bk hx h0 hb hd⟩
  · obtain rfl : b = 0 := by omega
    exact ⟨(0, d, 1), ⟨Nat.le_refl _, Nat.le_add_right _ _⟩, below_zero kl x d g Y h, fun w => rbelow_zero kl x d w⟩

set_option maxHeartbeats 8000000 in
theorem sources_all (W : World) (kl : List Nat) (x : Nat) (a : Option Addr) (m c : Nat) (ws : List Nat) (hk : kl.length = 32) (bk : Lt 256 kl) (hx : x < 4294967296) (hnl : V.Nl W m a ws) (hsm : Lt 18446744073709551616 ws) :
    Calls Try.prog 5 #[arr8 kl, .int .u32 (x : Int), .slice a m c] W fun e w' => e = .returned (.bool true) ∧ Below W.heap.size W w' := by
  have kn := fun w => hide1 (new_any kl x w hk)
  have HA : Shy (kl.length = 32 ∧ Lt 256 kl ∧ x < 4294967296) := ⟨⟨hk, bk, hx⟩⟩
  have HNl := hide1 hnl
  have HSm := hide1 hsm
  have Hz : Hid ((u8s kl).toArray.size = 32) := by show _ = _; simp [u8s, hk]
  have hu := Try.underlying23
  have hi : (Try.prog.info? 23).map (·.size) = some (u8s kl).toArray.size := by rw [Hz.out]; kernel_rfl
  clear hk bk hx hnl hsm
  unfold arr8 at kn ⊢
  go_enter Try.func5, Try.ntmps5
  go_upto_region 1 with (fail)
  generalize hX : World.alloc W _ = X
  have x0 : X.heap[W.heap.size]? = some (row8 23 kl) := by rw [← hX]; exact heap_alloc_new _ _
  have xb : Below W.heap.size W X := by rw [← hX]; exact (Below.refl _ _).alloc (Nat.le_refl _) _
  have X0 := hide1 x0
  have XB := hide1 xb
  clear hX x0 xb
  go_wp2_with (first | (refine wpList_load_row rfl 23 (.tmp 3) rfl W.heap.size rfl 23 (u8s kl).toArray (0, 0) _ X0.out Try.underlying23 rfl (by rw [Hz.out]; kernel_rfl) ?_) | fail)
  go_at_call 21
  refine (kn _).out.mono ?_
  rintro e w1 ⟨g, rfl, hg, hsrc, hb1⟩
  have HGN : Hid (W.heap.size < g) := Nat.lt_of_lt_of_le (lt_heap X0.out) hg
  have HGW : Hid (W.heap.size ≤ g) := Nat.le_of_lt HGN.out
  have S1 := hide1 hsrc
  have O1 := hide1 ((hb1.block _ (lt_heap X0.out)).trans X0.out)
  have B1 := hide1 (XB.out.trans (hb1.mono XB.out.size))
  clear hsrc hb1 hg kn X0 XB
  go_wp2
  go_loopw [8, 9] (fun v8 v9 wr => ∃ i d : Nat, i ≤ m ∧ i ≤ 24 ∧ d ≤ 65 * i ∧ v9 = .int .i64 i ∧ v8 = .int .i64 (d : Int) ∧ wr.heap[g]? = some (srow true kl x d) ∧ wr.heap[W.heap.size]? = some (row8 23 kl) ∧ Below W.heap.size W wr) (fun _ v9 _ => 24 - (intOf v9).toNat)
  case atStart => exact ⟨0, 0, Nat.zero_le _, Nat.zero_le _, Nat.zero_le _, rfl, rfl, S1.out, O1.out, B1.out⟩
  case round =>
    obtain ⟨i, d, him, hi24, hd, rfl, rfl, hsrc, hbox, hbel⟩ := hrel
    have HSrc := hide1 hsrc
    have HBox := hide1 hbox
    have HBel := hide1 hbel
    clear hsrc hbox hbel
    by_cases hlt : i < m ∧ i < 24
    · obtain ⟨h1, h2⟩ := hlt
      have h1i : (i : Int) < (m : Int) := by omega
      have h2i : (i : Int) < 24 := by omega
      obtain ⟨b, hb⟩ : ∃ b, ws[i]? = some b := ⟨_, List.getElem?_eq_getElem (by rw [HNl.out.len]; exact h1)⟩
      have hbl : b < 18446744073709551616 := HSm.out b (List.mem_of_getElem? hb)
      obtain ⟨gb, ob, rfl, _⟩ := HNl.out.at' i b hb
      have HCell : Shy (∀ Y, Below W.heap.size W Y → Y.cell? ⟨gb, ob + i, none⟩ = some (.int .u64 (b : Int))) := ⟨fun Y hY => by
        obtain ⟨gb', ob', he, hc⟩ := (HNl.out.below hY (Nat.le_refl _)).at' i b hb
        cases he
        exact hc⟩
      obtain ⟨q, hq⟩ : ∃ q, q = i % 3 := ⟨_, rfl⟩
      have eq1 : (i : Int) % 3 = (q : Int) := by omega
      have eq2 : Int.tmod (i : Int) 3 = (q : Int) := by rw [Int.tmod_eq_emod_of_nonneg (by omega), eq1]
      have hd2 : d ≤ 1560 := by omega
      clear hb hq
      by_cases hq2 : q = 2
      · subst hq2
        obtain ⟨d1, hd1⟩ : ∃ v, v = d + 1 := ⟨_, rfl⟩
        have HDd : Shy (d1 ≤ 65 * i + 1 ∧ i < 24) := ⟨by omega⟩
        have ed : (d : Int) + 1 = (d1 : Int) := by omega
        have bd : (d1 : Int) ≤ 2000 := by omega
        have kx := hide1 (next_any kl x d g wr HA.out.1 HA.out.2.1 HA.out.2.2 (by omega) HSrc.out)
        have kw := fun w => hide1 (rwords_yes kl x d 1 w HA.out.1 HA.out.2.1 HA.out.2.2 (by omega) (by omega))
        have HW : Shy ((wrd kl x d 1)[0]? = some (wd kl x d) ∧ (wrd kl x d 1).length = 1) := ⟨⟨rfl, rfl⟩⟩
        rw [← hd1] at kx
        generalize wrd kl x d 1 = wl at *
        generalize wd kl x d = u at *
        unfold arr8 at kw
        clear hd1
        go_wp2_with fail
        go_at_call 22
        refine kx.out.mono ?_
        rintro e wa ⟨rfl, hrowa, hbuta⟩
        have HBelA := hide1 (hbuta.below HBel.out HGW.out HBel.out.size)
        have HBoxA : Hid (wa.heap[W.heap.size]? = some (row8 23 kl)) := (hbuta.block _ (lt_heap HBox.out) (by have := HGN.out; omega)).trans HBox.out
        have HSrcA := hide1 hrowa
        clear hrowa hbuta kx HSrc HBox HBel
        go_wp2_with (first | (refine wpList_load_row rfl 23 (.tmp 3) rfl W.heap.size rfl 23 (u8s kl).toArray (0, 0) _ HBoxA.out Try.underlying23 rfl (by rw [Hz.out]; kernel_rfl) ?_) | fail)
        go_at_call 13
        refine (kw _).out.mono ?_
        rintro e wb ⟨al, ml, cl, rfl, hnlb, _, hbb⟩
        obtain ⟨gl, ol, rfl, hcl⟩ := hnlb.at' 0 u HW.out.1
        obtain rfl : ml = 1 := by rw [← hnlb.len, HW.out.2]
        have cwl : wb.cell? ⟨gl, ol, none⟩ = some (.int .u64 (u : Int)) := hcl
        have HBel := hide1 (HBelA.out.trans (hbb.mono HBelA.out.size))
        have HBox := hide1 ((hbb.block _ (lt_heap HBoxA.out)).trans HBoxA.out)
        have HSrc := hide1 ((hbb.block _ (lt_heap HSrcA.out)).trans HSrcA.out)
        clear hnlb hcl hbb kw HBelA HBoxA HSrcA
        obtain ⟨r, hr, kB, kR⟩ := both_below kl x b d1 g wb HA.out.1 HA.out.2.1 HA.out.2.2 hbl (by have := HDd.out; omega) HSrc.out
        obtain ⟨v, t2, code⟩ := r
        have HT2 : Shy (d1 ≤ t2 ∧ t2 ≤ d1 + 64) := ⟨hr⟩
        clear hr
        unfold arr8 at kR
        have cb := HCell.out wb HBel.out
        go_wp2_with fail
        go_at_call 23
        refine kB.out.mono ?_
        rintro e Y1 ⟨rfl, hrow1, hbut1⟩
        have HBel1 := hide1 (hbut1.below HBel.out HGW.out HBel.out.size)
        have hbox1 : Y1.heap[W.heap.size]? = some (row8 23 kl) := (hbut1.block _ (lt_heap HBox.out) (by have := HGN.out; omega)).trans HBox.out
        have HSrc1 := hide1 hrow1
        have cb1 := HCell.out Y1 HBel1.out
        clear cb kB hrow1 hbut1 HSrc HBel HBox
        go_upto_region 13 with (fail)
        refine region_f (F := []) (S := fun w' => w'.heap[W.heap.size]? = some (row8 23 kl) ∧ w'.cell? ⟨gb, ob + i, none⟩ = some (.int .u64 (b : Int))) (by kernel_rfl) ⟨hbox1, cb1⟩ (fun hS => ?_)
        clear hbox1 cb1
        refine take_f 0 72 (.agg (u8s kl).toArray) [7, 8, 9, 10, 11, 12, 13, 14] rfl rfl (by kernel_rfl) (by kernel_rfl) (by kernel_rfl) (by kernel_rfl) (by kernel_rfl) (by kernel_rfl) (fun _ _ _ h => h) rfl (fun w hSw => by exact exec_load_row 23 (.tmp 3) rfl _ rfl 23 _ _ _ hSw.1 hu hi) hS ?_
        try simp only [List.setIfInBounds_toArray, List.set_cons_zero, List.set_cons_succ]
        refine take_p 1 73 (.int .u32 (x : Int)) rfl rfl (by kernel_rfl) (by kernel_rfl) (by kernel_rfl) (fun _ _ _ h => h) rfl (fun w => by go_simp) ?_
        try simp only [List.setIfInBounds_toArray, List.set_cons_zero, List.set_cons_succ]
        refine take_p 2 74 (.int .i64 (d1 : Int)) rfl rfl (by kernel_rfl) (by kernel_rfl) (by kernel_rfl) (fun _ _ _ h => h) rfl (fun w => by go_simp) ?_
        try simp only [List.setIfInBounds_toArray, List.set_cons_zero, List.set_cons_succ]
        refine take_p 3 75 (.slice (some ⟨gb, ob, none⟩) m c) rfl rfl (by kernel_rfl) (by kernel_rfl) (by kernel_rfl) (fun _ _ _ h => h) rfl (fun w => by go_simp) ?_
        try simp only [List.setIfInBounds_toArray, List.set_cons_zero, List.set_cons_succ]
        refine take_p 4 76 (.int .i64 (i : Int)) rfl rfl (by kernel_rfl) (by kernel_rfl) (by kernel_rfl) (fun _ _ _ h => h) rfl (fun w => by go_simp) ?_
        try simp only [List.setIfInBounds_toArray, List.set_cons_zero, List.set_cons_succ]
        refine take_p 5 77 (.pointer (some ⟨gb, ob + i, none⟩)) rfl rfl (by kernel_rfl) (by kernel_rfl) (by kernel_rfl) (fun _ _ _ h => h) rfl (fun w => by go_simp) ?_
        try simp only [List.setIfInBounds_toArray, List.set_cons_zero, List.set_cons_succ]
        refine take_f 6 78 (.int .u64 (b : Int)) [7, 8, 9, 10, 11, 12, 13, 14] rfl rfl (by kernel_rfl) (by kernel_rfl) (by kernel_rfl) (by kernel_rfl) (by kernel_rfl) (by kernel_rfl) (fun _ _ _ h => h) rfl (fun w hSw => by have h1 := hSw.2; clear hSw; go_simp) hS ?_
        try simp only [List.setIfInBounds_toArray, List.set_cons_zero, List.set_cons_succ]
        refine ready_f 7 (o := { dst := some 79, op := Op.call { callee := Callee.value (Operand.func 24), args := #[Operand.tmp 72, Operand.tmp 73, Operand.tmp 74, Operand.tmp 78], argTypes := #[23, 24, 3, 47] }, type := 55, pos := "law.go:47", after := #[{ on := 0, ground := Ground.data }, { on := 1, ground := Ground.data }, { on := 2, ground := Ground.data }, { on := 6, ground := Ground.data }], guard := none }) (by kernel_rfl) rfl (fun K hK => ?_)
        go_simp
        refine (kR.out _).mono ?_
        rintro e Y2 ⟨rfl, hb2⟩
        have hS2 := (hb2.block _ (lt_heap hS.1)).trans hS.1
        have hS3 := (hb2.cell (lt_cell hS.2)).trans hS.2
        refine hK.out _ _ (fun _ _ => ⟨hS2, hS3⟩) ?_
        clear hK K
        refine take_p 8 71 (.tuple #[.int .u64 (v : Int), .int .i64 (t2 : Int), .int .i64 code]) rfl rfl (by kernel_rfl) (by kernel_rfl) (by kernel_rfl) (fun _ _ _ h => h) rfl (fun w => by go_simp) ?_
        try simp only [List.setIfInBounds_toArray, List.set_cons_zero, List.set_cons_succ]
        refine take_p 9 80 (.int .u64 (v : Int)) rfl rfl (by kernel_rfl) (by kernel_rfl) (by kernel_rfl) (fun _ _ _ h => h) rfl (fun w => by go_simp) ?_
        try simp only [List.setIfInBounds_toArray, List.set_cons_zero, List.set_cons_succ]
        refine take_p 10 81 (.int .i64 (t2 : Int)) rfl rfl (by kernel_rfl) (by kernel_rfl) (by kernel_rfl) (fun _ _ _ h => h) rfl (fun w => by go_simp) ?_
        try simp only [List.setIfInBounds_toArray, List.set_cons_zero, List.set_cons_succ]
        refine take_p 11 82 (.int .i64 code) rfl rfl (by kernel_rfl) (by kernel_rfl) (by kernel_rfl) (fun _ _ _ h => h) rfl (fun w => by go_simp) ?_
        try simp only [List.setIfInBounds_toArray, List.set_cons_zero, List.set_cons_succ]
        refine take_p 12 16 (.int .u64 (v : Int)) rfl rfl (by kernel_rfl) (by kernel_rfl) (by kernel_rfl) (fun _ _ _ h => h) rfl (fun w => by go_simp) ?_
        try simp only [List.setIfInBounds_toArray, List.set_cons_zero, List.set_cons_succ]
        refine take_p 13 17 (.int .i64 (t2 : Int)) rfl rfl (by kernel_rfl) (by kernel_rfl) (by kernel_rfl) (fun _ _ _ h => h) rfl (fun w => by go_simp) ?_
        try simp only [List.setIfInBounds_toArray, List.set_cons_zero, List.set_cons_succ]
        refine take_p 14 18 (.int .i64 code) rfl rfl (by kernel_rfl) (by kernel_rfl) (by kernel_rfl) (fun _ _ _ h => h) rfl (fun w => by go_simp) ?_
        try simp only [List.setIfInBounds_toArray, List.set_cons_zero, List.set_cons_succ]
        refine done_f (by kernel_rfl) ?_ _
        have HSrc2 := hide1 ((hb2.block _ (lt_heap HSrc1.out)).trans HSrc1.out)
        have HBel2 := hide1 (HBel1.out.drew.trans (hb2.mono HBel1.out.size))
        have HBox2 := hide1 hS2
        have kA := hide1 (at_any kl x t2 g Y2 HA.out.1 HSrc2.out)
        clear hb2 hS hS2 hS3 kR HSrc1 HBel1
        go_wp2_with (go_at_call 25; refine kA.out.mono ?_; rintro e w' ⟨rfl, hw⟩; cases hw)
        go_roundw
        case rel => exact ⟨i + 1, t2, by omega, by omega, by have h1 := HDd.out; have h2 := HT2.out; omega, by go_num, rfl, HSrc2.out, HBox2.out, HBel2.out⟩
        case measure => simp [intOf]; omega
      · have hq3 : ((q : Int) == 2) = false := by rw [beq_eq_false_iff_ne]; omega
        have HDd : Shy (d ≤ 65 * i + 1 ∧ i < 24) := ⟨by omega⟩
        obtain ⟨r, hr, kB, kR⟩ := both_below kl x b d g wr HA.out.1 HA.out.2.1 HA.out.2.2 hbl (by have := HDd.out; omega) HSrc.out
        obtain ⟨v, t2, code⟩ := r
        have HT2 : Shy (d ≤ t2 ∧ t2 ≤ d + 64) := ⟨hr⟩
        clear hr
        unfold arr8 at kR
        have cb := HCell.out wr HBel.out
        go_wp2_with fail
        go_at_call 23
        refine kB.out.mono ?_
        rintro e Y1 ⟨rfl, hrow1, hbut1⟩
        have HBel1 := hide1 (hbut1.below HBel.out HGW.out HBel.out.size)
        have hbox1 : Y1.heap[W.heap.size]? = some (row8 23 kl) := (hbut1.block _ (lt_heap HBox.out) (by have := HGN.out; omega)).trans HBox.out
        have HSrc1 := hide1 hrow1
        have cb1 := HCell.out Y1 HBel1.out
        clear cb kB hrow1 hbut1 HSrc HBel HBox
        go_upto_region 13 with (fail)
        refine region_f (F := []) (S := fun w' => w'.heap[W.heap.size]? = some (row8 23 kl) ∧ w'.cell? ⟨gb, ob + i, none⟩ = some (.int .u64 (b : Int))) (by kernel_rfl) ⟨hbox1, cb1⟩ (fun hS => ?_)
        clear hbox1 cb1
        refine take_f 0 72 (.agg (u8s kl).toArray) [7, 8, 9, 10, 11, 12, 13, 14] rfl rfl (by kernel_rfl) (by kernel_rfl) (by kernel_rfl) (by kernel_rfl) (by kernel_rfl) (by kernel_rfl) (fun _ _ _ h => h) rfl (fun w hSw => by exact exec_load_row 23 (.tmp 3) rfl _ rfl 23 _ _ _ hSw.1 hu hi) hS ?_
        try simp only [List.setIfInBounds_toArray, List.set_cons_zero, List.set_cons_succ]
        refine take_p 1 73 (.int .u32 (x : Int)) rfl rfl (by kernel_rfl) (by kernel_rfl) (by kernel_rfl) (fun _ _ _ h => h) rfl (fun w => by go_simp) ?_
        try simp only [List.setIfInBounds_toArray, List.set_cons_zero, List.set_cons_succ]
        refine take_p 2 74 (.int .i64 (d : Int)) rfl rfl (by kernel_rfl) (by kernel_rfl) (by kernel_rfl) (fun _ _ _ h => h) rfl (fun w => by go_simp) ?_
        try simp only [List.setIfInBounds_toArray, List.set_cons_zero, List.set_cons_succ]
        refine take_p 3 75 (.slice (some ⟨gb, ob, none⟩) m c) rfl rfl (by kernel_rfl) (by kernel_rfl) (by kernel_rfl) (fun _ _ _ h => h) rfl (fun w => by go_simp) ?_
        try simp only [List.setIfInBounds_toArray, List.set_cons_zero, List.set_cons_succ]
        refine take_p 4 76 (.int .i64 (i : Int)) rfl rfl (by kernel_rfl) (by kernel_rfl) (by kernel_rfl) (fun _ _ _ h => h) rfl (fun w => by go_simp) ?_
        try simp only [List.setIfInBounds_toArray, List.set_cons_zero, List.set_cons_succ]
        refine take_p 5 77 (.pointer (some ⟨gb, ob + i, none⟩)) rfl rfl (by kernel_rfl) (by kernel_rfl) (by kernel_rfl) (fun _ _ _ h => h) rfl (fun w => by go_simp) ?_
        try simp only [List.setIfInBounds_toArray, List.set_cons_zero, List.set_cons_succ]
        refine take_f 6 78 (.int .u64 (b : Int)) [7, 8, 9, 10, 11, 12, 13, 14] rfl rfl (by kernel_rfl) (by kernel_rfl) (by kernel_rfl) (by kernel_rfl) (by kernel_rfl) (by kernel_rfl) (fun _ _ _ h => h) rfl (fun w hSw => by have h1 := hSw.2; clear hSw; go_simp) hS ?_
        try simp only [List.setIfInBounds_toArray, List.set_cons_zero, List.set_cons_succ]
        refine ready_f 7 (o := { dst := some 79, op := Op.call { callee := Callee.value (Operand.func 24), args := #[Operand.tmp 72, Operand.tmp 73, Operand.tmp 74, Operand.tmp 78], argTypes := #[23, 24, 3, 47] }, type := 55, pos := "law.go:47", after := #[{ on := 0, ground := Ground.data }, { on := 1, ground := Ground.data }, { on := 2, ground := Ground.data }, { on := 6, ground := Ground.data }], guard := none }) (by kernel_rfl) rfl (fun K hK => ?_)
        go_simp
        refine (kR.out _).mono ?_
        rintro e Y2 ⟨rfl, hb2⟩
        have hS2 := (hb2.block _ (lt_heap hS.1)).trans hS.1
        have hS3 := (hb2.cell (lt_cell hS.2)).trans hS.2
        refine hK.out _ _ (fun _ _ => ⟨hS2, hS3⟩) ?_
        clear hK K
        refine take_p 8 71 (.tuple #[.int .u64 (v : Int), .int .i64 (t2 : Int), .int .i64 code]) rfl rfl (by kernel_rfl) (by kernel_rfl) (by kernel_rfl) (fun _ _ _ h => h) rfl (fun w => by go_simp) ?_
        try simp only [List.setIfInBounds_toArray, List.set_cons_zero, List.set_cons_succ]
        refine take_p 9 80 (.int .u64 (v : Int)) rfl rfl (by kernel_rfl) (by kernel_rfl) (by kernel_rfl) (fun _ _ _ h => h) rfl (fun w => by go_simp) ?_
        try simp only [List.setIfInBounds_toArray, List.set_cons_zero, List.set_cons_succ]
        refine take_p 10 81 (.int .i64 (t2 : Int)) rfl rfl (by kernel_rfl) (by kernel_rfl) (by kernel_rfl) (fun _ _ _ h => h) rfl (fun w => by go_simp) ?_
        try simp only [List.setIfInBounds_toArray, List.set_cons_zero, List.set_cons_succ]
        refine take_p 11 82 (.int .i64 code) rfl rfl (by kernel_rfl) (by kernel_rfl) (by kernel_rfl) (fun _ _ _ h => h) rfl (fun w => by go_simp) ?_
        try simp only [List.setIfInBounds_toArray, List.set_cons_zero, List.set_cons_succ]
        refine take_p 12 16 (.int .u64 (v : Int)) rfl rfl (by kernel_rfl) (by kernel_rfl) (by kernel_rfl) (fun _ _ _ h => h) rfl (fun w => by go_simp) ?_
        try simp only [List.setIfInBounds_toArray, List.set_cons_zero, List.set_cons_succ]
        refine take_p 13 17 (.int .i64 (t2 : Int)) rfl rfl (by kernel_rfl) (by kernel_rfl) (by kernel_rfl) (fun _ _ _ h => h) rfl (fun w => by go_simp) ?_
        try simp only [List.setIfInBounds_toArray, List.set_cons_zero, List.set_cons_succ]
        refine take_p 14 18 (.int .i64 code) rfl rfl (by kernel_rfl) (by kernel_rfl) (by kernel_rfl) (fun _ _ _ h => h) rfl (fun w => by go_simp) ?_
        try simp only [List.setIfInBounds_toArray, List.set_cons_zero, List.set_cons_succ]
        refine done_f (by kernel_rfl) ?_ _
        have HSrc2 := hide1 ((hb2.block _ (lt_heap HSrc1.out)).trans HSrc1.out)
        have HBel2 := hide1 (HBel1.out.drew.trans (hb2.mono HBel1.out.size))
        have HBox2 := hide1 hS2
        have kA := hide1 (at_any kl x t2 g Y2 HA.out.1 HSrc2.out)
        clear hb2 hS hS2 hS3 kR HSrc1 HBel1
        go_wp2_with (go_at_call 25; refine kA.out.mono ?_; rintro e w' ⟨rfl, hw⟩; cases hw)
        go_roundw
        case rel => exact ⟨i + 1, t2, by omega, by omega, by have h1 := HDd.out; have h2 := HT2.out; omega, by go_num, rfl, HSrc2.out, HBox2.out, HBel2.out⟩
        case measure => simp [intOf]; omega
    · have HF := HBel
      by_cases h1 : i < m
      · have h1i : (i : Int) < (m : Int) := by omega
        have h2i : decide ((i : Int) < 24) = false := by rw [decide_eq_false_iff_not]; omega
        go_wp2_with (go_at_call 9; refine (awake_any _).mono ?_; rintro e w' ⟨rfl, hw⟩; cases hw)
        go_ret
        exact ⟨rfl, HF.out⟩
      · have h1i : decide ((i : Int) < (m : Int)) = false := by rw [decide_eq_false_iff_not]; omega
        have h1n : decide (i < m) = false := by rw [decide_eq_false_iff_not]; omega
        go_wp2_with (go_at_call 9; refine (awake_any _).mono ?_; rintro e w' ⟨rfl, hw⟩; cases hw)
        go_ret
        exact ⟨rfl, HF.out⟩
end Go.Proofs.Ytldopgngbnjlnaa
