/- The document's Send. The document's plain frame. -/
import Derived.Test.YtcadlcpccemkbaaGreatDoorMXjDm
namespace Go.Proofs.YtcadlcpccemkbaaGreatDoor
open Go.RowKit
set_option maxRecDepth 100000
attribute [local go_sem] not_any

theorem Lst.empty0 {B : Nat} {w : World} (hB : B ≤ w.heap.size) : Lst B (w.alloc (.cells #[] 9)) (.slice (some ⟨w.heap.size, 0, none⟩) 0 0) [] :=
  ⟨rfl, .inr ⟨w.heap.size, 0, #[], rfl, hB, heap_alloc_new _ _, Nat.le_refl _, Nat.zero_le _, rfl, rfl⟩⟩

set_option maxHeartbeats 2000000 in
theorem rsend_ok (x : Ls) (LL : List ByteArray) (LLv hv lv : Value) (b : ByteArray) (w : World) (h : Rf x LL LLv hv lv w) (hc : x.sendC b = 0) :
    Calls Tryz.prog 26 #[rv x LLv hv lv, .string b] w fun e w' => ∃ lv', e = .returned (.tuple #[rv (x.send b) LLv hv lv', .int .i64 0]) ∧ Rfp x LL LLv hv lv w (x.send b) LL LLv hv lv' w' := by
  obtain ⟨h1, h2, h3⟩ := Ls.send_ok hc
  have es : x.send b = { x with Q := x.Q ++ [b] } := by rw [Ls.send, if_pos hc]
  rw [es]
  obtain ⟨la, lc, hlv, _⟩ := h.ql
  obtain ⟨ba, bc, hbv, _⟩ := h.ll
  obtain ⟨ha, hac, hhv, _⟩ := h.hl
  have HR := hide1 h
  unfold rv rcs
  obtain ⟨q, hq⟩ : ∃ q, x.Q.length = q := ⟨_, rfl⟩
  obtain ⟨bn, hbn⟩ : ∃ q, LL.length = q := ⟨_, rfl⟩
  obtain ⟨hn, hhn⟩ : ∃ q, x.l.length = q := ⟨_, rfl⟩
  rw [hq] at hlv h3
  rw [hbn] at hbv
  rw [hhn] at hhv
  subst hlv hbv hhv
  have H1 := hide1 h1
  have HQ := hide1 hq
  have h2i : ¬ (65536 : Int) < (b.size : Int) := by omega
  have h3i : ¬ (64 : Int) ≤ (q : Int) := by omega
  have HQ3 := hide1 h3
  clear hq h hbn hhn hc es h1 h2 h3
  obtain ⟨P, hP⟩ : ∃ P : Value → World → Prop, P = fun lv' w' => Rfp x LL (.slice ba bn bc) (.slice ha hn hac) (.slice la q lc) w { x with Q := x.Q ++ [b] } LL (.slice ba bn bc) (.slice ha hn hac) lv' w' := ⟨_, rfl⟩
  have HP : Hid (∀ lv' w', Lst w.heap.size w' lv' (x.Q ++ [b]) → Below w.heap.size w w' → P lv' w') := fun lv' w' hL hb => by
    rw [hP]
    have hr := HR.out.below hb
    refine ⟨⟨hr.ll, hr.hl, hL.rd, hr.le, hr.eq, hr.mx, hr.sz, hL.cp⟩, hb, fun g hg => ?_⟩
    rcases hg with hg | hg | ⟨_, hg⟩
    · exact .inl (.inl hg)
    · exact .inl (.inr (.inl hg))
    · exact .inr (hL.lt hg).1
  suffices hs : Calls Tryz.prog 26 #[.agg #[.int .u32 (x.own : Int), .int .u32 (x.peer : Int), .bool true, .int .i64 0, .slice ba bn bc, .int .i64 (x.k : Int), .int .i64 ((x.a : Int) + 1), .slice ha hn hac, .slice la q lc, .bool x.owed], .string b] w fun e w' => ∃ lv', e = .returned (.tuple #[.agg #[.int .u32 (x.own : Int), .int .u32 (x.peer : Int), .bool true, .int .i64 0, .slice ba bn bc, .int .i64 (x.k : Int), .int .i64 ((x.a : Int) + 1), .slice ha hn hac, lv', .bool x.owed], .int .i64 0]) ∧ P lv' w' by
    rw [hP] at hs
    rw [← H1.out] at hs
    exact hs
  clear hP H1
  have HRQ := hide1 HR.out.ql
  clear HR
  generalize (x.own : Int) = io at *
  generalize (x.peer : Int) = ip at *
  generalize (x.k : Int) = ik at *
  generalize (x.a : Int) + 1 = ia at *
  generalize x.owed = iw at *
  go_enter Tryz.func26, Tryz.ntmps26
  go_upto_region 1 with (fail)
  generalize hX : World.alloc (World.alloc w _) _ = WX
  have HX : Hid (Below w.heap.size w WX) := by rw [← hX]; exact ((Below.refl _ _).alloc (Nat.le_refl _) _).alloc (by simp) _
  have R2 := hide1 (hX ▸ heap_alloc2_old w _ _)
  have R4 := hide1 (hX ▸ heap_alloc2_new w _ _)
  obtain ⟨g2, hg2⟩ : ∃ b, w.heap.size = b := ⟨_, rfl⟩
  obtain ⟨g4, hg4⟩ : ∃ b, w.heap.size + 1 = b := ⟨_, rfl⟩
  have HG : Hid (w.heap.size ≤ g4 ∧ w.heap.size ≤ g2 ∧ g2 < g4) := ⟨by omega, by omega, by omega⟩
  rw [hg4] at R4 ⊢
  rw [hg2] at R2 ⊢
  clear hX hg2 hg4
  obtain ⟨⟨c0, c1, c2, c3, c4⟩, ⟨c5, c6, c7, c8, c9⟩, _, _⟩ := box10 R2.out
  go_upto_region 7 with (fail)
  have OE := hide1 (Lst.empty0 (B := w.heap.size) (w := WX) HX.out.size)
  have RQ : Hid (Rdl (WX.alloc (.cells #[] 9)) (.slice la q lc) x.Q) := (HRQ.out.below HX.out (Nat.le_refl _)).below (below1 _) (Nat.le_refl _)
  have BE : Hid (Below w.heap.size w (WX.alloc (.cells #[] 9))) := HX.out.alloc HX.out.size _
  have KE : Hid (Below WX.heap.size WX (WX.alloc (.cells #[] 9))) := below1 _
  go_upto_region 8 with (at_builtin; go_must (first
    | (refine wpList_append_lst (B := w.heap.size) (A := []) (C := x.Q) rfl _ _ rfl rfl rfl OE.out RQ.out (by have := HQ.out; have := HQ3.out; simp; omega) BE.out.size ?_; intro v1 W1 ho hg hf; rw [List.nil_append] at ho
       have HO1 := hide1 ho
       have HG1 := hide1 hg
       have HF1 := hide1 hf
       have BW1 : Hid (Below w.heap.size w (W1.alloc (.cells #[.string b] 9))) := (BE.out.grown hg BE.out.size (fun k hk => (OE.out.lt hk).1)).alloc (Nat.le_trans BE.out.size hg.size) _
       have LO1 := hide1 (ho.below (below1 (.cells #[.string b] 9)) (Nat.le_refl _))
       have RC := hide1 (Rdl.one W1 b)
       obtain ⟨a1, m1, hv1⟩ := ho.form
       rw [HQ.out] at hv1
       subst hv1
       clear ho hg hf)
    | (refine wpList_append_lst (B := w.heap.size) (A := x.Q) (C := [b]) rfl _ _ rfl rfl rfl LO1.out RC.out (by have := HQ.out; have := HQ3.out; simp; omega) BW1.out.size ?_; intro v2 W2 ho2 hg2 hf2
       have HO2 := hide1 ho2
       have BW2 : Hid (Below w.heap.size w W2) := BW1.out.grown hg2 BW1.out.size (fun k hk => (HO1.out.lt hk).1)
       have K12 : Hid (∀ g, g < WX.heap.size → W2.heap[g]? = WX.heap[g]?) := fun g hg => by
         have e1 : (WX.alloc (.cells #[] 9)).heap[g]? = WX.heap[g]? := KE.out.block g hg
         have e2 : W1.heap[g]? = (WX.alloc (.cells #[] 9)).heap[g]? := HG1.out.block g (by have := KE.out.size; omega) (fun e => by cases e; exact Nat.lt_irrefl _ hg)
         have e3 : (W1.alloc (.cells #[.string b] 9)).heap[g]? = W1.heap[g]? := (below1 _).block g (by have := KE.out.size; have := HG1.out.size; omega)
         have e4 : W2.heap[g]? = (W1.alloc (.cells #[.string b] 9)).heap[g]? := hg2.block g (by have h5 := KE.out.size; have h6 := HG1.out.size; have h7 := (below1 (w := W1) (.cells #[.string b] 9)).size; omega) (fun e => by
           rcases HF1.out g e.symm with h9 | h9
           · cases h9
             exact Nat.lt_irrefl _ hg
           · have := KE.out.size
             omega)
         exact e4.trans (e3.trans (e2.trans e1))
       have HNW : ∀ g, v2.ownBlock = some g → WX.heap.size ≤ g := fun g e => by
         rcases hf2 g e with h9 | h9
         · rcases HF1.out g h9 with h8 | h8
           · cases h8
             exact Nat.le_refl _
           · have := KE.out.size
             omega
         · have h5 := KE.out.size
           have h6 := HG1.out.size
           have h7 := (below1 (w := W1) (.cells #[.string b] 9)).size
           omega
       have HNE : Hid (∀ g, v2.ownBlock = some g → ¬ g = g2) := fun g e e' => by have h1 := HNW g e; have h2 := lt_heap R2.out; omega
       have HN4 : Hid (∀ g, v2.ownBlock = some g → ¬ g = g4) := fun g e e' => by have h1 := HNW g e; have h2 := lt_heap R4.out; omega
       clear HNW
       obtain ⟨a2, m2, hv2⟩ := ho2.form
       obtain ⟨n2, hn2⟩ : ∃ n, (x.Q ++ [b]).length = n := ⟨_, rfl⟩
       rw [hn2] at hv2
       subst hv2
       have R2b := (K12.out g2 (lt_heap R2.out)).trans R2.out
       have R4b := hide1 ((K12.out g4 (lt_heap R4.out)).trans R4.out)
       have R2c : Hid ((W2.setCell ⟨g2, 8, none⟩ (.slice a2 n2 m2)).heap[g2]? = some (.cells #[.int .u32 io, .int .u32 ip, .bool true, .int .i64 0, .slice ba bn bc, .int .i64 ik, .int .i64 ia, .slice ha hn hac, .slice a2 n2 m2, .bool iw] 39 (0, 0))) := by unfold Hid; rw [heap_setCell_same _ g2 8 _ _ _ R2b]; rfl
       have R4c : Hid ((W2.setCell ⟨g2, 8, none⟩ (.slice a2 n2 m2)).heap[g4]? = _) := (heap_setCell_other _ _ _ _ (Nat.ne_of_gt HG.out.2.2)).trans R4b.out
       have q8 := (box10 R2b).2.1.2.2.2.1
       have f8 := (box10 R2b).2.2.1 8
       clear ho2 hg2 hf2 hn2 c0 c1 c2 c3 c4 c5 c6 c7 c8 c9)))
  have B3 : Hid (Below w.heap.size w (W2.setCell ⟨g2, 8, none⟩ (.slice a2 n2 m2))) := BW2.out.setCell (p := ⟨g2, 8, none⟩) HG.out.2.1 _
  have L3 : Hid (Lst w.heap.size (W2.setCell ⟨g2, 8, none⟩ (.slice a2 n2 m2)) (.slice a2 n2 m2) (x.Q ++ [b])) := HO2.out.kp (Kp.setCell (F := fun g => g = g2) W2 g2 8 _ rfl) HNE.out
  generalize W2.setCell ⟨g2, 8, none⟩ (.slice a2 n2 m2) = W3 at R2c R4c B3 L3 ⊢
  clear q8 f8
  obtain ⟨⟨c0, c1, c2, c3, c4⟩, ⟨c5, c6, c7, c8, c9⟩, _, _⟩ := box10 R2c.out
  go_wp2_with (refine wpList_store_row rfl 39 (.tmp 4) (.tmp 27) rfl g4 #[.int .u32 io, .int .u32 ip, .bool true, .int .i64 0, .slice ba bn bc, .int .i64 ik, .int .i64 ia, .slice ha hn hac, .slice a2 n2 m2, .bool iw] rfl rfl 39 _ R4c.out rfl (by kernel_rfl) (by kernel_rfl) ?_)
  have hk4 : Kp (fun g => g = g4) W3 (W3.setRow g4 #[.int .u32 io, .int .u32 ip, .bool true, .int .i64 0, .slice ba bn bc, .int .i64 ik, .int .i64 ia, .slice ha hn hac, .slice a2 n2 m2, .bool iw]) := ⟨rfl, rfl, rfl, by simp [World.setRow], fun g _ hg => setRow_other W3 g4 g _ hg⟩
  exact ret_l2 Tryz.results26 g4 _ _ rfl rfl rfl (setRow_heap W3 g4 _ _ _ _ R4c.out) rfl ⟨_, rfl, HP.out _ _ (L3.out.kp hk4 HN4.out) (below_setRow B3.out HG.out.1 _)⟩

end Go.Proofs.YtcadlcpccemkbaaGreatDoor

namespace Go.Proofs.YtcadlcpccemkbaaGreatDoor
open Go.RowKit
set_option maxRecDepth 100000
attribute [local go_sem] not_any

set_option maxHeartbeats 2000000 in
theorem rplain_any {N : Nat} {x : Ls} {LLv hv lv : Value} (w : World) (hx : x.Ok N) (hN : N + 1000 < 4294967296) :
    Calls Tryz.prog 55 #[rv x LLv hv lv] w fun e w' => e = .returned (.string x.pln) ∧ Below w.heap.size w w' := by
  unfold Ls.pln rv rcs
  obtain ⟨a1, ha1⟩ : ∃ a1, x.a + 1 = a1 := ⟨_, rfl⟩
  have hai : (x.a : Int) + 1 = (a1 : Int) := by omega
  have ham : IntKind.u32.wrap (a1 : Int) = (a1 : Int) := by have := hx.aN; rw [IntKind.wrap_u32]; omega
  have HAW := hide1 ham
  rw [ha1, hai]
  cases hs : x.sure with
  | false =>
    have kE := fun w => hide1 (renc_any 1 x.own x.peer 0 0 ⟨#[]⟩ w ⟨chk_hello hx.own0, hx.own, hx.peer, by decide, by decide⟩)
    rw [show (if false = true then tx 3 x.own x.peer 0 a1 ⟨#[]⟩ else tx 1 x.own x.peer 0 0 ⟨#[]⟩) = tx 1 x.own x.peer 0 0 ⟨#[]⟩ from rfl]
    generalize tx 1 x.own x.peer 0 0 ⟨#[]⟩ = T at kE ⊢
    unfold X.fra at kE
    rw [show ((1 : Nat) : Int) = 1 from rfl, show ((0 : Nat) : Int) = 0 from rfl] at kE
    clear hx hN ha1 hai ham hs
    go_enter Tryz.func55, Tryz.ntmps55
    go_upto_region 1 with (fail)
    generalize hX : World.alloc w _ = W0
    have B0 : Hid (Below w.heap.size w W0) := by rw [← hX]; exact below1 _
    have R0 := hide1 (hX ▸ heap_alloc_new w _)
    obtain ⟨g1, hg1⟩ : ∃ g, w.heap.size = g := ⟨_, rfl⟩
    rw [hg1] at R0 ⊢
    clear hX hg1
    obtain ⟨⟨c0, c1, c2, c3, c4⟩, ⟨c5, c6, c7, c8, c9⟩, _, _⟩ := box10 R0.out
    go_upto_region 2 with (fail)
    generalize hY : World.alloc W0 _ = W1
    have B1 : Hid (Below w.heap.size w W1) := by rw [← hY]; exact B0.out.alloc B0.out.size _
    have b01 : Below W0.heap.size W0 W1 := by rw [← hY]; exact below1 _
    have R1 := hide1 ((b01.block g1 (lt_heap R0.out)).trans R0.out)
    clear b01
    have F1 := hide1 (hY ▸ heap_alloc_new W0 _)
    obtain ⟨g3, hg3⟩ : ∃ g, W0.heap.size = g := ⟨_, rfl⟩
    rw [hg3] at F1 ⊢
    clear hY hg3 c0 c1 c2 c3 c4 c5 c6 c7 c8 c9
    obtain ⟨⟨c0, c1, c2, c3, c4⟩, ⟨c5, c6, c7, c8, c9⟩, _, _⟩ := box10 R1.out
    obtain ⟨d0, d1, d2, d3, d4, d5, _⟩ := X.box6 F1.out
    go_wp2_with (go_at_call 30; refine (kE _).out.mono ?_; rintro x9 W9 ⟨rfl, hb⟩)
    go_ret
    exact ⟨rfl, B1.out.trans (hb.mono B1.out.size)⟩
  | true =>
    have kE := fun w => hide1 (renc_any 3 x.own x.peer 0 a1 ⟨#[]⟩ w ⟨chk_quiet hx.own0 (hx.sp hs), hx.own, hx.peer, by decide, by have := hx.aN; omega⟩)
    rw [show (if true = true then tx 3 x.own x.peer 0 a1 ⟨#[]⟩ else tx 1 x.own x.peer 0 0 ⟨#[]⟩) = tx 3 x.own x.peer 0 a1 ⟨#[]⟩ from rfl]
    generalize tx 3 x.own x.peer 0 a1 ⟨#[]⟩ = T at kE ⊢
    unfold X.fra at kE
    rw [show ((3 : Nat) : Int) = 3 from rfl, show ((0 : Nat) : Int) = 0 from rfl] at kE
    clear hx hN ha1 hai ham hs
    go_enter Tryz.func55, Tryz.ntmps55
    go_upto_region 1 with (fail)
    generalize hX : World.alloc w _ = W0
    have B0 : Hid (Below w.heap.size w W0) := by rw [← hX]; exact below1 _
    have R0 := hide1 (hX ▸ heap_alloc_new w _)
    obtain ⟨g1, hg1⟩ : ∃ g, w.heap.size = g := ⟨_, rfl⟩
    rw [hg1] at R0 ⊢
    clear hX
    obtain ⟨⟨c0, c1, c2, c3, c4⟩, ⟨c5, c6, c7, c8, c9⟩, _, _⟩ := box10 R0.out
    go_upto_region 2 with (fail)
    generalize hY : World.alloc W0 _ = W1
    have B1 : Hid (Below w.heap.size w W1) := by rw [← hY]; exact B0.out.alloc B0.out.size _
    have b01 : Below W0.heap.size W0 W1 := by rw [← hY]; exact below1 _
    have R1 := hide1 ((b01.block g1 (lt_heap R0.out)).trans R0.out)
    clear b01
    have F1 : Hid (W1.heap[W0.heap.size]? = some (.cells #[.int .i64 1, .int .u32 (x.own : Int), .int .u32 (x.peer : Int), .int .u32 0, .int .u32 0, .string ⟨#[]⟩] 42 (0, 0))) := by rw [← hY]; exact heap_alloc_new W0 _
    obtain ⟨g3, hg3⟩ : ∃ g, W0.heap.size = g := ⟨_, rfl⟩
    have HG : Hid (g1 ≠ g3 ∧ w.heap.size ≤ g3) := ⟨by have := lt_heap R0.out; omega, by have := B0.out.size; omega⟩
    rw [hg3] at F1 ⊢
    clear hY hg3 hg1 c0 c1 c2 c3 c4 c5 c6 c7 c8 c9
    obtain ⟨⟨c0, c1, c2, c3, c4⟩, ⟨c5, c6, c7, c8, c9⟩, _, _⟩ := box10 R1.out
    have C6 := hide1 c6
    go_upto_region 3 with (fail)
    clear c0 c1 c2 c3 c4 c5 c6 c7 c8 c9
    refine region_f (F := []) (S := fun X => X.cell? ⟨g1, 6, none⟩ = some (.int .i64 (a1 : Int))) (by kernel_rfl) C6.out (fun hS => ?_)
    have BU : Hid (Below w.heap.size w (World.drew W1)) := B1.out.drew
    have FU : Hid ((World.drew W1).heap[g3]? = some (.cells #[.int .i64 1, .int .u32 (x.own : Int), .int .u32 (x.peer : Int), .int .u32 0, .int .u32 0, .string ⟨#[]⟩] 42 (0, 0))) := F1.out
    generalize World.drew W1 = WU at hS BU FU ⊢
    refine take_p 0 13 (.pointer (some ⟨g1, 6, none⟩)) rfl rfl (by kernel_rfl) (by kernel_rfl) (by kernel_rfl) (fun _ _ _ h => h) rfl (fun w => by go_simp) ?_
    try simp only [List.setIfInBounds_toArray, List.set_cons_zero, List.set_cons_succ]
    refine take_p 1 14 (.pointer (some ⟨g1, 6, none⟩)) rfl rfl (by kernel_rfl) (by kernel_rfl) (by kernel_rfl) (fun _ _ _ h => h) rfl (fun w => by go_simp) ?_
    try simp only [List.setIfInBounds_toArray, List.set_cons_zero, List.set_cons_succ]
    refine take_f 2 15 (.int .i64 (a1 : Int)) [3, 6, 7] rfl rfl (by kernel_rfl) (by kernel_rfl) (by kernel_rfl) (by kernel_rfl) (by kernel_rfl) (by kernel_rfl) (fun _ _ _ h => h) rfl (fun w hSw => by have g0 := hSw; go_simp) hS ?_
    try simp only [List.setIfInBounds_toArray, List.set_cons_zero, List.set_cons_succ]
    refine take_p 3 16 (.int .u32 (a1 : Int)) rfl rfl (by kernel_rfl) (by kernel_rfl) (by kernel_rfl) (fun _ _ _ h => h) rfl (fun w => by have h9 := HAW.out; go_simp) ?_
    try simp only [List.setIfInBounds_toArray, List.set_cons_zero, List.set_cons_succ]
    refine take_p 4 17 (.pointer (some ⟨g3, 0, none⟩)) rfl rfl (by kernel_rfl) (by kernel_rfl) (by kernel_rfl) (fun _ _ _ h => h) rfl (fun w => by go_simp) ?_
    try simp only [List.setIfInBounds_toArray, List.set_cons_zero, List.set_cons_succ]
    have q0 := frozen_of_row WU g3 0 _ _ FU.out
    have e0 := (X.box6 FU.out).1
    refine ready_f 5 (o := { dst := none, op := Op.store 3 (Operand.tmp 17) (Operand.const (Value.int IntKind.i64 3)), type := 0, pos := "ref.go:87", after := #[{ on := 4, ground := Ground.data }, { on := 0, ground := Ground.textOnly Departure.lateStores }, { on := 1, ground := Ground.textOnly Departure.lateStores }, { on := 2, ground := Ground.textOnly Departure.lateStores }, { on := 3, ground := Ground.textOnly Departure.lateStores }], guard := none }) (by kernel_rfl) rfl (fun K hK => ?_)
    go_simp
    refine hK.out _ _ (fun _ h => (World.cell?_of_block (a := ⟨g1, 6, none⟩) (heap_setCell_other _ _ _ _ HG.out.1)).trans h) ?_
    clear hK K
    have F5 : Hid ((WU.setCell ⟨g3, 0, none⟩ (.int .i64 3)).heap[g3]? = some (.cells #[.int .i64 3, .int .u32 (x.own : Int), .int .u32 (x.peer : Int), .int .u32 0, .int .u32 0, .string ⟨#[]⟩] 42 (0, 0))) := by unfold Hid; rw [heap_setCell_same _ g3 0 _ _ _ FU.out]; rfl
    have B5 : Hid (Below w.heap.size w (WU.setCell ⟨g3, 0, none⟩ (.int .i64 3))) := BU.out.setCell (p := ⟨g3, 0, none⟩) HG.out.2 _
    replace hS : (WU.setCell ⟨g3, 0, none⟩ (.int .i64 3)).cell? ⟨g1, 6, none⟩ = some (.int .i64 (a1 : Int)) := (World.cell?_of_block (a := ⟨g1, 6, none⟩) (heap_setCell_other _ _ _ _ HG.out.1)).trans hS
    generalize WU.setCell ⟨g3, 0, none⟩ (.int .i64 3) = W5 at hS F5 B5 ⊢
    clear q0 e0
    refine take_p 6 18 (.pointer (some ⟨g3, 4, none⟩)) rfl rfl (by kernel_rfl) (by kernel_rfl) (by kernel_rfl) (fun _ _ _ h => h) rfl (fun w => by go_simp) ?_
    try simp only [List.setIfInBounds_toArray, List.set_cons_zero, List.set_cons_succ]
    have q0 := frozen_of_row W5 g3 4 _ _ F5.out
    have e0 := (X.box6 F5.out).2.2.2.2.1
    refine ready_f 7 (o := { dst := none, op := Op.store 22 (Operand.tmp 18) (Operand.tmp 16), type := 0, pos := "ref.go:87", after := #[{ on := 6, ground := Ground.data }, { on := 3, ground := Ground.data }, { on := 5, ground := Ground.chain }, { on := 0, ground := Ground.phase }, { on := 1, ground := Ground.phase }, { on := 2, ground := Ground.phase }, { on := 3, ground := Ground.phase }, { on := 4, ground := Ground.phase }, { on := 5, ground := Ground.phase }], guard := none }) (by kernel_rfl) rfl (fun K hK => ?_)
    go_simp
    refine hK.out _ _ (fun _ h => (World.cell?_of_block (a := ⟨g1, 6, none⟩) (heap_setCell_other _ _ _ _ HG.out.1)).trans h) ?_
    clear hK K
    have F7 : Hid ((W5.setCell ⟨g3, 4, none⟩ (.int .u32 (a1 : Int))).heap[g3]? = some (.cells #[.int .i64 3, .int .u32 (x.own : Int), .int .u32 (x.peer : Int), .int .u32 0, .int .u32 (a1 : Int), .string ⟨#[]⟩] 42 (0, 0))) := by unfold Hid; rw [heap_setCell_same _ g3 4 _ _ _ F5.out]; rfl
    have B7 : Hid (Below w.heap.size w (W5.setCell ⟨g3, 4, none⟩ (.int .u32 (a1 : Int)))) := B5.out.setCell (p := ⟨g3, 4, none⟩) HG.out.2 _
    replace hS : (W5.setCell ⟨g3, 4, none⟩ (.int .u32 (a1 : Int))).cell? ⟨g1, 6, none⟩ = some (.int .i64 (a1 : Int)) := (World.cell?_of_block (a := ⟨g1, 6, none⟩) (heap_setCell_other _ _ _ _ HG.out.1)).trans hS
    generalize W5.setCell ⟨g3, 4, none⟩ (.int .u32 (a1 : Int)) = W7 at hS F7 B7 ⊢
    clear q0 e0
    refine done_f (by kernel_rfl) ?_ _
    obtain ⟨d0, d1, d2, d3, d4, d5, _⟩ := X.box6 F7.out
    clear hS
    go_wp2_with (go_at_call 30; refine (kE _).out.mono ?_; rintro x9 W9 ⟨rfl, hb⟩)
    go_ret
    exact ⟨rfl, B7.out.trans (hb.mono B7.out.size)⟩

end Go.Proofs.YtcadlcpccemkbaaGreatDoor
