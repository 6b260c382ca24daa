/- tell: the frames of bodies, or a plain one. -/
import Derived.Test.YtcadlcpccemkbaaMXgJq
namespace Go.Proofs.Ytcadlcpccemkbaa
open Go.RowKit
set_option maxRecDepth 100000
attribute [local go_sem] not_any

theorem chk_data {o p q a n : Nat} (ho : 0 < o) (hp : 0 < p) (hq : 0 < q) (hn : n ≤ 65536) : X.chk ((2 : Nat) : Int) (o : Int) (p : Int) (q : Int) (a : Int) n = 0 :=
  X.chk_0 (by omega) (by unfold X.Mis; omega) (by omega) (by omega) (by omega)
theorem chk_quiet {o p a : Nat} (ho : 0 < o) (hp : 0 < p) : X.chk ((3 : Nat) : Int) (o : Int) (p : Int) ((0 : Nat) : Int) (a : Int) (ByteArray.size ⟨#[]⟩) = 0 := by
  have e : ByteArray.size ⟨#[]⟩ = 0 := rfl
  rw [e]
  exact X.chk_0 (by omega) (by unfold X.Mis; omega) (by omega) (by omega) (by omega)
theorem chk_hello {o p : Nat} (ho : 0 < o) : X.chk ((1 : Nat) : Int) (o : Int) (p : Int) ((0 : Nat) : Int) ((0 : Nat) : Int) (ByteArray.size ⟨#[]⟩) = 0 := by
  have e : ByteArray.size ⟨#[]⟩ = 0 := rfl
  rw [e]
  exact X.chk_0 (by omega) (by unfold X.Mis; omega) (by omega) (by omega) (by omega)
theorem lwplain {N : Nat} {x : Ls} (hx : x.Ok N) (hN : N + 1000 < 4294967296) (w : World) : Calls Try.prog 35 #[x.plv] w fun e w' => e = .returned (.string x.pln) ∧ Below w.heap.size w w' := by
  unfold Ls.plv Ls.pln
  have ha := hx.aN
  cases hs : x.sure with
  | false => exact written_any 1 x.own x.peer 0 0 ⟨#[]⟩ w (chk_hello hx.own0) hx.own hx.peer (by decide) (by decide)
  | true => exact written_any 3 x.own x.peer 0 (x.a + 1) ⟨#[]⟩ w (chk_quiet hx.own0 (hx.sp hs)) hx.own hx.peer (by decide) (by omega)

theorem Ls.Ok.owed {N : Nat} {x : Ls} (h : x.Ok N) (b : Bool) : Ls.Ok N { x with owed := b } := ⟨h.own0, h.own, h.peer, h.hd, h.A16, h.Q64, h.ns, h.sp, h.szA, h.szQ, h.kN, h.aN⟩

/- bodies of which frames can be made -/
structure Fms (x : Ls) (l : List (Nat × ByteArray)) : Prop where
  len : l.length ≤ 1000
  peer : l ≠ [] → 0 < x.peer
  num : ∀ p ∈ l, 0 < p.1 ∧ p.1 < 4294967296 ∧ p.2.size ≤ 65536
theorem at_mem {l : List (Nat × ByteArray)} {j : Nat} (h : j < l.length) : (kAt l j, sAt l j) ∈ l := by
  have : l.getD j (0, ByteArray.empty) ∈ l := by simp [List.getD, List.getElem?_eq_getElem h]
  exact this
theorem map_snoc (f : Nat × ByteArray → ByteArray) (l : List (Nat × ByteArray)) (j : Nat) (h : j < l.length) : (l.take j).map f ++ [f (kAt l j, sAt l j)] = (l.take (j + 1)).map f := by
  rw [List.take_add_one, List.getElem?_eq_getElem h, List.map_append]
  simp [kAt, sAt, List.getD, List.getElem?_eq_getElem h]

set_option maxHeartbeats 4000000 in
theorem ltell_any {N B s n : Nat} {v m u z : Value} {x : Ls} {l : List (Nat × ByteArray)} {w : World} (h : Lkm B s v m u n x w) (hx : x.Ok N) (hN : N + 1000 < 4294967296) (hz : Rnl w z l) (hzs : ∀ g, z.ownBlock = some g → g ≠ s) (hl : Fms x l) :
    Calls Try.prog 26 #[.pointer (some ⟨s, 0, none⟩), z] w fun e w' => ∃ r, e = .returned r ∧ Lst w.heap.size w' r (x.tell l) ∧ Lkm B s v m u n { x with owed := false } w' ∧ Kp (Lf s v m u) w w' := by
  have c3 := (boxS h.row).2.2.2.1
  have f3 := frozen_of_row w s 3 _ _ h.row
  obtain ⟨M0, K0⟩ := h.mark (j := 3) (z := .bool false) (x' := { x with owed := false }) rfl rfl rfl (by rw [heap_setCell_same _ s 3 _ _ _ h.row]; rfl)
  have HM := hide1 M0
  have HK := hide1 K0
  have HZ := hide1 (hz.kp (Kp.setCell (F := fun g => g = s) w s 3 (.bool false) rfl) hzs)
  have HX := hide1 hx
  have HN := hide1 hN
  have HF := hide1 hl
  have hsz : Hid ((w.setCell ⟨s, 3, none⟩ (.bool false)).heap.size = w.heap.size) := by unfold Hid; simp [World.setCell]
  obtain ⟨za, zc, hzv, _⟩ := hz
  obtain ⟨zn, hzn⟩ : ∃ k, l.length = k := ⟨_, rfl⟩
  rw [hzn] at hzv
  subst hzv
  have HZN := hide1 hzn
  unfold Ls.tell
  clear h M0 K0 hx hN hzs
  by_cases hl0 : l = []
  · rw [if_pos hl0]
    have hz0 : zn = 0 := by rw [← hzn, hl0]; rfl
    subst hz0
    clear hl hzn HZ HF HZN hl0
    go_enter Try.func26, Try.ntmps26
    go_upto_region 2 with (fail)
    generalize w.setCell ⟨s, 3, none⟩ (.bool false) = W0 at HM HK hsz ⊢
    clear c3 f3
    have kP := hide1 (lplain_any HM.out (HX.out.owed false) HN.out)
    have kW := fun w => hide1 (lwplain HX.out HN.out w)
    change Hid (Calls Try.prog 36 _ W0 fun e w' => e = .returned x.plv ∧ _) at kP
    generalize x.plv = pv at kP kW
    go_wp2_with fail
    refine kP.out.mono ?_
    rintro e W1 ⟨rfl, hb1⟩
    go_wp2_with fail
    refine (kW _).out.mono ?_
    rintro e W2 ⟨rfl, hb2⟩
    have b2 : Hid (Below W0.heap.size W0 W2) := hb1.trans (hb2.mono hb1.size)
    clear hb1 hb2 kP kW
    go_wp2
    go_ret
    have b3 : Below W0.heap.size W0 (W2.alloc (.cells #[.string x.pln] 9)) := b2.out.alloc b2.out.size _
    refine ⟨_, rfl, ?_, HM.out.below b3 (Nat.le_refl _), HK.out.trans (Kp.ofBelow b3)⟩
    refine ⟨rfl, .inr ⟨W2.heap.size, 1, #[.string x.pln], rfl, ?_, heap_alloc_new _ _, Nat.le_refl _, by decide, rfl, rfl⟩⟩
    have := b2.out.size
    have := hsz.out
    omega
  · rw [if_neg hl0]
    have hzpos : (0 : Int) < (zn : Int) := by
      have : l.length ≠ 0 := fun e => hl0 (List.eq_nil_of_length_eq_zero e)
      omega
    have hzb : ((zn : Int) == 0) = false := by simp; omega
    have hz1000 : zn ≤ 1000 := by have := HF.out.len; omega
    have HL0 := hide1 hl0
    clear hl hzn hl0
    go_enter Try.func26, Try.ntmps26
    go_upto_region 2 with (fail)
    generalize w.setCell ⟨s, 3, none⟩ (.bool false) = W0 at HM HK HZ hsz ⊢
    clear c3 f3
    go_wp2_with fail
    go_loopw [5, 21] (fun p i wr => ∃ (j : Nat) (r : Value), j ≤ zn ∧ i = .int .i64 (j : Int) ∧ p = r ∧ Lst w.heap.size wr r ((l.take j).map x.frm) ∧ Below W0.heap.size W0 wr) (fun _ i _ => 2000 - (intOf i).toNat)
    case atStart => exact ⟨0, _, Nat.zero_le _, rfl, rfl, Lst.nil _ _, Below.refl _ _⟩
    case round =>
      obtain ⟨j, r, hj, rfl, hr, hL, hB⟩ := hrel
      obtain rfl := hr.symm
      have HL := hide1 hL
      have HB := hide1 hB
      clear hL hB hr
      by_cases hjn : j < zn
      · have gin : (j : Int) < (zn : Int) := by omega
        have hjl : j < l.length := by have := HZN.out; omega
        obtain ⟨za', zc', e1, hc⟩ := HZ.out.below HB.out (Nat.le_refl _)
        rw [HZN.out] at e1
        cases e1
        obtain ⟨g1, o1, rfl, k1, k2⟩ := hc j hjl
        have MS := hide1 (map_snoc x.frm l j hjl)
        have HMEM := hide1 (HF.out.num _ (at_mem hjl))
        have HPE := hide1 (HF.out.peer HL0.out)
        change Hid (_ ++ [tx 2 x.own x.peer (kAt l j) (x.a + 1) (sAt l j)] = _) at MS
        have kW := fun w => hide1 (written_any 2 x.own x.peer (kAt l j) (x.a + 1) (sAt l j) w (chk_data HX.out.own0 HPE.out HMEM.out.1 HMEM.out.2.2) HX.out.own HX.out.peer HMEM.out.2.1 (by have := HX.out.aN; have := HN.out; omega))
        have hszb := hide1 HMEM.out.2.2
        generalize kAt l j = kn at k1 MS kW
        generalize sAt l j = b at k2 MS kW hszb
        have kA := fun w' (hb : Below W0.heap.size W0 w') => hide1 (awaited_any (HM.out.below hb (Nat.le_refl _)).inm (by have := HX.out.aN; have := HN.out; change x.a + 1 < _; omega))
        change ∀ w' (hb : Below W0.heap.size W0 w'), Hid (Calls Try.prog 38 #[.pointer (some ⟨s, 6, none⟩)] w' fun e w'' => e = .returned (.int .u32 ((x.a + 1 : Nat) : Int)) ∧ w'' = w') at kA
        have kB := fun w => hide1 (bare_any 2 (x.own : Int) (x.peer : Int) w)
        have MR := hide1 (HM.out.below HB.out (Nat.le_refl _)).row
        obtain ⟨T, hT⟩ : ∃ T, tx 2 x.own x.peer kn (x.a + 1) b = T := ⟨_, rfl⟩
        rw [hT] at kW MS
        obtain ⟨a1, ha1⟩ : ∃ a1, x.a + 1 = a1 := ⟨_, rfl⟩
        rw [ha1] at kW kA
        unfold X.fra at kW kB
        rw [show ((2 : Nat) : Int) = 2 from rfl] at kW
        clear hT ha1 hc hjl
        go_upto_region 8 with (fail)
        generalize hX : World.alloc wr _ = W7
        have B7 : Hid (Below W0.heap.size W0 W7) := by rw [← hX]; exact HB.out.alloc HB.out.size _
        have L7 : Hid (Lst w.heap.size W7 r ((l.take j).map x.frm)) := by rw [← hX]; exact HL.out.below (below1 _) (Nat.le_refl _)
        have R7 := hide1 (hX ▸ heap_alloc_new wr _)
        obtain ⟨gb, hgb⟩ : ∃ g, wr.heap.size = g := ⟨_, rfl⟩
        have HGB : Hid (w.heap.size ≤ gb) := by have h1 := HB.out.size; have h2 := hsz.out; unfold Hid; omega
        rw [hgb] at R7 ⊢
        obtain ⟨c0, c1, _, _, _⟩ := boxS (HM.out.below B7.out (Nat.le_refl _)).row
        change W7.cell? ⟨s, 0, none⟩ = some (.int .u32 (x.own : Int)) at c0
        change W7.cell? ⟨s, 1, none⟩ = some (.int .u32 (x.peer : Int)) at c1
        clear hX hgb k1 k2 MR HL HB
        go_wp2_with fail
        refine (kB _).out.mono ?_
        rintro e W8 ⟨rfl, hb8⟩
        have B8 : Hid (Below W0.heap.size W0 W8) := B7.out.trans (hb8.mono B7.out.size)
        have L8 := hide1 (L7.out.below hb8 (Nat.le_refl _))
        have R8 := hide1 ((hb8.block gb (lt_heap R7.out)).trans R7.out)
        clear c0 c1 hb8 kB R7 L7 B7
        go_upto_region 9 with (fail)
        generalize hY : World.alloc W8 _ = W9
        have B9 : Hid (Below W0.heap.size W0 W9) := by rw [← hY]; exact B8.out.alloc B8.out.size _
        have L9 : Hid (Lst w.heap.size W9 r ((l.take j).map x.frm)) := by rw [← hY]; exact L8.out.below (below1 _) (Nat.le_refl _)
        have RB : Hid (W9.heap[gb]? = some (.cells #[.int .u32 (kn : Int), .string b] 83 (0, 0))) := by rw [← hY]; exact (Below.heap_alloc _ _ _ (lt_heap R8.out)).trans R8.out
        have RF : Hid (W9.heap[W8.heap.size]? = some (.cells #[.int .i64 2, .int .u32 (x.own : Int), .int .u32 (x.peer : Int), .int .u32 0, .int .u32 0, .string ⟨#[]⟩] 73 (0, 0))) := by rw [← hY]; exact heap_alloc_new _ _
        obtain ⟨gf, hgf⟩ : ∃ g, W8.heap.size = g := ⟨_, rfl⟩
        have HGF : Hid (w.heap.size ≤ gf ∧ gb ≠ gf ∧ W0.heap.size ≤ gf ∧ ∀ g, r.ownBlock = some g → g ≠ gf) := by
          have h1 := B8.out.size
          have h2 := hsz.out
          have h3 := lt_heap R8.out
          refine ⟨by omega, by omega, by omega, fun g hg => ?_⟩
          have := (L8.out.lt hg).2
          omega
        rw [hgf] at RF ⊢
        clear hY hgf B8 L8 R8
        have kA9 := hide1 (kA (World.drew W9) B9.out.drew).out
        refine region_f (F := []) (S := fun W => W.cell? ⟨gb, 0, none⟩ = some (.int .u32 (kn : Int)) ∧ W.cell? ⟨gb, 1, none⟩ = some (.string b)) (by kernel_rfl) ⟨(box2 RB.out).1, (box2 RB.out).2.1⟩ (fun hS => ?_)
        have BU : Hid (Below W0.heap.size W0 (World.drew W9)) := B9.out.drew
        have RU : Hid ((World.drew W9).heap[gf]? = some (.cells #[.int .i64 2, .int .u32 (x.own : Int), .int .u32 (x.peer : Int), .int .u32 0, .int .u32 0, .string ⟨#[]⟩] 73 (0, 0))) := RF.out
        have LU : Hid (Lst w.heap.size (World.drew W9) r ((l.take j).map x.frm)) := L9.out
        generalize World.drew W9 = WU at hS BU RU LU kA9 ⊢
        clear B9 RF L9 RB
        refine take_p 0 30 (.pointer (some ⟨gb, 0, none⟩)) rfl rfl (by kernel_rfl) (by kernel_rfl) (by kernel_rfl) (fun _ _ _ h => h) rfl (fun w => by go_simp) ?_
        try simp only [List.setIfInBounds_toArray, List.set_cons_zero, List.set_cons_succ]
        refine take_f 1 31 (.int .u32 (kn : Int)) [8, 9, 10, 11, 12, 13] rfl rfl (by kernel_rfl) (by kernel_rfl) (by kernel_rfl) (by kernel_rfl) (by kernel_rfl) (by kernel_rfl) (fun _ _ _ h => h) rfl (fun w hSw => by obtain ⟨g0, g1⟩ := hSw; go_simp) hS ?_
        try simp only [List.setIfInBounds_toArray, List.set_cons_zero, List.set_cons_succ]
        refine take_p 2 32 (.pointer (some ⟨s, 0, none⟩)) rfl rfl (by kernel_rfl) (by kernel_rfl) (by kernel_rfl) (fun _ _ _ h => h) rfl (fun w => by go_simp) ?_
        try simp only [List.setIfInBounds_toArray, List.set_cons_zero, List.set_cons_succ]
        refine take_p 3 33 (.pointer (some ⟨s, 0, none⟩)) rfl rfl (by kernel_rfl) (by kernel_rfl) (by kernel_rfl) (fun _ _ _ h => h) rfl (fun w => by go_simp) ?_
        try simp only [List.setIfInBounds_toArray, List.set_cons_zero, List.set_cons_succ]
        refine take_p 4 34 (.pointer (some ⟨s, 6, none⟩)) rfl rfl (by kernel_rfl) (by kernel_rfl) (by kernel_rfl) (fun _ _ _ h => h) rfl (fun w => by go_simp) ?_
        try simp only [List.setIfInBounds_toArray, List.set_cons_zero, List.set_cons_succ]
        refine take_p 6 36 (.pointer (some ⟨gb, 1, none⟩)) rfl rfl (by kernel_rfl) (by kernel_rfl) (by kernel_rfl) (fun _ _ _ h => h) rfl (fun w => by go_simp) ?_
        try simp only [List.setIfInBounds_toArray, List.set_cons_zero, List.set_cons_succ]
        refine take_f 7 37 (.string b) [12, 13] rfl rfl (by kernel_rfl) (by kernel_rfl) (by kernel_rfl) (by kernel_rfl) (by kernel_rfl) (by kernel_rfl) (fun _ _ _ h => h) rfl (fun w hSw => by obtain ⟨g0, g1⟩ := hSw; go_simp) hS ?_
        try simp only [List.setIfInBounds_toArray, List.set_cons_zero, List.set_cons_succ]
        refine take_p 8 38 (.pointer (some ⟨gf, 3, none⟩)) rfl rfl (by kernel_rfl) (by kernel_rfl) (by kernel_rfl) (fun _ _ _ h => h) rfl (fun w => by go_simp) ?_
        try simp only [List.setIfInBounds_toArray, List.set_cons_zero, List.set_cons_succ]
        refine ready_f 5 (o := { dst := some 35, op := Op.call { callee := Callee.value (Operand.func 38), args := #[Operand.tmp 34], argTypes := #[52] }, type := 28, pos := "link.go:163", after := #[{ on := 4, ground := Ground.data }], guard := none }) (by kernel_rfl) rfl (fun K hK => ?_)
        go_simp
        refine kA9.out.mono ?_
        rintro e W1 ⟨rfl, hw1⟩
        obtain rfl := hw1.symm
        refine hK.out _ _ (fun _ h => h) ?_
        clear hK K
        try simp only [Act.put, List.setIfInBounds_toArray, List.set_cons_zero, List.set_cons_succ]
        have q3 := frozen_of_row WU gf 3 _ _ RU.out
        have e3 : WU.cell? ⟨gf, 3, none⟩ = some (.int .u32 0) := by rw [cell_of_row _ gf 3 _ _ _ RU.out]; rfl
        refine ready_f 9 (o := { dst := none, op := Op.store 28 (Operand.tmp 38) (Operand.tmp 31), type := 0, pos := "link.go:163", after := #[{ on := 8, ground := Ground.data }, { on := 1, ground := Ground.data }, { on := 5, ground := Ground.chain }, { on := 0, ground := Ground.phase }, { on := 1, ground := Ground.phase }, { on := 2, ground := Ground.textOnly Departure.lateStores }, { on := 3, ground := Ground.textOnly Departure.lateStores }, { on := 4, ground := Ground.textOnly Departure.lateStores }, { on := 5, ground := Ground.textOnly Departure.lateStoresUnsure }, { on := 6, ground := Ground.textOnly Departure.lateStores }, { on := 7, ground := Ground.textOnly Departure.lateStores }], guard := none }) (by kernel_rfl) rfl (fun K hK => ?_)
        go_simp
        refine hK.out _ _ (fun _ h => ⟨?_, ?_⟩) ?_
        · exact (World.cell?_of_block (a := ⟨gb, 0, none⟩) (heap_setCell_other _ _ _ _ HGF.out.2.1)).trans h.1
        · exact (World.cell?_of_block (a := ⟨gb, 1, none⟩) (heap_setCell_other _ _ _ _ HGF.out.2.1)).trans h.2
        clear hK K
        have R10 : Hid ((WU.setCell ⟨gf, 3, none⟩ (.int .u32 (kn : Int))).heap[gf]? = some (.cells #[.int .i64 2, .int .u32 (x.own : Int), .int .u32 (x.peer : Int), .int .u32 (kn : Int), .int .u32 0, .string ⟨#[]⟩] 73 (0, 0))) := by unfold Hid; rw [heap_setCell_same _ gf 3 _ _ _ RU.out]; rfl
        have B10 : Hid (Below W0.heap.size W0 (WU.setCell ⟨gf, 3, none⟩ (.int .u32 (kn : Int)))) := BU.out.setCell (p := ⟨gf, 3, none⟩) HGF.out.2.2.1 _
        have L10 : Hid (Lst w.heap.size (WU.setCell ⟨gf, 3, none⟩ (.int .u32 (kn : Int))) r ((l.take j).map x.frm)) := LU.out.kp (Kp.setCell (F := fun g => g = gf) WU gf 3 _ rfl) HGF.out.2.2.2
        replace hS : (WU.setCell ⟨gf, 3, none⟩ (.int .u32 (kn : Int))).cell? ⟨gb, 0, none⟩ = some (.int .u32 (kn : Int)) ∧ (WU.setCell ⟨gf, 3, none⟩ (.int .u32 (kn : Int))).cell? ⟨gb, 1, none⟩ = some (.string b) := ⟨(World.cell?_of_block (a := ⟨gb, 0, none⟩) (heap_setCell_other _ _ _ _ HGF.out.2.1)).trans hS.1, (World.cell?_of_block (a := ⟨gb, 1, none⟩) (heap_setCell_other _ _ _ _ HGF.out.2.1)).trans hS.2⟩
        generalize WU.setCell ⟨gf, 3, none⟩ (.int .u32 (kn : Int)) = W10 at hS R10 B10 L10 ⊢
        clear q3 e3
        refine take_p 10 39 (.pointer (some ⟨gf, 4, none⟩)) rfl rfl (by kernel_rfl) (by kernel_rfl) (by kernel_rfl) (fun _ _ _ h => h) rfl (fun w => by go_simp) ?_
        try simp only [List.setIfInBounds_toArray, List.set_cons_zero, List.set_cons_succ]
        have q4 := frozen_of_row W10 gf 4 _ _ R10.out
        have e4 : W10.cell? ⟨gf, 4, none⟩ = some (.int .u32 0) := by rw [cell_of_row _ gf 4 _ _ _ R10.out]; rfl
        refine ready_f 11 (o := { dst := none, op := Op.store 28 (Operand.tmp 39) (Operand.tmp 35), type := 0, pos := "link.go:163", after := #[{ on := 10, ground := Ground.data }, { on := 5, ground := Ground.data }, { on := 9, ground := Ground.chain }, { on := 0, ground := Ground.phase }, { on := 1, ground := Ground.phase }, { on := 2, ground := Ground.phase }, { on := 3, ground := Ground.phase }, { on := 4, ground := Ground.phase }, { on := 5, ground := Ground.phase }, { on := 6, ground := Ground.textOnly Departure.lateStores }, { on := 7, ground := Ground.textOnly Departure.lateStores }, { on := 8, ground := Ground.phase }, { on := 9, ground := Ground.phase }], guard := none }) (by kernel_rfl) rfl (fun K hK => ?_)
        go_simp
        refine hK.out _ _ (fun _ h => ⟨?_, ?_⟩) ?_
        · exact (World.cell?_of_block (a := ⟨gb, 0, none⟩) (heap_setCell_other _ _ _ _ HGF.out.2.1)).trans h.1
        · exact (World.cell?_of_block (a := ⟨gb, 1, none⟩) (heap_setCell_other _ _ _ _ HGF.out.2.1)).trans h.2
        clear hK K
        have R11 : Hid ((W10.setCell ⟨gf, 4, none⟩ (.int .u32 (a1 : Int))).heap[gf]? = some (.cells #[.int .i64 2, .int .u32 (x.own : Int), .int .u32 (x.peer : Int), .int .u32 (kn : Int), .int .u32 (a1 : Int), .string ⟨#[]⟩] 73 (0, 0))) := by unfold Hid; rw [heap_setCell_same _ gf 4 _ _ _ R10.out]; rfl
        have B11 : Hid (Below W0.heap.size W0 (W10.setCell ⟨gf, 4, none⟩ (.int .u32 (a1 : Int)))) := B10.out.setCell (p := ⟨gf, 4, none⟩) HGF.out.2.2.1 _
        have L11 : Hid (Lst w.heap.size (W10.setCell ⟨gf, 4, none⟩ (.int .u32 (a1 : Int))) r ((l.take j).map x.frm)) := L10.out.kp (Kp.setCell (F := fun g => g = gf) W10 gf 4 _ rfl) HGF.out.2.2.2
        replace hS : (W10.setCell ⟨gf, 4, none⟩ (.int .u32 (a1 : Int))).cell? ⟨gb, 0, none⟩ = some (.int .u32 (kn : Int)) ∧ (W10.setCell ⟨gf, 4, none⟩ (.int .u32 (a1 : Int))).cell? ⟨gb, 1, none⟩ = some (.string b) := ⟨(World.cell?_of_block (a := ⟨gb, 0, none⟩) (heap_setCell_other _ _ _ _ HGF.out.2.1)).trans hS.1, (World.cell?_of_block (a := ⟨gb, 1, none⟩) (heap_setCell_other _ _ _ _ HGF.out.2.1)).trans hS.2⟩
        generalize W10.setCell ⟨gf, 4, none⟩ (.int .u32 (a1 : Int)) = W11 at hS R11 B11 L11 ⊢
        clear q4 e4
        refine take_p 12 40 (.pointer (some ⟨gf, 5, none⟩)) rfl rfl (by kernel_rfl) (by kernel_rfl) (by kernel_rfl) (fun _ _ _ h => h) rfl (fun w => by go_simp) ?_
        try simp only [List.setIfInBounds_toArray, List.set_cons_zero, List.set_cons_succ]
        have q5 := frozen_of_row W11 gf 5 _ _ R11.out
        have e5 : W11.cell? ⟨gf, 5, none⟩ = some (.string ⟨#[]⟩) := by rw [cell_of_row _ gf 5 _ _ _ R11.out]; rfl
        refine ready_f 13 (o := { dst := none, op := Op.store 9 (Operand.tmp 40) (Operand.tmp 37), type := 0, pos := "link.go:163", after := #[{ on := 12, ground := Ground.data }, { on := 7, ground := Ground.data }, { on := 11, ground := Ground.chain }, { on := 0, ground := Ground.phase }, { on := 1, ground := Ground.phase }, { on := 2, ground := Ground.phase }, { on := 3, ground := Ground.phase }, { on := 4, ground := Ground.phase }, { on := 5, ground := Ground.phase }, { on := 6, ground := Ground.phase }, { on := 7, ground := Ground.phase }, { on := 8, ground := Ground.phase }, { on := 9, ground := Ground.phase }, { on := 10, ground := Ground.phase }, { on := 11, ground := Ground.phase }], guard := none }) (by kernel_rfl) rfl (fun K hK => ?_)
        go_simp
        refine hK.out _ _ (fun _ h => ⟨?_, ?_⟩) ?_
        · exact (World.cell?_of_block (a := ⟨gb, 0, none⟩) (heap_setCell_other _ _ _ _ HGF.out.2.1)).trans h.1
        · exact (World.cell?_of_block (a := ⟨gb, 1, none⟩) (heap_setCell_other _ _ _ _ HGF.out.2.1)).trans h.2
        clear hK K
        have R12 : Hid ((W11.setCell ⟨gf, 5, none⟩ (.string b)).heap[gf]? = some (.cells #[.int .i64 2, .int .u32 (x.own : Int), .int .u32 (x.peer : Int), .int .u32 (kn : Int), .int .u32 (a1 : Int), .string b] 73 (0, 0))) := by unfold Hid; rw [heap_setCell_same _ gf 5 _ _ _ R11.out]; rfl
        have B12 : Hid (Below W0.heap.size W0 (W11.setCell ⟨gf, 5, none⟩ (.string b))) := B11.out.setCell (p := ⟨gf, 5, none⟩) HGF.out.2.2.1 _
        have L12 : Hid (Lst w.heap.size (W11.setCell ⟨gf, 5, none⟩ (.string b)) r ((l.take j).map x.frm)) := L11.out.kp (Kp.setCell (F := fun g => g = gf) W11 gf 5 _ rfl) HGF.out.2.2.2
        replace hS : (W11.setCell ⟨gf, 5, none⟩ (.string b)).cell? ⟨gb, 0, none⟩ = some (.int .u32 (kn : Int)) ∧ (W11.setCell ⟨gf, 5, none⟩ (.string b)).cell? ⟨gb, 1, none⟩ = some (.string b) := ⟨(World.cell?_of_block (a := ⟨gb, 0, none⟩) (heap_setCell_other _ _ _ _ HGF.out.2.1)).trans hS.1, (World.cell?_of_block (a := ⟨gb, 1, none⟩) (heap_setCell_other _ _ _ _ HGF.out.2.1)).trans hS.2⟩
        generalize W11.setCell ⟨gf, 5, none⟩ (.string b) = W12 at hS R12 B12 L12 ⊢
        clear q5 e5
        obtain ⟨d0, d1, d2, d3, d4, d5, _⟩ := X.box6 R12.out
        refine done_f (by kernel_rfl) ?_ _
        clear hS
        go_wp2_with fail
        refine (kW _).out.mono ?_
        rintro e WA ⟨rfl, hbA⟩
        have BA : Hid (Below W0.heap.size W0 (WA.alloc (.cells #[.string T] 9))) := (B12.out.trans (hbA.mono B12.out.size)).alloc (Nat.le_trans B12.out.size hbA.size) _
        have LA : Hid (Lst w.heap.size (WA.alloc (.cells #[.string T] 9)) r ((l.take j).map x.frm)) := (L12.out.below hbA (Nat.le_refl _)).below (below1 _) (Nat.le_refl _)
        have RC := hide1 (Rdl.one WA T)
        have HLE : Hid (((l.take j).map x.frm).length + 1 ≤ 1000000 ∧ w.heap.size ≤ (WA.alloc (.cells #[.string T] 9)).heap.size) := by
          have h1 := HF.out.len
          have h3 := BA.out.size
          have h4 := hsz.out
          refine ⟨?_, by omega⟩
          rw [List.length_map, List.length_take]
          omega
        clear hbA kW d0 d1 d2 d3 d4 d5 R12 B12 L12
        go_wp2_with (at_builtin; go_must (refine wpList_append_lst (C := [T]) rfl _ _ rfl rfl rfl LA.out RC.out HLE.out.1 HLE.out.2 ?_); intro r2 WE ho hg hf; have HO := hide1 ho; have HG := hide1 hg; clear ho hg hf)
        go_roundw
        case rel =>
          refine ⟨j + 1, r2, by omega, by go_num, rfl, ?_, ?_⟩
          · rw [← MS.out]
            exact HO.out
          · refine BA.out.grown HG.out BA.out.size (fun k hk => ?_)
            have := (LA.out.lt hk).1
            have := hsz.out
            omega
        case measure => simp [intOf]; omega
      · have gin : ¬ (j : Int) < (zn : Int) := by omega
        go_wp2
        go_ret
        have e : l.take j = l := List.take_of_length_le (by have := HZN.out; omega)
        have h9 := HL.out
        rw [e] at h9
        exact ⟨_, rfl, h9, HM.out.below HB.out (Nat.le_refl _), HK.out.trans (Kp.ofBelow HB.out)⟩

end Go.Proofs.Ytcadlcpccemkbaa
