/- New; starts met; what a frame of both starts brings. -/
import Derived.Test.YtcadlcpccemkbaaJt
namespace Go.Proofs.Ytcadlcpccemkbaa
open Go.RowKit
set_option maxRecDepth 100000
attribute [local go_sem] not_any

/- a list's block is no map -/
theorem Lst.map_ne {B n g : Nat} {w : World} {v m : Value} {A : List ByteArray} {f : Nat → Option ByteArray} (h : Lst B w v A) (hm : Mp w m n f) (hg : v.ownBlock = some g) (hb : mblk m = some g) : False := by
  rcases hm with ⟨rfl, _⟩ | ⟨b, rfl, D, ⟨es, clock, hmb, _⟩, _⟩
  · cases hb
  · cases hb
    rcases h.2 with ⟨rfl, _⟩ | ⟨g', cap, cur, rfl, _, hgg, _⟩
    · cases hg
    · cases hg
      rw [hmb] at hgg
      cases hgg
def Ls.new (own : Nat) : Ls := ⟨own, 0, false, false, 0, [], 0, [], []⟩
theorem Lkm.fresh {s n : Nat} {x : Ls} {w : World} (B : Nat) (hB : B ≤ s) (hA : x.A = []) (hl : x.l = []) (hQ : x.Q = []) (hr : w.heap[s]? = some (.cells #[.int .u32 (x.own : Int), .int .u32 (x.peer : Int), .bool x.sure, .bool x.owed, .int .u32 (x.k : Int), .slice none 0 0, .int .u32 (x.a : Int), .map none, .slice none 0 0] 54 (0, 0))) :
    Lkm B s (.slice none 0 0) (.map none) (.slice none 0 0) n x w := by
  refine ⟨hr, hB, by rw [hA]; exact Lst.nil _ _, by rw [hl]; exact Mp.none _ _, by rw [hQ]; exact Lst.nil _ _, (fun e => by cases e), (fun e => by cases e), (fun e => by cases e), (fun g e => by cases e), (fun g e => by cases e), (fun g e => by cases e), (fun g e => by cases e)⟩
theorem lnew_any (own : Nat) (h0 : 0 < own) (w : World) : Calls Try.prog 5 #[.int .u32 (own : Int)] w fun e w' => e = .returned (.tuple #[.pointer (some ⟨w.heap.size, 0, none⟩), .nilIface]) ∧ Lkm w.heap.size w.heap.size (.slice none 0 0) (.map none) (.slice none 0 0) 0 (Ls.new own) w' ∧ Below w.heap.size w w' := by
  have hb : ((own : Int) == 0) = false := by simp; omega
  clear h0
  go_enter Try.func5, Try.ntmps5
  go_wp2
  refine ret_t2 Try.results5 rfl rfl rfl ⟨rfl, Lkm.fresh _ (Nat.le_refl _) rfl rfl rfl (heap_alloc_new _ _), below1 _⟩

theorem past_any (o p : Int) (k fo fp q a : Int) (b : ByteArray) (w : World) : Calls Try.prog 45 #[.agg #[.int .u32 o, .int .u32 p], X.fra k fo fp q a b] w fun e w' => e = .returned (.bool (decide (fo < p))) ∧ Below w.heap.size w w' := by
  unfold X.fra
  go_enter Try.func45, Try.ntmps45
  go_wp2
  go_ret
  exact ⟨rfl, ((Below.refl _ _).alloc (Nat.le_refl _) _).alloc (by simp) _⟩
theorem meant_any (o p : Int) (k fo fp q a : Int) (b : ByteArray) (w : World) : Calls Try.prog 47 #[.agg #[.int .u32 o, .int .u32 p], X.fra k fo fp q a b] w fun e w' => e = .returned (.bool (fp == o)) ∧ Below w.heap.size w w' := by
  unfold X.fra
  go_enter Try.func47, Try.ntmps47
  go_wp2
  go_ret
  exact ⟨rfl, ((Below.refl _ _).alloc (Nat.le_refl _) _).alloc (by simp) _⟩

/- another start is met -/
def Ls.meet (x : Ls) (o : Nat) : Ls := if o = x.peer then x else ⟨x.own, o, false, true, 0, [], 0, [], []⟩
def Ls.anew (x : Ls) (o : Nat) : Bool := decide (o ≠ x.peer ∧ x.peer ≠ 0)
set_option maxHeartbeats 1000000 in
theorem lmeet_any {B s n : Nat} {v m u : Value} {x : Ls} {w : World} (h : Lkm B s v m u n x w) (o : Nat) :
    Calls Try.prog 46 #[.pointer (some ⟨s, 0, none⟩), .int .u32 (o : Int)] w fun e w' => e = .returned (.bool (x.anew o)) ∧ Lkp B s v m u w n (x.meet o) w' := by
  obtain ⟨c0, c1, _, _, _⟩ := boxS h.row
  unfold Ls.meet Ls.anew
  by_cases ho : o = x.peer
  · rw [if_pos ho, decide_eq_false (by simp [ho])]
    have hb : ((o : Int) == (x.peer : Int)) = true := by simp; omega
    have H := hide1 h
    clear h ho
    go_enter Try.func46, Try.ntmps46
    go_wp2
    go_ret
    exact ⟨rfl, Lkp.refl H.out⟩
  · rw [if_neg ho]
    have hb : ((o : Int) == (x.peer : Int)) = false := by simp; omega
    obtain ⟨d, hd⟩ : ∃ d, decide (o ≠ x.peer ∧ x.peer ≠ 0) = d := ⟨_, rfl⟩
    rw [hd]
    have hd' : ((x.peer : Int) != 0) = d := by
      rw [← hd, Bool.eq_iff_iff, decide_eq_true_iff, bne_iff_ne]
      omega
    have H := hide1 h
    have R0 := hide1 h.row
    clear h hd ho
    go_enter Try.func46, Try.ntmps46
    go_wp2_with (refine wpList_store_row rfl 54 (.tmp 28) (.tmp 27) rfl s #[.int .u32 (x.own : Int), .int .u32 (o : Int), .bool false, .bool true, .int .u32 0, .slice none 0 0, .int .u32 0, .map none, .slice none 0 0] rfl rfl 54 _ R0.out rfl (by kernel_rfl) (by kernel_rfl) ?_)
    go_ret
    have hr : (w.setRow s #[.int .u32 (x.own : Int), .int .u32 (o : Int), .bool false, .bool true, .int .u32 0, .slice none 0 0, .int .u32 0, .map none, .slice none 0 0]).heap[s]? = some (.cells #[.int .u32 (x.own : Int), .int .u32 (o : Int), .bool false, .bool true, .int .u32 0, .slice none 0 0, .int .u32 0, .map none, .slice none 0 0] 54 (0, 0)) := setRow_heap w s _ _ _ _ R0.out
    refine ⟨rfl, .slice none 0 0, .map none, .slice none 0 0, Lkm.fresh B H.out.lo rfl rfl rfl hr, ⟨rfl, rfl, rfl, by simp [World.setRow], fun g _ hg => setRow_other w s g _ (fun e => hg (.inl e))⟩, fun g hg => ?_⟩
    rcases hg with hg | hg | hg | hg
    · exact .inl (.inl hg)
    · cases hg
    · cases hg
    · cases hg

/- what a frame of both starts does -/
def Ls.acked (x : Ls) (a : Nat) : Ls := { x with k := akK x.k x.A a, A := akL x.k x.A a }
def Ls.openX (x : Ls) (k q a : Nat) (b : ByteArray) : Ls := if k = 1 then x else if akC x.k x.A a ≠ 0 ∨ k = 3 then x.acked a else { x.acked a with a := tkA x.a x.l q b, l := tkR x.a x.l q b }
def Ls.openB (x : Ls) (k q a : Nat) (b : ByteArray) : List ByteArray := if k = 1 then [] else if akC x.k x.A a ≠ 0 ∨ k = 3 then [] else tkO x.a x.l q b
def Ls.openC (x : Ls) (k q a : Nat) : Nat := if k = 1 then 0 else if akC x.k x.A a ≠ 0 ∨ k = 3 then akC x.k x.A a else chkC x.a (lk x.l) q

set_option maxHeartbeats 2000000 in
theorem lopen_any {N B s n : Nat} {v m u : Value} {x : Ls} {w : World} (h : Lkm B s v m u n x w) (hBw : B ≤ w.heap.size) (hx : x.Ok N) (hN : N + 1000 < 4294967296) (hn : n < 1000000) (k o p q a : Nat) (b : ByteArray) (hk : 1 ≤ k ∧ k ≤ 3) (hq : q < 4294967296) (hb : b.size ≤ 281474976710656) :
    Calls Try.prog 49 #[.pointer (some ⟨s, 0, none⟩), X.fra k o p q a b] w fun e w' => ∃ r, e = .returned (.tuple #[r, .int .i64 (x.openC k q a : Int)]) ∧ Flp B s v m u w (n + 1) (x.openX k q a b) r (x.openB k q a b) w' := by
  have HX := hide1 hx
  have H := hide1 h
  have HB := hide1 hBw
  have HN := hide1 hN
  have Hn := hide1 hn
  have Hq := hide1 hq
  have Hb := hide1 hb
  unfold Ls.openC Ls.openX Ls.openB
  by_cases hk1 : k = 1
  · subst hk1
    rw [if_pos rfl, if_pos rfl, if_pos rfl]
    unfold X.fra
    clear h hx hBw hN hn hq hb hk
    go_enter Try.func49, Try.ntmps49
    go_wp2
    exact ret_t2 Try.results49 rfl rfl rfl ⟨_, rfl, v, m, u, (H.out.below (below1 _) (Nat.le_refl _)).mono (Nat.le_succ _), Kp.ofBelow (below1 _), fun g hg => .inl hg, Lst.nil _ _, fun g hg => by cases hg⟩
  · rw [if_neg hk1, if_neg hk1, if_neg hk1]
    have hkb : ((k : Int) == 1) = false := by simp; omega
    have HK := hide1 hk
    unfold X.fra
    obtain ⟨P, hP⟩ : ∃ P : Value → Int → World → Prop, P = fun r c w' => c = ((if akC x.k x.A a ≠ 0 ∨ k = 3 then akC x.k x.A a else chkC x.a (lk x.l) q : Nat) : Int) ∧ Flp B s v m u w (n + 1) (if akC x.k x.A a ≠ 0 ∨ k = 3 then x.acked a else { x.acked a with a := tkA x.a x.l q b, l := tkR x.a x.l q b }) r (if akC x.k x.A a ≠ 0 ∨ k = 3 then [] else tkO x.a x.l q b) w' := ⟨_, rfl⟩
    suffices hs : Calls Try.prog 49 #[.pointer (some ⟨s, 0, none⟩), .agg #[.int .i64 (k : Int), .int .u32 (o : Int), .int .u32 (p : Int), .int .u32 (q : Int), .int .u32 (a : Int), .string b]] w fun e w' => ∃ r c, e = .returned (.tuple #[r, .int .i64 c]) ∧ P r c w' by
      refine hs.mono ?_
      rintro e w' ⟨r, c, rfl, hr⟩
      rw [hP] at hr
      exact ⟨r, by rw [hr.1], hr.2⟩
    have HP := hide1 hP
    clear h hx hBw hN hn hq hb hk hP
    go_enter Try.func49, Try.ntmps49
    go_upto_region 3 with (fail)
    generalize hX : World.alloc w _ = W0
    have B0 : Hid (Below w.heap.size w W0) := by rw [← hX]; exact below1 _
    have RF := hide1 (hX ▸ heap_alloc_new w _)
    obtain ⟨gf, hgf⟩ : ∃ g, w.heap.size = g := ⟨_, rfl⟩
    have HGF := hide1 hgf
    rw [hgf] at RF ⊢
    clear hX hgf
    refine region_f (F := [5]) (S := fun W => W.cell? ⟨gf, 4, none⟩ = some (.int .u32 (a : Int))) (by kernel_rfl) (X.box6 RF.out).2.2.2.2.1 (fun hS => ?_)
    have BU : Hid (Below w.heap.size w (World.drew W0)) := B0.out.drew
    have RU : Hid ((World.drew W0).heap[gf]? = some (.cells #[.int .i64 (k : Int), .int .u32 (o : Int), .int .u32 (p : Int), .int .u32 (q : Int), .int .u32 (a : Int), .string b] 73 (0, 0))) := RF.out
    generalize World.drew W0 = WU at hS BU RU ⊢
    clear B0 RF
    refine take_p 0 10 (.pointer (some ⟨s, 0, none⟩)) rfl rfl (by kernel_rfl) (by kernel_rfl) (by kernel_rfl) (fun _ _ _ h => h) rfl (fun w => by go_simp) ?_
    try simp only [List.setIfInBounds_toArray, List.set_cons_zero, List.set_cons_succ]
    refine take_p 1 11 (.pointer (some ⟨s, 0, none⟩)) rfl rfl (by kernel_rfl) (by kernel_rfl) (by kernel_rfl) (fun _ _ _ h => h) rfl (fun w => by go_simp) ?_
    try simp only [List.setIfInBounds_toArray, List.set_cons_zero, List.set_cons_succ]
    refine take_p 2 12 (.pointer (some ⟨s, 4, none⟩)) rfl rfl (by kernel_rfl) (by kernel_rfl) (by kernel_rfl) (fun _ _ _ h => h) rfl (fun w => by go_simp) ?_
    try simp only [List.setIfInBounds_toArray, List.set_cons_zero, List.set_cons_succ]
    refine take_p 3 13 (.pointer (some ⟨gf, 4, none⟩)) rfl rfl (by kernel_rfl) (by kernel_rfl) (by kernel_rfl) (fun _ _ _ h => h) rfl (fun w => by go_simp) ?_
    try simp only [List.setIfInBounds_toArray, List.set_cons_zero, List.set_cons_succ]
    refine take_f 4 14 (.int .u32 (a : Int)) [5, 6] rfl rfl (by kernel_rfl) (by kernel_rfl) (by kernel_rfl) (by kernel_rfl) (by kernel_rfl) (by kernel_rfl) (fun _ _ _ h => h) rfl (fun w hSw => by have g0 := hSw; go_simp) hS ?_
    try simp only [List.setIfInBounds_toArray, List.set_cons_zero, List.set_cons_succ]
    have MU := hide1 (H.out.below BU.out (Nat.le_refl _))
    have kA := hide1 (ack_any MU.out.otm (by have h1 := HX.out.kN; have h2 := HN.out; omega) a)
    refine ready_f 5 (o := { dst := some 15, op := Op.call { callee := Callee.value (Operand.func 56), args := #[Operand.tmp 12, Operand.tmp 14], argTypes := #[49, 28] }, type := 45, pos := "link.go:212", after := #[{ on := 2, ground := Ground.data }, { on := 4, ground := Ground.data }], guard := none }) (by kernel_rfl) rfl (fun K hK => ?_)
    go_simp
    refine kA.out.mono ?_
    rintro e W1 ⟨v1, rfl, hO, hK1, hf1⟩
    refine hK.out _ _ (fun h => absurd (by decide) h) ?_
    clear hK K
    try simp only [Act.put, List.setIfInBounds_toArray, List.set_cons_zero, List.set_cons_succ]
    obtain ⟨M1, M2, M3⟩ := MU.out.outed hO hK1 hf1
    have HM1 := hide1 M1
    have K1 := hide1 ((Kp.ofBelow BU.out).trans M2)
    have F1 : Hid (∀ g, Lf s v1 m u g → Lf s v m u g ∨ w.heap.size ≤ g) := fun g hg => by
      rcases M3 g hg with h1 | h1
      · exact .inl h1
      · have := BU.out.size
        exact .inr (by omega)
    have R1 := hide1 ((M2.block gf (lt_heap RU.out) (fun e => by have h1 := (H.out.flt e).2; have h2 := HGF.out; omega)).trans RU.out)
    change Hid (Lkm B s v1 m u n (x.acked a) W1) at HM1
    clear hO hK1 hf1 M1 M2 M3 kA MU RU BU hS
    obtain ⟨cc, hcc⟩ : ∃ c, akC x.k x.A a = c := ⟨_, rfl⟩
    rw [hcc]
    have HCC := hide1 hcc
    clear hcc
    refine take_p 6 6 (.int .i64 (cc : Int)) rfl rfl (by kernel_rfl) (by kernel_rfl) (by kernel_rfl) (fun _ _ _ h => h) rfl (fun w => by go_simp) ?_
    try simp only [List.setIfInBounds_toArray, List.set_cons_zero, List.set_cons_succ]
    refine done_f (by kernel_rfl) ?_ _
    obtain ⟨d0, d1, d2, d3, d4, d5, _⟩ := X.box6 R1.out
    have HW1 : Hid (w.heap.size ≤ W1.heap.size) := K1.out.size
    by_cases hend : cc ≠ 0 ∨ k = 3
    · have HE := hide1 hend
      have fin : Hid (P (.slice none 0 0) (cc : Int) W1) := by
        unfold Hid
        rw [HP.out]
        simp only [HCC.out, if_pos HE.out]
        exact ⟨trivial, v1, m, u, HM1.out.mono (Nat.le_succ _), K1.out, F1.out, Lst.nil _ _, fun g hg => by cases hg⟩
      by_cases hc0 : cc = 0
      · subst hc0
        have hk3 : k = 3 := by
          rcases hend with h1 | h1
          · exact absurd rfl h1
          · exact h1
        subst hk3
        clear hend HE HCC HM1
        go_wp2
        exact ret_t2 Try.results49 rfl rfl rfl ⟨_, _, rfl, fin.out⟩
      · have hcb : ((cc : Int) != 0) = true := by simp; omega
        clear hend HE HCC HM1 hc0
        go_wp2
        exact ret_t2 Try.results49 rfl rfl rfl ⟨_, _, rfl, fin.out⟩
    · have hc0 : cc = 0 := by omega
      subst hc0
      have hk3 : ((k : Int) == 3) = false := by simp; omega
      have HE := hide1 hend
      have hmx := HX.out.aN
      have kT := fun W (hb : Below W1.heap.size W1 W) => hide1 (take_any (HM1.out.below hb (Nat.le_refl _)).inm (by exact HX.out.hd) (by have := HN.out; change x.a + 100 < _; omega) q Hq.out b Hb.out Hn.out)
      clear hend hmx
      go_upto_region 6 with (fail)
      refine region_f (F := [7]) (S := fun W => W.cell? ⟨gf, 3, none⟩ = some (.int .u32 (q : Int)) ∧ W.cell? ⟨gf, 5, none⟩ = some (.string b)) (by kernel_rfl) ⟨(X.box6 R1.out).2.2.2.1, (X.box6 R1.out).2.2.2.2.2.1⟩ (fun hS => ?_)
      have BU : Hid (Below W1.heap.size W1 (World.drew W1)) := (Below.refl _ _).drew
      have kT1 := hide1 (kT _ BU.out).out
      change Hid (Calls Try.prog 57 _ _ fun e w' => ∃ v m', e = .returned (.tuple #[v, .int .i64 (chkC x.a (lk x.l) q)]) ∧ Lst _ w' v (tkO x.a x.l q b) ∧ Inm _ s m' (tkA x.a x.l q b) (n + 1) (lk (tkR x.a x.l q b)) w' ∧ _ ∧ _) at kT1
      have MU := hide1 (HM1.out.below BU.out (Nat.le_refl _))
      generalize World.drew W1 = WU at hS BU MU kT1 ⊢
      clear kT d0 d1 d2 d3 d4 d5
      refine take_p 0 24 (.pointer (some ⟨s, 0, none⟩)) rfl rfl (by kernel_rfl) (by kernel_rfl) (by kernel_rfl) (fun _ _ _ h => h) rfl (fun w => by go_simp) ?_
      try simp only [List.setIfInBounds_toArray, List.set_cons_zero, List.set_cons_succ]
      refine take_p 1 25 (.pointer (some ⟨s, 0, none⟩)) rfl rfl (by kernel_rfl) (by kernel_rfl) (by kernel_rfl) (fun _ _ _ h => h) rfl (fun w => by go_simp) ?_
      try simp only [List.setIfInBounds_toArray, List.set_cons_zero, List.set_cons_succ]
      refine take_p 2 26 (.pointer (some ⟨s, 6, none⟩)) rfl rfl (by kernel_rfl) (by kernel_rfl) (by kernel_rfl) (fun _ _ _ h => h) rfl (fun w => by go_simp) ?_
      try simp only [List.setIfInBounds_toArray, List.set_cons_zero, List.set_cons_succ]
      refine take_p 3 27 (.pointer (some ⟨gf, 3, none⟩)) rfl rfl (by kernel_rfl) (by kernel_rfl) (by kernel_rfl) (fun _ _ _ h => h) rfl (fun w => by go_simp) ?_
      try simp only [List.setIfInBounds_toArray, List.set_cons_zero, List.set_cons_succ]
      refine take_f 4 28 (.int .u32 (q : Int)) [7, 8, 9, 10, 11] rfl rfl (by kernel_rfl) (by kernel_rfl) (by kernel_rfl) (by kernel_rfl) (by kernel_rfl) (by kernel_rfl) (fun _ _ _ h => h) rfl (fun w hSw => by obtain ⟨g0, g1⟩ := hSw; go_simp) hS ?_
      try simp only [List.setIfInBounds_toArray, List.set_cons_zero, List.set_cons_succ]
      refine take_p 5 29 (.pointer (some ⟨gf, 5, none⟩)) rfl rfl (by kernel_rfl) (by kernel_rfl) (by kernel_rfl) (fun _ _ _ h => h) rfl (fun w => by go_simp) ?_
      try simp only [List.setIfInBounds_toArray, List.set_cons_zero, List.set_cons_succ]
      refine take_f 6 30 (.string b) [7, 8, 9, 10, 11] rfl rfl (by kernel_rfl) (by kernel_rfl) (by kernel_rfl) (by kernel_rfl) (by kernel_rfl) (by kernel_rfl) (fun _ _ _ h => h) rfl (fun w hSw => by obtain ⟨g0, g1⟩ := hSw; go_simp) hS ?_
      try simp only [List.setIfInBounds_toArray, List.set_cons_zero, List.set_cons_succ]
      refine ready_f 7 (o := { dst := some 31, op := Op.call { callee := Callee.value (Operand.func 57), args := #[Operand.tmp 26, Operand.tmp 28, Operand.tmp 30], argTypes := #[52, 28, 9] }, type := 97, pos := "link.go:215", after := #[{ on := 2, ground := Ground.data }, { on := 4, ground := Ground.data }, { on := 6, ground := Ground.data }], guard := none }) (by kernel_rfl) rfl (fun K hK => ?_)
      go_simp
      refine kT1.out.mono ?_
      rintro e W2 ⟨r, m1, rfl, hL, hI, hK2, hf2⟩
      refine hK.out _ _ (fun h => absurd (by decide) h) ?_
      clear hK K
      try simp only [Act.put, List.setIfInBounds_toArray, List.set_cons_zero, List.set_cons_succ]
      obtain ⟨cz, hcz⟩ : ∃ c, chkC x.a (lk x.l) q = c := ⟨_, rfl⟩
      rw [hcz]
      obtain ⟨M1, M2, M3⟩ := MU.out.inned (by have := HB.out; have := HW1.out; have := BU.out.size; omega) hI hK2 hf2
      have fin : Hid (P r (cz : Int) W2) := by
        unfold Hid
        rw [HP.out]
        simp only [HCC.out, if_neg HE.out]
        refine ⟨by rw [hcz], v1, m1, u, M1, (K1.out.trans (Kp.ofBelow BU.out)).join M2 F1.out, fun g hg => ?_, hL.mono (by have := HW1.out; have := BU.out.size; omega), fun g hg e => ?_⟩
        · rcases M3 g hg with h1 | h1
          · exact F1.out g h1
          · have h2 := BU.out.size
            have h3 := HW1.out
            exact .inr (by omega)
        · rcases e with e | e | e | e
          · have h1 := (hL.lt hg).1
            have h2 := lt_heap MU.out.row
            omega
          · have h1 := (hL.lt hg).1
            have h2 := (MU.out.out.lt e).2
            omega
          · exact Lst.map_ne hL M1.inn hg e
          · have h1 := (hL.lt hg).1
            have h2 := (MU.out.ln.lt e).2
            omega
      clear hL hI hK2 hf2 M1 M2 M3 kT1 hcz hS
      refine take_p 8 32 (r) rfl rfl (by kernel_rfl) (by kernel_rfl) (by kernel_rfl) (fun _ _ _ h => h) rfl (fun w => by go_simp) ?_
      try simp only [List.setIfInBounds_toArray, List.set_cons_zero, List.set_cons_succ]
      refine take_p 9 33 (.int .i64 (cz : Int)) rfl rfl (by kernel_rfl) (by kernel_rfl) (by kernel_rfl) (fun _ _ _ h => h) rfl (fun w => by go_simp) ?_
      try simp only [List.setIfInBounds_toArray, List.set_cons_zero, List.set_cons_succ]
      refine take_p 10 4 (r) rfl rfl (by kernel_rfl) (by kernel_rfl) (by kernel_rfl) (fun _ _ _ h => h) rfl (fun w => by go_simp) ?_
      try simp only [List.setIfInBounds_toArray, List.set_cons_zero, List.set_cons_succ]
      refine take_p 11 5 (.int .i64 (cz : Int)) rfl rfl (by kernel_rfl) (by kernel_rfl) (by kernel_rfl) (fun _ _ _ h => h) rfl (fun w => by go_simp) ?_
      try simp only [List.setIfInBounds_toArray, List.set_cons_zero, List.set_cons_succ]
      refine done_f (by kernel_rfl) ?_ _
      go_wp2
      exact ret_t2 Try.results49 rfl rfl rfl ⟨_, _, rfl, fin.out⟩

end Go.Proofs.Ytcadlcpccemkbaa
