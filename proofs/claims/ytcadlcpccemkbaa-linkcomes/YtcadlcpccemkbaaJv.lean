/- take: a frame with which nothing is wrong. -/
import Derived.Test.YtcadlcpccemkbaaJu
namespace Go.Proofs.Ytcadlcpccemkbaa
open Go.RowKit
set_option maxRecDepth 100000
attribute [local go_sem] not_any

theorem ret_g2 {fn : Func} {p u : Tmp} (h : fn.results = #[.cell p 60, .tmp u]) {R : Ending → World → Prop} {a : Act} {w : World} (g : Nat) (x y v : Value) (hp : a.tmps.getD p undef = .pointer (some ⟨g, 0, none⟩))
    (hu : a.tmps.getD u undef = v) (hg : w.heap[g]? = some (.cells #[x, y] 60 (0, 0))) (hd : a.defers = []) (hR : R (.returned (.tuple #[.agg #[x, y], v])) w) : bodyPost Try.prog fn R .ret a w := by
  refine bodyPost_ret_by (v := .tuple #[.agg #[x, y], v]) ?_ hd hR
  have hl := run_loadVar_row (P := Try.prog) w g 60 60 #[x, y] (0, 0) _ hg Try.underlying60 rfl (by kernel_rfl)
  rw [results_cell_tmp h, hp, hu]
  simp [asAddr, hl, Result.andThen]

/- an end that is sure now -/
def Ls.sured (x : Ls) (k : Nat) : Ls := { x with sure := true, owed := x.owed || decide (k ≠ 3) }
def Ls.takeX (x : Ls) (k o p q a : Nat) (b : ByteArray) : Ls := if o < x.peer then { x with owed := true } else if p ≠ x.own then { x.meet o with owed := true } else ((x.meet o).sured k).openX k q a b
def Ls.takeB (x : Ls) (k o p q a : Nat) (b : ByteArray) : List ByteArray := if o < x.peer then [] else if p ≠ x.own then [] else ((x.meet o).sured k).openB k q a b
def Ls.takeA (x : Ls) (o : Nat) : Bool := if o < x.peer then false else x.anew o
def Ls.takeC (x : Ls) (k o p q a : Nat) : Nat := if o < x.peer then 21 else if p ≠ x.own then (if k = 1 then 0 else 21) else ((x.meet o).sured k).openC k q a
theorem Ls.meet_own (x : Ls) (o : Nat) : (x.meet o).own = x.own := by unfold Ls.meet; split <;> rfl
theorem Ls.meet_peer (x : Ls) (o : Nat) : (x.meet o).peer = o := by
  unfold Ls.meet
  split
  · rename_i h
    exact h.symm
  · rfl
theorem Ls.Ok.meet {N : Nat} {x : Ls} (h : x.Ok N) {o : Nat} (ho : o < 4294967296) : (x.meet o).Ok N := by
  unfold Ls.meet
  split
  · exact h
  · exact ⟨h.own0, h.own, ho, Hd.none _, by simp, by simp, fun _ => ⟨rfl, rfl, rfl⟩, fun e => (by cases e), by simp, by simp, by simp, by simp⟩
theorem Ls.Ok.sured {N : Nat} {x : Ls} (h : x.Ok N) (k : Nat) (hp : 0 < x.peer) : (x.sured k).Ok N :=
  ⟨h.own0, h.own, h.peer, h.hd, h.A16, h.Q64, fun e => (by cases e), fun _ => hp, h.szA, h.szQ, h.kN, h.aN⟩

/- what take leaves -/
def Tkp (B s : Nat) (v m u : Value) (w : World) (n : Nat) (x : Ls) (k o p q a : Nat) (b : ByteArray) (r : Value) (d : Bool) (c : Int) (w' : World) : Prop :=
  d = x.takeA o ∧ c = (x.takeC k o p q a : Int) ∧ Flp B s v m u w (n + 1) (x.takeX k o p q a b) r (x.takeB k o p q a b) w'

set_option maxHeartbeats 4000000 in
theorem ltake_any {N B s n : Nat} {v m u : Value} {x : Ls} {w : World} (h : Lkm B s v m u n x w) (hBw : B ≤ w.heap.size) (hx : x.Ok N) (hN : N + 1000 < 4294967296) (hn : n < 1000000) (k o p q a : Nat) (b : ByteArray) (hk : 1 ≤ k ∧ k ≤ 3) (ho0 : 0 < o) (ho : o < 4294967296) (hq : q < 4294967296) (hb : b.size ≤ 281474976710656) :
    Calls Try.prog 30 #[.pointer (some ⟨s, 0, none⟩), X.fra k o p q a b] w fun e w' => ∃ r d c, e = .returned (.tuple #[.agg #[r, .bool d], .int .i64 c]) ∧ Tkp B s v m u w n x k o p q a b r d c w' := by
  have HX := hide1 hx
  have H := hide1 h
  have HB := hide1 hBw
  have HN := hide1 hN
  have Hn := hide1 hn
  have Hq := hide1 hq
  have Hb := hide1 hb
  have HK := hide1 hk
  have HO := hide1 (And.intro ho0 ho)
  have kPast := fun w => hide1 (past_any (x.own : Int) (x.peer : Int) k o p q a b w)
  obtain ⟨P, hP⟩ : ∃ P : Value → Bool → Int → World → Prop, P = fun r d c w' => Tkp B s v m u w n x k o p q a b r d c w' := ⟨_, rfl⟩
  have HP : Hid (∀ r d c w', Tkp B s v m u w n x k o p q a b r d c w' → P r d c w') := fun r d c w' h => by rw [hP]; exact h
  suffices hs : Calls Try.prog 30 #[.pointer (some ⟨s, 0, none⟩), X.fra k o p q a b] w fun e w' => ∃ r d c, e = .returned (.tuple #[.agg #[r, .bool d], .int .i64 c]) ∧ P r d c w' by rw [hP] at hs; exact hs
  clear h hBw hx hN hn hq hb hk ho ho0 hP
  unfold X.fra at *
  go_enter Try.func30, Try.ntmps30
  go_upto_region 1 with (fail)
  generalize hX : World.alloc (World.alloc w _) _ = W0
  have B0 : Hid (Below w.heap.size w W0) := by rw [← hX]; exact ((Below.refl _ _).alloc (Nat.le_refl _) _).alloc (by simp) _
  have R3 := hide1 (hX ▸ heap_alloc2_old w _ _)
  have R4 := hide1 (hX ▸ heap_alloc2_new w _ _)
  obtain ⟨b3, hb3⟩ : ∃ b, w.heap.size = b := ⟨_, rfl⟩
  obtain ⟨b4, hb4⟩ : ∃ b, w.heap.size + 1 = b := ⟨_, rfl⟩
  have HBB : Hid (w.heap.size ≤ b3 ∧ w.heap.size ≤ b4 ∧ b3 ≠ b4) := ⟨by omega, by omega, by omega⟩
  rw [hb4] at R4 ⊢
  rw [hb3] at R3 ⊢
  clear hX hb3 hb4
  have M0 := hide1 (H.out.below B0.out (Nat.le_refl _))
  refine region_f (F := [5]) (S := fun W => W.heap[s]? = some (.cells #[.int .u32 (x.own : Int), .int .u32 (x.peer : Int), .bool x.sure, .bool x.owed, .int .u32 (x.k : Int), v, .int .u32 (x.a : Int), m, u] 54 (0, 0)) ∧ W.heap[b3]? = some (.cells #[.int .i64 (k : Int), .int .u32 (o : Int), .int .u32 (p : Int), .int .u32 (q : Int), .int .u32 (a : Int), .string b] 73 (0, 0))) (by kernel_rfl) ⟨M0.out.row, R3.out⟩ (fun hS => ?_)
  have BU : Hid (Below w.heap.size w (World.drew W0)) := B0.out.drew
  have R4U : Hid ((World.drew W0).heap[b4]? = some (.cells #[.slice none 0 0, .bool false] 60 (0, 0))) := R4.out
  generalize World.drew W0 = WU at hS BU R4U ⊢
  clear B0 M0 R3 R4
  refine take_p 0 9 (.pointer (some ⟨s, 0, none⟩)) rfl rfl (by kernel_rfl) (by kernel_rfl) (by kernel_rfl) (fun _ _ _ h => h) rfl (fun w => by go_simp) ?_
  try simp only [List.setIfInBounds_toArray, List.set_cons_zero, List.set_cons_succ]
  refine take_p 1 10 (.pointer (some ⟨s, 0, none⟩)) rfl rfl (by kernel_rfl) (by kernel_rfl) (by kernel_rfl) (fun _ _ _ h => h) rfl (fun w => by go_simp) ?_
  try simp only [List.setIfInBounds_toArray, List.set_cons_zero, List.set_cons_succ]
  refine take_p 2 11 (.pointer (some ⟨s, 0, none⟩)) rfl rfl (by kernel_rfl) (by kernel_rfl) (by kernel_rfl) (fun _ _ _ h => h) rfl (fun w => by go_simp) ?_
  try simp only [List.setIfInBounds_toArray, List.set_cons_zero, List.set_cons_succ]
  refine take_f 3 12 (.agg #[.int .u32 (x.own : Int), .int .u32 (x.peer : Int)]) [5] rfl rfl (by kernel_rfl) (by kernel_rfl) (by kernel_rfl) (by kernel_rfl) (by kernel_rfl) (by kernel_rfl) (fun _ _ _ h => h) rfl (fun w hSw => by obtain ⟨g0, g1⟩ := hSw; obtain ⟨c0, c1, _⟩ := boxS g0; go_simp) hS ?_
  try simp only [List.setIfInBounds_toArray, List.set_cons_zero, List.set_cons_succ]
  refine take_f 4 13 (.agg #[.int .i64 (k : Int), .int .u32 (o : Int), .int .u32 (p : Int), .int .u32 (q : Int), .int .u32 (a : Int), .string b]) [5] rfl rfl (by kernel_rfl) (by kernel_rfl) (by kernel_rfl) (by kernel_rfl) (by kernel_rfl) (by kernel_rfl) (fun _ _ _ h => h) rfl (fun w hSw => by obtain ⟨g0, g1⟩ := hSw; obtain ⟨c0, c1, c2, c3, c4, c5, _⟩ := X.box6 g1; go_simp) hS ?_
  try simp only [List.setIfInBounds_toArray, List.set_cons_zero, List.set_cons_succ]
  refine ready_f 5 (o := { dst := some 14, op := Op.call { callee := Callee.value (Operand.func 45), args := #[Operand.tmp 12, Operand.tmp 13], argTypes := #[47, 73] }, type := 4, pos := "link.go:181", after := #[{ on := 3, ground := Ground.data }, { on := 4, ground := Ground.data }], guard := none }) (by kernel_rfl) rfl (fun K hK => ?_)
  go_simp
  refine (kPast _).out.mono ?_
  rintro e W1 ⟨rfl, hb1⟩
  refine hK.out _ _ (fun h => absurd (by decide) h) ?_
  clear hK K
  try simp only [Act.put, List.setIfInBounds_toArray, List.set_cons_zero, List.set_cons_succ]
  have B1 : Hid (Below w.heap.size w W1) := BU.out.trans (hb1.mono BU.out.size)
  have R3 : Hid (W1.heap[b3]? = some (.cells #[.int .i64 (k : Int), .int .u32 (o : Int), .int .u32 (p : Int), .int .u32 (q : Int), .int .u32 (a : Int), .string b] 73 (0, 0))) := (hb1.block b3 (lt_heap hS.2)).trans hS.2
  have R4 : Hid (W1.heap[b4]? = some (.cells #[.slice none 0 0, .bool false] 60 (0, 0))) := (hb1.block b4 (lt_heap R4U.out)).trans R4U.out
  have M1 := hide1 (H.out.below B1.out (Nat.le_refl _))
  clear hb1 BU hS R4U kPast
  refine done_f (by kernel_rfl) ?_ _
  by_cases hpast : o < x.peer
  · have hdp : decide ((o : Int) < (x.peer : Int)) = true := decide_eq_true (by omega)
    rw [hdp]
    have HPA := hide1 hpast
    clear hdp hpast
    have c3 := (boxS M1.out.row).2.2.2.1
    have f3 := frozen_of_row W1 s 3 _ _ M1.out.row
    obtain ⟨M2, K2⟩ := M1.out.mark (j := 3) (z := .bool true) (x' := { x with owed := true }) rfl rfl rfl (by rw [heap_setCell_same _ s 3 _ _ _ M1.out.row]; rfl)
    have HM2 := hide1 M2
    have HK2 := hide1 K2
    have R4' : Hid ((W1.setCell ⟨s, 3, none⟩ (.bool true)).heap[b4]? = some (.cells #[.slice none 0 0, .bool false] 60 (0, 0))) := (K2.block b4 (lt_heap R4.out) (fun e => by have h1 := (H.out.flt e).2; have h2 := HBB.out.2.1; omega)).trans R4.out
    clear M2 K2
    go_upto_region 3 with (fail)
    generalize W1.setCell ⟨s, 3, none⟩ (.bool true) = W2 at HM2 HK2 R4' ⊢
    clear c3 f3
    go_wp2_with (refine wpList_store_row rfl 60 (.tmp 4) (.tmp 18) rfl b4 #[.slice none 0 0, .bool false] rfl rfl 60 _ R4'.out rfl (by kernel_rfl) (by kernel_rfl) ?_)
    have hk4 : Kp (fun g => g = b4) W2 (W2.setRow b4 #[.slice none 0 0, .bool false]) := ⟨rfl, rfl, rfl, by simp [World.setRow], fun g _ hg => setRow_other W2 b4 g _ hg⟩
    refine ret_g2 Try.results30 b4 _ _ _ rfl rfl (setRow_heap W2 b4 _ _ _ _ R4'.out) rfl ⟨_, _, _, rfl, HP.out _ _ _ _ ⟨?_, ?_, v, m, u, ?_, ?_, fun g hg => .inl hg, ?_, fun g hg => by cases hg⟩⟩
    · rw [Ls.takeA, if_pos HPA.out]
    · rw [Ls.takeC, if_pos HPA.out]
      rfl
    · rw [Ls.takeX, if_pos HPA.out]
      exact (HM2.out.kp hk4 fun g hg e => by have h1 := (H.out.flt hg).2; have h2 := HBB.out.2.1; omega).mono (Nat.le_succ _)
    · exact ((Kp.ofBelow B1.out).trans HK2.out).join hk4 fun g hg => .inr (by have h2 := HBB.out.2.1; omega)
    · rw [Ls.takeB, if_pos HPA.out]
      exact Lst.nil _ _
  · have hdp : decide ((o : Int) < (x.peer : Int)) = false := decide_eq_false (by omega)
    rw [hdp]
    have HPA := hide1 hpast
    clear hdp hpast
    obtain ⟨d0, d1, d2, d3, d4, d5, _⟩ := X.box6 R3.out
    have kMeet := hide1 (lmeet_any M1.out o)
    obtain ⟨an, han⟩ : ∃ d, x.anew o = d := ⟨_, rfl⟩
    rw [han] at kMeet
    have HAN := hide1 han
    obtain ⟨y, hy⟩ : ∃ y, x.meet o = y := ⟨_, rfl⟩
    rw [hy] at kMeet
    have HY := hide1 hy
    have HYO : Hid (y.own = x.own ∧ y.peer = o) := by rw [← hy]; exact ⟨x.meet_own o, x.meet_peer o⟩
    clear han hy
    go_wp2_with fail
    refine kMeet.out.mono ?_
    rintro e W2 ⟨rfl, v2, m2, u2, M2, K2, F2⟩
    have HM2 := hide1 M2
    have HK2 := hide1 ((Kp.ofBelow B1.out).trans K2)
    have HF2 : Hid (∀ g, Lf s v2 m2 u2 g → Lf s v m u g ∨ w.heap.size ≤ g) := fun g hg => by
      rcases F2 g hg with h1 | h1
      · exact .inl h1
      · have := B1.out.size
        exact .inr (by omega)
    have HD2 : Hid (∀ g, Lf s v2 m2 u2 g → g ≠ b3 ∧ g ≠ b4) := fun g hg => by
      have h3 := lt_heap R3.out
      have h4 := lt_heap R4.out
      have h5 := HBB.out
      rcases F2 g hg with h1 | h1
      · have := (H.out.flt h1).2
        exact ⟨by omega, by omega⟩
      · exact ⟨by omega, by omega⟩
    have R3' : Hid (W2.heap[b3]? = some (.cells #[.int .i64 (k : Int), .int .u32 (o : Int), .int .u32 (p : Int), .int .u32 (q : Int), .int .u32 (a : Int), .string b] 73 (0, 0))) := (K2.block b3 (lt_heap R3.out) (fun e => by have h1 := (H.out.flt e).2; have h2 := HBB.out.1; omega)).trans R3.out
    have R4' : Hid (W2.heap[b4]? = some (.cells #[.slice none 0 0, .bool false] 60 (0, 0))) := (K2.block b4 (lt_heap R4.out) (fun e => by have h1 := (H.out.flt e).2; have h2 := HBB.out.2.1; omega)).trans R4.out
    clear M2 K2 F2 kMeet R3 R4 M1 B1 d0 d1 d2 d3 d4 d5
    go_upto_region 5 with (fail)
    generalize hZ : World.alloc W2 _ = W3
    have b23 : Hid (Below W2.heap.size W2 W3) := by rw [← hZ]; exact below1 _
    have R6 : Hid (W3.heap[W2.heap.size]? = some (.cells #[.slice none 0 0, .bool an] 60 (0, 0))) := by rw [← hZ]; exact heap_alloc_new _ _
    have R3 := hide1 ((b23.out.block b3 (lt_heap R3'.out)).trans R3'.out)
    have R4 := hide1 ((b23.out.block b4 (lt_heap R4'.out)).trans R4'.out)
    have M3 := hide1 (HM2.out.below b23.out (Nat.le_refl _))
    have K3 := hide1 (HK2.out.trans (Kp.ofBelow b23.out))
    obtain ⟨b6, hb6⟩ : ∃ g, W2.heap.size = g := ⟨_, rfl⟩
    have HB6 : Hid (w.heap.size ≤ b6 ∧ b6 ≠ b3 ∧ b6 ≠ b4 ∧ ∀ g, Lf s v2 m2 u2 g → g ≠ b6) := by
      have h1 := HK2.out.size
      have h2 := lt_heap R3'.out
      have h3 := lt_heap R4'.out
      refine ⟨by omega, by omega, by omega, fun g hg => ?_⟩
      have := (HM2.out.flt hg).2
      omega
    rw [hb6] at R6 ⊢
    clear hZ hb6 b23 HM2 HK2 R3' R4'
    have kMeant := fun w => hide1 (meant_any (y.own : Int) (y.peer : Int) k o p q a b w)
    unfold X.fra at kMeant
    refine region_f (F := [5]) (S := fun W => W.heap[s]? = some (.cells #[.int .u32 (y.own : Int), .int .u32 (y.peer : Int), .bool y.sure, .bool y.owed, .int .u32 (y.k : Int), v2, .int .u32 (y.a : Int), m2, u2] 54 (0, 0)) ∧ W.heap[b3]? = some (.cells #[.int .i64 (k : Int), .int .u32 (o : Int), .int .u32 (p : Int), .int .u32 (q : Int), .int .u32 (a : Int), .string b] 73 (0, 0))) (by kernel_rfl) ⟨M3.out.row, R3.out⟩ (fun hS => ?_)
    have BU : Hid (Below W3.heap.size W3 (World.drew W3)) := (Below.refl _ _).drew
    generalize World.drew W3 = WU at hS BU ⊢
    refine take_p 0 24 (.pointer (some ⟨s, 0, none⟩)) rfl rfl (by kernel_rfl) (by kernel_rfl) (by kernel_rfl) (fun _ _ _ h => h) rfl (fun w => by go_simp) ?_
    try simp only [List.setIfInBounds_toArray, List.set_cons_zero, List.set_cons_succ]
    refine take_p 1 25 (.pointer (some ⟨s, 0, none⟩)) rfl rfl (by kernel_rfl) (by kernel_rfl) (by kernel_rfl) (fun _ _ _ h => h) rfl (fun w => by go_simp) ?_
    try simp only [List.setIfInBounds_toArray, List.set_cons_zero, List.set_cons_succ]
    refine take_p 2 26 (.pointer (some ⟨s, 0, none⟩)) rfl rfl (by kernel_rfl) (by kernel_rfl) (by kernel_rfl) (fun _ _ _ h => h) rfl (fun w => by go_simp) ?_
    try simp only [List.setIfInBounds_toArray, List.set_cons_zero, List.set_cons_succ]
    refine take_f 3 27 (.agg #[.int .u32 (y.own : Int), .int .u32 (y.peer : Int)]) [5, 6] rfl rfl (by kernel_rfl) (by kernel_rfl) (by kernel_rfl) (by kernel_rfl) (by kernel_rfl) (by kernel_rfl) (fun _ _ _ h => h) rfl (fun w hSw => by obtain ⟨g0, g1⟩ := hSw; obtain ⟨c0, c1, _⟩ := boxS g0; go_simp) hS ?_
    try simp only [List.setIfInBounds_toArray, List.set_cons_zero, List.set_cons_succ]
    refine take_f 4 28 (.agg #[.int .i64 (k : Int), .int .u32 (o : Int), .int .u32 (p : Int), .int .u32 (q : Int), .int .u32 (a : Int), .string b]) [5, 6] rfl rfl (by kernel_rfl) (by kernel_rfl) (by kernel_rfl) (by kernel_rfl) (by kernel_rfl) (by kernel_rfl) (fun _ _ _ h => h) rfl (fun w hSw => by obtain ⟨g0, g1⟩ := hSw; obtain ⟨c0, c1, c2, c3, c4, c5, _⟩ := X.box6 g1; go_simp) hS ?_
    try simp only [List.setIfInBounds_toArray, List.set_cons_zero, List.set_cons_succ]
    refine ready_f 5 (o := { dst := some 29, op := Op.call { callee := Callee.value (Operand.func 47), args := #[Operand.tmp 27, Operand.tmp 28], argTypes := #[47, 73] }, type := 4, pos := "link.go:186", after := #[{ on := 3, ground := Ground.data }, { on := 4, ground := Ground.data }], guard := none }) (by kernel_rfl) rfl (fun K hK => ?_)
    go_simp
    refine (kMeant _).out.mono ?_
    rintro e W4 ⟨rfl, hb4⟩
    refine hK.out _ _ (fun h => absurd (by decide) h) ?_
    clear hK K
    try simp only [Act.put, List.setIfInBounds_toArray, List.set_cons_zero, List.set_cons_succ]
    have B4 : Hid (Below W3.heap.size W3 W4) := BU.out.trans (hb4.mono BU.out.size)
    have M4 := hide1 (M3.out.below B4.out (Nat.le_refl _))
    have K4 := hide1 (K3.out.trans (Kp.ofBelow B4.out))
    have R3a := hide1 ((B4.out.block b3 (lt_heap R3.out)).trans R3.out)
    have R4a := hide1 ((B4.out.block b4 (lt_heap R4.out)).trans R4.out)
    have R6a := hide1 ((B4.out.block b6 (lt_heap R6.out)).trans R6.out)
    clear hb4 BU hS M3 K3 R3 R4 R6 kMeant B4
    refine take_p 6 30 (.bool (!((p : Int) == (y.own : Int)))) rfl rfl (by kernel_rfl) (by kernel_rfl) (by kernel_rfl) (fun _ _ _ h => h) rfl (fun w => by go_simp) ?_
    try simp only [List.setIfInBounds_toArray, List.set_cons_zero, List.set_cons_succ]
    refine done_f (by kernel_rfl) ?_ _
    by_cases hme : p = x.own
    · have hmb : ((p : Int) == (y.own : Int)) = true := by rw [HYO.out.1]; simp; omega
      rw [hmb]
      have HME := hide1 hme
      clear hme hmb
      have hpos : Hid (0 < y.peer) := by have := HYO.out.2; have := HO.out.1; unfold Hid; omega
      have HXY : Hid (y.Ok N) := by unfold Hid; rw [← HY.out]; exact HX.out.meet HO.out.2
      have c2 := (boxS M4.out.row).2.2.1
      have f2 := frozen_of_row W4 s 2 _ _ M4.out.row
      obtain ⟨M5, K5⟩ := M4.out.mark (j := 2) (z := .bool true) (x' := { y with sure := true }) rfl rfl rfl (by rw [heap_setCell_same _ s 2 _ _ _ M4.out.row]; rfl)
      have HM5 := hide1 M5
      have HK5 := hide1 (K4.out.join K5 HF2.out)
      have R3b : Hid ((W4.setCell ⟨s, 2, none⟩ (.bool true)).heap[b3]? = some (.cells #[.int .i64 (k : Int), .int .u32 (o : Int), .int .u32 (p : Int), .int .u32 (q : Int), .int .u32 (a : Int), .string b] 73 (0, 0))) := (K5.block b3 (lt_heap R3a.out) (fun e => (HD2.out b3 e).1 rfl)).trans R3a.out
      have R4b : Hid ((W4.setCell ⟨s, 2, none⟩ (.bool true)).heap[b4]? = some (.cells #[.slice none 0 0, .bool false] 60 (0, 0))) := (K5.block b4 (lt_heap R4a.out) (fun e => (HD2.out b4 e).2 rfl)).trans R4a.out
      have R6b : Hid ((W4.setCell ⟨s, 2, none⟩ (.bool true)).heap[b6]? = some (.cells #[.slice none 0 0, .bool an] 60 (0, 0))) := (K5.block b6 (lt_heap R6a.out) (fun e => HB6.out.2.2.2 b6 e rfl)).trans R6a.out
      clear M5 K5
      go_upto_region 9 with (fail)
      generalize W4.setCell ⟨s, 2, none⟩ (.bool true) = W5 at HM5 HK5 R3b R4b R6b ⊢
      clear c2 f2 R3a R4a R6a M4 K4
      obtain ⟨d0, d1, d2, d3, d4, d5, _⟩ := X.box6 R3b.out
      have c3 := (boxS HM5.out.row).2.2.2.1
      change W5.cell? ⟨s, 3, none⟩ = some (.bool y.owed) at c3
      have f3 := frozen_of_row W5 s 3 _ _ HM5.out.row
      obtain ⟨ow, how⟩ : ∃ d, (y.owed || decide (k ≠ 3)) = d := ⟨_, rfl⟩
      have HOW := hide1 how
      have key : Hid (∀ W6, W6 = W5.setCell ⟨s, 3, none⟩ (.bool ow) → Lkm B s v2 m2 u2 n (y.sured k) W6 ∧ Kp (Lf s v2 m2 u2) W5 W6) := fun W6 hW6 => by
        rw [hW6]
        exact HM5.out.mark (j := 3) (z := .bool ow) (x' := y.sured k) rfl rfl rfl (by rw [heap_setCell_same _ s 3 _ _ _ HM5.out.row, ← HOW.out]; rfl)
      have kOpen := fun W6 (hM : Lkm B s v2 m2 u2 n (y.sured k) W6) (hw : B ≤ W6.heap.size) => hide1 (lopen_any hM hw (HXY.out.sured k hpos.out) HN.out Hn.out k o p q a b HK.out Hq.out Hb.out)
      unfold X.fra at kOpen
      cases hyo : y.owed with
      | true =>
        rw [hyo] at c3 how
        have how' : ow = true := by rw [← how]; rfl
        subst how'
        clear how hyo
        go_upto_region 10 with (fail)
        obtain ⟨M6, K6⟩ := key.out _ rfl
        have HM6 := hide1 M6
        have HK6 := hide1 (HK5.out.join K6 HF2.out)
        have R3c := hide1 ((K6.block b3 (lt_heap R3b.out) (fun e => (HD2.out b3 e).1 rfl)).trans R3b.out)
        have R4c := hide1 ((K6.block b4 (lt_heap R4b.out) (fun e => (HD2.out b4 e).2 rfl)).trans R4b.out)
        have R6c := hide1 ((K6.block b6 (lt_heap R6b.out) (fun e => HB6.out.2.2.2 b6 e rfl)).trans R6b.out)
        clear M6 K6 key d0 d1 d2 d3 d4 d5 c3 f3
        generalize W5.setCell ⟨s, 3, none⟩ (.bool true) = W6 at HM6 HK6 R3c R4c R6c ⊢
        clear HM5 HK5 R3b R4b R6b
        obtain ⟨d0, d1, d2, d3, d4, d5, _⟩ := X.box6 R3c.out
        have kO := hide1 (kOpen W6 HM6.out (by have := HB.out; have := HK6.out.size; omega)).out
        obtain ⟨oc, hoc⟩ : ∃ c, (y.sured k).openC k q a = c := ⟨_, rfl⟩
        rw [hoc] at kO
        have HOC := hide1 hoc
        clear kOpen hoc
        go_wp2_with fail
        refine kO.out.mono ?_
        rintro e W7 ⟨r, rfl, v7, m7, u7, M7, K7, F7, L7, D7⟩
        have R4d : Hid (W7.heap[b4]? = some (.cells #[.slice none 0 0, .bool false] 60 (0, 0))) := (K7.block b4 (lt_heap R4c.out) (fun e => (HD2.out b4 e).2 rfl)).trans R4c.out
        have R6d : Hid (W7.heap[b6]? = some (.cells #[.slice none 0 0, .bool an] 60 (0, 0))) := (K7.block b6 (lt_heap R6c.out) (fun e => HB6.out.2.2.2 b6 e rfl)).trans R6c.out
        have HD7 : Hid (∀ g, Lf s v7 m7 u7 g → g ≠ b4 ∧ g ≠ b6) := fun g hg => by
          have h4 := lt_heap R4c.out
          have h6 := lt_heap R6c.out
          rcases F7 g hg with h1 | h1
          · exact ⟨(HD2.out g h1).2, HB6.out.2.2.2 g h1⟩
          · exact ⟨by omega, by omega⟩
        have HR7 : Hid (∀ g, r.ownBlock = some g → g ≠ b4 ∧ g ≠ b6 ∧ ¬ Lf s v7 m7 u7 g) := fun g hg => by
          have h4 := lt_heap R4c.out
          have h6 := lt_heap R6c.out
          have h7 := (L7.lt hg).1
          exact ⟨by omega, by omega, D7 g hg⟩
        have HM7 := hide1 M7
        have HK7 := hide1 (HK6.out.join K7 HF2.out)
        have HF7 : Hid (∀ g, Lf s v7 m7 u7 g → Lf s v m u g ∨ w.heap.size ≤ g) := fun g hg => by
          rcases F7 g hg with h1 | h1
          · exact HF2.out g h1
          · have := HK6.out.size
            exact .inr (by omega)
        have HL7 := hide1 (L7.mono HK6.out.size)
        obtain ⟨ra, rc, hra⟩ := L7.form
        obtain ⟨rn, hrn⟩ : ∃ rn, ((y.sured k).openB k q a b).length = rn := ⟨_, rfl⟩
        rw [hrn] at hra
        subst hra
        clear M7 K7 F7 L7 D7 kO hrn R3c R4c R6c d0 d1 d2 d3 d4 d5 HM6 HK6
        obtain ⟨k0, k1, q0, q1, _⟩ := box2 R6d.out
        go_upto_region 12 with (fail)
        have R6e : Hid ((W7.setCell ⟨b6, 0, none⟩ (.slice ra rn rc)).heap[b6]? = some (.cells #[.slice ra rn rc, .bool an] 60 (0, 0))) := by unfold Hid; rw [heap_setCell_same _ b6 0 _ _ _ R6d.out]; rfl
        have K8 : Hid (Kp (fun g => g = b6) W7 (W7.setCell ⟨b6, 0, none⟩ (.slice ra rn rc))) := Kp.setCell _ _ _ _ rfl
        have R4e := hide1 ((K8.out.block b4 (lt_heap R4d.out) (fun e => HB6.out.2.2.1 e.symm)).trans R4d.out)
        generalize W7.setCell ⟨b6, 0, none⟩ (.slice ra rn rc) = W8 at R6e K8 R4e ⊢
        clear k0 k1 q0 q1 R4d R6d
        obtain ⟨k0, k1, q0, q1, _⟩ := box2 R6e.out
        go_wp2_with (refine wpList_store_row rfl 60 (.tmp 4) (.tmp 70) rfl b4 #[.slice ra rn rc, .bool an] rfl rfl 60 _ R4e.out rfl (by kernel_rfl) (by kernel_rfl) ?_)
        have hk4 : Kp (fun g => g = b4) W8 (W8.setRow b4 #[.slice ra rn rc, .bool an]) := ⟨rfl, rfl, rfl, by simp [World.setRow], fun g _ hg => setRow_other W8 b4 g _ hg⟩
        have k84 : Kp (fun g => g = b4 ∨ g = b6) W7 (W8.setRow b4 #[.slice ra rn rc, .bool an]) := (K8.out.mono fun g e => .inr e).trans (hk4.mono fun g e => .inl e)
        refine ret_g2 Try.results30 b4 _ _ _ rfl rfl (setRow_heap W8 b4 _ _ _ _ R4e.out) rfl ⟨_, _, _, rfl, HP.out _ _ _ _ ⟨?_, ?_, v7, m7, u7, ?_, ?_, HF7.out, ?_, fun g hg => (HR7.out g hg).2.2⟩⟩
        · rw [Ls.takeA, if_neg HPA.out, HAN.out]
        · rw [Ls.takeC, if_neg HPA.out, if_neg (fun e => e HME.out), HY.out, HOC.out]
        · rw [Ls.takeX, if_neg HPA.out, if_neg (fun e => e HME.out), HY.out]
          exact HM7.out.kp k84 fun g hg e => by
            rcases e with e | e
            · exact (HD7.out g hg).1 e
            · exact (HD7.out g hg).2 e
        · refine HK7.out.join k84 fun g hg => .inr ?_
          have h1 := HBB.out.2.1
          have h2 := HB6.out.1
          rcases hg with e | e <;> omega
        · rw [Ls.takeB, if_neg HPA.out, if_neg (fun e => e HME.out), HY.out]
          exact HL7.out.kp k84 fun g hg e => by
            rcases e with e | e
            · exact (HR7.out g hg).1 e
            · exact (HR7.out g hg).2.1 e
      | false =>
        rw [hyo] at c3 how
        have how' : ((k : Int) != 3) = ow := by
          rw [← how, Bool.false_or, Bool.eq_iff_iff, bne_iff_ne, decide_eq_true_iff]
          omega
        clear how hyo
        go_upto_region 10 with (fail)
        obtain ⟨M6, K6⟩ := key.out _ rfl
        have HM6 := hide1 M6
        have HK6 := hide1 (HK5.out.join K6 HF2.out)
        have R3c := hide1 ((K6.block b3 (lt_heap R3b.out) (fun e => (HD2.out b3 e).1 rfl)).trans R3b.out)
        have R4c := hide1 ((K6.block b4 (lt_heap R4b.out) (fun e => (HD2.out b4 e).2 rfl)).trans R4b.out)
        have R6c := hide1 ((K6.block b6 (lt_heap R6b.out) (fun e => HB6.out.2.2.2 b6 e rfl)).trans R6b.out)
        clear M6 K6 key d0 d1 d2 d3 d4 d5 c3 f3
        generalize W5.setCell ⟨s, 3, none⟩ (.bool ow) = W6 at HM6 HK6 R3c R4c R6c ⊢
        clear HM5 HK5 R3b R4b R6b
        obtain ⟨d0, d1, d2, d3, d4, d5, _⟩ := X.box6 R3c.out
        have kO := hide1 (kOpen W6 HM6.out (by have := HB.out; have := HK6.out.size; omega)).out
        obtain ⟨oc, hoc⟩ : ∃ c, (y.sured k).openC k q a = c := ⟨_, rfl⟩
        rw [hoc] at kO
        have HOC := hide1 hoc
        clear kOpen hoc
        go_wp2_with fail
        refine kO.out.mono ?_
        rintro e W7 ⟨r, rfl, v7, m7, u7, M7, K7, F7, L7, D7⟩
        have R4d : Hid (W7.heap[b4]? = some (.cells #[.slice none 0 0, .bool false] 60 (0, 0))) := (K7.block b4 (lt_heap R4c.out) (fun e => (HD2.out b4 e).2 rfl)).trans R4c.out
        have R6d : Hid (W7.heap[b6]? = some (.cells #[.slice none 0 0, .bool an] 60 (0, 0))) := (K7.block b6 (lt_heap R6c.out) (fun e => HB6.out.2.2.2 b6 e rfl)).trans R6c.out
        have HD7 : Hid (∀ g, Lf s v7 m7 u7 g → g ≠ b4 ∧ g ≠ b6) := fun g hg => by
          have h4 := lt_heap R4c.out
          have h6 := lt_heap R6c.out
          rcases F7 g hg with h1 | h1
          · exact ⟨(HD2.out g h1).2, HB6.out.2.2.2 g h1⟩
          · exact ⟨by omega, by omega⟩
        have HR7 : Hid (∀ g, r.ownBlock = some g → g ≠ b4 ∧ g ≠ b6 ∧ ¬ Lf s v7 m7 u7 g) := fun g hg => by
          have h4 := lt_heap R4c.out
          have h6 := lt_heap R6c.out
          have h7 := (L7.lt hg).1
          exact ⟨by omega, by omega, D7 g hg⟩
        have HM7 := hide1 M7
        have HK7 := hide1 (HK6.out.join K7 HF2.out)
        have HF7 : Hid (∀ g, Lf s v7 m7 u7 g → Lf s v m u g ∨ w.heap.size ≤ g) := fun g hg => by
          rcases F7 g hg with h1 | h1
          · exact HF2.out g h1
          · have := HK6.out.size
            exact .inr (by omega)
        have HL7 := hide1 (L7.mono HK6.out.size)
        obtain ⟨ra, rc, hra⟩ := L7.form
        obtain ⟨rn, hrn⟩ : ∃ rn, ((y.sured k).openB k q a b).length = rn := ⟨_, rfl⟩
        rw [hrn] at hra
        subst hra
        clear M7 K7 F7 L7 D7 kO hrn R3c R4c R6c d0 d1 d2 d3 d4 d5 HM6 HK6
        obtain ⟨k0, k1, q0, q1, _⟩ := box2 R6d.out
        go_upto_region 12 with (fail)
        have R6e : Hid ((W7.setCell ⟨b6, 0, none⟩ (.slice ra rn rc)).heap[b6]? = some (.cells #[.slice ra rn rc, .bool an] 60 (0, 0))) := by unfold Hid; rw [heap_setCell_same _ b6 0 _ _ _ R6d.out]; rfl
        have K8 : Hid (Kp (fun g => g = b6) W7 (W7.setCell ⟨b6, 0, none⟩ (.slice ra rn rc))) := Kp.setCell _ _ _ _ rfl
        have R4e := hide1 ((K8.out.block b4 (lt_heap R4d.out) (fun e => HB6.out.2.2.1 e.symm)).trans R4d.out)
        generalize W7.setCell ⟨b6, 0, none⟩ (.slice ra rn rc) = W8 at R6e K8 R4e ⊢
        clear k0 k1 q0 q1 R4d R6d
        obtain ⟨k0, k1, q0, q1, _⟩ := box2 R6e.out
        go_wp2_with (refine wpList_store_row rfl 60 (.tmp 4) (.tmp 70) rfl b4 #[.slice ra rn rc, .bool an] rfl rfl 60 _ R4e.out rfl (by kernel_rfl) (by kernel_rfl) ?_)
        have hk4 : Kp (fun g => g = b4) W8 (W8.setRow b4 #[.slice ra rn rc, .bool an]) := ⟨rfl, rfl, rfl, by simp [World.setRow], fun g _ hg => setRow_other W8 b4 g _ hg⟩
        have k84 : Kp (fun g => g = b4 ∨ g = b6) W7 (W8.setRow b4 #[.slice ra rn rc, .bool an]) := (K8.out.mono fun g e => .inr e).trans (hk4.mono fun g e => .inl e)
        refine ret_g2 Try.results30 b4 _ _ _ rfl rfl (setRow_heap W8 b4 _ _ _ _ R4e.out) rfl ⟨_, _, _, rfl, HP.out _ _ _ _ ⟨?_, ?_, v7, m7, u7, ?_, ?_, HF7.out, ?_, fun g hg => (HR7.out g hg).2.2⟩⟩
        · rw [Ls.takeA, if_neg HPA.out, HAN.out]
        · rw [Ls.takeC, if_neg HPA.out, if_neg (fun e => e HME.out), HY.out, HOC.out]
        · rw [Ls.takeX, if_neg HPA.out, if_neg (fun e => e HME.out), HY.out]
          exact HM7.out.kp k84 fun g hg e => by
            rcases e with e | e
            · exact (HD7.out g hg).1 e
            · exact (HD7.out g hg).2 e
        · refine HK7.out.join k84 fun g hg => .inr ?_
          have h1 := HBB.out.2.1
          have h2 := HB6.out.1
          rcases hg with e | e <;> omega
        · rw [Ls.takeB, if_neg HPA.out, if_neg (fun e => e HME.out), HY.out]
          exact HL7.out.kp k84 fun g hg e => by
            rcases e with e | e
            · exact (HR7.out g hg).1 e
            · exact (HR7.out g hg).2.1 e
    · have hmb : ((p : Int) == (y.own : Int)) = false := by rw [HYO.out.1]; simp; omega
      rw [hmb]
      have HME := hide1 hme
      clear hme hmb
      have c3 := (boxS M4.out.row).2.2.2.1
      have f3 := frozen_of_row W4 s 3 _ _ M4.out.row
      obtain ⟨M5, K5⟩ := M4.out.mark (j := 3) (z := .bool true) (x' := { y with owed := true }) rfl rfl rfl (by rw [heap_setCell_same _ s 3 _ _ _ M4.out.row]; rfl)
      have HM5 := hide1 M5
      have HK5 := hide1 (K4.out.join K5 HF2.out)
      have R3b : Hid ((W4.setCell ⟨s, 3, none⟩ (.bool true)).heap[b3]? = some (.cells #[.int .i64 (k : Int), .int .u32 (o : Int), .int .u32 (p : Int), .int .u32 (q : Int), .int .u32 (a : Int), .string b] 73 (0, 0))) := (K5.block b3 (lt_heap R3a.out) (fun e => (HD2.out b3 e).1 rfl)).trans R3a.out
      have R4b : Hid ((W4.setCell ⟨s, 3, none⟩ (.bool true)).heap[b4]? = some (.cells #[.slice none 0 0, .bool false] 60 (0, 0))) := (K5.block b4 (lt_heap R4a.out) (fun e => (HD2.out b4 e).2 rfl)).trans R4a.out
      have R6b : Hid ((W4.setCell ⟨s, 3, none⟩ (.bool true)).heap[b6]? = some (.cells #[.slice none 0 0, .bool an] 60 (0, 0))) := (K5.block b6 (lt_heap R6a.out) (fun e => HB6.out.2.2.2 b6 e rfl)).trans R6a.out
      clear M5 K5
      go_upto_region 7 with (fail)
      generalize W4.setCell ⟨s, 3, none⟩ (.bool true) = W5 at HM5 HK5 R3b R4b R6b ⊢
      clear c3 f3 R3a R4a R6a M4 K4
      have kFor := fun w => hide1 (X.for_any k o p q a b (y.own : Int) (y.peer : Int) w)
      unfold X.fra at kFor
      refine region_f (F := [13]) (S := fun W => W.heap[s]? = some (.cells #[.int .u32 (y.own : Int), .int .u32 (y.peer : Int), .bool y.sure, .bool true, .int .u32 (y.k : Int), v2, .int .u32 (y.a : Int), m2, u2] 54 (0, 0)) ∧ W.heap[b3]? = some (.cells #[.int .i64 (k : Int), .int .u32 (o : Int), .int .u32 (p : Int), .int .u32 (q : Int), .int .u32 (a : Int), .string b] 73 (0, 0)) ∧ W.heap[b6]? = some (.cells #[.slice none 0 0, .bool an] 60 (0, 0)) ∧ W.heap[b4]? = some (.cells #[.slice none 0 0, .bool false] 60 (0, 0))) (by kernel_rfl) ⟨HM5.out.row, R3b.out, R6b.out, R4b.out⟩ (fun hS => ?_)
      have BU : Hid (Below W5.heap.size W5 (World.drew W5)) := (Below.refl _ _).drew
      generalize World.drew W5 = WU at hS BU ⊢
      refine take_f 0 34 (.agg #[.slice none 0 0, .bool an]) [13, 14] rfl rfl (by kernel_rfl) (by kernel_rfl) (by kernel_rfl) (by kernel_rfl) (by kernel_rfl) (by kernel_rfl) (fun _ _ _ h => h) rfl (fun w hSw => by obtain ⟨g0, g1, g2, _⟩ := hSw; obtain ⟨c0, c1, _, _, _⟩ := box2 g2; go_simp) hS ?_
      try simp only [List.setIfInBounds_toArray, List.set_cons_zero, List.set_cons_succ]
      refine take_f 1 35 (.agg #[.int .i64 (k : Int), .int .u32 (o : Int), .int .u32 (p : Int), .int .u32 (q : Int), .int .u32 (a : Int), .string b]) [12, 13, 14] rfl rfl (by kernel_rfl) (by kernel_rfl) (by kernel_rfl) (by kernel_rfl) (by kernel_rfl) (by kernel_rfl) (fun _ _ _ h => h) rfl (fun w hSw => by obtain ⟨g0, g1, g2, _⟩ := hSw; obtain ⟨c0, c1, c2, c3, c4, c5, _⟩ := X.box6 g1; go_simp) hS ?_
      try simp only [List.setIfInBounds_toArray, List.set_cons_zero, List.set_cons_succ]
      refine take_p 2 36 (.pointer (some ⟨s, 0, none⟩)) rfl rfl (by kernel_rfl) (by kernel_rfl) (by kernel_rfl) (fun _ _ _ h => h) rfl (fun w => by go_simp) ?_
      try simp only [List.setIfInBounds_toArray, List.set_cons_zero, List.set_cons_succ]
      refine take_p 3 37 (.pointer (some ⟨s, 0, none⟩)) rfl rfl (by kernel_rfl) (by kernel_rfl) (by kernel_rfl) (fun _ _ _ h => h) rfl (fun w => by go_simp) ?_
      try simp only [List.setIfInBounds_toArray, List.set_cons_zero, List.set_cons_succ]
      refine take_p 4 38 (.pointer (some ⟨s, 0, none⟩)) rfl rfl (by kernel_rfl) (by kernel_rfl) (by kernel_rfl) (fun _ _ _ h => h) rfl (fun w => by go_simp) ?_
      try simp only [List.setIfInBounds_toArray, List.set_cons_zero, List.set_cons_succ]
      refine take_p 5 39 (.pointer (some ⟨s, 0, none⟩)) rfl rfl (by kernel_rfl) (by kernel_rfl) (by kernel_rfl) (fun _ _ _ h => h) rfl (fun w => by go_simp) ?_
      try simp only [List.setIfInBounds_toArray, List.set_cons_zero, List.set_cons_succ]
      refine take_f 6 40 (.int .u32 (y.own : Int)) [12, 13, 14] rfl rfl (by kernel_rfl) (by kernel_rfl) (by kernel_rfl) (by kernel_rfl) (by kernel_rfl) (by kernel_rfl) (fun _ _ _ h => h) rfl (fun w hSw => by obtain ⟨g0, g1, g2, _⟩ := hSw; obtain ⟨c0, c1, _⟩ := boxS g0; go_simp) hS ?_
      try simp only [List.setIfInBounds_toArray, List.set_cons_zero, List.set_cons_succ]
      refine take_p 7 41 (.pointer (some ⟨s, 0, none⟩)) rfl rfl (by kernel_rfl) (by kernel_rfl) (by kernel_rfl) (fun _ _ _ h => h) rfl (fun w => by go_simp) ?_
      try simp only [List.setIfInBounds_toArray, List.set_cons_zero, List.set_cons_succ]
      refine take_p 8 42 (.pointer (some ⟨s, 0, none⟩)) rfl rfl (by kernel_rfl) (by kernel_rfl) (by kernel_rfl) (fun _ _ _ h => h) rfl (fun w => by go_simp) ?_
      try simp only [List.setIfInBounds_toArray, List.set_cons_zero, List.set_cons_succ]
      refine take_p 9 43 (.pointer (some ⟨s, 0, none⟩)) rfl rfl (by kernel_rfl) (by kernel_rfl) (by kernel_rfl) (fun _ _ _ h => h) rfl (fun w => by go_simp) ?_
      try simp only [List.setIfInBounds_toArray, List.set_cons_zero, List.set_cons_succ]
      refine take_p 10 44 (.pointer (some ⟨s, 1, none⟩)) rfl rfl (by kernel_rfl) (by kernel_rfl) (by kernel_rfl) (fun _ _ _ h => h) rfl (fun w => by go_simp) ?_
      try simp only [List.setIfInBounds_toArray, List.set_cons_zero, List.set_cons_succ]
      refine take_f 11 45 (.int .u32 (y.peer : Int)) [12, 13, 14] rfl rfl (by kernel_rfl) (by kernel_rfl) (by kernel_rfl) (by kernel_rfl) (by kernel_rfl) (by kernel_rfl) (fun _ _ _ h => h) rfl (fun w hSw => by obtain ⟨g0, g1, g2, _⟩ := hSw; obtain ⟨c0, c1, _⟩ := boxS g0; go_simp) hS ?_
      try simp only [List.setIfInBounds_toArray, List.set_cons_zero, List.set_cons_succ]
      refine ready_f 12 (o := { dst := some 46, op := Op.call { callee := Callee.value (Operand.func 48), args := #[Operand.tmp 35, Operand.tmp 40, Operand.tmp 45], argTypes := #[73, 28, 28] }, type := 45, pos := "link.go:188", after := #[{ on := 1, ground := Ground.data }, { on := 6, ground := Ground.data }, { on := 11, ground := Ground.data }], guard := none }) (by kernel_rfl) rfl (fun K hK => ?_)
      go_simp
      refine (kFor _).out.mono ?_
      rintro e W6 ⟨rfl, hb6⟩
      refine hK.out _ _ (fun _ h => ⟨(hb6.block s (lt_heap h.1)).trans h.1, (hb6.block b3 (lt_heap h.2.1)).trans h.2.1, (hb6.block b6 (lt_heap h.2.2.1)).trans h.2.2.1, (hb6.block b4 (lt_heap h.2.2.2)).trans h.2.2.2⟩) ?_
      clear hK K
      try simp only [Act.put, List.setIfInBounds_toArray, List.set_cons_zero, List.set_cons_succ]
      have B6 : Hid (Below W5.heap.size W5 W6) := BU.out.trans (hb6.mono BU.out.size)
      have R4c : Hid (W6.heap[b4]? = _) := (hb6.block b4 (lt_heap hS.2.2.2)).trans hS.2.2.2
      obtain ⟨k0, k1, q0, q1, _⟩ := box2 R4c.out
      obtain ⟨qf, _⟩ := free2 (x' := .slice none 0 0) R4c.out
      clear hb6 BU hS kFor
      obtain ⟨fc, hfc⟩ : ∃ c, X.frC (k : Int) (o : Int) (p : Int) (y.own : Int) (y.peer : Int) = c := ⟨_, rfl⟩
      rw [hfc]
      have HFC : Hid (fc = ((if k = 1 then 0 else 21 : Nat) : Int)) := by
        rw [← hfc, X.frC, HYO.out.1, HYO.out.2]
        by_cases h1 : k = 1
        · rw [if_neg (by omega), if_pos h1]; rfl
        · rw [if_pos (by have := HME.out; omega), if_neg h1]; rfl
      clear hfc
      refine ready_f 13 (o := { dst := none, op := Op.store 60 (Operand.tmp 4) (Operand.tmp 34), type := 0, pos := "link.go:188", after := #[{ on := 0, ground := Ground.data }, { on := 12, ground := Ground.chain }, { on := 0, ground := Ground.phase }, { on := 1, ground := Ground.textOnly Departure.lateStores }, { on := 2, ground := Ground.textOnly Departure.lateStores }, { on := 3, ground := Ground.textOnly Departure.lateStores }, { on := 4, ground := Ground.textOnly Departure.lateStores }, { on := 5, ground := Ground.textOnly Departure.lateStores }, { on := 6, ground := Ground.textOnly Departure.lateStores }, { on := 7, ground := Ground.textOnly Departure.lateStores }, { on := 8, ground := Ground.textOnly Departure.lateStores }, { on := 9, ground := Ground.textOnly Departure.lateStores }, { on := 10, ground := Ground.textOnly Departure.lateStores }, { on := 11, ground := Ground.textOnly Departure.lateStores }, { on := 12, ground := Ground.textOnly Departure.lateStoresUnsure }], guard := none }) (by kernel_rfl) rfl (fun K hK => ?_)
      go_simp
      refine hK.out _ _ (fun h => absurd (by decide) h) ?_
      clear hK K
      refine take_p 14 5 (.int .i64 fc) rfl rfl (by kernel_rfl) (by kernel_rfl) (by kernel_rfl) (fun _ _ _ h => h) rfl (fun w => by go_simp) ?_
      try simp only [List.setIfInBounds_toArray, List.set_cons_zero, List.set_cons_succ]
      refine done_f (by kernel_rfl) ?_ _
      go_wp2
      have hk4 : Kp (fun g => g = b4) W6 ((W6.setCell ⟨b4, 0, none⟩ (.slice none 0 0)).setCell ⟨b4, 1, none⟩ (.bool an)) := (Kp.setCell (F := fun g => g = b4) W6 b4 0 _ rfl).trans (Kp.setCell (F := fun g => g = b4) _ b4 1 _ rfl)
      refine ret_g2 Try.results30 b4 _ _ _ rfl rfl (set_box2 R4c.out) rfl ⟨_, _, _, rfl, HP.out _ _ _ _ ⟨?_, ?_, v2, m2, u2, ?_, ?_, HF2.out, ?_, fun g hg => by cases hg⟩⟩
      · rw [Ls.takeA, if_neg HPA.out, HAN.out]
      · rw [Ls.takeC, if_neg HPA.out, if_pos HME.out]
        exact HFC.out
      · rw [Ls.takeX, if_neg HPA.out, if_pos HME.out, HY.out]
        exact ((HM5.out.below B6.out (Nat.le_refl _)).kp hk4 fun g hg => (HD2.out g hg).2).mono (Nat.le_succ _)
      · exact (HK5.out.trans (Kp.ofBelow B6.out)).join hk4 fun g hg => .inr (by have h2 := HBB.out.2.1; omega)
      · rw [Ls.takeB, if_neg HPA.out, if_pos HME.out]
        exact Lst.nil _ _

end Go.Proofs.Ytcadlcpccemkbaa
