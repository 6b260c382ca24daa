/- An end of a link: isMade, Own, Peer, Ready, Room, Waiting, checkBody, Send. -/
import Derived.Test.YtcadlcpccemkbaaJm
namespace Go.Proofs.Ytcadlcpccemkbaa
open Go.RowKit
set_option maxRecDepth 100000
attribute [local go_sem] not_any

/- what an end keeps to -/
structure Ls.Ok (N : Nat) (x : Ls) : Prop where
  own0 : 0 < x.own
  own : x.own < 4294967296
  peer : x.peer < 4294967296
  hd : Hd x.a x.l
  A16 : x.A.length ≤ 16
  Q64 : x.Q.length ≤ 64
  ns : x.sure = false → x.A = [] ∧ x.Q = [] ∧ x.k = 0
  sp : x.sure = true → 0 < x.peer
  szA : ∀ b ∈ x.A, b.size ≤ 65536
  szQ : ∀ b ∈ x.Q, b.size ≤ 65536
  kN : x.k + x.A.length + x.Q.length ≤ N
  aN : x.a ≤ N

theorem lmade_any {B s n : Nat} {v m u : Value} {x : Ls} {w : World} (h : Lkm B s v m u n x w) (h0 : 0 < x.own) :
    Calls Try.prog 21 #[.pointer (some ⟨s, 0, none⟩)] w fun e w' => e = .returned (.bool true) ∧ w' = w := by
  obtain ⟨c0, _, _, _, _⟩ := boxS h.row
  have g0 : ((x.own : Int) != 0) = true := by simp; omega
  clear h
  go_enter Try.func21, Try.ntmps21
  go_wp2
  go_ret
  exact ⟨rfl, rfl⟩
theorem lown_any {B s n : Nat} {v m u : Value} {x : Ls} {w : World} (h : Lkm B s v m u n x w) (h0 : 0 < x.own) :
    Calls Try.prog 19 #[.pointer (some ⟨s, 0, none⟩)] w fun e w' => e = .returned (.int .u32 (x.own : Int)) ∧ w' = w := by
  have k := hide1 (lmade_any h h0)
  obtain ⟨c0, _, _, _, _⟩ := boxS h.row
  clear h h0
  go_enter Try.func19, Try.ntmps19
  go_wp2_with (go_at_call 21; refine k.out.mono ?_; rintro e w1 ⟨rfl, rfl⟩)
  go_ret
  exact ⟨rfl, rfl⟩
theorem lpeer_any {B s n : Nat} {v m u : Value} {x : Ls} {w : World} (h : Lkm B s v m u n x w) (h0 : 0 < x.own) :
    Calls Try.prog 17 #[.pointer (some ⟨s, 0, none⟩)] w fun e w' => e = .returned (.int .u32 (x.peer : Int)) ∧ w' = w := by
  have k := hide1 (lmade_any h h0)
  obtain ⟨_, c1, _, _, _⟩ := boxS h.row
  clear h h0
  go_enter Try.func17, Try.ntmps17
  go_wp2_with (go_at_call 21; refine k.out.mono ?_; rintro e w1 ⟨rfl, rfl⟩)
  go_ret
  exact ⟨rfl, rfl⟩
theorem lready_any {B s n : Nat} {v m u : Value} {x : Ls} {w : World} (h : Lkm B s v m u n x w) (h0 : 0 < x.own) :
    Calls Try.prog 9 #[.pointer (some ⟨s, 0, none⟩)] w fun e w' => e = .returned (.bool x.sure) ∧ w' = w := by
  have k := hide1 (lmade_any h h0)
  obtain ⟨_, _, c2, _, _⟩ := boxS h.row
  clear h h0
  go_enter Try.func9, Try.ntmps9
  go_wp2_with (go_at_call 21; refine k.out.mono ?_; rintro e w1 ⟨rfl, rfl⟩)
  go_ret
  exact ⟨rfl, rfl⟩
def Ls.room (x : Ls) : Nat := if x.sure then 64 - x.Q.length else 0
theorem lroom_any {B s n : Nat} {v m u : Value} {x : Ls} {w : World} (h : Lkm B s v m u n x w) (h0 : 0 < x.own) (hQ : x.Q.length ≤ 64) :
    Calls Try.prog 31 #[.pointer (some ⟨s, 0, none⟩)] w fun e w' => e = .returned (.int .i64 (x.room : Int)) ∧ w' = w := by
  have k := hide1 (lready_any h h0)
  obtain ⟨_, _, _, _, c8⟩ := boxS h.row
  obtain ⟨a, c, hu⟩ := h.ln.form
  subst hu
  unfold Ls.room
  generalize x.Q.length = q at *
  cases hs : x.sure with
  | false =>
    rw [hs] at k
    clear h h0
    go_enter Try.func31, Try.ntmps31
    go_wp2_with (go_at_call 9; refine k.out.mono ?_; rintro e w1 ⟨rfl, rfl⟩)
    go_ret
    exact ⟨rfl, rfl⟩
  | true =>
    rw [hs] at k
    clear h h0
    go_enter Try.func31, Try.ntmps31
    go_wp2_with (go_at_call 9; refine k.out.mono ?_; rintro e w1 ⟨rfl, rfl⟩)
    go_ret
    refine ⟨?_, rfl⟩
    rw [show ((64 - q : Nat) : Int) = 64 - (q : Int) by omega]
    rfl

def Ls.waiting (x : Ls) : Nat := x.Q.length + x.A.length
set_option maxHeartbeats 1000000 in
theorem lwait_any {B s n : Nat} {v m u : Value} {x : Ls} {w : World} (h : Lkm B s v m u n x w) (h0 : 0 < x.own) (hQ : x.Q.length ≤ 64) (hA : x.A.length ≤ 16) :
    Calls Try.prog 10 #[.pointer (some ⟨s, 0, none⟩)] w fun e w' => e = .returned (.int .i64 (x.waiting : Int)) ∧ w' = w.drew := by
  have k := hide1 (lmade_any h h0)
  have kR := hide1 (room_any (h.below (Below.refl w.heap.size w).drew (Nat.le_refl _)).otm hA)
  obtain ⟨_, _, _, _, c8⟩ := boxS h.row
  have C8 := hide1 c8
  obtain ⟨a, c, hu⟩ := h.ln.form
  subst hu
  unfold Ls.waiting
  generalize x.Q.length = q at *
  obtain ⟨r, hr⟩ : ∃ r, 16 - x.A.length = r := ⟨_, rfl⟩
  obtain ⟨q1, hq1⟩ : ∃ q1, q + 16 = q1 := ⟨_, rfl⟩
  obtain ⟨q2, hq2⟩ : ∃ q2, q + x.A.length = q2 := ⟨_, rfl⟩
  rw [hr] at kR
  rw [hq2]
  have HQ : Hid (q + 16 = q1 ∧ q1 - r = q2 ∧ r ≤ q1 ∧ q1 ≤ 100) := ⟨hq1, by omega, by omega, by omega⟩
  clear h h0 hQ hA c8 hr hq1 hq2
  go_enter Try.func10, Try.ntmps10
  go_wp2_with fail
  refine k.out.mono ?_
  rintro e w1 ⟨rfl, hw1⟩
  obtain rfl := hw1.symm
  go_upto_region 3 with (fail)
  refine region_f (F := []) (S := fun W => W.cell? ⟨s, 8, none⟩ = some (.slice a q c)) (by kernel_rfl) C8.out (fun hS => ?_)
  refine take_p 0 6 (.pointer (some ⟨s, 0, none⟩)) rfl rfl (by kernel_rfl) (by kernel_rfl) (by kernel_rfl) (fun _ _ _ h => h) rfl (fun w => by go_simp) ?_
  try simp only [List.setIfInBounds_toArray, List.set_cons_zero, List.set_cons_succ]
  refine take_p 1 7 (.pointer (some ⟨s, 0, none⟩)) rfl rfl (by kernel_rfl) (by kernel_rfl) (by kernel_rfl) (fun _ _ _ h => h) rfl (fun w => by go_simp) ?_
  try simp only [List.setIfInBounds_toArray, List.set_cons_zero, List.set_cons_succ]
  refine take_p 2 8 (.pointer (some ⟨s, 8, none⟩)) rfl rfl (by kernel_rfl) (by kernel_rfl) (by kernel_rfl) (fun _ _ _ h => h) rfl (fun w => by go_simp) ?_
  try simp only [List.setIfInBounds_toArray, List.set_cons_zero, List.set_cons_succ]
  refine take_f 3 9 (.slice a q c) [4, 5, 10, 11] rfl rfl (by kernel_rfl) (by kernel_rfl) (by kernel_rfl) (by kernel_rfl) (by kernel_rfl) (by kernel_rfl) (fun _ _ _ h => h) rfl (fun w hSw => by have g0 := hSw; go_simp) hS ?_
  try simp only [List.setIfInBounds_toArray, List.set_cons_zero, List.set_cons_succ]
  refine take_p 4 10 (.int .i64 (q : Int)) rfl rfl (by kernel_rfl) (by kernel_rfl) (by kernel_rfl) (fun _ _ _ h => h) rfl (fun w => by go_simp) ?_
  try simp only [List.setIfInBounds_toArray, List.set_cons_zero, List.set_cons_succ]
  refine take_p 5 11 (.int .i64 (q1 : Int)) rfl rfl (by kernel_rfl) (by kernel_rfl) (by kernel_rfl) (fun _ _ _ h => h) rfl (fun w => by obtain ⟨q1, q2, q3, q4⟩ := HQ.out; go_simp; rw [IntKind.wrap_i64]; omega) ?_
  try simp only [List.setIfInBounds_toArray, List.set_cons_zero, List.set_cons_succ]
  refine take_p 6 12 (.pointer (some ⟨s, 0, none⟩)) rfl rfl (by kernel_rfl) (by kernel_rfl) (by kernel_rfl) (fun _ _ _ h => h) rfl (fun w => by go_simp) ?_
  try simp only [List.setIfInBounds_toArray, List.set_cons_zero, List.set_cons_succ]
  refine take_p 7 13 (.pointer (some ⟨s, 0, none⟩)) rfl rfl (by kernel_rfl) (by kernel_rfl) (by kernel_rfl) (fun _ _ _ h => h) rfl (fun w => by go_simp) ?_
  try simp only [List.setIfInBounds_toArray, List.set_cons_zero, List.set_cons_succ]
  refine take_p 8 14 (.pointer (some ⟨s, 4, none⟩)) rfl rfl (by kernel_rfl) (by kernel_rfl) (by kernel_rfl) (fun _ _ _ h => h) rfl (fun w => by go_simp) ?_
  try simp only [List.setIfInBounds_toArray, List.set_cons_zero, List.set_cons_succ]
  refine ready_f 9 (o := { dst := some 15, op := Op.call { callee := Callee.value (Operand.func 22), args := #[Operand.tmp 14], argTypes := #[49] }, type := 3, pos := "link.go:73", after := #[{ on := 8, ground := Ground.data }], guard := none }) (by kernel_rfl) rfl (fun K hK => ?_)
  go_simp
  refine kR.out.mono ?_
  rintro e W1 ⟨rfl, hw1⟩
  obtain rfl := hw1.symm
  refine hK.out _ _ (fun _ h => h) ?_
  clear hK K
  try simp only [Act.put, List.setIfInBounds_toArray, List.set_cons_zero, List.set_cons_succ]
  refine take_p 10 16 (.int .i64 (q2 : Int)) rfl rfl (by kernel_rfl) (by kernel_rfl) (by kernel_rfl) (fun _ _ _ h => h) rfl (fun w => by obtain ⟨q1, q2, q3, q4⟩ := HQ.out; go_simp; rw [IntKind.wrap_i64]; omega) ?_
  try simp only [List.setIfInBounds_toArray, List.set_cons_zero, List.set_cons_succ]
  refine take_p 11 2 (.int .i64 (q2 : Int)) rfl rfl (by kernel_rfl) (by kernel_rfl) (by kernel_rfl) (fun _ _ _ h => h) rfl (fun w => by go_simp) ?_
  try simp only [List.setIfInBounds_toArray, List.set_cons_zero, List.set_cons_succ]
  refine done_f (by kernel_rfl) ?_ _
  clear hS
  go_wp2
  go_ret
  exact ⟨rfl, rfl⟩

/- what Send answers, and the end behind it -/
def Ls.sendC (x : Ls) (b : ByteArray) : Nat := if x.sure = false then 8 else if 65536 < b.size then 2 else if 64 ≤ x.Q.length then 16 else 0
def Ls.send (x : Ls) (b : ByteArray) : Ls := if x.sendC b = 0 then { x with Q := x.Q ++ [b] } else x
theorem lcheck_any {B s n : Nat} {v m u : Value} {x : Ls} {w : World} (h : Lkm B s v m u n x w) (h0 : 0 < x.own) (hQ : x.Q.length ≤ 64) (b : ByteArray) (hb : b.size ≤ 281474976710656) :
    Calls Try.prog 23 #[.pointer (some ⟨s, 0, none⟩), .string b] w fun e w' => e = .returned (.int .i64 (x.sendC b : Int)) ∧ w' = w := by
  have k := hide1 (lmade_any h h0)
  have kR := hide1 (lroom_any h h0 hQ)
  obtain ⟨_, _, c2, _, _⟩ := boxS h.row
  unfold Ls.sendC
  unfold Ls.room at kR
  cases hs : x.sure with
  | false =>
    rw [hs] at c2
    clear h h0 hQ kR hb
    go_enter Try.func23, Try.ntmps23
    go_wp2_with (go_at_call 21; refine k.out.mono ?_; rintro e w1 ⟨rfl, rfl⟩)
    go_ret
    exact ⟨rfl, rfl⟩
  | true =>
    rw [hs] at c2 kR
    rw [if_pos rfl] at kR
    rw [if_neg (by simp)]
    by_cases h2 : 65536 < b.size
    · have h2i : (65536 : Int) < (b.size : Int) := by omega
      rw [if_pos h2]
      clear h h0 hQ kR hb
      go_enter Try.func23, Try.ntmps23
      go_wp2_with (go_at_call 21; refine k.out.mono ?_; rintro e w1 ⟨rfl, rfl⟩)
      go_ret
      exact ⟨rfl, rfl⟩
    · have h2i : ¬ (65536 : Int) < (b.size : Int) := by omega
      rw [if_neg h2]
      by_cases h3 : 64 ≤ x.Q.length
      · rw [if_pos h3]
        have e : 64 - x.Q.length = 0 := by omega
        rw [e] at kR
        clear h h0 hQ hb h3 e h2
        go_enter Try.func23, Try.ntmps23
        go_wp2_with (first | (go_at_call 21; refine k.out.mono ?_; rintro e w1 ⟨rfl, rfl⟩) | (go_at_call 31; refine kR.out.mono ?_; rintro e w1 ⟨rfl, rfl⟩))
        go_ret
        exact ⟨rfl, rfl⟩
      · rw [if_neg h3]
        obtain ⟨r, hr⟩ : ∃ r, 64 - x.Q.length = r := ⟨_, rfl⟩
        have er : ((r : Int) == 0) = false := by simp; omega
        rw [hr] at kR
        clear h h0 hQ hb h3 h2 hr
        go_enter Try.func23, Try.ntmps23
        go_wp2_with (first | (go_at_call 21; refine k.out.mono ?_; rintro e w1 ⟨rfl, rfl⟩) | (go_at_call 31; refine kR.out.mono ?_; rintro e w1 ⟨rfl, rfl⟩))
        go_ret
        exact ⟨rfl, rfl⟩

/- an error of New: nil, or one that tells a number and a place -/
def tLINK : ByteArray := ⟨#[108, 105, 110, 107]⟩
def Er (w : World) (c : Int) (v : Value) : Prop := (c = 0 ∧ v = .nilIface) ∨ (c ≠ 0 ∧ ∃ p, v = .iface 64 (.pointer (some ⟨p, 0, none⟩)) ∧ w.heap[p]? = some (.cells #[.int .i64 c, .string tLINK, .nilIface] 66 (0, 0)))
theorem fnew_any (c : Int) (w : World) : Calls Try.prog 12 #[.int .i64 c, .string tLINK] w fun e w' => ∃ v, e = .returned v ∧ Er w' c v ∧ Below w.heap.size w w' ∧ (c = 0 → w' = w) := by
  by_cases h : c = 0
  · subst h
    go_enter Try.func12, Try.ntmps12
    go_wp2
    go_ret
    exact ⟨_, rfl, .inl ⟨rfl, rfl⟩, Below.refl _ _, fun _ => rfl⟩
  · have hb : (c == 0) = false := by simp [h]
    unfold tLINK
    go_enter Try.func12, Try.ntmps12
    go_wp2
    go_ret
    exact ⟨_, rfl, .inr ⟨h, _, rfl, heap_alloc_new _ _⟩, below1 _, fun e => absurd e h⟩

set_option maxHeartbeats 2000000 in
theorem lsend_any {B s n : Nat} {v m u : Value} {x : Ls} {w : World} (h : Lkm B s v m u n x w) (hBw : B ≤ w.heap.size) (h0 : 0 < x.own) (hQ : x.Q.length ≤ 64) (b : ByteArray) (hb : b.size ≤ 281474976710656) :
    Calls Try.prog 13 #[.pointer (some ⟨s, 0, none⟩), .string b] w fun e w' => ∃ z, e = .returned z ∧ Er w' (x.sendC b) z ∧ Lkp B s v m u w n (x.send b) w' := by
  have k := hide1 (lcheck_any h h0 hQ b hb)
  unfold Ls.send
  obtain ⟨c, hc⟩ : ∃ c, x.sendC b = c := ⟨_, rfl⟩
  rw [hc] at k ⊢
  by_cases hz : c = 0
  · subst hz
    rw [if_pos rfl]
    have kC := fun w => hide1 (clone_any b w hb)
    have H := hide1 h
    have HB := hide1 hBw
    have HQ := hide1 hQ
    clear h hc h0 hQ hb hBw
    go_enter Try.func13, Try.ntmps13
    go_wp2_with fail
    refine k.out.mono ?_
    rintro e w1 ⟨rfl, hw1⟩
    obtain rfl := hw1.symm
    go_upto_region 4 with (fail)
    have bU : Hid (Below w.heap.size w (World.drew w)) := (Below.refl _ _).drew
    refine region_f (F := [8, 11]) (S := fun W => W.cell? ⟨s, 8, none⟩ = some u ∧ s < W.heap.size) (by kernel_rfl) ⟨(boxS H.out.row).2.2.2.2, lt_heap H.out.row⟩ (fun hS => ?_)
    generalize World.drew w = U at bU hS ⊢
    refine take_p 0 13 (.pointer (some ⟨s, 0, none⟩)) rfl rfl (by kernel_rfl) (by kernel_rfl) (by kernel_rfl) (fun _ _ _ h => h) rfl (fun w => by go_simp) ?_
    try simp only [List.setIfInBounds_toArray, List.set_cons_zero, List.set_cons_succ]
    refine take_p 1 14 (.pointer (some ⟨s, 0, none⟩)) rfl rfl (by kernel_rfl) (by kernel_rfl) (by kernel_rfl) (fun _ _ _ h => h) rfl (fun w => by go_simp) ?_
    try simp only [List.setIfInBounds_toArray, List.set_cons_zero, List.set_cons_succ]
    refine take_p 2 15 (.pointer (some ⟨s, 0, none⟩)) rfl rfl (by kernel_rfl) (by kernel_rfl) (by kernel_rfl) (fun _ _ _ h => h) rfl (fun w => by go_simp) ?_
    try simp only [List.setIfInBounds_toArray, List.set_cons_zero, List.set_cons_succ]
    refine take_p 3 16 (.pointer (some ⟨s, 8, none⟩)) rfl rfl (by kernel_rfl) (by kernel_rfl) (by kernel_rfl) (fun _ _ _ h => h) rfl (fun w => by go_simp) ?_
    try simp only [List.setIfInBounds_toArray, List.set_cons_zero, List.set_cons_succ]
    refine take_f 4 17 (u) [8, 9, 10, 11] rfl rfl (by kernel_rfl) (by kernel_rfl) (by kernel_rfl) (by kernel_rfl) (by kernel_rfl) (by kernel_rfl) (fun _ _ _ h => h) rfl (fun w hSw => by obtain ⟨g0, g1⟩ := hSw; go_simp) hS ?_
    try simp only [List.setIfInBounds_toArray, List.set_cons_zero, List.set_cons_succ]
    refine take_p 5 18 (.string b) rfl rfl (by kernel_rfl) (by kernel_rfl) (by kernel_rfl) (fun _ _ _ h => h) rfl (fun w => by go_simp) ?_
    try simp only [List.setIfInBounds_toArray, List.set_cons_zero, List.set_cons_succ]
    refine ready_f 6 (o := { dst := some 19, op := Op.call { callee := Callee.value (Operand.func 24), args := #[Operand.tmp 18], argTypes := #[9] }, type := 9, pos := "link.go:81", after := #[{ on := 5, ground := Ground.data }], guard := none }) (by kernel_rfl) rfl (fun K hK => ?_)
    go_simp
    refine (kC _).out.mono ?_
    rintro e W1 ⟨rfl, hb1⟩
    refine hK.out _ _ (fun _ h => ⟨(hb1.cell (p := ⟨s, 8, none⟩) h.2).trans h.1, Nat.lt_of_lt_of_le h.2 hb1.size⟩) ?_
    clear hK K
    try simp only [Act.put, List.setIfInBounds_toArray, List.set_cons_zero, List.set_cons_succ]
    have b1 : Hid (Below w.heap.size w W1) := bU.out.trans (hb1.mono bU.out.size)
    replace hS : W1.cell? ⟨s, 8, none⟩ = some u ∧ s < W1.heap.size := ⟨(hb1.cell (p := ⟨s, 8, none⟩) hS.2).trans hS.1, Nat.lt_of_lt_of_le hS.2 hb1.size⟩
    clear hb1 bU
    refine ready_f 7 (o := { dst := some 20, op := Op.buildSlice 31 1 #[(0, Operand.tmp 19)], type := 31, pos := "link.go:81", after := #[{ on := 6, ground := Ground.data }], guard := none }) (by kernel_rfl) rfl (fun K hK => ?_)
    go_simp
    refine hK.out _ _ (fun _ h => ⟨((below1 _).cell (p := ⟨s, 8, none⟩) h.2).trans h.1, Nat.lt_of_lt_of_le h.2 (below1 _).size⟩) ?_
    clear hK K
    try simp only [Act.put, List.setIfInBounds_toArray, List.set_cons_zero, List.set_cons_succ]
    have RC := hide1 (Rdl.one W1 b)
    have b2 : Hid (Below w.heap.size w (W1.alloc (.cells #[.string b] 9))) := b1.out.alloc b1.out.size _
    generalize W1.alloc (.cells #[.string b] 9) = W2 at RC b2 ⊢
    have O2 := hide1 (H.out.below b2.out (Nat.le_refl _))
    clear b1 hS
    refine ready_f 8 (o := { dst := some 21, op := Op.call { callee := Callee.builtin Builtin.append, args := #[Operand.tmp 17, Operand.tmp 20], argTypes := #[31, 31] }, type := 31, pos := "link.go:81", after := #[{ on := 4, ground := Ground.data }, { on := 7, ground := Ground.data }, { on := 6, ground := Ground.chain }], guard := none }) (by kernel_rfl) rfl (fun K hK => ?_)
    rw [if_pos (by rfl)]
    refine wp_append_lst _ _ rfl rfl rfl O2.out.ln RC.out (by have := HQ.out; simp; omega) (by have := HB.out; have := b2.out.size; omega) ?_
    intro v3 W3 ho hg hf
    refine hK.out _ _ (fun h => absurd (by decide) h) ?_
    clear hK K
    try simp only [Act.put, List.setIfInBounds_toArray, List.set_cons_zero, List.set_cons_succ]
    obtain ⟨P1, P2, P3⟩ := O2.out.lined ho hg hf
    have HP := hide1 P1
    have HP2 := hide1 P2
    have HP3 := hide1 P3
    have R3 := hide1 ((hg.block s (lt_heap O2.out.row) (fun e => O2.out.nu e.symm)).trans O2.out.row)
    obtain ⟨a3, c3, hv3⟩ := ho.form
    obtain ⟨n3, hn3⟩ : ∃ n, (x.Q ++ [b]).length = n := ⟨_, rfl⟩
    rw [hn3] at hv3
    subst hv3
    clear ho hg hf hn3 RC kC P1 P2 P3
    obtain ⟨k0, f0⟩ : W3.cell? ⟨s, 8, none⟩ = some u ∧ W3.frozen? ⟨s, 8, none⟩ = false := ⟨(boxS R3.out).2.2.2.2, frozen_of_row W3 s 8 _ _ R3.out⟩
    refine take_p 9 22 (.pointer (some ⟨s, 0, none⟩)) rfl rfl (by kernel_rfl) (by kernel_rfl) (by kernel_rfl) (fun _ _ _ h => h) rfl (fun w => by go_simp) ?_
    try simp only [List.setIfInBounds_toArray, List.set_cons_zero, List.set_cons_succ]
    refine take_p 10 23 (.pointer (some ⟨s, 8, none⟩)) rfl rfl (by kernel_rfl) (by kernel_rfl) (by kernel_rfl) (fun _ _ _ h => h) rfl (fun w => by go_simp) ?_
    try simp only [List.setIfInBounds_toArray, List.set_cons_zero, List.set_cons_succ]
    refine ready_f 11 (o := { dst := none, op := Op.store 31 (Operand.tmp 23) (Operand.tmp 21), type := 0, pos := "link.go:81", after := #[{ on := 10, ground := Ground.data }, { on := 8, ground := Ground.data }, { on := 8, ground := Ground.chain }, { on := 0, ground := Ground.phase }, { on := 1, ground := Ground.phase }, { on := 2, ground := Ground.phase }, { on := 3, ground := Ground.phase }, { on := 4, ground := Ground.phase }, { on := 5, ground := Ground.phase }, { on := 6, ground := Ground.phase }, { on := 7, ground := Ground.phase }, { on := 8, ground := Ground.phase }], guard := none }) (by kernel_rfl) rfl (fun K hK => ?_)
    go_simp
    refine hK.out _ _ (fun h => absurd (by decide) h) ?_
    clear hK K
    refine done_f (by kernel_rfl) ?_ _
    clear k0 f0
    go_wp2
    go_ret
    refine ⟨_, rfl, .inl ⟨rfl, rfl⟩, _, _, _, HP.out, (Kp.ofBelow b2.out).trans HP2.out, fun g hg => ?_⟩
    rcases HP3.out g hg with h1 | h1
    · exact .inl h1
    · have := b2.out.size
      exact .inr (by omega)
  · rw [if_neg hz]
    have kN := fun w => hide1 (fnew_any (c : Int) w)
    unfold tLINK at kN
    have hcb : ((c : Int) != 0) = true := by simp; omega
    have H := hide1 h
    clear h hc h0 hQ hb hBw hz
    go_enter Try.func13, Try.ntmps13
    go_wp2_with fail
    refine k.out.mono ?_
    rintro e w1 ⟨rfl, hw1⟩
    obtain rfl := hw1.symm
    go_wp2_with (go_at_call 12; refine (kN _).out.mono ?_; rintro e w1 ⟨z, rfl, hE, hb, _⟩)
    go_ret
    exact ⟨_, rfl, hE, Lkp.ofBelow H.out hb⟩

end Go.Proofs.Ytcadlcpccemkbaa
