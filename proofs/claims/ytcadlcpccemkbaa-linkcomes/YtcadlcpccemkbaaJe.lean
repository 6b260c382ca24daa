/- An Out in memory: From, Next, Room, Put. -/
import Derived.Test.YtcadlcpccemkbaaMJaJiVl
import Derived.Test.YtcadlcpccemkbaaVf
import Derived.Test.YtcadlcpccemkbaaJr
namespace Go.Proofs.Ytcadlcpccemkbaa
open Go.RowKit
set_option maxRecDepth 100000
attribute [local go_sem] not_any

structure Otm (Y : OX) (B s : Nat) (v : Value) (k : Nat) (A : List ByteArray) (w : World) : Prop where
  row : w.heap[s]? = some (.cells #[Y.c0, Y.c1, Y.c2, Y.c3, .int .u32 (k : Int), v, Y.c6, Y.c7, Y.c8] 54 (0, 0))
  ls : Lst B w v A
  ne : v.ownBlock ≠ some s
def Ofm (s : Nat) (v : Value) (g : Nat) : Prop := g = s ∨ v.ownBlock = some g
theorem Otm.kp {Y : OX} {F : Nat → Prop} {B s k : Nat} {v : Value} {A : List ByteArray} {w w' : World} (h : Otm Y B s v k A w) (hk : Kp F w w') (hF : ∀ g, Ofm s v g → ¬ F g) : Otm Y B s v k A w' :=
  ⟨(hk.block s (lt_heap h.row) (hF s (.inl rfl))).trans h.row, h.ls.kp hk fun b hb => hF b (.inr hb), h.ne⟩
theorem Otm.below {Y : OX} {B s k C : Nat} {v : Value} {A : List ByteArray} {w w' : World} (h : Otm Y B s v k A w) (hb : Below C w w') (hC : w.heap.size ≤ C) : Otm Y B s v k A w' :=
  h.kp (F := fun _ => False) (Kp.ofBelow (hb.mono hC)) fun _ _ h => h
theorem Otm.flt {Y : OX} {B s k : Nat} {v : Value} {A : List ByteArray} {w : World} (h : Otm Y B s v k A w) {g : Nat} (hg : Ofm s v g) : g < w.heap.size := by
  rcases hg with rfl | hg
  · exact lt_heap h.row
  · exact (h.ls.lt hg).2

theorem next_any {Y : OX} {B s k : Nat} {v : Value} {A : List ByteArray} {w : World} (h : Otm Y B s v k A w) (hk : k + A.length + 1 < 4294967296) :
    Calls Try.prog 50 #[.pointer (some ⟨s, 4, none⟩)] w fun e w' => e = .returned (.int .u32 ((k + A.length + 1 : Nat) : Int)) ∧ w' = w.drew := by
  obtain ⟨c0, c1, _, _, _⟩ := boxO h.row
  obtain ⟨a, c, rfl⟩ := h.ls.form
  generalize A.length = n at *
  obtain ⟨m1, hm1⟩ : ∃ m, k + n = m := ⟨_, rfl⟩
  obtain ⟨m2, hm2⟩ : ∃ m, m1 + 1 = m := ⟨_, rfl⟩
  rw [hm1] at hk ⊢
  rw [hm2] at hk ⊢
  have HM : Hid (k + n = m1 ∧ m1 + 1 = m2 ∧ m2 < 4294967296) := ⟨hm1, hm2, hk⟩
  have C0 := hide1 c0
  have C1 := hide1 c1
  clear h hm1 hm2 hk c0 c1
  go_enter Try.func50, Try.ntmps50
  go_upto_region 3 with (fail)
  refine region_f (F := []) (S := fun W => W.cell? ⟨s, 4, none⟩ = some (.int .u32 (k : Int)) ∧ W.cell? ⟨s, 5, none⟩ = some (.slice a n c)) (by kernel_rfl) ⟨C0.out, C1.out⟩ (fun hS => ?_)
  refine take_p 0 5 (.pointer (some ⟨s, 4, none⟩)) rfl rfl (by kernel_rfl) (by kernel_rfl) (by kernel_rfl) (fun _ _ _ h => h) rfl (fun w => by go_simp) ?_
  try simp only [List.setIfInBounds_toArray, List.set_cons_zero, List.set_cons_succ]
  refine take_p 1 6 (.pointer (some ⟨s, 4, none⟩)) rfl rfl (by kernel_rfl) (by kernel_rfl) (by kernel_rfl) (fun _ _ _ h => h) rfl (fun w => by go_simp) ?_
  try simp only [List.setIfInBounds_toArray, List.set_cons_zero, List.set_cons_succ]
  refine take_p 2 7 (.pointer (some ⟨s, 4, none⟩)) rfl rfl (by kernel_rfl) (by kernel_rfl) (by kernel_rfl) (fun _ _ _ h => h) rfl (fun w => by go_simp) ?_
  try simp only [List.setIfInBounds_toArray, List.set_cons_zero, List.set_cons_succ]
  refine take_f 3 8 (.int .u32 (k : Int)) [10, 11, 12] rfl rfl (by kernel_rfl) (by kernel_rfl) (by kernel_rfl) (by kernel_rfl) (by kernel_rfl) (by kernel_rfl) (fun _ _ _ h => h) rfl (fun w hSw => by obtain ⟨g0, g1⟩ := hSw; go_simp) hS ?_
  try simp only [List.setIfInBounds_toArray, List.set_cons_zero, List.set_cons_succ]
  refine take_p 4 9 (.pointer (some ⟨s, 4, none⟩)) rfl rfl (by kernel_rfl) (by kernel_rfl) (by kernel_rfl) (fun _ _ _ h => h) rfl (fun w => by go_simp) ?_
  try simp only [List.setIfInBounds_toArray, List.set_cons_zero, List.set_cons_succ]
  refine take_p 5 10 (.pointer (some ⟨s, 4, none⟩)) rfl rfl (by kernel_rfl) (by kernel_rfl) (by kernel_rfl) (fun _ _ _ h => h) rfl (fun w => by go_simp) ?_
  try simp only [List.setIfInBounds_toArray, List.set_cons_zero, List.set_cons_succ]
  refine take_p 6 11 (.pointer (some ⟨s, 5, none⟩)) rfl rfl (by kernel_rfl) (by kernel_rfl) (by kernel_rfl) (fun _ _ _ h => h) rfl (fun w => by go_simp) ?_
  try simp only [List.setIfInBounds_toArray, List.set_cons_zero, List.set_cons_succ]
  refine take_f 7 12 (.slice a n c) [8, 9, 10, 11, 12] rfl rfl (by kernel_rfl) (by kernel_rfl) (by kernel_rfl) (by kernel_rfl) (by kernel_rfl) (by kernel_rfl) (fun _ _ _ h => h) rfl (fun w hSw => by obtain ⟨g0, g1⟩ := hSw; go_simp) hS ?_
  try simp only [List.setIfInBounds_toArray, List.set_cons_zero, List.set_cons_succ]
  refine take_p 8 13 (.int .i64 (n : Int)) rfl rfl (by kernel_rfl) (by kernel_rfl) (by kernel_rfl) (fun _ _ _ h => h) rfl (fun w => by go_simp) ?_
  try simp only [List.setIfInBounds_toArray, List.set_cons_zero, List.set_cons_succ]
  refine take_p 9 14 (.int .u32 (n : Int)) rfl rfl (by kernel_rfl) (by kernel_rfl) (by kernel_rfl) (fun _ _ _ h => h) rfl (fun w => by obtain ⟨q1, q2, q3⟩ := HM.out; go_simp; rw [IntKind.wrap_u32]; omega) ?_
  try simp only [List.setIfInBounds_toArray, List.set_cons_zero, List.set_cons_succ]
  refine take_p 10 15 (.int .u32 (m1 : Int)) rfl rfl (by kernel_rfl) (by kernel_rfl) (by kernel_rfl) (fun _ _ _ h => h) rfl (fun w => by obtain ⟨q1, q2, q3⟩ := HM.out; go_simp; rw [IntKind.wrap_u32]; omega) ?_
  try simp only [List.setIfInBounds_toArray, List.set_cons_zero, List.set_cons_succ]
  refine take_p 11 16 (.int .u32 (m2 : Int)) rfl rfl (by kernel_rfl) (by kernel_rfl) (by kernel_rfl) (fun _ _ _ h => h) rfl (fun w => by obtain ⟨q1, q2, q3⟩ := HM.out; go_simp; rw [IntKind.wrap_u32]; omega) ?_
  try simp only [List.setIfInBounds_toArray, List.set_cons_zero, List.set_cons_succ]
  refine take_p 12 2 (.int .u32 (m2 : Int)) rfl rfl (by kernel_rfl) (by kernel_rfl) (by kernel_rfl) (fun _ _ _ h => h) rfl (fun w => by go_simp) ?_
  try simp only [List.setIfInBounds_toArray, List.set_cons_zero, List.set_cons_succ]
  refine done_f (by kernel_rfl) ?_ _
  clear hS
  go_wp2
  go_ret
  exact ⟨rfl, rfl⟩

theorem room_any {Y : OX} {B s k : Nat} {v : Value} {A : List ByteArray} {w : World} (h : Otm Y B s v k A w) (hk : A.length ≤ 16) :
    Calls Try.prog 22 #[.pointer (some ⟨s, 4, none⟩)] w fun e w' => e = .returned (.int .i64 ((16 - A.length : Nat) : Int)) ∧ w' = w := by
  obtain ⟨c0, c1, _, _, _⟩ := boxO h.row
  obtain ⟨a, c, rfl⟩ := h.ls.form
  generalize A.length = n at *
  clear h
  go_enter Try.func22, Try.ntmps22
  go_wp2
  go_ret
  refine ⟨?_, rfl⟩
  rw [show ((16 - n : Nat) : Int) = 16 - (n : Int) by omega]
  rfl

/- what Put answers, and what was sent behind it -/
def ptC (k : Nat) (A : List ByteArray) : Nat := if 16 ≤ A.length then 23 else if 4294967294 < k + A.length + 1 then 24 else 0
def ptN (k : Nat) (A : List ByteArray) : Nat := if ptC k A = 0 then k + A.length + 1 else 0
def ptL (k : Nat) (A : List ByteArray) (b : ByteArray) : List ByteArray := if ptC k A = 0 then A ++ [b] else A

theorem put_fail {Y : OX} {B s k : Nat} {v : Value} {A : List ByteArray} {w : World} (h : Otm Y B s v k A w) (hk : k + A.length + 1 < 4294967296) (hA : A.length ≤ 16) (b : ByteArray) (hc : ptC k A ≠ 0) :
    Calls Try.prog 33 #[.pointer (some ⟨s, 4, none⟩), .string b] w fun e w' => e = .returned (.tuple #[.int .u32 0, .int .i64 (ptC k A)]) ∧ Below w.heap.size w w' := by
  have k1 := hide1 (next_any h hk)
  have k2 := hide1 (room_any (h.below (Below.refl _ _).drew (Nat.le_refl _)) hA)
  unfold ptC at hc ⊢
  have bD : Hid (Below w.heap.size w w.drew) := (Below.refl _ _).drew
  by_cases h16 : 16 ≤ A.length
  · rw [if_pos h16]
    have hr : 16 - A.length = 0 := by omega
    rw [hr] at k2
    obtain ⟨m, hm⟩ : ∃ m, k + A.length + 1 = m := ⟨_, rfl⟩
    rw [hm] at k1
    clear hc h16 h hk hA hr hm
    go_enter Try.func33, Try.ntmps33
    go_wp2_with fail
    refine k1.out.mono ?_
    rintro e w1 ⟨rfl, rfl⟩
    go_wp2_with fail
    refine k2.out.mono ?_
    rintro e w1 ⟨rfl, hw1⟩
    obtain rfl := hw1.symm
    go_wp2
    exact ret_t2 Try.results33 rfl rfl rfl ⟨rfl, bD.out⟩
  · rw [if_neg h16] at hc ⊢
    by_cases h24 : 4294967294 < k + A.length + 1
    · rw [if_pos h24]
      have hr : ((16 - A.length : Nat) : Int) ≠ 0 := by omega
      generalize ((16 - A.length : Nat) : Int) = rm at k2 hr
      have hrb : (rm == 0) = false := by simp [hr]
      obtain ⟨m, hm⟩ : ∃ m, k + A.length + 1 = m := ⟨_, rfl⟩
      rw [hm] at k1 h24
      have h24i : (4294967294 : Int) < (m : Int) := by omega
      clear hc h16 h hk hA hm h24
      go_enter Try.func33, Try.ntmps33
      go_wp2_with fail
      refine k1.out.mono ?_
      rintro e w1 ⟨rfl, rfl⟩
      go_wp2_with fail
      refine k2.out.mono ?_
      rintro e w1 ⟨rfl, hw1⟩
      obtain rfl := hw1.symm
      go_wp2
      exact ret_t2 Try.results33 rfl rfl rfl ⟨rfl, bD.out⟩
    · rw [if_neg h24] at hc
      exact absurd rfl hc

set_option maxHeartbeats 2000000 in
theorem put_ok {Y : OX} {B s k : Nat} {v : Value} {A : List ByteArray} {w : World} (h : Otm Y B s v k A w) (hBs : B ≤ w.heap.size) (hk : k + A.length + 1 < 4294967296) (hA : A.length ≤ 16) (b : ByteArray) (hb : b.size ≤ 281474976710656) (hc : ptC k A = 0) :
    Calls Try.prog 33 #[.pointer (some ⟨s, 4, none⟩), .string b] w fun e w' => ∃ v', e = .returned (.tuple #[.int .u32 ((k + A.length + 1 : Nat) : Int), .int .i64 0]) ∧ Otm Y B s v' k (A ++ [b]) w' ∧ Kp (Ofm s v) w w' ∧ (∀ g, v'.ownBlock = some g → v.ownBlock = some g ∨ w.heap.size ≤ g) := by
  have k1 := hide1 (next_any h hk)
  have k2 := hide1 (room_any (h.below (Below.refl _ _).drew (Nat.le_refl _)) hA)
  have kC := fun w => hide1 (clone_any b w hb)
  have bD : Hid (Below w.heap.size w w.drew) := (Below.refl _ _).drew
  have H := hide1 h
  have HB := hide1 hBs
  unfold ptC at hc
  by_cases h16 : 16 ≤ A.length
  · rw [if_pos h16] at hc; cases hc
  rw [if_neg h16] at hc
  by_cases h24 : 4294967294 < k + A.length + 1
  · rw [if_pos h24] at hc; cases hc
  have HA := hide1 hA
  have hr : ((16 - A.length : Nat) : Int) ≠ 0 := by omega
  generalize ((16 - A.length : Nat) : Int) = rm at k2 hr
  have hrb : (rm == 0) = false := by simp [hr]
  obtain ⟨m, hm⟩ : ∃ m, k + A.length + 1 = m := ⟨_, rfl⟩
  rw [hm] at k1 h24 ⊢
  have h24i : ¬ (4294967294 : Int) < (m : Int) := by omega
  obtain ⟨a, c, hv⟩ := h.ls.form
  obtain ⟨n, hn⟩ : ∃ n, A.length = n := ⟨_, rfl⟩
  rw [hn] at hv HA
  have HV := hide1 hv
  have HN := hide1 hn
  clear hc h16 h hk hA hm h24 hb hv hn hBs
  go_enter Try.func33, Try.ntmps33
  go_wp2_with fail
  refine k1.out.mono ?_
  rintro e w1 ⟨rfl, rfl⟩
  go_wp2_with fail
  refine k2.out.mono ?_
  rintro e w1 ⟨rfl, hw1⟩
  obtain rfl := hw1.symm
  go_upto_region 8 with (fail)
  refine region_f (F := [8, 11]) (S := fun W => W.cell? ⟨s, 5, none⟩ = some v ∧ s < W.heap.size) (by kernel_rfl) ⟨(boxO (H.out.below bD.out (Nat.le_refl _)).row).2.1, lt_heap (H.out.below bD.out (Nat.le_refl _)).row⟩ (fun hS => ?_)
  have bU : Hid (Below w.heap.size w (World.drew (World.drew w))) := bD.out.drew
  generalize World.drew (World.drew w) = U at bU hS ⊢
  refine take_p 0 18 (.pointer (some ⟨s, 4, none⟩)) rfl rfl (by kernel_rfl) (by kernel_rfl) (by kernel_rfl) (fun _ _ _ h => h) rfl (fun w => by go_simp) ?_
  try simp only [List.setIfInBounds_toArray, List.set_cons_zero, List.set_cons_succ]
  refine take_p 1 19 (.pointer (some ⟨s, 4, none⟩)) rfl rfl (by kernel_rfl) (by kernel_rfl) (by kernel_rfl) (fun _ _ _ h => h) rfl (fun w => by go_simp) ?_
  try simp only [List.setIfInBounds_toArray, List.set_cons_zero, List.set_cons_succ]
  refine take_p 2 20 (.pointer (some ⟨s, 4, none⟩)) rfl rfl (by kernel_rfl) (by kernel_rfl) (by kernel_rfl) (fun _ _ _ h => h) rfl (fun w => by go_simp) ?_
  try simp only [List.setIfInBounds_toArray, List.set_cons_zero, List.set_cons_succ]
  refine take_p 3 21 (.pointer (some ⟨s, 5, none⟩)) rfl rfl (by kernel_rfl) (by kernel_rfl) (by kernel_rfl) (fun _ _ _ h => h) rfl (fun w => by go_simp) ?_
  try simp only [List.setIfInBounds_toArray, List.set_cons_zero, List.set_cons_succ]
  refine take_f 4 22 (v) [8, 9, 10, 11] rfl rfl (by kernel_rfl) (by kernel_rfl) (by kernel_rfl) (by kernel_rfl) (by kernel_rfl) (by kernel_rfl) (fun _ _ _ h => h) rfl (fun w hSw => by obtain ⟨g0, g1⟩ := hSw; go_simp) hS ?_
  try simp only [List.setIfInBounds_toArray, List.set_cons_zero, List.set_cons_succ]
  refine take_p 5 23 (.string b) rfl rfl (by kernel_rfl) (by kernel_rfl) (by kernel_rfl) (fun _ _ _ h => h) rfl (fun w => by go_simp) ?_
  try simp only [List.setIfInBounds_toArray, List.set_cons_zero, List.set_cons_succ]
  refine ready_f 6 (o := { dst := some 24, op := Op.call { callee := Callee.value (Operand.func 24), args := #[Operand.tmp 23], argTypes := #[9] }, type := 9, pos := "window.go:48", after := #[{ on := 5, ground := Ground.data }], guard := none }) (by kernel_rfl) rfl (fun K hK => ?_)
  go_simp
  refine (kC _).out.mono ?_
  rintro e W1 ⟨rfl, hb1⟩
  refine hK.out _ _ (fun _ h => ⟨(hb1.cell (p := ⟨s, 5, none⟩) h.2).trans h.1, Nat.lt_of_lt_of_le h.2 hb1.size⟩) ?_
  clear hK K
  try simp only [Act.put, List.setIfInBounds_toArray, List.set_cons_zero, List.set_cons_succ]
  have b1 : Hid (Below w.heap.size w W1) := bU.out.trans (hb1.mono bU.out.size)
  replace hS : W1.cell? ⟨s, 5, none⟩ = some v ∧ s < W1.heap.size := ⟨(hb1.cell (p := ⟨s, 5, none⟩) hS.2).trans hS.1, Nat.lt_of_lt_of_le hS.2 hb1.size⟩
  clear hb1 bU
  refine ready_f 7 (o := { dst := some 25, op := Op.buildSlice 31 1 #[(0, Operand.tmp 24)], type := 31, pos := "window.go:48", after := #[{ on := 6, ground := Ground.data }], guard := none }) (by kernel_rfl) rfl (fun K hK => ?_)
  go_simp
  refine hK.out _ _ (fun _ h => ⟨((below1 _).cell (p := ⟨s, 5, none⟩) h.2).trans h.1, Nat.lt_of_lt_of_le h.2 (below1 _).size⟩) ?_
  clear hK K
  try simp only [Act.put, List.setIfInBounds_toArray, List.set_cons_zero, List.set_cons_succ]
  have RC := hide1 (Rdl.one W1 b)
  have b2 : Hid (Below w.heap.size w (W1.alloc (.cells #[.string b] 9))) := b1.out.alloc b1.out.size _
  generalize W1.alloc (.cells #[.string b] 9) = W2 at RC b2 ⊢
  have O2 := hide1 (H.out.below b2.out (Nat.le_refl _))
  clear b1 hS
  refine ready_f 8 (o := { dst := some 26, op := Op.call { callee := Callee.builtin Builtin.append, args := #[Operand.tmp 22, Operand.tmp 25], argTypes := #[31, 31] }, type := 31, pos := "window.go:48", after := #[{ on := 4, ground := Ground.data }, { on := 7, ground := Ground.data }, { on := 6, ground := Ground.chain }], guard := none }) (by kernel_rfl) rfl (fun K hK => ?_)
  rw [if_pos (by rfl)]
  refine wp_append_lst _ _ rfl rfl rfl O2.out.ls RC.out (by have := HA.out; have := HN.out; simp; omega) (by have := HB.out; have := b2.out.size; omega) ?_
  intro v3 W3 ho hg hf
  refine hK.out _ _ (fun h => absurd (by decide) h) ?_
  clear hK K
  try simp only [Act.put, List.setIfInBounds_toArray, List.set_cons_zero, List.set_cons_succ]
  have K3 : Hid (Kp (Ofm s v) w W3) := (Kp.ofBelow b2.out).trans ((Kp.ofGrown hg).mono fun k e => .inr e)
  have r3 : Hid (W3.heap[s]? = some (.cells #[Y.c0, Y.c1, Y.c2, Y.c3, .int .u32 (k : Int), v, Y.c6, Y.c7, Y.c8] 54 (0, 0))) := (hg.block s (lt_heap O2.out.row) (fun e => O2.out.ne e.symm)).trans O2.out.row
  have F3 : Hid (∀ g, v3.ownBlock = some g → v.ownBlock = some g ∨ w.heap.size ≤ g) := fun g hg => by
    rcases hf g hg with h1 | h1
    · exact .inl h1
    · have := b2.out.size
      exact .inr (by omega)
  have HO := hide1 ho
  obtain ⟨a3, c3, hv3⟩ := ho.form
  obtain ⟨n3, hn3⟩ : ∃ n, (A ++ [b]).length = n := ⟨_, rfl⟩
  rw [hn3] at hv3
  have N3 : Hid (v3.ownBlock ≠ some s) := fun e => by
    rcases hf s e with h1 | h1
    · exact O2.out.ne h1
    · have := lt_heap O2.out.row
      omega
  subst hv3
  clear ho hg hf hn3 b2 RC kC
  obtain ⟨k0, k1', f0, f1, _⟩ := boxO r3.out
  refine take_p 9 27 (.pointer (some ⟨s, 4, none⟩)) rfl rfl (by kernel_rfl) (by kernel_rfl) (by kernel_rfl) (fun _ _ _ h => h) rfl (fun w => by go_simp) ?_
  try simp only [List.setIfInBounds_toArray, List.set_cons_zero, List.set_cons_succ]
  refine take_p 10 28 (.pointer (some ⟨s, 5, none⟩)) rfl rfl (by kernel_rfl) (by kernel_rfl) (by kernel_rfl) (fun _ _ _ h => h) rfl (fun w => by go_simp) ?_
  try simp only [List.setIfInBounds_toArray, List.set_cons_zero, List.set_cons_succ]
  refine ready_f 11 (o := { dst := none, op := Op.store 31 (Operand.tmp 28) (Operand.tmp 26), type := 0, pos := "window.go:48", after := #[{ on := 10, ground := Ground.data }, { on := 8, ground := Ground.data }, { on := 8, ground := Ground.chain }, { on := 0, ground := Ground.phase }, { on := 1, ground := Ground.phase }, { on := 2, ground := Ground.phase }, { on := 3, ground := Ground.phase }, { on := 4, ground := Ground.phase }, { on := 5, ground := Ground.phase }, { on := 6, ground := Ground.phase }, { on := 7, ground := Ground.phase }, { on := 8, ground := Ground.phase }], guard := none }) (by kernel_rfl) rfl (fun K hK => ?_)
  go_simp
  refine hK.out _ _ (fun h => absurd (by decide) h) ?_
  clear hK K
  refine done_f (by kernel_rfl) ?_ _
  have O4 : Hid (Otm Y B s (.slice a3 n3 c3) k (A ++ [b]) (W3.setCell ⟨s, 5, none⟩ (.slice a3 n3 c3))) := ⟨by rw [heap_setCell_same _ s 5 _ _ _ r3.out]; rfl, HO.out.kp (Kp.setCell (F := fun g => g = s) W3 s 5 _ rfl) fun g hg e => N3.out (e ▸ hg), N3.out⟩
  have K4 : Hid (Kp (Ofm s v) w (W3.setCell ⟨s, 5, none⟩ (.slice a3 n3 c3))) := K3.out.trans (Kp.setCell _ _ _ _ (.inl rfl))
  clear k0 k1' f0 f1
  go_wp2
  exact ret_t2 Try.results33 rfl rfl rfl ⟨_, rfl, O4.out, K4.out, F3.out⟩

theorem put_any {Y : OX} {B s k : Nat} {v : Value} {A : List ByteArray} {w : World} (h : Otm Y B s v k A w) (hBs : B ≤ w.heap.size) (hk : k + A.length + 1 < 4294967296) (hA : A.length ≤ 16) (b : ByteArray) (hb : b.size ≤ 281474976710656) :
    Calls Try.prog 33 #[.pointer (some ⟨s, 4, none⟩), .string b] w fun e w' => ∃ v', e = .returned (.tuple #[.int .u32 (ptN k A), .int .i64 (ptC k A)]) ∧ Otm Y B s v' k (ptL k A b) w' ∧ Kp (Ofm s v) w w' ∧ (∀ g, v'.ownBlock = some g → v.ownBlock = some g ∨ w.heap.size ≤ g) := by
  unfold ptL ptN
  by_cases hc : ptC k A = 0
  · rw [if_pos hc, if_pos hc, hc]
    exact put_ok h hBs hk hA b hb hc
  · rw [if_neg hc, if_neg hc]
    refine (put_fail h hk hA b hc).mono ?_
    rintro e w' ⟨rfl, hb'⟩
    exact ⟨v, rfl, h.below hb' (Nat.le_refl _), Kp.ofBelow hb', fun g hg => .inl hg⟩

end Go.Proofs.Ytcadlcpccemkbaa
