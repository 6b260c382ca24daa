/- An Out in memory: Ack, Pending. -/
import Derived.Test.YtcadlcpccemkbaaJe
import Derived.Test.YtcadlcpccemkbaaJk
namespace Go.Proofs.Ytcadlcpccemkbaa
open Go.RowKit
set_option maxRecDepth 100000
attribute [local go_sem] not_any

/- what Ack answers, the last number that has come behind it, and what has not -/
def akC (k : Nat) (A : List ByteArray) (q : Nat) : Nat := if q = 0 ∨ k + A.length + 1 < q then 22 else 0
def akK (k : Nat) (A : List ByteArray) (q : Nat) : Nat := if akC k A q = 0 then max k (q - 1) else k
def akL (k : Nat) (A : List ByteArray) (q : Nat) : List ByteArray := if akC k A q = 0 then A.drop (q - 1 - k) else A

theorem ack_gap {Y : OX} {B s k : Nat} {v : Value} {A : List ByteArray} {w : World} (h : Otm Y B s v k A w) (hk : k + A.length + 1 < 4294967296) (q : Nat) (hc : akC k A q ≠ 0) :
    Calls Try.prog 56 #[.pointer (some ⟨s, 4, none⟩), .int .u32 (q : Int)] w fun e w' => e = .returned (.int .i64 22) ∧ Below w.heap.size w w' := by
  have k1 := hide1 (next_any h hk)
  have bD : Hid (Below w.heap.size w w.drew) := (Below.refl _ _).drew
  unfold akC at hc
  by_cases h0 : q = 0
  · subst h0
    clear hc h k1 bD
    go_enter Try.func56, Try.ntmps56
    go_wp2
    go_ret
    exact ⟨rfl, Below.refl _ _⟩
  · by_cases h1 : k + A.length + 1 < q
    · obtain ⟨m, hm⟩ : ∃ m, k + A.length + 1 = m := ⟨_, rfl⟩
      rw [hm] at k1 h1
      have h1i : (m : Int) < (q : Int) := by omega
      have h0i : ¬ (q : Int) = 0 := by omega
      have h0b : ((q : Int) == 0) = false := by simp [h0]
      clear hc h hk hm h1 h0
      go_enter Try.func56, Try.ntmps56
      go_wp2_with fail
      refine k1.out.mono ?_
      rintro e w1 ⟨rfl, rfl⟩
      go_wp2
      go_ret
      exact ⟨rfl, bD.out⟩
    · rw [if_neg (by omega)] at hc
      exact absurd rfl hc

theorem ack_old {Y : OX} {B s k : Nat} {v : Value} {A : List ByteArray} {w : World} (h : Otm Y B s v k A w) (hk : k + A.length + 1 < 4294967296) (q : Nat) (h0 : q ≠ 0) (h1 : q ≤ k + A.length + 1) (h2 : q - 1 ≤ k) :
    Calls Try.prog 56 #[.pointer (some ⟨s, 4, none⟩), .int .u32 (q : Int)] w fun e w' => e = .returned (.int .i64 0) ∧ Below w.heap.size w w' := by
  have k1 := hide1 (next_any h hk)
  have bD : Hid (Below w.heap.size w w.drew) := (Below.refl _ _).drew
  obtain ⟨m, hm⟩ : ∃ m, k + A.length + 1 = m := ⟨_, rfl⟩
  rw [hm] at k1 h1
  obtain ⟨c0, c1, _, _, _⟩ := boxO h.row
  have d0 : w.drew.cell? ⟨s, 4, none⟩ = some (.int .u32 (k : Int)) := c0
  have hq : q ≤ 4294967296 := by omega
  have h1i : ¬ (m : Int) < (q : Int) := by omega
  have h0i : ¬ (q : Int) = 0 := by omega
  have h0b : ((q : Int) == 0) = false := by simp [h0]
  have h2i : (q : Int) - 1 ≤ (k : Int) := by omega
  have h3i : (0 : Int) ≤ (q : Int) - 1 := by omega
  have hwr : IntKind.u32.wrap ((q : Int) - 1) = (q : Int) - 1 := by rw [IntKind.wrap_u32]; omega
  clear h hk hm h1 h0 h2 hq c0 c1
  go_enter Try.func56, Try.ntmps56
  go_wp2_with fail
  refine k1.out.mono ?_
  rintro e w1 ⟨rfl, rfl⟩
  go_wp2
  go_ret
  exact ⟨rfl, bD.out⟩

set_option maxHeartbeats 2000000 in
theorem ack_new {Y : OX} {B s k : Nat} {v : Value} {A : List ByteArray} {w : World} (h : Otm Y B s v k A w) (hk : k + A.length + 1 < 4294967296) (q : Nat) (h0 : q ≠ 0) (h1 : q ≤ k + A.length + 1) (h2 : k < q - 1) :
    Calls Try.prog 56 #[.pointer (some ⟨s, 4, none⟩), .int .u32 (q : Int)] w fun e w' => ∃ v', e = .returned (.int .i64 0) ∧ Otm Y B s v' (q - 1) (A.drop (q - 1 - k)) w' ∧ Kp (Ofm s v) w w' ∧ v'.ownBlock = v.ownBlock := by
  have k1 := hide1 (next_any h hk)
  have bD : Hid (Below w.heap.size w w.drew) := (Below.refl _ _).drew
  have H := hide1 h
  obtain ⟨m, hm⟩ : ∃ m, k + A.length + 1 = m := ⟨_, rfl⟩
  obtain ⟨q1, hq1⟩ : ∃ q1, q - 1 = q1 := ⟨_, rfl⟩
  obtain ⟨d, hd⟩ : ∃ d, q1 - k = d := ⟨_, rfl⟩
  rw [hm] at k1 h1
  rw [hq1, hd]
  have kD : Hid (∀ W, Lst B W v A → Calls Try.prog 34 #[v, .int .i64 0, .int .i64 (d : Int)] W fun e w' => ∃ v', e = .returned v' ∧ Lst B w' v' (A.drop d) ∧ W.grownBy w' v.ownBlock ∧ v'.ownBlock = v.ownBlock) := fun W hW => delete_any hW (by omega) (by omega)
  obtain ⟨c0, c1, _, _, _⟩ := boxO h.row
  have d0 : w.drew.cell? ⟨s, 4, none⟩ = some (.int .u32 (k : Int)) := c0
  have HQ : Hid (q = q1 + 1 ∧ q1 = k + d ∧ q < 4294967296) := ⟨by omega, by omega, by omega⟩
  have h1i : ¬ (m : Int) < (q : Int) := by omega
  have h0b : ((q : Int) == 0) = false := by simp [h0]
  have h2i : ¬ (q : Int) - 1 ≤ (k : Int) := by omega
  have hwr : IntKind.u32.wrap ((q : Int) - 1) = (q : Int) - 1 := by rw [IntKind.wrap_u32]; omega
  have h3i : (0 : Int) ≤ (q : Int) - 1 := by omega
  obtain ⟨a, c, hv⟩ := h.ls.form
  obtain ⟨n, hn⟩ : ∃ n, A.length = n := ⟨_, rfl⟩
  rw [hn] at hv
  have C01 : Hid (w.drew.cell? ⟨s, 4, none⟩ = some (.int .u32 (k : Int)) ∧ w.drew.cell? ⟨s, 5, none⟩ = some v) := ⟨c0, c1⟩
  clear h hk hm h1 h0 h2 c0 c1 hd hq1 hv hn
  go_enter Try.func56, Try.ntmps56
  go_wp2_with fail
  refine k1.out.mono ?_
  rintro e w1 ⟨rfl, rfl⟩
  go_upto_region 7 with (fail)
  clear d0
  refine region_f (F := [13, 16]) (S := fun W => W.cell? ⟨s, 4, none⟩ = some (.int .u32 (k : Int)) ∧ W.cell? ⟨s, 5, none⟩ = some v) (by kernel_rfl) ⟨C01.out.1, C01.out.2⟩ (fun hS => ?_)
  have bU : Hid (Below w.heap.size w (World.drew (World.drew w))) := bD.out.drew
  generalize World.drew (World.drew w) = X at bU hS ⊢
  refine take_p 0 25 (.pointer (some ⟨s, 4, none⟩)) rfl rfl (by kernel_rfl) (by kernel_rfl) (by kernel_rfl) (fun _ _ _ h => h) rfl (fun w => by go_simp) ?_
  try simp only [List.setIfInBounds_toArray, List.set_cons_zero, List.set_cons_succ]
  refine take_p 1 26 (.pointer (some ⟨s, 4, none⟩)) rfl rfl (by kernel_rfl) (by kernel_rfl) (by kernel_rfl) (fun _ _ _ h => h) rfl (fun w => by go_simp) ?_
  try simp only [List.setIfInBounds_toArray, List.set_cons_zero, List.set_cons_succ]
  refine take_p 2 27 (.pointer (some ⟨s, 4, none⟩)) rfl rfl (by kernel_rfl) (by kernel_rfl) (by kernel_rfl) (fun _ _ _ h => h) rfl (fun w => by go_simp) ?_
  try simp only [List.setIfInBounds_toArray, List.set_cons_zero, List.set_cons_succ]
  refine take_p 3 28 (.pointer (some ⟨s, 5, none⟩)) rfl rfl (by kernel_rfl) (by kernel_rfl) (by kernel_rfl) (fun _ _ _ h => h) rfl (fun w => by go_simp) ?_
  try simp only [List.setIfInBounds_toArray, List.set_cons_zero, List.set_cons_succ]
  refine take_f 4 29 (v) [13, 14, 15, 16] rfl rfl (by kernel_rfl) (by kernel_rfl) (by kernel_rfl) (by kernel_rfl) (by kernel_rfl) (by kernel_rfl) (fun _ _ _ h => h) rfl (fun w hSw => by obtain ⟨g0, g1⟩ := hSw; go_simp) hS ?_
  try simp only [List.setIfInBounds_toArray, List.set_cons_zero, List.set_cons_succ]
  refine take_p 5 30 (.int .u32 (q : Int)) rfl rfl (by kernel_rfl) (by kernel_rfl) (by kernel_rfl) (fun _ _ _ h => h) rfl (fun w => by go_simp) ?_
  try simp only [List.setIfInBounds_toArray, List.set_cons_zero, List.set_cons_succ]
  refine take_p 6 31 (.int .u32 (q1 : Int)) rfl rfl (by kernel_rfl) (by kernel_rfl) (by kernel_rfl) (fun _ _ _ h => h) rfl (fun w => by obtain ⟨x1, x2, x3⟩ := HQ.out; go_simp; rw [IntKind.wrap_u32]; omega) ?_
  try simp only [List.setIfInBounds_toArray, List.set_cons_zero, List.set_cons_succ]
  refine take_p 7 32 (.pointer (some ⟨s, 4, none⟩)) rfl rfl (by kernel_rfl) (by kernel_rfl) (by kernel_rfl) (fun _ _ _ h => h) rfl (fun w => by go_simp) ?_
  try simp only [List.setIfInBounds_toArray, List.set_cons_zero, List.set_cons_succ]
  refine take_p 8 33 (.pointer (some ⟨s, 4, none⟩)) rfl rfl (by kernel_rfl) (by kernel_rfl) (by kernel_rfl) (fun _ _ _ h => h) rfl (fun w => by go_simp) ?_
  try simp only [List.setIfInBounds_toArray, List.set_cons_zero, List.set_cons_succ]
  refine take_p 9 34 (.pointer (some ⟨s, 4, none⟩)) rfl rfl (by kernel_rfl) (by kernel_rfl) (by kernel_rfl) (fun _ _ _ h => h) rfl (fun w => by go_simp) ?_
  try simp only [List.setIfInBounds_toArray, List.set_cons_zero, List.set_cons_succ]
  refine take_f 10 35 (.int .u32 (k : Int)) [11, 12, 13, 14, 15, 16] rfl rfl (by kernel_rfl) (by kernel_rfl) (by kernel_rfl) (by kernel_rfl) (by kernel_rfl) (by kernel_rfl) (fun _ _ _ h => h) rfl (fun w hSw => by obtain ⟨g0, g1⟩ := hSw; go_simp) hS ?_
  try simp only [List.setIfInBounds_toArray, List.set_cons_zero, List.set_cons_succ]
  refine take_p 11 36 (.int .u32 (d : Int)) rfl rfl (by kernel_rfl) (by kernel_rfl) (by kernel_rfl) (fun _ _ _ h => h) rfl (fun w => by obtain ⟨x1, x2, x3⟩ := HQ.out; go_simp; rw [IntKind.wrap_u32]; omega) ?_
  try simp only [List.setIfInBounds_toArray, List.set_cons_zero, List.set_cons_succ]
  refine take_p 12 37 (.int .i64 (d : Int)) rfl rfl (by kernel_rfl) (by kernel_rfl) (by kernel_rfl) (fun _ _ _ h => h) rfl (fun w => by obtain ⟨x1, x2, x3⟩ := HQ.out; go_simp; rw [IntKind.wrap_i64]; omega) ?_
  try simp only [List.setIfInBounds_toArray, List.set_cons_zero, List.set_cons_succ]
  have O2 := hide1 (H.out.below bU.out (Nat.le_refl _))
  refine ready_f 13 (o := { dst := some 38, op := Op.call { callee := Callee.value (Operand.func 34), args := #[Operand.tmp 29, Operand.const (Value.int IntKind.i64 0), Operand.tmp 37], argTypes := #[31, 3, 3] }, type := 31, pos := "window.go:62", after := #[{ on := 4, ground := Ground.data }, { on := 12, ground := Ground.data }], guard := none }) (by kernel_rfl) rfl (fun K hK => ?_)
  go_simp
  refine (kD.out _ O2.out.ls).mono ?_
  rintro e W3 ⟨v3, rfl, ho, hg, hf⟩
  refine hK.out _ _ (fun h => absurd (by decide) h) ?_
  clear hK K
  try simp only [Act.put, List.setIfInBounds_toArray, List.set_cons_zero, List.set_cons_succ]
  have K3 : Hid (Kp (Ofm s v) w W3) := (Kp.ofBelow bU.out).trans ((Kp.ofGrown hg).mono fun k e => .inr e)
  have r3 : Hid (W3.heap[s]? = some (.cells #[Y.c0, Y.c1, Y.c2, Y.c3, .int .u32 (k : Int), v, Y.c6, Y.c7, Y.c8] 54 (0, 0))) := (hg.block s (lt_heap O2.out.row) (fun e => O2.out.ne e.symm)).trans O2.out.row
  have HO := hide1 ho
  have HF := hide1 hf
  obtain ⟨a3, c3, hv3⟩ := ho.form
  obtain ⟨n3, hn3⟩ : ∃ n, (A.drop d).length = n := ⟨_, rfl⟩
  rw [hn3] at hv3
  have N3 : Hid (v3.ownBlock ≠ some s) := fun e => O2.out.ne (hf ▸ e)
  subst hv3
  clear ho hg hf hn3 kD hS bU
  obtain ⟨k0, k1', f0, f1, _⟩ := boxO r3.out
  refine take_p 14 39 (.pointer (some ⟨s, 4, none⟩)) rfl rfl (by kernel_rfl) (by kernel_rfl) (by kernel_rfl) (fun _ _ _ h => h) rfl (fun w => by go_simp) ?_
  try simp only [List.setIfInBounds_toArray, List.set_cons_zero, List.set_cons_succ]
  refine take_p 15 40 (.pointer (some ⟨s, 5, none⟩)) rfl rfl (by kernel_rfl) (by kernel_rfl) (by kernel_rfl) (fun _ _ _ h => h) rfl (fun w => by go_simp) ?_
  try simp only [List.setIfInBounds_toArray, List.set_cons_zero, List.set_cons_succ]
  refine ready_f 16 (o := { dst := none, op := Op.store 31 (Operand.tmp 40) (Operand.tmp 38), type := 0, pos := "window.go:62", after := #[{ on := 15, ground := Ground.data }, { on := 13, ground := Ground.data }, { on := 13, ground := Ground.chain }, { on := 0, ground := Ground.phase }, { on := 1, ground := Ground.phase }, { on := 2, ground := Ground.phase }, { on := 3, ground := Ground.phase }, { on := 4, ground := Ground.phase }, { on := 5, ground := Ground.phase }, { on := 6, ground := Ground.phase }, { on := 7, ground := Ground.phase }, { on := 8, ground := Ground.phase }, { on := 9, ground := Ground.phase }, { on := 10, ground := Ground.phase }, { on := 11, ground := Ground.phase }, { on := 12, ground := Ground.phase }, { on := 13, ground := Ground.phase }], guard := none }) (by kernel_rfl) rfl (fun K hK => ?_)
  go_simp
  refine hK.out _ _ (fun h => absurd (by decide) h) ?_
  clear hK K
  refine done_f (by kernel_rfl) ?_ _
  have r4 : Hid ((W3.setCell ⟨s, 5, none⟩ (.slice a3 n3 c3)).heap[s]? = some (.cells #[Y.c0, Y.c1, Y.c2, Y.c3, .int .u32 (k : Int), .slice a3 n3 c3, Y.c6, Y.c7, Y.c8] 54 (0, 0))) := by unfold Hid; rw [heap_setCell_same _ s 5 _ _ _ r3.out]; rfl
  have HO4 : Hid (Lst B (W3.setCell ⟨s, 5, none⟩ (.slice a3 n3 c3)) (.slice a3 n3 c3) (A.drop d)) := HO.out.kp (Kp.setCell (F := fun g => g = s) W3 s 5 _ rfl) fun g hg e => N3.out (e ▸ hg)
  have K4 : Hid (Kp (Ofm s v) w (W3.setCell ⟨s, 5, none⟩ (.slice a3 n3 c3))) := K3.out.trans (Kp.setCell _ _ _ _ (.inl rfl))
  generalize W3.setCell ⟨s, 5, none⟩ (.slice a3 n3 c3) = W4 at r4 HO4 K4 ⊢
  clear k0 k1' f0 f1 HO K3 r3
  obtain ⟨k0, k1', f0, f1, _⟩ := boxO r4.out
  have O5 : Hid (Otm Y B s (.slice a3 n3 c3) q1 (A.drop d) (W4.setCell ⟨s, 4, none⟩ (.int .u32 (q1 : Int)))) := ⟨by rw [heap_setCell_same _ s 4 _ _ _ r4.out]; rfl, HO4.out.kp (Kp.setCell (F := fun g => g = s) W4 s 4 _ rfl) fun g hg e => N3.out (e ▸ hg), N3.out⟩
  have K5 : Hid (Kp (Ofm s v) w (W4.setCell ⟨s, 4, none⟩ (.int .u32 (q1 : Int)))) := K4.out.trans (Kp.setCell _ _ _ _ (.inl rfl))
  have eq1 : Hid ((q : Int) - 1 = (q1 : Int)) := by obtain ⟨x1, _, _⟩ := HQ.out; unfold Hid; omega
  go_wp2
  go_ret
  rw [eq1.out]
  exact ⟨_, rfl, O5.out, K5.out, HF.out⟩

theorem ack_any {Y : OX} {B s k : Nat} {v : Value} {A : List ByteArray} {w : World} (h : Otm Y B s v k A w) (hk : k + A.length + 1 < 4294967296) (q : Nat) :
    Calls Try.prog 56 #[.pointer (some ⟨s, 4, none⟩), .int .u32 (q : Int)] w fun e w' => ∃ v', e = .returned (.int .i64 (akC k A q)) ∧ Otm Y B s v' (akK k A q) (akL k A q) w' ∧ Kp (Ofm s v) w w' ∧ (∀ g, v'.ownBlock = some g → v.ownBlock = some g ∨ w.heap.size ≤ g) := by
  unfold akL akK
  by_cases hc : akC k A q = 0
  · have hc' := hc
    unfold akC at hc
    by_cases hg : q = 0 ∨ k + A.length + 1 < q
    · rw [if_pos hg] at hc
      cases hc
    · rw [if_pos hc', if_pos hc', hc']
      by_cases h2 : q - 1 ≤ k
      · refine (ack_old h hk q (by omega) (by omega) h2).mono ?_
        rintro e w' ⟨rfl, hb'⟩
        rw [show max k (q - 1) = k by omega, show q - 1 - k = 0 by omega, List.drop_zero]
        exact ⟨v, rfl, h.below hb' (Nat.le_refl _), Kp.ofBelow hb', fun g hg => .inl hg⟩
      · refine (ack_new h hk q (by omega) (by omega) (by omega)).mono ?_
        rintro e w' ⟨v', rfl, h1, h3, h4⟩
        rw [show max k (q - 1) = q - 1 by omega]
        exact ⟨v', rfl, h1, h3, fun g hg => .inl (h4 ▸ hg)⟩
  · rw [if_neg hc, if_neg hc]
    have h22 : akC k A q = 22 := by
      unfold akC at hc ⊢
      split
      · rfl
      · rename_i hn
        rw [if_neg hn] at hc
        exact absurd rfl hc
    rw [h22]
    refine (ack_gap h hk q hc).mono ?_
    rintro e w' ⟨rfl, hb'⟩
    exact ⟨v, rfl, h.below hb' (Nat.le_refl _), Kp.ofBelow hb', fun g hg => .inl hg⟩

/- bodies with their numbers, from one on -/
def pend : Nat → List ByteArray → List (Nat × ByteArray)
  | _, [] => []
  | k, s :: A => (k, s) :: pend (k + 1) A
theorem pend_length : ∀ (k : Nat) (A : List ByteArray), (pend k A).length = A.length
  | _, [] => rfl
  | k, s :: A => by rw [pend, List.length_cons, List.length_cons, pend_length]
theorem pend_append : ∀ (k : Nat) (A C : List ByteArray), pend k (A ++ C) = pend k A ++ pend (k + A.length) C
  | k, [], C => by simp [pend]
  | k, s :: A, C => by
    rw [List.cons_append, pend, pend, pend_append, List.length_cons, List.cons_append]
    rw [show k + 1 + A.length = k + (A.length + 1) by omega]
theorem pend_snoc (k : Nat) (A : List ByteArray) (j : Nat) (h : j < A.length) : pend k (A.take j) ++ [(k + j, A.getD j ByteArray.empty)] = pend k (A.take (j + 1)) := by
  have e : A.take (j + 1) = A.take j ++ [A.getD j ByteArray.empty] := by
    rw [List.take_add_one, List.getElem?_eq_getElem h]
    simp [List.getD, List.getElem?_eq_getElem h]
  rw [e, pend_append, List.length_take, Nat.min_eq_left (Nat.le_of_lt h)]
  rfl
/- bodies that can be -/
def Szl (A : List ByteArray) : Prop := ∀ s ∈ A, s.size ≤ 281474976710656

set_option maxHeartbeats 1000000 in
theorem pending_any {Y : OX} {B s k : Nat} {v : Value} {A : List ByteArray} {w : World} (h : Otm Y B s v k A w) (hk : k + A.length + 1 < 4294967296) (hA : A.length ≤ 1000) (hz : Szl A) :
    Calls Try.prog 27 #[.pointer (some ⟨s, 4, none⟩)] w fun e w' => ∃ z, e = .returned z ∧ Nls 83 w.heap.size w' z (pend (k + 1) A) ∧ Below w.heap.size w w' := by
  have H := hide1 h
  have HA := hide1 hA
  have HZ := hide1 hz
  have HK := hide1 hk
  obtain ⟨c0, c1, _, _, _⟩ := boxO h.row
  obtain ⟨a, c, rfl⟩ := h.ls.form
  obtain ⟨n, hn⟩ : ∃ n, A.length = n := ⟨_, rfl⟩
  have HN := hide1 hn
  rw [hn] at H c1
  rw [hn] at hk hA
  have HKn := hide1 hk
  clear h hn hz hk
  go_enter Try.func27, Try.ntmps27
  go_wp2_with fail
  clear c0 c1
  go_loopw [3, 13] (fun p i wr => ∃ (j : Nat) (u : Value), j ≤ n ∧ i = .int .i64 (j : Int) ∧ p = u ∧ Nls 83 w.heap.size wr u (pend (k + 1) (A.take j)) ∧ Below w.heap.size w wr) (fun _ i _ => n - (intOf i).toNat)
  case atStart => exact ⟨0, _, Nat.zero_le _, rfl, rfl, Nls.nil _ _ _, Below.refl _ _⟩
  case round =>
    obtain ⟨j, u, hj, rfl, hu, hL, hB⟩ := hrel
    obtain rfl := hu.symm
    have HL := hide1 hL
    have HB := hide1 hB
    have I0 := hide1 (H.out.below hB (Nat.le_refl _))
    clear hL hB hu
    by_cases hjn : j < n
    · have gin : (j : Int) < (n : Int) := by omega
      have hjA : j < A.length := by have := HN.out; omega
      obtain ⟨c0, c1, _, _, _⟩ := boxO I0.out.row
      obtain ⟨g1, c', e1, k1, _⟩ := I0.out.ls.cell hjA
      rw [HN.out] at e1
      cases e1
      have hsz : (A.getD j ByteArray.empty).size ≤ 281474976710656 := HZ.out _ (by simp [List.getD, List.getElem?_eq_getElem hjA])
      have PN := hide1 (pend_snoc (k + 1) A j hjA)
      generalize A.getD j ByteArray.empty = b at k1 hsz PN
      obtain ⟨m, hm⟩ : ∃ m, k + 1 + j = m := ⟨_, rfl⟩
      rw [hm] at PN
      have kN := fun w => hide1 (numbered_any m b w hsz)
      have hmm : (m : Int) = (k : Int) + 1 + (j : Int) := by omega
      rw [hmm] at kN
      have hm1 : (k : Int) + 1 + (j : Int) < 4294967296 := by have := HKn.out; omega
      have HM := hide1 hmm
      clear hsz hm hmm
      go_wp2_with fail
      refine (kN _).out.mono ?_
      rintro e W1 ⟨rfl, hb1⟩
      have b1 : Hid (Below wr.heap.size wr (W1.alloc (.cells #[.int .u32 (m : Int), .string b] 83))) := hb1.alloc hb1.size _
      have LC := hide1 (HL.out.below b1.out (Nat.le_refl _))
      have RC := hide1 (Rnl.one W1 83 m b)
      have HLE : Hid ((pend (k + 1) (A.take j)).length ≤ 1000000 ∧ w.heap.size ≤ (W1.alloc (.cells #[.int .u32 (m : Int), .string b] 83)).heap.size) := by
        have h1 := HA.out
        have h3 := HB.out.size
        have h4 := b1.out.size
        refine ⟨?_, by omega⟩
        rw [pend_length, List.length_take]
        omega
      unfold elV
      clear hb1 kN c0 c1 k1 hm1 I0
      go_wp2_with (at_builtin; go_must (refine wpList_append_nls ntyW rfl _ _ rfl rfl rfl LC.out RC.out HLE.out.1 HLE.out.2 ?_); intro v2 WE ho hg hf; have HO := hide1 ho; have HG := hide1 hg; clear ho hg hf)
      go_roundw
      case rel =>
        refine ⟨j + 1, v2, by omega, by go_num, rfl, ?_, ?_⟩
        · rw [← PN.out]
          exact HO.out
        · exact (HB.out.trans (b1.out.mono HB.out.size)).grown HG.out HLE.out.2 (fun k hk => (HL.out.lt hk).1)
      case measure => simp [intOf]; omega
    · have gin : ¬ (j : Int) < (n : Int) := by omega
      go_wp2
      go_ret
      have e : A.take j = A := List.take_of_length_le (by have := HN.out; omega)
      have h9 := HL.out
      rw [e] at h9
      exact ⟨_, rfl, h9, HB.out⟩

end Go.Proofs.Ytcadlcpccemkbaa
