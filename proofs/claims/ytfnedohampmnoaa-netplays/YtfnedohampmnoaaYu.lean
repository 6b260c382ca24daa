/- Send, Take, Drop, Double: whatever they are given. -/
import Derived.Test.YtfnedohampmnoaaYt
namespace Go.Proofs.Ytfnedohampmnoaa
open Go.RowKit
set_option maxRecDepth 100000
attribute [local go_sem] not_any

/- what is on its way behind each call; what is taken; the codes -/
def sndN (N : Nat → List ByteArray) (q : Int) (s : ByteArray) : Nat → List ByteArray := if snd N q s = 0 then upd N q.toNat (N q.toNat ++ [s]) else N
def takN (N : Nat → List ByteArray) (q i : Int) : Nat → List ByteArray := if plc N q i = 0 then upd N q.toNat ((N q.toNat).eraseIdx i.toNat) else N
def takS (N : Nat → List ByteArray) (q i : Int) : ByteArray := if plc N q i = 0 then (N q.toNat).getD i.toNat ByteArray.empty else ⟨#[]⟩
def dblC (N : Nat → List ByteArray) (q i : Int) : Int := if plc N q i = 0 then snd N q ((N q.toNat).getD i.toNat ByteArray.empty) else plc N q i
def dblN (N : Nat → List ByteArray) (q i : Int) : Nat → List ByteArray := if plc N q i = 0 then sndN N q ((N q.toNat).getD i.toNat ByteArray.empty) else N

theorem plc_ok {N : Nat → List ByteArray} {q i : Int} (h : plc N q i = 0) : ∃ k j : Nat, q = k ∧ i = j ∧ k < 2 ∧ j < (N k).length := by
  unfold plc at h
  split at h
  · cases h
  · split at h
    · cases h
    · rename_i h1 h2
      exact ⟨q.toNat, i.toNat, by omega, by omega, by omega, by omega⟩

theorem send_any {B t : Nat} {x : Nat → Value} {N : Nat → List ByteArray} {w : World} (h : Nw B t x N w) (q : Int) (s : ByteArray) :
    Calls Try.prog 12 #[.pointer (some ⟨t, 0, none⟩), .int .i64 q, .string s] w fun e w' => e = .returned (.int .i64 (snd N q s)) ∧ ∃ x', Nw B t x' (sndN N q s) w' ∧ Mv t x x' w w' := by
  unfold sndN
  by_cases hc : snd N q s = 0
  · obtain ⟨k, rfl, hk, hs, hN⟩ := snd_ok hc
    rw [if_pos hc, hc]
    rcases (show k = 0 ∨ k = 1 by omega) with rfl | rfl
    · exact send_ok0 h s hs hN
    · exact send_ok1 h s hs hN
  · rw [if_neg hc]
    refine (send_fail h q s hc).mono ?_
    rintro e w' ⟨rfl, rfl⟩
    exact ⟨rfl, x, h, Mv.refl _ _ _⟩

theorem ret_t2 {fn : Func} {p u : Tmp} (h : fn.results = #[.tmp p, .tmp u]) {R : Ending → World → Prop} {a : Act} {w : World} {x y : Value} (hp : a.tmps.getD p undef = x) (hu : a.tmps.getD u undef = y) (hd : a.defers = []) (hR : R (.returned (.tuple #[x, y])) w) : bodyPost Try.prog fn R .ret a w := by
  refine bodyPost_ret_by (v := .tuple #[x, y]) ?_ hd hR
  rw [results_tmp2 h, hp, hu]

theorem take_fail {B t : Nat} {x : Nat → Value} {N : Nat → List ByteArray} {w : World} (h : Nw B t x N w) (q i : Int) (hc : plc N q i ≠ 0) :
    Calls Try.prog 13 #[.pointer (some ⟨t, 0, none⟩), .int .i64 q, .int .i64 i] w fun e w' => e = .returned (.tuple #[.string ⟨#[]⟩, .int .i64 (plc N q i)]) ∧ w' = w := by
  have kP := hide1 (place_any h q i)
  have hb : (plc N q i != 0) = true := by simpa using hc
  generalize plc N q i = c at *
  clear h
  go_enter Try.func13, Try.ntmps13
  go_wp2_with (go_at_call 31; refine kP.out.mono ?_; rintro e w1 ⟨rfl, rfl⟩)
  exact ret_t2 Try.results13 rfl rfl rfl ⟨rfl, rfl⟩

set_option maxHeartbeats 1000000 in
theorem take_ok0 {B t : Nat} {x : Nat → Value} {N : Nat → List ByteArray} {w : World} (h : Nw B t x N w) (i : Nat) (hi : i < (N 0).length) (hN : (N 0).length ≤ 64) :
    Calls Try.prog 13 #[.pointer (some ⟨t, 0, none⟩), .int .i64 0, .int .i64 (i : Int)] w fun e w' => e = .returned (.tuple #[.string ((N 0).getD i ByteArray.empty), .int .i64 0]) ∧ ∃ x', Nw B t x' (upd N 0 ((N 0).eraseIdx i)) w' ∧ Mv t x x' w w' := by
  have kP := hide1 (place_any h 0 i)
  have e0 : plc N 0 i = 0 := by
    unfold plc
    rw [if_neg (by omega), if_neg (by simp; omega)]
  rw [e0] at kP
  obtain ⟨c0, c1, c2, z1, z2⟩ := nw_cells h
  have H := hide1 h
  obtain ⟨g, c, hx, hcl, hfz, hgl, _, _⟩ := (h.own 0 (by omega)).cell hi
  have HX := hide1 hx
  have hlt : t < w.heap.size := lt_heap h.row
  have HLT := hide1 hlt
  have HI := hide1 hi
  have C1 := hide1 c1
  rw [hx] at c1 C1
  obtain ⟨n, hn⟩ : ∃ n, (N 0).length = n := ⟨_, rfl⟩
  rw [hn] at c1 C1 HX hi
  generalize (N 0).getD i ByteArray.empty = s at *
  have wi : IntKind.i64.wrap ((i : Int) + 1) = (i : Int) + 1 := by rw [IntKind.wrap_i64]; omega
  clear h hx hlt hn z1 z2 e0 c2 hN
  go_enter Try.func13, Try.ntmps13
  go_upto_region 5 with (go_at_call 31; refine kP.out.mono ?_; rintro e w1 ⟨rfl, hw1⟩; obtain rfl := hw1.symm)
  clear kP c0 c1
  refine region_f (F := [11, 15]) (S := fun W => W.cell? ⟨t, 1, none⟩ = some (.slice (some ⟨g, 0, none⟩) n c)) (by kernel_rfl) C1.out (fun hS => ?_)
  generalize hU : World.drew w = U at hS ⊢
  have bU : Hid (Below w.heap.size w U) := by rw [← hU]; exact (Below.refl _ _).drew
  clear hU
  refine take_p 0 26 (.pointer (some ⟨t, 0, none⟩)) rfl rfl (by kernel_rfl) (by kernel_rfl) (by kernel_rfl) (fun _ _ _ h => h) rfl (fun w => by go_simp) ?_
  try simp only [List.setIfInBounds_toArray, List.set_cons_zero, List.set_cons_succ]
  refine take_p 1 27 (.int .i64 0) rfl rfl (by kernel_rfl) (by kernel_rfl) (by kernel_rfl) (fun _ _ _ h => h) rfl (fun w => by go_simp) ?_
  try simp only [List.setIfInBounds_toArray, List.set_cons_zero, List.set_cons_succ]
  refine take_p 2 28 (.pointer (some ⟨t, 0, none⟩)) rfl rfl (by kernel_rfl) (by kernel_rfl) (by kernel_rfl) (fun _ _ _ h => h) rfl (fun w => by go_simp) ?_
  try simp only [List.setIfInBounds_toArray, List.set_cons_zero, List.set_cons_succ]
  refine take_p 3 29 (.int .i64 0) rfl rfl (by kernel_rfl) (by kernel_rfl) (by kernel_rfl) (fun _ _ _ h => h) rfl (fun w => by go_simp) ?_
  try simp only [List.setIfInBounds_toArray, List.set_cons_zero, List.set_cons_succ]
  refine take_p 4 30 (.pointer (some ⟨t, 0, none⟩)) rfl rfl (by kernel_rfl) (by kernel_rfl) (by kernel_rfl) (fun _ _ _ h => h) rfl (fun w => by go_simp) ?_
  try simp only [List.setIfInBounds_toArray, List.set_cons_zero, List.set_cons_succ]
  refine take_p 5 31 (.pointer (some ⟨t, 1, none⟩)) rfl rfl (by kernel_rfl) (by kernel_rfl) (by kernel_rfl) (fun _ _ _ h => h) rfl (fun w => by go_simp) ?_
  try simp only [List.setIfInBounds_toArray, List.set_cons_zero, List.set_cons_succ]
  refine take_p 6 32 (.pointer (some ⟨t, 1, none⟩)) rfl rfl (by kernel_rfl) (by kernel_rfl) (by kernel_rfl) (fun _ _ _ h => h) rfl (fun w => by go_simp) ?_
  try simp only [List.setIfInBounds_toArray, List.set_cons_zero, List.set_cons_succ]
  refine take_f 7 33 (.slice (some ⟨g, 0, none⟩) n c) [11, 14, 15] rfl rfl (by kernel_rfl) (by kernel_rfl) (by kernel_rfl) (by kernel_rfl) (by kernel_rfl) (by kernel_rfl) (fun _ _ _ h => h) rfl (fun w hSw => by go_simp) hS ?_
  try simp only [List.setIfInBounds_toArray, List.set_cons_zero, List.set_cons_succ]
  refine take_p 8 34 (.int .i64 (i : Int)) rfl rfl (by kernel_rfl) (by kernel_rfl) (by kernel_rfl) (fun _ _ _ h => h) rfl (fun w => by go_simp) ?_
  try simp only [List.setIfInBounds_toArray, List.set_cons_zero, List.set_cons_succ]
  refine take_p 9 35 (.int .i64 (i : Int)) rfl rfl (by kernel_rfl) (by kernel_rfl) (by kernel_rfl) (fun _ _ _ h => h) rfl (fun w => by go_simp) ?_
  try simp only [List.setIfInBounds_toArray, List.set_cons_zero, List.set_cons_succ]
  refine take_p 10 36 (.int .i64 ((i : Int) + 1)) rfl rfl (by kernel_rfl) (by kernel_rfl) (by kernel_rfl) (fun _ _ _ h => h) rfl (fun w => by go_simp) ?_
  try simp only [List.setIfInBounds_toArray, List.set_cons_zero, List.set_cons_succ]
  refine take_p 12 38 (.pointer (some ⟨t, 0, none⟩)) rfl rfl (by kernel_rfl) (by kernel_rfl) (by kernel_rfl) (fun _ _ _ h => h) rfl (fun w => by go_simp) ?_
  try simp only [List.setIfInBounds_toArray, List.set_cons_zero, List.set_cons_succ]
  refine take_p 13 39 (.pointer (some ⟨t, 1, none⟩)) rfl rfl (by kernel_rfl) (by kernel_rfl) (by kernel_rfl) (fun _ _ _ h => h) rfl (fun w => by go_simp) ?_
  try simp only [List.setIfInBounds_toArray, List.set_cons_zero, List.set_cons_succ]
  have kD := hide1 (delete_any ((H.out.below bU.out (Nat.le_refl _)).own 0 (by omega)) HI.out)
  rw [HX.out] at kD
  refine ready_f 11 (o := { dst := some 37, op := Op.call { callee := Callee.value (Operand.func 32), args := #[Operand.tmp 33, Operand.tmp 34, Operand.tmp 36], argTypes := #[25, 3, 3] }, type := 25, pos := "net.go:54", after := #[{ on := 7, ground := Ground.data }, { on := 8, ground := Ground.data }, { on := 10, ground := Ground.data }], guard := none }) (by kernel_rfl) rfl (fun K hK => ?_)
  go_simp
  refine kD.out.mono ?_
  rintro e W3 ⟨v', rfl, ho, hg, hf⟩
  refine hK.out _ _ (fun h => absurd (by decide) h) ?_
  clear hK K
  try simp only [Act.put, List.setIfInBounds_toArray, List.set_cons_zero, List.set_cons_succ]
  rw [← HX.out] at hg hf
  obtain ⟨a', c', rfl⟩ := ho.form
  have fz := (H.out.rowAt (k := 0) (by omega) bU.out hg).2.1
  have fc := (H.out.rowAt (k := 0) (by omega) bU.out hg).2.2
  have FIN := hide1 (H.out.stored (by omega) bU.out hg ho (fun g' hg' => .inl (hf ▸ hg')))
  generalize (List.eraseIdx (N 0) i).length = m at *
  clear hg hf ho kD hS
  refine take_p 14 40 (.pointer (some ⟨t, 1, none⟩)) rfl rfl (by kernel_rfl) (by kernel_rfl) (by kernel_rfl) (fun _ _ _ h => h) rfl (fun w => by go_simp) ?_
  try simp only [List.setIfInBounds_toArray, List.set_cons_zero, List.set_cons_succ]
  refine ready_f 15 (o := { dst := none, op := Op.store 25 (Operand.tmp 40) (Operand.tmp 37), type := 0, pos := "net.go:54", after := #[{ on := 14, ground := Ground.data }, { on := 11, ground := Ground.data }, { on := 11, ground := Ground.chain }, { on := 0, ground := Ground.phase }, { on := 1, ground := Ground.phase }, { on := 2, ground := Ground.phase }, { on := 3, ground := Ground.phase }, { on := 4, ground := Ground.phase }, { on := 5, ground := Ground.phase }, { on := 6, ground := Ground.phase }, { on := 7, ground := Ground.phase }, { on := 8, ground := Ground.phase }, { on := 9, ground := Ground.phase }, { on := 10, ground := Ground.phase }, { on := 11, ground := Ground.phase }], guard := none }) (by kernel_rfl) rfl (fun K hK => ?_)
  go_simp
  refine hK.out _ _ (fun h => absurd (by decide) h) ?_
  clear hK K
  refine done_f (by kernel_rfl) ?_ _
  go_wp2
  exact ret_t2 Try.results13 rfl rfl rfl ⟨rfl, _, FIN.out⟩

set_option maxHeartbeats 1000000 in
theorem take_ok1 {B t : Nat} {x : Nat → Value} {N : Nat → List ByteArray} {w : World} (h : Nw B t x N w) (i : Nat) (hi : i < (N 1).length) (hN : (N 1).length ≤ 64) :
    Calls Try.prog 13 #[.pointer (some ⟨t, 0, none⟩), .int .i64 1, .int .i64 (i : Int)] w fun e w' => e = .returned (.tuple #[.string ((N 1).getD i ByteArray.empty), .int .i64 0]) ∧ ∃ x', Nw B t x' (upd N 1 ((N 1).eraseIdx i)) w' ∧ Mv t x x' w w' := by
  have kP := hide1 (place_any h 1 i)
  have e0 : plc N 1 i = 0 := by
    unfold plc
    rw [if_neg (by omega), if_neg (by simp; omega)]
  rw [e0] at kP
  obtain ⟨c0, c1, c2, z1, z2⟩ := nw_cells h
  have H := hide1 h
  obtain ⟨g, c, hx, hcl, hfz, hgl, _, _⟩ := (h.own 1 (by omega)).cell hi
  have HX := hide1 hx
  have hlt : t < w.heap.size := lt_heap h.row
  have HLT := hide1 hlt
  have HI := hide1 hi
  have C2 := hide1 c2
  rw [hx] at c2 C2
  obtain ⟨n, hn⟩ : ∃ n, (N 1).length = n := ⟨_, rfl⟩
  rw [hn] at c2 C2 HX hi
  generalize (N 1).getD i ByteArray.empty = s at *
  have wi : IntKind.i64.wrap ((i : Int) + 1) = (i : Int) + 1 := by rw [IntKind.wrap_i64]; omega
  clear h hx hlt hn z1 z2 e0 c1 hN
  go_enter Try.func13, Try.ntmps13
  go_upto_region 5 with (go_at_call 31; refine kP.out.mono ?_; rintro e w1 ⟨rfl, hw1⟩; obtain rfl := hw1.symm)
  clear kP c0 c2
  refine region_f (F := [11, 15]) (S := fun W => W.cell? ⟨t, 2, none⟩ = some (.slice (some ⟨g, 0, none⟩) n c)) (by kernel_rfl) C2.out (fun hS => ?_)
  generalize hU : World.drew w = U at hS ⊢
  have bU : Hid (Below w.heap.size w U) := by rw [← hU]; exact (Below.refl _ _).drew
  clear hU
  refine take_p 0 26 (.pointer (some ⟨t, 0, none⟩)) rfl rfl (by kernel_rfl) (by kernel_rfl) (by kernel_rfl) (fun _ _ _ h => h) rfl (fun w => by go_simp) ?_
  try simp only [List.setIfInBounds_toArray, List.set_cons_zero, List.set_cons_succ]
  refine take_p 1 27 (.int .i64 1) rfl rfl (by kernel_rfl) (by kernel_rfl) (by kernel_rfl) (fun _ _ _ h => h) rfl (fun w => by go_simp) ?_
  try simp only [List.setIfInBounds_toArray, List.set_cons_zero, List.set_cons_succ]
  refine take_p 2 28 (.pointer (some ⟨t, 0, none⟩)) rfl rfl (by kernel_rfl) (by kernel_rfl) (by kernel_rfl) (fun _ _ _ h => h) rfl (fun w => by go_simp) ?_
  try simp only [List.setIfInBounds_toArray, List.set_cons_zero, List.set_cons_succ]
  refine take_p 3 29 (.int .i64 1) rfl rfl (by kernel_rfl) (by kernel_rfl) (by kernel_rfl) (fun _ _ _ h => h) rfl (fun w => by go_simp) ?_
  try simp only [List.setIfInBounds_toArray, List.set_cons_zero, List.set_cons_succ]
  refine take_p 4 30 (.pointer (some ⟨t, 0, none⟩)) rfl rfl (by kernel_rfl) (by kernel_rfl) (by kernel_rfl) (fun _ _ _ h => h) rfl (fun w => by go_simp) ?_
  try simp only [List.setIfInBounds_toArray, List.set_cons_zero, List.set_cons_succ]
  refine take_p 5 31 (.pointer (some ⟨t, 1, none⟩)) rfl rfl (by kernel_rfl) (by kernel_rfl) (by kernel_rfl) (fun _ _ _ h => h) rfl (fun w => by go_simp) ?_
  try simp only [List.setIfInBounds_toArray, List.set_cons_zero, List.set_cons_succ]
  refine take_p 6 32 (.pointer (some ⟨t, 2, none⟩)) rfl rfl (by kernel_rfl) (by kernel_rfl) (by kernel_rfl) (fun _ _ _ h => h) rfl (fun w => by go_simp) ?_
  try simp only [List.setIfInBounds_toArray, List.set_cons_zero, List.set_cons_succ]
  refine take_f 7 33 (.slice (some ⟨g, 0, none⟩) n c) [11, 14, 15] rfl rfl (by kernel_rfl) (by kernel_rfl) (by kernel_rfl) (by kernel_rfl) (by kernel_rfl) (by kernel_rfl) (fun _ _ _ h => h) rfl (fun w hSw => by go_simp) hS ?_
  try simp only [List.setIfInBounds_toArray, List.set_cons_zero, List.set_cons_succ]
  refine take_p 8 34 (.int .i64 (i : Int)) rfl rfl (by kernel_rfl) (by kernel_rfl) (by kernel_rfl) (fun _ _ _ h => h) rfl (fun w => by go_simp) ?_
  try simp only [List.setIfInBounds_toArray, List.set_cons_zero, List.set_cons_succ]
  refine take_p 9 35 (.int .i64 (i : Int)) rfl rfl (by kernel_rfl) (by kernel_rfl) (by kernel_rfl) (fun _ _ _ h => h) rfl (fun w => by go_simp) ?_
  try simp only [List.setIfInBounds_toArray, List.set_cons_zero, List.set_cons_succ]
  refine take_p 10 36 (.int .i64 ((i : Int) + 1)) rfl rfl (by kernel_rfl) (by kernel_rfl) (by kernel_rfl) (fun _ _ _ h => h) rfl (fun w => by go_simp) ?_
  try simp only [List.setIfInBounds_toArray, List.set_cons_zero, List.set_cons_succ]
  refine take_p 12 38 (.pointer (some ⟨t, 0, none⟩)) rfl rfl (by kernel_rfl) (by kernel_rfl) (by kernel_rfl) (fun _ _ _ h => h) rfl (fun w => by go_simp) ?_
  try simp only [List.setIfInBounds_toArray, List.set_cons_zero, List.set_cons_succ]
  refine take_p 13 39 (.pointer (some ⟨t, 1, none⟩)) rfl rfl (by kernel_rfl) (by kernel_rfl) (by kernel_rfl) (fun _ _ _ h => h) rfl (fun w => by go_simp) ?_
  try simp only [List.setIfInBounds_toArray, List.set_cons_zero, List.set_cons_succ]
  have kD := hide1 (delete_any ((H.out.below bU.out (Nat.le_refl _)).own 1 (by omega)) HI.out)
  rw [HX.out] at kD
  refine ready_f 11 (o := { dst := some 37, op := Op.call { callee := Callee.value (Operand.func 32), args := #[Operand.tmp 33, Operand.tmp 34, Operand.tmp 36], argTypes := #[25, 3, 3] }, type := 25, pos := "net.go:54", after := #[{ on := 7, ground := Ground.data }, { on := 8, ground := Ground.data }, { on := 10, ground := Ground.data }], guard := none }) (by kernel_rfl) rfl (fun K hK => ?_)
  go_simp
  refine kD.out.mono ?_
  rintro e W3 ⟨v', rfl, ho, hg, hf⟩
  refine hK.out _ _ (fun h => absurd (by decide) h) ?_
  clear hK K
  try simp only [Act.put, List.setIfInBounds_toArray, List.set_cons_zero, List.set_cons_succ]
  rw [← HX.out] at hg hf
  obtain ⟨a', c', rfl⟩ := ho.form
  have fz := (H.out.rowAt (k := 1) (by omega) bU.out hg).2.1
  have fc := (H.out.rowAt (k := 1) (by omega) bU.out hg).2.2
  have FIN := hide1 (H.out.stored (by omega) bU.out hg ho (fun g' hg' => .inl (hf ▸ hg')))
  generalize (List.eraseIdx (N 1) i).length = m at *
  clear hg hf ho kD hS
  refine take_p 14 40 (.pointer (some ⟨t, 2, none⟩)) rfl rfl (by kernel_rfl) (by kernel_rfl) (by kernel_rfl) (fun _ _ _ h => h) rfl (fun w => by go_simp) ?_
  try simp only [List.setIfInBounds_toArray, List.set_cons_zero, List.set_cons_succ]
  refine ready_f 15 (o := { dst := none, op := Op.store 25 (Operand.tmp 40) (Operand.tmp 37), type := 0, pos := "net.go:54", after := #[{ on := 14, ground := Ground.data }, { on := 11, ground := Ground.data }, { on := 11, ground := Ground.chain }, { on := 0, ground := Ground.phase }, { on := 1, ground := Ground.phase }, { on := 2, ground := Ground.phase }, { on := 3, ground := Ground.phase }, { on := 4, ground := Ground.phase }, { on := 5, ground := Ground.phase }, { on := 6, ground := Ground.phase }, { on := 7, ground := Ground.phase }, { on := 8, ground := Ground.phase }, { on := 9, ground := Ground.phase }, { on := 10, ground := Ground.phase }, { on := 11, ground := Ground.phase }], guard := none }) (by kernel_rfl) rfl (fun K hK => ?_)
  go_simp
  refine hK.out _ _ (fun h => absurd (by decide) h) ?_
  clear hK K
  refine done_f (by kernel_rfl) ?_ _
  go_wp2
  exact ret_t2 Try.results13 rfl rfl rfl ⟨rfl, _, FIN.out⟩

theorem take_any {B t : Nat} {x : Nat → Value} {N : Nat → List ByteArray} {w : World} (h : Nw B t x N w) (q i : Int) (h64 : ∀ k, (N k).length ≤ 64) :
    Calls Try.prog 13 #[.pointer (some ⟨t, 0, none⟩), .int .i64 q, .int .i64 i] w fun e w' => e = .returned (.tuple #[.string (takS N q i), .int .i64 (plc N q i)]) ∧ ∃ x', Nw B t x' (takN N q i) w' ∧ Mv t x x' w w' := by
  unfold takN takS
  by_cases hc : plc N q i = 0
  · obtain ⟨k, j, rfl, rfl, hk, hj⟩ := plc_ok hc
    rw [if_pos hc, if_pos hc, hc]
    rcases (show k = 0 ∨ k = 1 by omega) with rfl | rfl
    · exact take_ok0 h j hj (h64 0)
    · exact take_ok1 h j hj (h64 1)
  · rw [if_neg hc, if_neg hc]
    refine (take_fail h q i hc).mono ?_
    rintro e w' ⟨rfl, rfl⟩
    exact ⟨rfl, x, h, Mv.refl _ _ _⟩

theorem drop_any {B t : Nat} {x : Nat → Value} {N : Nat → List ByteArray} {w : World} (h : Nw B t x N w) (q i : Int) (h64 : ∀ k, (N k).length ≤ 64) :
    Calls Try.prog 15 #[.pointer (some ⟨t, 0, none⟩), .int .i64 q, .int .i64 i] w fun e w' => e = .returned (.int .i64 (plc N q i)) ∧ ∃ x', Nw B t x' (takN N q i) w' ∧ Mv t x x' w w' := by
  have kT := hide1 (take_any h q i h64)
  generalize plc N q i = c at *
  generalize takS N q i = s at *
  generalize takN N q i = M at *
  clear h h64
  go_enter Try.func15, Try.ntmps15
  go_wp2_with (go_at_call 13; refine kT.out.mono ?_; rintro e w1 ⟨rfl, hx⟩; have HX := hide1 hx; clear hx)
  go_ret
  exact ⟨rfl, HX.out⟩

theorem double_any {B t : Nat} {x : Nat → Value} {N : Nat → List ByteArray} {w : World} (h : Nw B t x N w) (q i : Int) (h64 : ∀ k, (N k).length ≤ 64) :
    Calls Try.prog 16 #[.pointer (some ⟨t, 0, none⟩), .int .i64 q, .int .i64 i] w fun e w' => e = .returned (.int .i64 (dblC N q i)) ∧ ∃ x', Nw B t x' (dblN N q i) w' ∧ Mv t x x' w w' := by
  have kP := hide1 (place_any h q i)
  unfold dblC dblN
  by_cases hc : plc N q i = 0
  · rw [if_pos hc, if_pos hc]
    rw [hc] at kP
    have kS := hide1 (send_any h q ((N q.toNat).getD i.toNat ByteArray.empty))
    obtain ⟨k, j, rfl, rfl, hk, hj⟩ := plc_ok hc
    obtain ⟨c0, c1, c2, z1, z2⟩ := nw_cells h
    obtain ⟨g, c, hx, hcl, hfz, hgl, _, _⟩ := (h.own k hk).cell hj
    rw [Int.toNat_natCast, Int.toNat_natCast] at *
    generalize (N k).getD j ByteArray.empty = s at *
    have h64k := h64 k
    generalize (N k).length = n at *
    generalize snd N k s = d at *
    generalize sndN N k s = M at *
    clear h h64
    rcases (show k = 0 ∨ k = 1 by omega) with rfl | rfl
    · rw [hx] at c1
      clear hx hc hk
      change Hid (Calls _ _ #[_, .int .i64 0, _] _ _) at kP
      change Hid (Calls _ _ #[_, .int .i64 0, _] _ _) at kS
      go_enter Try.func16, Try.ntmps16
      go_wp2_with (first | (go_at_call 31; refine kP.out.mono ?_; rintro e w1 ⟨rfl, hw1⟩; obtain rfl := hw1.symm) | (go_at_call 12; refine kS.out.mono ?_; rintro e w2 ⟨rfl, hx2⟩; have HX2 := hide1 hx2; clear hx2))
      go_ret
      exact ⟨rfl, HX2.out⟩
    · rw [hx] at c2
      clear hx hc hk
      change Hid (Calls _ _ #[_, .int .i64 1, _] _ _) at kP
      change Hid (Calls _ _ #[_, .int .i64 1, _] _ _) at kS
      go_enter Try.func16, Try.ntmps16
      go_wp2_with (first | (go_at_call 31; refine kP.out.mono ?_; rintro e w1 ⟨rfl, hw1⟩; obtain rfl := hw1.symm) | (go_at_call 12; refine kS.out.mono ?_; rintro e w2 ⟨rfl, hx2⟩; have HX2 := hide1 hx2; clear hx2))
      go_ret
      exact ⟨rfl, HX2.out⟩
  · rw [if_neg hc, if_neg hc]
    have hb : (plc N q i != 0) = true := by simpa using hc
    have H := hide1 h
    generalize plc N q i = c at *
    clear h h64
    go_enter Try.func16, Try.ntmps16
    go_wp2_with (go_at_call 31; refine kP.out.mono ?_; rintro e w1 ⟨rfl, hw1⟩; obtain rfl := hw1.symm)
    go_ret
    exact ⟨rfl, x, H.out, Mv.refl _ _ _⟩

end Go.Proofs.Ytfnedohampmnoaa
