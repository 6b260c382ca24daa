/- Sources: Next, At, sift, Below. -/
import Derived.Test.YtldopgngbnjlnaaWo
import Derived.Test.YtldopgngbnjlnaaNe
import Derived.Deep.MidRow
namespace Go.Proofs.Ytldopgngbnjlnaa
open Go.RowKit
set_option maxRecDepth 100000
theorem mf_any (fn : Fn) (first cap : Array Value) (w : World) : (Instr.makeFunc fn first cap).run Try.prog w = .ok (.func fn first cap) w := rfl
attribute [local go_sem] not_any mf_any

theorem exec_load_mid {P : Program} {o : Oper} {tmps : Array Value} {ds : List Deferred} {w : World} (ty : TypeId) (x : Operand) (ho : o.op = .load ty x)
    (g p : Nat) (hx : Act.eval ⟨tmps, ds⟩ x = .pointer (some ⟨g, p, none⟩)) (cs : List Value) (d : TypeDesc) (hg : w.rangeAt g p cs)
    (hu : P.underlying ty = some d) (hd : d.isRow = true) (hi : (P.info? ty).map (·.size) = some cs.length) : (execOp (Act.eval ⟨tmps, ds⟩) o).run P w = .ok (.value (.agg cs.toArray)) w := by
  unfold execOp
  simp only [ho, hx, Sem.run_bind, Sem.run_pure, Result.andThen_ok, run_loadAt_mid w g p ty cs d hg hu hd hi]

/- a source's cells -/
theorem src_made {w : World} {g x t : Nat} {m : Bool} {kl : List Nat} (h : w.heap[g]? = some (srow m kl x t)) : w.cell? ⟨g, 0, none⟩ = some (.bool m) := by
  rw [cell_of_row w g 0 _ _ _ h]; rfl
theorem src_key {w : World} {g x t : Nat} {m : Bool} {kl : List Nat} (h : w.heap[g]? = some (srow m kl x t)) : w.rangeAt g 1 (u8s kl) := fun j v hv => by
  rw [cell_of_row w g _ _ _ _ h]
  have hj : j < (u8s kl).length := (List.getElem?_eq_some_iff.1 hv).1
  simp [srcV, Nat.add_comm 1 j, List.getElem?_append_left hj, hv]
theorem src_lane {w : World} {g x t : Nat} {m : Bool} {kl : List Nat} (hk : kl.length = 32) (h : w.heap[g]? = some (srow m kl x t)) : w.cell? ⟨g, 33, none⟩ = some (.int .u32 (x : Int)) := by
  rw [cell_of_row w g 33 _ _ _ h]
  simp [srcV, u8s, hk]
theorem src_told {w : World} {g x t : Nat} {m : Bool} {kl : List Nat} (hk : kl.length = 32) (h : w.heap[g]? = some (srow m kl x t)) : w.cell? ⟨g, 34, none⟩ = some (.int .i64 (t : Int)) := by
  rw [cell_of_row w g 34 _ _ _ h]
  simp [srcV, u8s, hk]
theorem src_set {w : World} {g x t u : Nat} {m : Bool} {kl : List Nat} (hk : kl.length = 32) (h : w.heap[g]? = some (srow m kl x t)) : (w.setCell ⟨g, 34, none⟩ (.int .i64 (u : Int))).heap[g]? = some (srow m kl x u) := by
  rw [heap_setCell_same w g 34 _ 65 _ h]
  unfold srow
  congr 2
  simp [srcV]
  rw [List.set_append_right _ _ (by simp [u8s, hk])]
  simp [u8s, hk]

theorem But.of_below {b : Nat} {w w' : World} (h : Below w.heap.size w w') : But b w w' := ⟨h.1, h.2, h.3, h.4, fun k hk _ => h.5 k hk⟩

theorem at_any (kl : List Nat) (x t g : Nat) (w : World) (hk : kl.length = 32) (h : w.heap[g]? = some (srow true kl x t)) :
    Calls Try.prog 25 #[.pointer (some ⟨g, 0, none⟩)] w fun e w' => e = .returned (.int .i64 (t : Int)) ∧ w' = w := by
  have k := hide1 (isNone_yes g w (src_made h))
  have c := src_told hk h
  clear h hk
  go_enter Try.func25, Try.ntmps25
  go_wp2_with (go_at_call 36; refine k.out.mono ?_; rintro e w' ⟨rfl, rfl⟩)
  go_ret
  exact ⟨rfl, rfl⟩

set_option maxHeartbeats 2000000 in
theorem next_any (kl : List Nat) (x t g : Nat) (w : World) (hk : kl.length = 32) (bk : Lt 256 kl) (hx : x < 4294967296) (ht : t < 134217728) (h : w.heap[g]? = some (srow true kl x t)) :
    Calls Try.prog 22 #[.pointer (some ⟨g, 0, none⟩)] w fun e w' => e = .returned (.tuple #[.int .u64 (wd kl x t : Nat), .int .i64 0]) ∧ w'.heap[g]? = some (srow true kl x (t + 1)) ∧ But g w w' := by
  have k := hide1 (isNone_yes g w (src_made h))
  have kw := fun w => hide1 (words_yes kl x t 1 w hk bk hx (by omega) (by omega))
  have HW : Shy ((wrd kl x t 1)[0]? = some (wd kl x t) ∧ (wrd kl x t 1).length = 1) := ⟨⟨rfl, rfl⟩⟩
  have HRg : Hid (∀ w' : World, w'.heap[g]? = some (srow true kl x t) → w'.rangeAt g 1 (u8s kl)) := fun w' h => src_key h
  have HCx : Hid (∀ w' : World, w'.heap[g]? = some (srow true kl x t) → w'.cell? ⟨g, 33, none⟩ = some (.int .u32 (x : Int))) := fun w' h => src_lane hk h
  have HCt : Hid (∀ w' : World, w'.heap[g]? = some (srow true kl x t) → w'.cell? ⟨g, 34, none⟩ = some (.int .i64 (t : Int))) := fun w' h => src_told hk h
  have HS0 := hide1 h
  have HLT : Hid (g < w.heap.size) := lt_heap h
  have HSet : Hid (∀ w' : World, w'.heap[g]? = some (srow true kl x t) → (w'.setCell ⟨g, 34, none⟩ (.int .i64 ((t + 1 : Nat) : Int))).heap[g]? = some (srow true kl x (t + 1))) := fun w' h => src_set hk h
  have hu := Try.underlying23
  have hi : (Try.prog.info? 23).map (·.size) = some (u8s kl).length := by rw [show (u8s kl).length = 32 by simp [u8s, hk]]; kernel_rfl
  have bt : (t : Int) < 134217728 := by omega
  generalize wd kl x t = v at *
  generalize wrd kl x t 1 = ws at *
  unfold arr8 at kw
  clear h hk bk hx ht
  go_enter Try.func22, Try.ntmps22
  go_upto_region 3 with (go_at_call 36; refine k.out.mono ?_; rintro e w' ⟨rfl, rfl⟩)
  refine region_f (F := []) (S := fun w' => w'.heap[g]? = some (srow true kl x t)) (by kernel_rfl) HS0.out (fun hS => ?_)
  refine take_p 0 9 (.pointer (some ⟨g, 0, none⟩)) rfl rfl (by kernel_rfl) (by kernel_rfl) (by kernel_rfl) (fun _ _ _ h => h) rfl (fun w => by go_simp) ?_
  try simp only [List.setIfInBounds_toArray, List.set_cons_zero, List.set_cons_succ]
  refine take_p 1 10 (.pointer (some ⟨g, 0, none⟩)) rfl rfl (by kernel_rfl) (by kernel_rfl) (by kernel_rfl) (fun _ _ _ h => h) rfl (fun w => by go_simp) ?_
  try simp only [List.setIfInBounds_toArray, List.set_cons_zero, List.set_cons_succ]
  refine take_p 2 11 (.pointer (some ⟨g, 1, none⟩)) rfl rfl (by kernel_rfl) (by kernel_rfl) (by kernel_rfl) (fun _ _ _ h => h) rfl (fun w => by go_simp) ?_
  try simp only [List.setIfInBounds_toArray, List.set_cons_zero, List.set_cons_succ]
  refine take_f 3 12 (.agg (u8s kl).toArray) [12, 13, 14, 15, 16, 17] rfl rfl (by kernel_rfl) (by kernel_rfl) (by kernel_rfl) (by kernel_rfl) (by kernel_rfl) (by kernel_rfl) (fun _ _ _ h => h) rfl (fun w hSw => by exact exec_load_mid 23 (.tmp 11) rfl _ _ rfl _ _ (HRg.out _ hSw) hu rfl hi) hS ?_
  try simp only [List.setIfInBounds_toArray, List.set_cons_zero, List.set_cons_succ]
  refine take_p 4 13 (.pointer (some ⟨g, 0, none⟩)) rfl rfl (by kernel_rfl) (by kernel_rfl) (by kernel_rfl) (fun _ _ _ h => h) rfl (fun w => by go_simp) ?_
  try simp only [List.setIfInBounds_toArray, List.set_cons_zero, List.set_cons_succ]
  refine take_p 5 14 (.pointer (some ⟨g, 0, none⟩)) rfl rfl (by kernel_rfl) (by kernel_rfl) (by kernel_rfl) (fun _ _ _ h => h) rfl (fun w => by go_simp) ?_
  try simp only [List.setIfInBounds_toArray, List.set_cons_zero, List.set_cons_succ]
  refine take_p 6 15 (.pointer (some ⟨g, 33, none⟩)) rfl rfl (by kernel_rfl) (by kernel_rfl) (by kernel_rfl) (fun _ _ _ h => h) rfl (fun w => by go_simp) ?_
  try simp only [List.setIfInBounds_toArray, List.set_cons_zero, List.set_cons_succ]
  refine take_f 7 16 (.int .u32 (x : Int)) [12, 13, 14, 15, 16, 17] rfl rfl (by kernel_rfl) (by kernel_rfl) (by kernel_rfl) (by kernel_rfl) (by kernel_rfl) (by kernel_rfl) (fun _ _ _ h => h) rfl (fun w hSw => by have h1 := HCx.out _ hSw; clear hSw; go_simp) hS ?_
  try simp only [List.setIfInBounds_toArray, List.set_cons_zero, List.set_cons_succ]
  refine take_p 8 17 (.pointer (some ⟨g, 0, none⟩)) rfl rfl (by kernel_rfl) (by kernel_rfl) (by kernel_rfl) (fun _ _ _ h => h) rfl (fun w => by go_simp) ?_
  try simp only [List.setIfInBounds_toArray, List.set_cons_zero, List.set_cons_succ]
  refine take_p 9 18 (.pointer (some ⟨g, 0, none⟩)) rfl rfl (by kernel_rfl) (by kernel_rfl) (by kernel_rfl) (fun _ _ _ h => h) rfl (fun w => by go_simp) ?_
  try simp only [List.setIfInBounds_toArray, List.set_cons_zero, List.set_cons_succ]
  refine take_p 10 19 (.pointer (some ⟨g, 34, none⟩)) rfl rfl (by kernel_rfl) (by kernel_rfl) (by kernel_rfl) (fun _ _ _ h => h) rfl (fun w => by go_simp) ?_
  try simp only [List.setIfInBounds_toArray, List.set_cons_zero, List.set_cons_succ]
  refine take_f 11 20 (.int .i64 (t : Int)) [12, 13, 14, 15, 16, 17] rfl rfl (by kernel_rfl) (by kernel_rfl) (by kernel_rfl) (by kernel_rfl) (by kernel_rfl) (by kernel_rfl) (fun _ _ _ h => h) rfl (fun w hSw => by have h1 := HCt.out _ hSw; clear hSw; go_simp) hS ?_
  try simp only [List.setIfInBounds_toArray, List.set_cons_zero, List.set_cons_succ]
  refine ready_f 12 (o := { dst := some 21, op := Op.call { callee := Callee.value (Operand.func 12), args := #[Operand.tmp 12, Operand.tmp 16, Operand.tmp 20, Operand.const (Value.int IntKind.i64 1)], argTypes := #[23, 24, 3, 3] }, type := 32, pos := "source.go:23", after := #[{ on := 3, ground := Ground.data }, { on := 7, ground := Ground.data }, { on := 11, ground := Ground.data }], guard := none }) (by kernel_rfl) rfl (fun K hK => ?_)
  go_simp
  refine (kw _).out.mono ?_
  rintro e w1 ⟨a, m, c, rfl, hnl, hfr, hb1⟩
  have hS1 := (hb1.block _ (lt_heap hS)).trans hS
  refine hK.out _ _ (fun _ _ => hS1) ?_
  clear hK K
  try simp only [Act.put, List.setIfInBounds_toArray, List.set_cons_zero, List.set_cons_succ]
  have HB1 := hide1 hb1
  have HS1 := hide1 hS1
  have HNL := hide1 hnl
  have HFR := hide1 hfr
  clear hb1 hS1 hnl hfr kw
  refine take_p 13 8 (.tuple #[.slice a m c, .int .i64 0]) rfl rfl (by kernel_rfl) (by kernel_rfl) (by kernel_rfl) (fun _ _ _ h => h) rfl (fun w => by go_simp) ?_
  try simp only [List.setIfInBounds_toArray, List.set_cons_zero, List.set_cons_succ]
  refine take_p 14 22 (.slice a m c) rfl rfl (by kernel_rfl) (by kernel_rfl) (by kernel_rfl) (fun _ _ _ h => h) rfl (fun w => by go_simp) ?_
  try simp only [List.setIfInBounds_toArray, List.set_cons_zero, List.set_cons_succ]
  refine take_p 15 23 (.int .i64 0) rfl rfl (by kernel_rfl) (by kernel_rfl) (by kernel_rfl) (fun _ _ _ h => h) rfl (fun w => by go_simp) ?_
  try simp only [List.setIfInBounds_toArray, List.set_cons_zero, List.set_cons_succ]
  refine take_p 16 4 (.slice a m c) rfl rfl (by kernel_rfl) (by kernel_rfl) (by kernel_rfl) (fun _ _ _ h => h) rfl (fun w => by go_simp) ?_
  try simp only [List.setIfInBounds_toArray, List.set_cons_zero, List.set_cons_succ]
  refine take_p 17 5 (.int .i64 0) rfl rfl (by kernel_rfl) (by kernel_rfl) (by kernel_rfl) (fun _ _ _ h => h) rfl (fun w => by go_simp) ?_
  try simp only [List.setIfInBounds_toArray, List.set_cons_zero, List.set_cons_succ]
  refine done_f (by kernel_rfl) ?_ _
  clear hS k hu hi
  obtain ⟨ga, oa, rfl, hca⟩ := HNL.out.at' 0 v HW.out.1
  obtain rfl : m = 1 := by rw [← HNL.out.len, HW.out.2]
  have hgg : ga ≠ g := by have h1 := HFR.out _ rfl; have h2 := HLT.out; simp only [World.drew] at h1; omega
  have cw : w1.cell? ⟨ga, oa, none⟩ = some (.int .u64 (v : Int)) := hca
  have ct := HCt.out _ HS1.out
  have ft := frozen_of_row w1 g 34 _ _ HS1.out
  clear hca
  go_wp2
  go_ret2
  refine ⟨rfl, ?_, ?_⟩
  · have h1 := HSet.out _ HS1.out
    rw [Int.natCast_add] at h1
    exact h1
  · exact ((But.refl g _).drew.trans (But.of_below HB1.out)).trans (But.set g 34 w1 _)

/- words thrown away: the number, how many were told, the error -/
def siftP (kl : List Nat) (x n : Nat) : Nat → Nat → Nat × Nat × Int
  | 0, t => (0, t, 24)
  | k + 1, t => if cutN n = 0 ∨ wd kl x t < cutN n then (wd kl x t % n, t + 1, 0) else siftP kl x n k (t + 1)
theorem siftP_yes {kl : List Nat} {x n k t : Nat} (h : cutN n = 0 ∨ wd kl x t < cutN n) : siftP kl x n (k + 1) t = (wd kl x t % n, t + 1, 0) := if_pos h
theorem siftP_no {kl : List Nat} {x n k t : Nat} (h : ¬ (cutN n = 0 ∨ wd kl x t < cutN n)) : siftP kl x n (k + 1) t = siftP kl x n k (t + 1) := if_neg h
theorem siftP_told (kl : List Nat) (x n : Nat) : ∀ k t, t ≤ (siftP kl x n k t).2.1 ∧ (siftP kl x n k t).2.1 ≤ t + k
  | 0, t => ⟨Nat.le_refl _, Nat.le_refl _⟩
  | k + 1, t => by
    by_cases h : cutN n = 0 ∨ wd kl x t < cutN n
    · rw [siftP_yes h]
      exact ⟨Nat.le_succ t, by show t + 1 ≤ t + (k + 1); omega⟩
    · rw [siftP_no h]
      have := siftP_told kl x n k (t + 1)
      omega
theorem siftP_out (kl : List Nat) (x n : Nat) (hn : 0 < n) : ∀ k t, ((siftP kl x n k t).2.2 = 0 ∧ (siftP kl x n k t).1 < n) ∨ ((siftP kl x n k t).2.2 = 24 ∧ (siftP kl x n k t).1 = 0)
  | 0, _ => .inr ⟨rfl, rfl⟩
  | k + 1, t => by
    by_cases h : cutN n = 0 ∨ wd kl x t < cutN n
    · rw [siftP_yes h]
      exact .inl ⟨rfl, Nat.mod_lt _ hn⟩
    · rw [siftP_no h]
      exact siftP_out kl x n hn k (t + 1)

def SPost (kl : List Nat) (x g : Nat) (w : World) (r : Nat × Nat × Int) (e : Ending) (w' : World) : Prop :=
  e = .returned (.tuple #[.int .u64 (r.1 : Int), .int .i64 r.2.2]) ∧ w'.heap[g]? = some (srow true kl x r.2.1) ∧ But g w w'

set_option maxHeartbeats 2000000 in
theorem sift_any (kl : List Nat) (x n t g : Nat) (w : World) (hk : kl.length = 32) (bk : Lt 256 kl) (hx : x < 4294967296) (hn : 0 < n) (hn2 : n < 18446744073709551616) (ht : t + 64 ≤ 134217728) (h : w.heap[g]? = some (srow true kl x t)) :
    Calls Try.prog 37 #[.int .u64 (n : Int), .func (.func 22) #[.pointer (some ⟨g, 0, none⟩)] #[]] w (SPost kl x g w (siftP kl x n 64 t)) := by
  have kc := fun w => hide1 (cut_any n w hn2)
  have HN : Hid (∀ (i : Nat) (w' : World), i < 64 → w'.heap[g]? = some (srow true kl x (t + i)) → Calls Try.prog 22 #[.pointer (some ⟨g, 0, none⟩)] w' fun e w'' => e = .returned (.tuple #[.int .u64 (wd kl x (t + i) : Nat), .int .i64 0]) ∧ w''.heap[g]? = some (srow true kl x (t + i + 1)) ∧ But g w' w'') :=
    fun i w' hi h => next_any kl x (t + i) g w' hk bk hx (by omega) h
  have HY : Hid (∀ k t, (cutN n = 0 ∨ wd kl x t < cutN n) → siftP kl x n (k + 1) t = (wd kl x t % n, t + 1, 0)) := fun k t h => siftP_yes h
  have HX : Hid (∀ k t, ¬ (cutN n = 0 ∨ wd kl x t < cutN n) → siftP kl x n (k + 1) t = siftP kl x n k (t + 1)) := fun k t h => siftP_no h
  have HZ : Hid (∀ t, siftP kl x n 0 t = (0, t, 24)) := fun t => rfl
  have HS := hide1 h
  have hnz : (n : Int) ≠ 0 := by omega
  obtain ⟨r, hr⟩ : ∃ r, siftP kl x n 64 t = r := ⟨_, rfl⟩
  have HR : Shy (siftP kl x n 64 t = r) := ⟨hr⟩
  rw [hr]
  generalize cutN n = c at *
  clear h hk bk hx hn2 ht hr hn
  go_enter Try.func37, Try.ntmps37
  go_wp2_with (go_at_call 26; refine (kc _).out.mono ?_; rintro e w' ⟨rfl, rfl⟩)
  go_loopw [11] (fun v wr => ∃ i : Nat, i ≤ 64 ∧ v = .int .i64 i ∧ wr.heap[g]? = some (srow true kl x (t + i)) ∧ But g w' wr ∧ Shy (siftP kl x n (64 - i) (t + i) = r)) (fun v _ => 64 - (intOf v).toNat)
  case atStart => exact ⟨0, Nat.zero_le _, rfl, HS.out, But.refl _ _, HR⟩
  case round =>
    obtain ⟨i, hi, rfl, hrow, hbut, hsf⟩ := hrel
    by_cases hlt : i < 64
    · have hlti : (i : Int) < 64 := by omega
      have k := hide1 (HN.out i wr hlt hrow)
      have HBu := hide1 hbut
      have E64 : Shy (64 - i = (64 - (i + 1)) + 1) := ⟨by omega⟩
      rw [E64.out] at hsf
      have HY' := hide1 (HY.out (64 - (i + 1)) (t + i))
      have HX' := hide1 (HX.out (64 - (i + 1)) (t + i))
      generalize wd kl x (t + i) = v at *
      by_cases hcv : c = 0 ∨ v < c
      · have hsf2 : Shy ((v % n, t + i + 1, (0 : Int)) = r) := ⟨by rw [← HY'.out hcv]; exact hsf.out⟩
        clear hrow hbut hsf HY' HX'
        rcases hcv with hc0 | hcv
        · subst hc0
          go_wp2_with (go_at_call 22; refine k.out.mono ?_; rintro e w1 ⟨rfl, hrow1, hbut1⟩)
          go_ret2
          rw [← hsf2.out]
          refine ⟨?_, hrow1, HBu.out.trans hbut1⟩
          simp
        · have hcn : ((c : Int) == 0) = false := by rw [beq_eq_false_iff_ne]; omega
          have hvc : (v : Int) < (c : Int) := by omega
          go_wp2_with (go_at_call 22; refine k.out.mono ?_; rintro e w1 ⟨rfl, hrow1, hbut1⟩)
          go_ret2
          rw [← hsf2.out]
          refine ⟨?_, hrow1, HBu.out.trans hbut1⟩
          simp
      · have hcn : ((c : Int) == 0) = false := by rw [beq_eq_false_iff_ne]; omega
        have hvc : decide ((v : Int) < (c : Int)) = false := by rw [decide_eq_false_iff_not]; omega
        have hvc2 : decide (v < c) = false := by rw [decide_eq_false_iff_not]; omega
        have hsf2 : Shy (siftP kl x n (64 - (i + 1)) (t + i + 1) = r) := ⟨by rw [← HX'.out hcv]; exact hsf.out⟩
        clear hrow hbut hsf HY' HX' hcv
        go_wp2_with (go_at_call 22; refine k.out.mono ?_; rintro e w1 ⟨rfl, hrow1, hbut1⟩)
        go_roundw
        case rel => exact ⟨i + 1, by omega, by go_num, hrow1, HBu.out.trans hbut1, hsf2⟩
        case measure => simp [intOf]; omega
    · obtain rfl : i = 64 := by omega
      have hsf2 : Shy ((0, t + 64, (24 : Int)) = r) := ⟨by rw [← HZ.out]; exact hsf.out⟩
      have HBu := hide1 hbut
      have HRw := hide1 hrow
      clear hrow hbut hsf
      go_wp2
      go_ret2
      rw [← hsf2.out]
      exact ⟨rfl, HRw.out, HBu.out⟩

theorem below_zero (kl : List Nat) (x t g : Nat) (w : World) (h : w.heap[g]? = some (srow true kl x t)) :
    Calls Try.prog 23 #[.pointer (some ⟨g, 0, none⟩), .int .u64 0] w (SPost kl x g w (0, t, 1)) := by
  have k := hide1 (isNone_yes g w (src_made h))
  have HS := hide1 h
  clear h
  go_enter Try.func23, Try.ntmps23
  go_wp2_with (go_at_call 36; refine k.out.mono ?_; rintro e w' ⟨rfl, rfl⟩)
  go_ret2
  exact ⟨rfl, HS.out, But.refl _ _⟩

theorem below_any (kl : List Nat) (x n t g : Nat) (w : World) (hk : kl.length = 32) (bk : Lt 256 kl) (hx : x < 4294967296) (hn : 0 < n) (hn2 : n < 18446744073709551616) (ht : t + 64 ≤ 134217728) (h : w.heap[g]? = some (srow true kl x t)) :
    Calls Try.prog 23 #[.pointer (some ⟨g, 0, none⟩), .int .u64 (n : Int)] w (SPost kl x g w (siftP kl x n 64 t)) := by
  have k := hide1 (isNone_yes g w (src_made h))
  have ks := hide1 (sift_any kl x n t g w hk bk hx hn hn2 ht h)
  have hnz : ((n : Int) == 0) = false := by rw [beq_eq_false_iff_ne]; omega
  obtain ⟨r, hr⟩ : ∃ r, siftP kl x n 64 t = r := ⟨_, rfl⟩
  rw [hr] at ks ⊢
  clear h hk bk hx hn hn2 ht hr
  go_enter Try.func23, Try.ntmps23
  go_wp2_with (first | (go_at_call 36; refine k.out.mono ?_; rintro e w' ⟨rfl, rfl⟩) | (go_at_call 37; refine ks.out.mono ?_; rintro e w1 ⟨rfl, hrow, hbut⟩))
  go_ret2
  exact ⟨rfl, hrow, hbut⟩
end Go.Proofs.Ytldopgngbnjlnaa
