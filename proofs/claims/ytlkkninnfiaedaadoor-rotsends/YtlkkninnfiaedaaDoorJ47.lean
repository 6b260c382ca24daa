/- Lists of seeds compared. Seeds and pairs compared; the chapter's example. -/
import Derived.Test.YtlkkninnfiaedaaDoorJ46
import Derived.Test.YtlkkninnfiaedaaDoorJ33
import Derived.Test.YtlkkninnfiaedaaDoorJ45
namespace Go.Proofs.YtlkkninnfiaedaaDoor
open Go.RowKit Pg
set_option maxRecDepth 100000
attribute [local go_sem] not_any

theorem u8v_eq {l m : List Nat} (hl : Lt 256 l) (hm : Lt 256 m) : l.map UInt8.ofNat = m.map UInt8.ofNat ↔ l = m := by
  constructor
  · intro h
    have h2 := congrArg (List.map UInt8.toNat) h
    rw [List.map_map, List.map_map] at h2
    have e : ∀ {l : List Nat}, Lt 256 l → l.map (UInt8.toNat ∘ UInt8.ofNat) = l := fun {l} h => by
      conv => rhs; rw [← List.map_id l]
      exact List.map_congr_left (fun x hx => by simp [Nat.mod_eq_of_lt (h x hx)])
    rwa [e hl, e hm] at h2
  · rintro rfl
    rfl
theorem eq_seeds {l m : List Nat} (hl : l.length = 32) (hm : m.length = 32) (tl : Lt 256 l) (tm : Lt 256 m) (w : World) :
    (Op.equalIn 10000 28 (.agg (u8s l).toArray) (.agg (u8s m).toArray)).run Tryd.prog w = .ok (decide (l = m)) w := by
  rw [u8s_cells tl, u8s_cells tm, run_equalIn_bytes w 9998 28 5 32 Tryd.underlying28 Tryd.underlying5 (fun w => by kernel_rfl) _ _ (by rw [List.length_map, hl]) (by rw [List.length_map, hm])]
  congr 1
  rw [Bool.eq_iff_iff, beq_iff_eq, decide_eq_true_eq]
  exact u8v_eq tl tm
theorem exec_neq_seed {o : Oper} {tmps : Array Value} {ds : List Deferred} {w : World} {l m : List Nat} {b : Bool} (x y : Operand) (t : TypeId) (ho : o.op = .binOp .neq 28 x y t) (hx : Act.eval ⟨tmps, ds⟩ x = .agg (u8s l).toArray) (hy : Act.eval ⟨tmps, ds⟩ y = .agg (u8s m).toArray)
    (h2 : (Op.equalIn 10000 28 (.agg (u8s l).toArray) (.agg (u8s m).toArray)).run Tryd.prog w = .ok b w) : (execOp (Act.eval ⟨tmps, ds⟩) o).run Tryd.prog w = .ok (.value (.bool (!b))) w := by
  have hg := guard23
  unfold execOp
  simp only [ho, hx, hy]
  go_simp

end Go.Proofs.YtlkkninnfiaedaaDoor

namespace Go.Proofs.YtlkkninnfiaedaaDoor.Ro
open Go.RowKit Pg
set_option maxRecDepth 100000
attribute [local go_sem] not_any

set_option maxHeartbeats 2000000 in
theorem seeds_any (n ca cb : Nat) (a b : Option Addr) (f : Nat → List Nat) (w : World) (ha : Sd w n a f) (hb : Sd w n b f) (hn : n ≤ 4096) :
    Calls Tryd.prog 13 #[.slice a n ca, .slice b n cb] w fun e w' => e = .returned (.bool true) ∧ Below w.heap.size w w' := by
  have HA := hide1 ha
  have HB := hide1 hb
  have HG := hide1 ha.good
  clear ha hb
  go_enter Tryd.func13, Tryd.ntmps13
  go_wp2
  go_loopw [5] (fun v wr => ∃ k : Nat, k ≤ n ∧ v = .int .i64 k ∧ Below w.heap.size w wr) (fun v _ => n - (intOf v).toNat)
  case atStart => exact ⟨0, Nat.zero_le _, rfl, Below.refl _ _⟩
  case round =>
    obtain ⟨k, hk, rfl, hbe⟩ := hrel
    by_cases hlt : k < n
    · have bk : (k : Int) < (n : Int) := by omega
      have bk2 : (k : Int) < 4096 := by omega
      obtain ⟨ga, oa, rfl, _, ra⟩ := HA.out.at0 hlt
      obtain ⟨gb, ob, rfl, _, rb⟩ := HB.out.at0 hlt
      have HZ := hide1 hbe
      have RA := hide1 (fun W (h : Below w.heap.size w W) => ra W h k hlt)
      have RB := hide1 (fun W (h : Below w.heap.size w W) => rb W h k hlt)
      have hsl := (HG.out k).1
      have heq := fun w => eq_seeds hsl hsl (HG.out k).2 (HG.out k).2 w
      have hi := hi23' hsl
      generalize f k = s at *
      rw [decide_eq_true rfl] at heq
      obtain ⟨ja, hja⟩ : ∃ j, j = oa + k * 32 := ⟨_, rfl⟩
      obtain ⟨jb, hjb⟩ : ∃ j, j = ob + k * 32 := ⟨_, rfl⟩
      rw [← hja] at RA
      rw [← hjb] at RB
      have eja : oa + k * 32 = ja := hja.symm
      have ejb : ob + k * 32 = jb := hjb.symm
      clear hbe ra rb hja hjb hsl
      go_upto_region 6 with (fail)
      refine region_f (F := []) (S := fun W' => Below w.heap.size w W') (by kernel_rfl) HZ.out.drew (fun hS => ?_)
      refine take_p 0 17 (.slice (some ⟨ga, oa, none⟩) n ca) rfl rfl (by kernel_rfl) (by kernel_rfl) (by kernel_rfl) (fun _ _ _ h => h) rfl (fun w => by go_simp) ?_
      try simp only [List.setIfInBounds_toArray, List.set_cons_zero, List.set_cons_succ]
      refine take_p 1 18 (.int .i64 (k : Int)) rfl rfl (by kernel_rfl) (by kernel_rfl) (by kernel_rfl) (fun _ _ _ h => h) rfl (fun w => by go_simp) ?_
      try simp only [List.setIfInBounds_toArray, List.set_cons_zero, List.set_cons_succ]
      refine take_p 2 19 (.pointer (some ⟨ga, ja, none⟩)) rfl rfl (by kernel_rfl) (by kernel_rfl) (by kernel_rfl) (fun _ _ _ h => h) rfl (fun w => by go_simp) ?_
      try simp only [List.setIfInBounds_toArray, List.set_cons_zero, List.set_cons_succ]
      refine take_f 3 20 (.agg (u8s s).toArray) [8] rfl rfl (by kernel_rfl) (by kernel_rfl) (by kernel_rfl) (by kernel_rfl) (by kernel_rfl) (by kernel_rfl) (fun _ _ _ h => h) rfl (fun w hSw => by exact exec_load_mid 28 _ rfl _ _ rfl (u8s s) _ (RA.out _ hSw) Tryd.underlying28 rfl hi) hS ?_
      try simp only [List.setIfInBounds_toArray, List.set_cons_zero, List.set_cons_succ]
      refine take_p 4 21 (.slice (some ⟨gb, ob, none⟩) n cb) rfl rfl (by kernel_rfl) (by kernel_rfl) (by kernel_rfl) (fun _ _ _ h => h) rfl (fun w => by go_simp) ?_
      try simp only [List.setIfInBounds_toArray, List.set_cons_zero, List.set_cons_succ]
      refine take_p 5 22 (.int .i64 (k : Int)) rfl rfl (by kernel_rfl) (by kernel_rfl) (by kernel_rfl) (fun _ _ _ h => h) rfl (fun w => by go_simp) ?_
      try simp only [List.setIfInBounds_toArray, List.set_cons_zero, List.set_cons_succ]
      refine take_p 6 23 (.pointer (some ⟨gb, jb, none⟩)) rfl rfl (by kernel_rfl) (by kernel_rfl) (by kernel_rfl) (fun _ _ _ h => h) rfl (fun w => by go_simp) ?_
      try simp only [List.setIfInBounds_toArray, List.set_cons_zero, List.set_cons_succ]
      refine take_f 7 24 (.agg (u8s s).toArray) [8] rfl rfl (by kernel_rfl) (by kernel_rfl) (by kernel_rfl) (by kernel_rfl) (by kernel_rfl) (by kernel_rfl) (fun _ _ _ h => h) rfl (fun w hSw => by exact exec_load_mid 28 _ rfl _ _ rfl (u8s s) _ (RB.out _ hSw) Tryd.underlying28 rfl hi) hS ?_
      try simp only [List.setIfInBounds_toArray, List.set_cons_zero, List.set_cons_succ]
      refine take_p 8 25 (.bool false) rfl rfl (by kernel_rfl) (by kernel_rfl) (by kernel_rfl) (fun _ _ _ h => h) rfl (fun w => by exact exec_neq_seed _ _ 28 rfl rfl rfl (heq w)) ?_
      try simp only [List.setIfInBounds_toArray, List.set_cons_zero, List.set_cons_succ]
      refine done_f (by kernel_rfl) ?_ _
      have HS := hide1 hS
      clear hS heq
      go_wp2
      go_roundw
      case rel => exact ⟨k + 1, by omega, by go_num, HS.out⟩
      case measure => simp [intOf]; omega
    · obtain rfl : k = n := by omega
      have HZ := hide1 hbe
      clear hbe
      go_wp2
      go_ret
      exact ⟨rfl, HZ.out⟩

set_option maxHeartbeats 2000000 in
theorem same_any (n ca cb : Nat) (a b : Option Addr) (f : Nat → List Nat) (w : World) (ha : Pd w n a f) (hb : Pd w n b f) (hn : n ≤ 4096) :
    Calls Tryd.prog 10 #[.slice a n ca, .slice b n cb] w fun e w' => e = .returned (.bool true) ∧ Below w.heap.size w w' := by
  have HA := hide1 ha
  have HB := hide1 hb
  have HG := hide1 ha.good
  clear ha hb
  go_enter Tryd.func10, Tryd.ntmps10
  go_wp2
  go_loopw [5] (fun v wr => ∃ k : Nat, k ≤ n ∧ v = .int .i64 k ∧ Below w.heap.size w wr) (fun v _ => n - (intOf v).toNat)
  case atStart => exact ⟨0, Nat.zero_le _, rfl, Below.refl _ _⟩
  case round =>
    obtain ⟨k, hk, rfl, hbe⟩ := hrel
    by_cases hlt : k < n
    · have bk : (k : Int) < (n : Int) := by omega
      have bk2 : (k : Int) < 4096 := by omega
      obtain ⟨ga, oa, rfl, _, ra⟩ := HA.out.at0 hlt
      obtain ⟨gb, ob, rfl, _, rb⟩ := HB.out.at0 hlt
      have HZ := hide1 hbe
      have RA := hide1 (fun W (h : Below w.heap.size w W) => ra W h k hlt)
      have RB := hide1 (fun W (h : Below w.heap.size w W) => rb W h k hlt)
      have hsl := (HG.out (2 * k)).1
      have htl := (HG.out (2 * k + 1)).1
      have heq := fun w => eq_seeds hsl hsl (HG.out (2 * k)).2 (HG.out (2 * k)).2 w
      have heq2 := fun w => eq_seeds htl htl (HG.out (2 * k + 1)).2 (HG.out (2 * k + 1)).2 w
      have hi := hi23' hsl
      have hi2 := hi23' htl
      generalize f (2 * k) = s at *
      generalize f (2 * k + 1) = t at *
      rw [decide_eq_true rfl] at heq heq2
      obtain ⟨ja, hja⟩ : ∃ j, j = oa + k * 64 := ⟨_, rfl⟩
      obtain ⟨jb, hjb⟩ : ∃ j, j = ob + k * 64 := ⟨_, rfl⟩
      rw [← hja] at RA
      rw [← hjb] at RB
      have eja : oa + k * 64 = ja := hja.symm
      have ejb : ob + k * 64 = jb := hjb.symm
      clear hbe ra rb hja hjb hsl htl
      go_upto_region 6 with (fail)
      refine region_f (F := []) (S := fun W' => Below w.heap.size w W') (by kernel_rfl) HZ.out.drew (fun hS => ?_)
      refine take_p 0 17 (.slice (some ⟨ga, oa, none⟩) n ca) rfl rfl (by kernel_rfl) (by kernel_rfl) (by kernel_rfl) (fun _ _ _ h => h) rfl (fun w => by go_simp) ?_
      try simp only [List.setIfInBounds_toArray, List.set_cons_zero, List.set_cons_succ]
      refine take_p 1 18 (.int .i64 (k : Int)) rfl rfl (by kernel_rfl) (by kernel_rfl) (by kernel_rfl) (fun _ _ _ h => h) rfl (fun w => by go_simp) ?_
      try simp only [List.setIfInBounds_toArray, List.set_cons_zero, List.set_cons_succ]
      refine take_p 2 19 (.pointer (some ⟨ga, ja, none⟩)) rfl rfl (by kernel_rfl) (by kernel_rfl) (by kernel_rfl) (fun _ _ _ h => h) rfl (fun w => by go_simp) ?_
      try simp only [List.setIfInBounds_toArray, List.set_cons_zero, List.set_cons_succ]
      refine take_p 3 20 (.pointer (some ⟨ga, ja, none⟩)) rfl rfl (by kernel_rfl) (by kernel_rfl) (by kernel_rfl) (fun _ _ _ h => h) rfl (fun w => by go_simp) ?_
      try simp only [List.setIfInBounds_toArray, List.set_cons_zero, List.set_cons_succ]
      refine take_f 4 21 (.agg (u8s s).toArray) [10, 11, 12, 13, 14, 15, 16, 17, 18, 19, 20, 21, 22, 23] rfl rfl (by kernel_rfl) (by kernel_rfl) (by kernel_rfl) (by kernel_rfl) (by kernel_rfl) (by kernel_rfl) (fun _ _ _ h => h) rfl (fun w hSw => by exact exec_load_mid 28 _ rfl _ _ rfl (u8s s) _ ((RA.out _ hSw).1) Tryd.underlying28 rfl hi) hS ?_
      try simp only [List.setIfInBounds_toArray, List.set_cons_zero, List.set_cons_succ]
      refine take_p 5 22 (.slice (some ⟨gb, ob, none⟩) n cb) rfl rfl (by kernel_rfl) (by kernel_rfl) (by kernel_rfl) (fun _ _ _ h => h) rfl (fun w => by go_simp) ?_
      try simp only [List.setIfInBounds_toArray, List.set_cons_zero, List.set_cons_succ]
      refine take_p 6 23 (.int .i64 (k : Int)) rfl rfl (by kernel_rfl) (by kernel_rfl) (by kernel_rfl) (fun _ _ _ h => h) rfl (fun w => by go_simp) ?_
      try simp only [List.setIfInBounds_toArray, List.set_cons_zero, List.set_cons_succ]
      refine take_p 7 24 (.pointer (some ⟨gb, jb, none⟩)) rfl rfl (by kernel_rfl) (by kernel_rfl) (by kernel_rfl) (fun _ _ _ h => h) rfl (fun w => by go_simp) ?_
      try simp only [List.setIfInBounds_toArray, List.set_cons_zero, List.set_cons_succ]
      refine take_p 8 25 (.pointer (some ⟨gb, jb, none⟩)) rfl rfl (by kernel_rfl) (by kernel_rfl) (by kernel_rfl) (fun _ _ _ h => h) rfl (fun w => by go_simp) ?_
      try simp only [List.setIfInBounds_toArray, List.set_cons_zero, List.set_cons_succ]
      refine take_f 9 26 (.agg (u8s s).toArray) [10, 11, 12, 13, 14, 15, 16, 17, 18, 19, 20, 21, 22, 23] rfl rfl (by kernel_rfl) (by kernel_rfl) (by kernel_rfl) (by kernel_rfl) (by kernel_rfl) (by kernel_rfl) (fun _ _ _ h => h) rfl (fun w hSw => by exact exec_load_mid 28 _ rfl _ _ rfl (u8s s) _ ((RB.out _ hSw).1) Tryd.underlying28 rfl hi) hS ?_
      try simp only [List.setIfInBounds_toArray, List.set_cons_zero, List.set_cons_succ]
      refine take_p 10 27 (.bool false) rfl rfl (by kernel_rfl) (by kernel_rfl) (by kernel_rfl) (fun _ _ _ h => h) rfl (fun w => by exact exec_neq_seed _ _ 28 rfl rfl rfl (heq w)) ?_
      try simp only [List.setIfInBounds_toArray, List.set_cons_zero, List.set_cons_succ]
      refine take_p 11 28 (.bool false) rfl rfl (by kernel_rfl) (by kernel_rfl) (by kernel_rfl) (fun _ _ _ h => h) rfl (fun w => by go_simp) ?_
      try simp only [List.setIfInBounds_toArray, List.set_cons_zero, List.set_cons_succ]
      refine take_p 12 29 (.slice (some ⟨ga, oa, none⟩) n ca) rfl rfl (by kernel_rfl) (by kernel_rfl) (by kernel_rfl) (fun _ _ _ h => h) rfl (fun w => by go_simp) ?_
      try simp only [List.setIfInBounds_toArray, List.set_cons_zero, List.set_cons_succ]
      refine take_p 13 30 (.int .i64 (k : Int)) rfl rfl (by kernel_rfl) (by kernel_rfl) (by kernel_rfl) (fun _ _ _ h => h) rfl (fun w => by go_simp) ?_
      try simp only [List.setIfInBounds_toArray, List.set_cons_zero, List.set_cons_succ]
      refine take_p 14 31 (.pointer (some ⟨ga, ja, none⟩)) rfl rfl (by kernel_rfl) (by kernel_rfl) (by kernel_rfl) (fun _ _ _ h => h) rfl (fun w => by go_simp) ?_
      try simp only [List.setIfInBounds_toArray, List.set_cons_zero, List.set_cons_succ]
      refine take_p 15 32 (.pointer (some ⟨ga, ja + 32, none⟩)) rfl rfl (by kernel_rfl) (by kernel_rfl) (by kernel_rfl) (fun _ _ _ h => h) rfl (fun w => by go_simp) ?_
      try simp only [List.setIfInBounds_toArray, List.set_cons_zero, List.set_cons_succ]
      refine take_f 16 33 (.agg (u8s t).toArray) [22, 23] rfl rfl (by kernel_rfl) (by kernel_rfl) (by kernel_rfl) (by kernel_rfl) (by kernel_rfl) (by kernel_rfl) (fun _ _ _ h => h) rfl (fun w hSw => by exact exec_load_mid 28 _ rfl _ _ rfl (u8s t) _ ((RA.out _ hSw).2) Tryd.underlying28 rfl hi2) hS ?_
      try simp only [List.setIfInBounds_toArray, List.set_cons_zero, List.set_cons_succ]
      refine take_p 17 34 (.slice (some ⟨gb, ob, none⟩) n cb) rfl rfl (by kernel_rfl) (by kernel_rfl) (by kernel_rfl) (fun _ _ _ h => h) rfl (fun w => by go_simp) ?_
      try simp only [List.setIfInBounds_toArray, List.set_cons_zero, List.set_cons_succ]
      refine take_p 18 35 (.int .i64 (k : Int)) rfl rfl (by kernel_rfl) (by kernel_rfl) (by kernel_rfl) (fun _ _ _ h => h) rfl (fun w => by go_simp) ?_
      try simp only [List.setIfInBounds_toArray, List.set_cons_zero, List.set_cons_succ]
      refine take_p 19 36 (.pointer (some ⟨gb, jb, none⟩)) rfl rfl (by kernel_rfl) (by kernel_rfl) (by kernel_rfl) (fun _ _ _ h => h) rfl (fun w => by go_simp) ?_
      try simp only [List.setIfInBounds_toArray, List.set_cons_zero, List.set_cons_succ]
      refine take_p 20 37 (.pointer (some ⟨gb, jb + 32, none⟩)) rfl rfl (by kernel_rfl) (by kernel_rfl) (by kernel_rfl) (fun _ _ _ h => h) rfl (fun w => by go_simp) ?_
      try simp only [List.setIfInBounds_toArray, List.set_cons_zero, List.set_cons_succ]
      refine take_f 21 38 (.agg (u8s t).toArray) [22, 23] rfl rfl (by kernel_rfl) (by kernel_rfl) (by kernel_rfl) (by kernel_rfl) (by kernel_rfl) (by kernel_rfl) (fun _ _ _ h => h) rfl (fun w hSw => by exact exec_load_mid 28 _ rfl _ _ rfl (u8s t) _ ((RB.out _ hSw).2) Tryd.underlying28 rfl hi2) hS ?_
      try simp only [List.setIfInBounds_toArray, List.set_cons_zero, List.set_cons_succ]
      refine take_p 22 39 (.bool false) rfl rfl (by kernel_rfl) (by kernel_rfl) (by kernel_rfl) (fun _ _ _ h => h) rfl (fun w => by exact exec_neq_seed _ _ 28 rfl rfl rfl (heq2 w)) ?_
      try simp only [List.setIfInBounds_toArray, List.set_cons_zero, List.set_cons_succ]
      refine take_p 23 40 (.bool false) rfl rfl (by kernel_rfl) (by kernel_rfl) (by kernel_rfl) (fun _ _ _ h => h) rfl (fun w => by go_simp) ?_
      try simp only [List.setIfInBounds_toArray, List.set_cons_zero, List.set_cons_succ]
      refine done_f (by kernel_rfl) ?_ _
      have HS := hide1 hS
      clear hS heq heq2
      go_wp2
      go_roundw
      case rel => exact ⟨k + 1, by omega, by go_num, HS.out⟩
      case measure => simp [intOf]; omega
    · obtain rfl : k = n := by omega
      have HZ := hide1 hbe
      clear hbe
      go_wp2
      go_ret
      exact ⟨rfl, HZ.out⟩

/- one row, that is 0 -/
theorem rws1 {w : World} {g : Nat} (h : w.heap[g]? = some (.cells #[.int .u64 0, .int .u64 0] 24 (0, 0))) : T.Rws w 1 (some ⟨g, 0, none⟩) (fun _ _ => 0) :=
  ⟨fun j hj => ⟨g, 0, rfl, by
    obtain rfl : j = 0 := by omega
    refine ⟨?_, ?_⟩ <;> rw [cell_of_row w g _ _ _ _ h] <;> rfl⟩, fun _ _ => by omega⟩
theorem send1 (d0 : Nat) (w : World) (g : Nat) (hL : Sh.Laid w) (h : w.heap[g]? = some (.cells #[.int .u64 0, .int .u64 0] 24 (0, 0))) (hd : d0 < 18446744073709551616) :
    Calls Tryd.prog 11 #[.agg #[.int .u64 (d0 : Int), .int .u64 0], .int .u64 5, .slice (some ⟨g, 0, none⟩) 1 1] w fun e w' => e = .returned (.slice (some ⟨w.heap.size + 1, 0, none⟩) 1 1) ∧ w'.rangeAt (w.heap.size + 1) 0 (u8s (hashP 5 0 0)) ∧ w'.rangeAt (w.heap.size + 1) 32 (u8s (hashP 5 d0 0)) ∧ Below w.heap.size w w' := by
  refine (send_any d0 0 5 1 1 _ _ w hL (rws1 h) (by omega) (by omega) hd (by omega)).mono ?_
  rintro e w' ⟨rfl, hp, hb⟩
  have hg := fun j => (pr_good (rcv_good 5 (fun _ _ => 0)) (snd_good d0 0 5 (fun _ _ => 0)) j).1
  have r0 := prow_range hg hp (i := 0) (by omega)
  have r1 := prow_range hg hp (i := 1) (by omega)
  have e0 : pr (rcv 5 (fun _ _ => 0)) (snd d0 0 5 (fun _ _ => 0)) 0 = rcv 5 (fun _ _ => 0) 0 := pr_0 _ _ 0
  have e1 : pr (rcv 5 (fun _ _ => 0)) (snd d0 0 5 (fun _ _ => 0)) 1 = snd d0 0 5 (fun _ _ => 0) 0 := pr_1 _ _ 0
  have e2 : rcv 5 (fun _ _ => 0) 0 = hashP 5 0 0 := rfl
  have e3 : snd d0 0 5 (fun _ _ => 0) 0 = hashP 5 (0 ^^^ d0) (0 ^^^ 0) := rfl
  rw [e0, e2, Nat.zero_mul] at r0
  rw [e1, e3, Nat.zero_xor, Nat.zero_xor, Nat.one_mul] at r1
  exact ⟨rfl, r0, r1, hb⟩

set_option maxHeartbeats 4000000 in
theorem awake_any (w : World) (hL : Sh.Laid w) : Calls Tryd.prog 7 #[] w fun e w' => e = .returned (.bool true) ∧ Below w.heap.size w w' := by
  have k1 : Hid (∀ W g, Below w.heap.size w W → W.heap[g]? = some (.cells #[.int .u64 0, .int .u64 0] 24 (0, 0)) → Calls Tryd.prog 11 #[.agg #[.int .u64 0, .int .u64 0], .int .u64 5, .slice (some ⟨g, 0, none⟩) 1 1] W fun e w' => e = .returned (.slice (some ⟨W.heap.size + 1, 0, none⟩) 1 1) ∧ w'.rangeAt (W.heap.size + 1) 0 (u8s (hashP 5 0 0)) ∧ w'.rangeAt (W.heap.size + 1) 32 (u8s (hashP 5 0 0)) ∧ Below W.heap.size W w') := fun W g hW h => send1 0 W g (hL.below hW hL.two) h (by omega)
  have k2 : Hid (∀ W g, Below w.heap.size w W → W.heap[g]? = some (.cells #[.int .u64 0, .int .u64 0] 24 (0, 0)) → Calls Tryd.prog 11 #[.agg #[.int .u64 1, .int .u64 0], .int .u64 5, .slice (some ⟨g, 0, none⟩) 1 1] W fun e w' => e = .returned (.slice (some ⟨W.heap.size + 1, 0, none⟩) 1 1) ∧ w'.rangeAt (W.heap.size + 1) 0 (u8s (hashP 5 0 0)) ∧ w'.rangeAt (W.heap.size + 1) 32 (u8s (hashP 5 1 0)) ∧ Below W.heap.size W w') := fun W g hW h => send1 1 W g (hL.below hW hL.two) h (by omega)
  have k3 := fun W => hide1 (rhash_any 5 0 0 W (by omega) (by omega))
  have k4 := fun W => hide1 (rhash_any 5 1 0 W (by omega) (by omega))
  have hsl := hashP_len 5 0 0
  have htl := hashP_len 5 1 0
  have heq := fun w => eq_seeds hsl hsl (hashP_lt 5 0 0) (hashP_lt 5 0 0) w
  have heq2 := fun w => eq_seeds htl htl (hashP_lt 5 1 0) (hashP_lt 5 1 0) w
  rw [decide_eq_true rfl] at heq heq2
  generalize hashP 5 0 0 = s at *
  generalize hashP 5 1 0 = t at *
  have hi := hi23' hsl
  have hi2 := hi23' htl
  unfold rw2 arr8 at k3 k4
  clear hL htl
  go_enter Tryd.func7, Tryd.ntmps7
  go_wp2_with fail
  go_at_call 11
  generalize hX : World.alloc w _ = X
  have x0 : X.heap[w.heap.size]? = some (.cells #[.int .u64 0, .int .u64 0] 24 (0, 0)) := by rw [← hX]; exact heap_alloc_new _ _
  have xb : Below w.heap.size w X := by rw [← hX]; exact (Below.refl _ _).alloc (Nat.le_refl _) _
  clear hX
  refine (k1.out X _ xb x0).mono ?_
  rintro e w1 ⟨rfl, p0, p1, hb1⟩
  have hg1 : X.heap.size + 1 < w1.heap.size := by
    have := p0 0 (.int .u8 (at0 s 0 : Nat)) (by rw [u8s, List.getElem?_map, get_at0 (by omega)]; rfl)
    exact lt_cell this
  have B1 := xb.trans (hb1.mono xb.size)
  have P1 := hide1 (And.intro p0 p1)
  have BB := hide1 B1
  have HG1 := hide1 hg1
  clear x0 xb p0 p1 hb1 B1 hg1
  obtain ⟨g1, hg1⟩ : ∃ g, g = X.heap.size + 1 := ⟨_, rfl⟩
  rw [← hg1] at P1 HG1 ⊢
  clear hg1
  go_wp2_with fail
  go_at_call 11
  generalize hX2 : World.alloc w1 _ = X2
  have x0 : X2.heap[w1.heap.size]? = some (.cells #[.int .u64 0, .int .u64 0] 24 (0, 0)) := by rw [← hX2]; exact heap_alloc_new _ _
  have xb : Below w1.heap.size w1 X2 := by rw [← hX2]; exact (Below.refl _ _).alloc (Nat.le_refl _) _
  clear hX2
  refine (k2.out X2 _ (BB.out.trans (xb.mono BB.out.size)) x0).mono ?_
  rintro e w2 ⟨rfl, p0, p1, hb2⟩
  have hB2 := xb.trans (hb2.mono xb.size)
  have P1b := hide1 (And.intro (range_below P1.out.1 hB2 HG1.out) (range_below P1.out.2 hB2 HG1.out))
  have hg2 : X2.heap.size + 1 < w2.heap.size := by
    have := p0 0 (.int .u8 (at0 s 0 : Nat)) (by rw [u8s, List.getElem?_map, get_at0 (by omega)]; rfl)
    exact lt_cell this
  have P2 := hide1 p1
  have B2 := hide1 (BB.out.trans (hB2.mono BB.out.size))
  have HG2 := hide1 (And.intro (Nat.lt_of_lt_of_le HG1.out hB2.size) hg2)
  clear x0 xb p0 p1 hb2 hB2 hg2 P1 BB HG1
  obtain ⟨g2, hg2⟩ : ∃ g, g = X2.heap.size + 1 := ⟨_, rfl⟩
  rw [← hg2] at P2 HG2 ⊢
  clear hg2
  go_upto_region 3 with (fail)
  refine region_f (F := []) (S := fun W' => Below w2.heap.size w2 W') (by kernel_rfl) (Below.refl _ _).drew (fun hS => ?_)
  refine take_p 0 11 (.slice (some ⟨g1, 0, none⟩) 1 1) rfl rfl (by kernel_rfl) (by kernel_rfl) (by kernel_rfl) (fun _ _ _ h => h) rfl (fun w => by go_simp) ?_
  try simp only [List.setIfInBounds_toArray, List.set_cons_zero, List.set_cons_succ]
  refine take_p 1 12 (.int .i64 1) rfl rfl (by kernel_rfl) (by kernel_rfl) (by kernel_rfl) (fun _ _ _ h => h) rfl (fun w => by go_simp) ?_
  try simp only [List.setIfInBounds_toArray, List.set_cons_zero, List.set_cons_succ]
  refine take_p 2 13 (.bool true) rfl rfl (by kernel_rfl) (by kernel_rfl) (by kernel_rfl) (fun _ _ _ h => h) rfl (fun w => by go_simp) ?_
  try simp only [List.setIfInBounds_toArray, List.set_cons_zero, List.set_cons_succ]
  refine take_p 3 14 (.bool true) rfl rfl (by kernel_rfl) (by kernel_rfl) (by kernel_rfl) (fun _ _ _ h => h) rfl (fun w => by go_simp) ?_
  try simp only [List.setIfInBounds_toArray, List.set_cons_zero, List.set_cons_succ]
  refine take_p 4 15 (.slice (some ⟨g2, 0, none⟩) 1 1) rfl rfl (by kernel_rfl) (by kernel_rfl) (by kernel_rfl) (fun _ _ _ h => h) rfl (fun w => by go_simp) ?_
  try simp only [List.setIfInBounds_toArray, List.set_cons_zero, List.set_cons_succ]
  refine take_p 5 16 (.int .i64 1) rfl rfl (by kernel_rfl) (by kernel_rfl) (by kernel_rfl) (fun _ _ _ h => h) rfl (fun w => by go_simp) ?_
  try simp only [List.setIfInBounds_toArray, List.set_cons_zero, List.set_cons_succ]
  refine take_p 6 17 (.bool true) rfl rfl (by kernel_rfl) (by kernel_rfl) (by kernel_rfl) (fun _ _ _ h => h) rfl (fun w => by go_simp) ?_
  try simp only [List.setIfInBounds_toArray, List.set_cons_zero, List.set_cons_succ]
  refine take_p 7 18 (.bool true) rfl rfl (by kernel_rfl) (by kernel_rfl) (by kernel_rfl) (fun _ _ _ h => h) rfl (fun w => by go_simp) ?_
  try simp only [List.setIfInBounds_toArray, List.set_cons_zero, List.set_cons_succ]
  refine take_p 8 19 (.bool true) rfl rfl (by kernel_rfl) (by kernel_rfl) (by kernel_rfl) (fun _ _ _ h => h) rfl (fun w => by go_simp) ?_
  try simp only [List.setIfInBounds_toArray, List.set_cons_zero, List.set_cons_succ]
  refine take_p 9 20 (.slice (some ⟨g1, 0, none⟩) 1 1) rfl rfl (by kernel_rfl) (by kernel_rfl) (by kernel_rfl) (fun _ _ _ h => h) rfl (fun w => by go_simp) ?_
  try simp only [List.setIfInBounds_toArray, List.set_cons_zero, List.set_cons_succ]
  refine take_p 10 21 (.pointer (some ⟨g1, 0, none⟩)) rfl rfl (by kernel_rfl) (by kernel_rfl) (by kernel_rfl) (fun _ _ _ h => h) rfl (fun w => by go_simp) ?_
  try simp only [List.setIfInBounds_toArray, List.set_cons_zero, List.set_cons_succ]
  refine take_p 11 22 (.pointer (some ⟨g1, 0, none⟩)) rfl rfl (by kernel_rfl) (by kernel_rfl) (by kernel_rfl) (fun _ _ _ h => h) rfl (fun w => by go_simp) ?_
  try simp only [List.setIfInBounds_toArray, List.set_cons_zero, List.set_cons_succ]
  refine take_f 12 23 (.agg (u8s s).toArray) [17, 18, 19, 20, 21, 22, 23, 24, 25, 26, 27, 28, 29, 30, 31, 32, 33, 34, 35, 36, 37] rfl rfl (by kernel_rfl) (by kernel_rfl) (by kernel_rfl) (by kernel_rfl) (by kernel_rfl) (by kernel_rfl) (fun _ _ _ h => h) rfl (fun w hSw => by exact exec_load_mid 28 _ rfl _ _ rfl (u8s s) _ (range_below P1b.out.1 hSw HG2.out.1) Tryd.underlying28 rfl hi) hS ?_
  try simp only [List.setIfInBounds_toArray, List.set_cons_zero, List.set_cons_succ]
  refine take_p 13 24 (.slice (some ⟨g1, 0, none⟩) 1 1) rfl rfl (by kernel_rfl) (by kernel_rfl) (by kernel_rfl) (fun _ _ _ h => h) rfl (fun w => by go_simp) ?_
  try simp only [List.setIfInBounds_toArray, List.set_cons_zero, List.set_cons_succ]
  refine take_p 14 25 (.pointer (some ⟨g1, 0, none⟩)) rfl rfl (by kernel_rfl) (by kernel_rfl) (by kernel_rfl) (fun _ _ _ h => h) rfl (fun w => by go_simp) ?_
  try simp only [List.setIfInBounds_toArray, List.set_cons_zero, List.set_cons_succ]
  refine take_p 15 26 (.pointer (some ⟨g1, 32, none⟩)) rfl rfl (by kernel_rfl) (by kernel_rfl) (by kernel_rfl) (fun _ _ _ h => h) rfl (fun w => by go_simp) ?_
  try simp only [List.setIfInBounds_toArray, List.set_cons_zero, List.set_cons_succ]
  refine take_f 16 27 (.agg (u8s s).toArray) [17, 18, 19, 20, 21, 22, 23, 24, 25, 26, 27, 28, 29, 30, 31, 32, 33, 34, 35, 36, 37] rfl rfl (by kernel_rfl) (by kernel_rfl) (by kernel_rfl) (by kernel_rfl) (by kernel_rfl) (by kernel_rfl) (fun _ _ _ h => h) rfl (fun w hSw => by exact exec_load_mid 28 _ rfl _ _ rfl (u8s s) _ (range_below P1b.out.2 hSw HG2.out.1) Tryd.underlying28 rfl hi) hS ?_
  try simp only [List.setIfInBounds_toArray, List.set_cons_zero, List.set_cons_succ]
  refine take_p 17 28 (.bool true) rfl rfl (by kernel_rfl) (by kernel_rfl) (by kernel_rfl) (fun _ _ _ h => h) rfl (fun w => by exact exec_eql_seed _ _ 28 rfl rfl rfl (heq w)) ?_
  try simp only [List.setIfInBounds_toArray, List.set_cons_zero, List.set_cons_succ]
  refine take_p 18 29 (.bool true) rfl rfl (by kernel_rfl) (by kernel_rfl) (by kernel_rfl) (fun _ _ _ h => h) rfl (fun w => by go_simp) ?_
  try simp only [List.setIfInBounds_toArray, List.set_cons_zero, List.set_cons_succ]
  refine take_p 19 30 (.bool true) rfl rfl (by kernel_rfl) (by kernel_rfl) (by kernel_rfl) (fun _ _ _ h => h) rfl (fun w => by go_simp) ?_
  try simp only [List.setIfInBounds_toArray, List.set_cons_zero, List.set_cons_succ]
  refine take_p 20 31 (.slice (some ⟨g1, 0, none⟩) 1 1) rfl rfl (by kernel_rfl) (by kernel_rfl) (by kernel_rfl) (fun _ _ _ h => h) rfl (fun w => by go_simp) ?_
  try simp only [List.setIfInBounds_toArray, List.set_cons_zero, List.set_cons_succ]
  refine take_p 21 32 (.pointer (some ⟨g1, 0, none⟩)) rfl rfl (by kernel_rfl) (by kernel_rfl) (by kernel_rfl) (fun _ _ _ h => h) rfl (fun w => by go_simp) ?_
  try simp only [List.setIfInBounds_toArray, List.set_cons_zero, List.set_cons_succ]
  refine take_p 22 33 (.pointer (some ⟨g1, 0, none⟩)) rfl rfl (by kernel_rfl) (by kernel_rfl) (by kernel_rfl) (fun _ _ _ h => h) rfl (fun w => by go_simp) ?_
  try simp only [List.setIfInBounds_toArray, List.set_cons_zero, List.set_cons_succ]
  refine take_f 23 34 (.agg (u8s s).toArray) [26, 27, 28, 29, 30, 31, 32, 33, 34, 35, 36, 37] rfl rfl (by kernel_rfl) (by kernel_rfl) (by kernel_rfl) (by kernel_rfl) (by kernel_rfl) (by kernel_rfl) (fun _ _ _ h => h) rfl (fun w hSw => by exact exec_load_mid 28 _ rfl _ _ rfl (u8s s) _ (range_below P1b.out.1 hSw HG2.out.1) Tryd.underlying28 rfl hi) hS ?_
  try simp only [List.setIfInBounds_toArray, List.set_cons_zero, List.set_cons_succ]
  refine take_p 24 35 (.agg #[.int .u64 0, .int .u64 0]) rfl rfl (by kernel_rfl) (by kernel_rfl) (by kernel_rfl) (fun _ _ _ h => h) rfl (fun w => by go_simp) ?_
  try simp only [List.setIfInBounds_toArray, List.set_cons_zero, List.set_cons_succ]
  refine ready_f 25 (o := { dst := some 36, op := Op.call { callee := Callee.value (Operand.func 9), args := #[Operand.const (Value.int IntKind.u64 5), Operand.tmp 35], argTypes := #[22, 24] }, type := 28, pos := "law.go:53", after := #[{ on := 24, ground := Ground.data }, { on := 19, ground := Ground.chain }, { on := 19, ground := Ground.guard }], guard := some (19, true) }) (by kernel_rfl) rfl (fun K hK => ?_)
  go_simp
  refine (k3 _).out.mono ?_
  rintro e w4 ⟨rfl, hb4⟩
  have hS4 := hS.trans (hb4.mono hS.size)
  refine hK.out _ _ (fun _ _ => hS4) ?_
  clear hb4
  clear hK K
  try simp only [Act.put, List.setIfInBounds_toArray, List.set_cons_zero, List.set_cons_succ]
  clear hS
  have hS := hS4
  refine take_p 26 37 (.bool true) rfl rfl (by kernel_rfl) (by kernel_rfl) (by kernel_rfl) (fun _ _ _ h => h) rfl (fun w => by exact exec_eql_seed _ _ 28 rfl rfl rfl (heq w)) ?_
  try simp only [List.setIfInBounds_toArray, List.set_cons_zero, List.set_cons_succ]
  refine take_p 27 38 (.bool true) rfl rfl (by kernel_rfl) (by kernel_rfl) (by kernel_rfl) (fun _ _ _ h => h) rfl (fun w => by go_simp) ?_
  try simp only [List.setIfInBounds_toArray, List.set_cons_zero, List.set_cons_succ]
  refine take_p 28 39 (.bool true) rfl rfl (by kernel_rfl) (by kernel_rfl) (by kernel_rfl) (fun _ _ _ h => h) rfl (fun w => by go_simp) ?_
  try simp only [List.setIfInBounds_toArray, List.set_cons_zero, List.set_cons_succ]
  refine take_p 29 40 (.slice (some ⟨g2, 0, none⟩) 1 1) rfl rfl (by kernel_rfl) (by kernel_rfl) (by kernel_rfl) (fun _ _ _ h => h) rfl (fun w => by go_simp) ?_
  try simp only [List.setIfInBounds_toArray, List.set_cons_zero, List.set_cons_succ]
  refine take_p 30 41 (.pointer (some ⟨g2, 0, none⟩)) rfl rfl (by kernel_rfl) (by kernel_rfl) (by kernel_rfl) (fun _ _ _ h => h) rfl (fun w => by go_simp) ?_
  try simp only [List.setIfInBounds_toArray, List.set_cons_zero, List.set_cons_succ]
  refine take_p 31 42 (.pointer (some ⟨g2, 32, none⟩)) rfl rfl (by kernel_rfl) (by kernel_rfl) (by kernel_rfl) (fun _ _ _ h => h) rfl (fun w => by go_simp) ?_
  try simp only [List.setIfInBounds_toArray, List.set_cons_zero, List.set_cons_succ]
  refine take_f 32 43 (.agg (u8s t).toArray) [35, 36, 37] rfl rfl (by kernel_rfl) (by kernel_rfl) (by kernel_rfl) (by kernel_rfl) (by kernel_rfl) (by kernel_rfl) (fun _ _ _ h => h) rfl (fun w hSw => by exact exec_load_mid 28 _ rfl _ _ rfl (u8s t) _ (range_below P2.out hSw HG2.out.2) Tryd.underlying28 rfl hi2) hS ?_
  try simp only [List.setIfInBounds_toArray, List.set_cons_zero, List.set_cons_succ]
  refine take_p 33 44 (.agg #[.int .u64 1, .int .u64 0]) rfl rfl (by kernel_rfl) (by kernel_rfl) (by kernel_rfl) (fun _ _ _ h => h) rfl (fun w => by go_simp) ?_
  try simp only [List.setIfInBounds_toArray, List.set_cons_zero, List.set_cons_succ]
  refine ready_f 34 (o := { dst := some 45, op := Op.call { callee := Callee.value (Operand.func 9), args := #[Operand.const (Value.int IntKind.u64 5), Operand.tmp 44], argTypes := #[22, 24] }, type := 28, pos := "law.go:53", after := #[{ on := 33, ground := Ground.data }, { on := 28, ground := Ground.chain }, { on := 28, ground := Ground.guard }], guard := some (28, true) }) (by kernel_rfl) rfl (fun K hK => ?_)
  go_simp
  refine (k4 _).out.mono ?_
  rintro e w5 ⟨rfl, hb5⟩
  have hS5 := hS.trans (hb5.mono hS.size)
  refine hK.out _ _ (fun _ _ => hS5) ?_
  clear hb5
  clear hK K
  try simp only [Act.put, List.setIfInBounds_toArray, List.set_cons_zero, List.set_cons_succ]
  refine take_p 35 46 (.bool true) rfl rfl (by kernel_rfl) (by kernel_rfl) (by kernel_rfl) (fun _ _ _ h => h) rfl (fun w => by exact exec_eql_seed _ _ 28 rfl rfl rfl (heq2 w)) ?_
  try simp only [List.setIfInBounds_toArray, List.set_cons_zero, List.set_cons_succ]
  refine take_p 36 47 (.bool true) rfl rfl (by kernel_rfl) (by kernel_rfl) (by kernel_rfl) (fun _ _ _ h => h) rfl (fun w => by go_simp) ?_
  try simp only [List.setIfInBounds_toArray, List.set_cons_zero, List.set_cons_succ]
  refine take_p 37 0 (.bool true) rfl rfl (by kernel_rfl) (by kernel_rfl) (by kernel_rfl) (fun _ _ _ h => h) rfl (fun w => by go_simp) ?_
  try simp only [List.setIfInBounds_toArray, List.set_cons_zero]
  refine done_f (by kernel_rfl) ?_ _
  have HS := hide1 (B2.out.trans (hS5.mono B2.out.size))
  clear hS5
  go_wp2
  go_ret
  exact ⟨rfl, HS.out⟩
end Go.Proofs.YtlkkninnfiaedaaDoor.Ro
