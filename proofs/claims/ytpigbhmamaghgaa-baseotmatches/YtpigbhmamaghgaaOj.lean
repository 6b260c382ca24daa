/- Lists of seeds compared. -/
import Derived.Test.YtpigbhmamaghgaaOg
import Derived.Test.YtpigbhmamaghgaaPgCl
namespace Go.Proofs.Ytpigbhmamaghgaa
open Go.RowKit Pg
set_option maxRecDepth 100000
attribute [local go_sem] not_any

theorem u8v_eq {l m : List Nat} (hl : Lt 256 l) (hm : Lt 256 m) : l.map UInt8.ofNat = m.map UInt8.ofNat ↔ l = m := by
  constructor
  · intro h
    have h2 := congrArg (List.map UInt8.toNat) h
    rw [List.map_map, List.map_map] at h2
    have e : ∀ {l : List Nat}, Lt 256 l → l.map (UInt8.toNat ∘ UInt8.ofNat) = l := fun {l} h => by
      conv => rhs; rw [← List.map_id l]
      exact List.map_congr_left (fun x hx => by simp [Nat.mod_eq_of_lt (h x hx)])
    rwa [e hl, e hm] at h2
  · rintro rfl
    rfl
theorem eq_seeds {l m : List Nat} (hl : l.length = 32) (hm : m.length = 32) (tl : Lt 256 l) (tm : Lt 256 m) (w : World) :
    (Op.equalIn 10000 23 (.agg (u8s l).toArray) (.agg (u8s m).toArray)).run Try.prog w = .ok (decide (l = m)) w := by
  rw [u8s_cells tl, u8s_cells tm, run_equalIn_bytes w 9998 23 5 32 Try.underlying23 Try.underlying5 (fun w => by kernel_rfl) _ _ (by rw [List.length_map, hl]) (by rw [List.length_map, hm])]
  congr 1
  rw [Bool.eq_iff_iff, beq_iff_eq, decide_eq_true_eq]
  exact u8v_eq tl tm
theorem exec_neq_seed {o : Oper} {tmps : Array Value} {ds : List Deferred} {w : World} {l m : List Nat} {b : Bool} (x y : Operand) (t : TypeId) (ho : o.op = .binOp .neq 23 x y t) (hx : Act.eval ⟨tmps, ds⟩ x = .agg (u8s l).toArray) (hy : Act.eval ⟨tmps, ds⟩ y = .agg (u8s m).toArray)
    (h2 : (Op.equalIn 10000 23 (.agg (u8s l).toArray) (.agg (u8s m).toArray)).run Try.prog w = .ok b w) : (execOp (Act.eval ⟨tmps, ds⟩) o).run Try.prog w = .ok (.value (.bool (!b))) w := by
  have hg := guard23
  unfold execOp
  simp only [ho, hx, hy]
  go_simp

set_option maxHeartbeats 2000000 in
theorem seeds_any {va vb : Value} {f : Nat → List Nat} {n : Nat} (w : World) (hn : n ≤ 128) (ha : Sds w va f n) (hb : Sds w vb f n) (hf : ∀ i, (f i).length = 32) (ht : ∀ i, Lt 256 (f i)) :
    Calls Try.prog 23 #[va, vb] w fun e w' => e = .returned (.bool true) ∧ Below w.heap.size w w' := by
  obtain ⟨ga, ca, rfl, _, ra⟩ := ha.at'
  obtain ⟨gb, cb, rfl, _, rb⟩ := hb.at'
  have HA : Hid (∀ k, k < n → ∀ w', Below w.heap.size w w' → w'.rangeAt ga (k * 32) (u8s (f k))) := fun k hk w' h => by
    obtain ⟨g', c', e', _, hr⟩ := (ha.below h (Nat.le_refl _)).at'
    cases e'
    exact hr k hk
  have HB : Hid (∀ k, k < n → ∀ w', Below w.heap.size w w' → w'.rangeAt gb (k * 32) (u8s (f k))) := fun k hk w' h => by
    obtain ⟨g', c', e', _, hr⟩ := (hb.below h (Nat.le_refl _)).at'
    cases e'
    exact hr k hk
  have HF : Shy (∀ i, (f i).length = 32 ∧ Lt 256 (f i)) := ⟨fun i => ⟨hf i, ht i⟩⟩
  have HN : Shy (n ≤ 128) := ⟨hn⟩
  clear ha hb ra rb hf ht hn
  go_enter Try.func23, Try.ntmps23
  go_wp2
  go_loopw [5] (fun v wr => ∃ k : Nat, k ≤ n ∧ v = .int .i64 k ∧ Below w.heap.size w wr) (fun v _ => n - (intOf v).toNat)
  case atStart => exact ⟨0, Nat.zero_le _, rfl, Below.refl _ _⟩
  case round =>
    obtain ⟨k, hk, rfl, hbe⟩ := hrel
    by_cases hlt : k < n
    · have bk : (k : Int) < (n : Int) := by omega
      have bk2 : (k : Int) < 128 := by have := HN.out; omega
      have HZ := hide1 hbe
      have RA := hide1 (HA.out k hlt)
      have RB := hide1 (HB.out k hlt)
      have heq := fun w => eq_seeds (HF.out k).1 (HF.out k).1 (HF.out k).2 (HF.out k).2 w
      have hi := hi23' (HF.out k).1
      generalize f k = s at *
      rw [decide_eq_true rfl] at heq
      clear hbe
      go_upto_region 6 with (fail)
      refine region_f (F := []) (S := fun w' => Below w.heap.size w w') (by kernel_rfl) HZ.out.drew (fun hS => ?_)
      refine take_p 0 17 (.slice (some ⟨ga, 0, none⟩) n ca) rfl rfl (by kernel_rfl) (by kernel_rfl) (by kernel_rfl) (fun _ _ _ h => h) rfl (fun w => by go_simp) ?_
      try simp only [List.setIfInBounds_toArray, List.set_cons_zero, List.set_cons_succ]
      refine take_p 1 18 (.int .i64 (k : Int)) rfl rfl (by kernel_rfl) (by kernel_rfl) (by kernel_rfl) (fun _ _ _ h => h) rfl (fun w => by go_simp) ?_
      try simp only [List.setIfInBounds_toArray, List.set_cons_zero, List.set_cons_succ]
      refine take_p 2 19 (.pointer (some ⟨ga, k * 32, none⟩)) rfl rfl (by kernel_rfl) (by kernel_rfl) (by kernel_rfl) (fun _ _ _ h => h) rfl (fun w => by go_simp) ?_
      try simp only [List.setIfInBounds_toArray, List.set_cons_zero, List.set_cons_succ]
      refine take_f 3 20 (.agg (u8s s).toArray) [8] rfl rfl (by kernel_rfl) (by kernel_rfl) (by kernel_rfl) (by kernel_rfl) (by kernel_rfl) (by kernel_rfl) (fun _ _ _ h => h) rfl (fun w hSw => by exact exec_load_mid 23 (.tmp 19) rfl _ _ rfl (u8s s) _ (RA.out _ hSw) Try.underlying23 rfl hi) hS ?_
      try simp only [List.setIfInBounds_toArray, List.set_cons_zero, List.set_cons_succ]
      refine take_p 4 21 (.slice (some ⟨gb, 0, none⟩) n cb) rfl rfl (by kernel_rfl) (by kernel_rfl) (by kernel_rfl) (fun _ _ _ h => h) rfl (fun w => by go_simp) ?_
      try simp only [List.setIfInBounds_toArray, List.set_cons_zero, List.set_cons_succ]
      refine take_p 5 22 (.int .i64 (k : Int)) rfl rfl (by kernel_rfl) (by kernel_rfl) (by kernel_rfl) (fun _ _ _ h => h) rfl (fun w => by go_simp) ?_
      try simp only [List.setIfInBounds_toArray, List.set_cons_zero, List.set_cons_succ]
      refine take_p 6 23 (.pointer (some ⟨gb, k * 32, none⟩)) rfl rfl (by kernel_rfl) (by kernel_rfl) (by kernel_rfl) (fun _ _ _ h => h) rfl (fun w => by go_simp) ?_
      try simp only [List.setIfInBounds_toArray, List.set_cons_zero, List.set_cons_succ]
      refine take_f 7 24 (.agg (u8s s).toArray) [8] rfl rfl (by kernel_rfl) (by kernel_rfl) (by kernel_rfl) (by kernel_rfl) (by kernel_rfl) (by kernel_rfl) (fun _ _ _ h => h) rfl (fun w hSw => by exact exec_load_mid 23 (.tmp 23) rfl _ _ rfl (u8s s) _ (RB.out _ hSw) Try.underlying23 rfl hi) hS ?_
      try simp only [List.setIfInBounds_toArray, List.set_cons_zero, List.set_cons_succ]
      refine take_p 8 25 (.bool false) rfl rfl (by kernel_rfl) (by kernel_rfl) (by kernel_rfl) (fun _ _ _ h => h) rfl (fun w => by exact exec_neq_seed (.tmp 20) (.tmp 24) 23 rfl rfl rfl (heq w)) ?_
      try simp only [List.setIfInBounds_toArray, List.set_cons_zero, List.set_cons_succ]
      refine done_f (by kernel_rfl) ?_ _
      have HS := hide1 hS
      clear hS heq
      go_wp2
      go_roundw
      case rel => exact ⟨k + 1, by omega, by go_num, HS.out⟩
      case measure => simp [intOf]; omega
    · obtain rfl : k = n := by omega
      have HZ := hide1 hbe
      clear hbe
      go_wp2
      go_ret
      exact ⟨rfl, HZ.out⟩
end Go.Proofs.Ytpigbhmamaghgaa
