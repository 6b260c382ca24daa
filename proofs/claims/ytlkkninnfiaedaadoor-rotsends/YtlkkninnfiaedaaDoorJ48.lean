/- The walk of RotSends. -/
import Derived.Test.YtlkkninnfiaedaaDoorJ47
namespace Go.Proofs.YtlkkninnfiaedaaDoor.Ro
open Go.RowKit Pg
set_option maxRecDepth 100000
attribute [local go_sem] not_any

theorem send_ex (d0 d1 F m c : Nat) (a : Option Addr) (R : Nat → Nat → Nat) (w : World) (hL : Sh.Laid w) (hR : T.Rws w m a R) (hm : m ≤ 4096) (hF : F + 4096 < 18446744073709551616) (h0 : d0 < 18446744073709551616) (h1 : d1 < 18446744073709551616) :
    Calls Tryd.prog 11 #[rw2 d0 d1, .int .u64 (F : Int), .slice a m c] w fun e w' => ∃ g, e = .returned (.slice (some ⟨g, 0, none⟩) m m) ∧ Pd w' m (some ⟨g, 0, none⟩) (pr (rcv F R) (snd d0 d1 F R)) ∧ Below w.heap.size w w' :=
  (send_any d0 d1 F m c a R w hL hR hm hF h0 h1).mono fun _ _ ⟨he, hh, hb⟩ => ⟨_, he, pd_row (pr_good (rcv_good F R) (snd_good d0 d1 F R)) hh, hb⟩
theorem receive_ex (F m c : Nat) (a : Option Addr) (R : Nat → Nat → Nat) (w : World) (hL : Sh.Laid w) (hR : T.Rws w m a R) (hm : m ≤ 4096) (hF : F + 4096 < 18446744073709551616) :
    Calls Tryd.prog 14 #[.int .u64 (F : Int), .slice a m c] w fun e w' => ∃ g, e = .returned (.slice (some ⟨g, 0, none⟩) m m) ∧ Sd w' m (some ⟨g, 0, none⟩) (rcv F R) ∧ Below w.heap.size w w' :=
  (receive_any F m c a R w hL hR hm hF).mono fun _ _ ⟨he, hh, hb⟩ => ⟨_, he, sd_row (rcv_good F R) hh, hb⟩

theorem sends_else (d0 d1 F m c : Nat) (a : Option Addr) (w : World) (hL : Sh.Laid w) (hbig : 40 < m ∨ 1152921504606846976 < F) :
    Calls Tryd.prog 3 #[rw2 d0 d1, .int .u64 (F : Int), .slice a m c] w fun e w' => e = .returned (.bool true) ∧ Below w.heap.size w w' := by
  have B0 : Hid (Below w.heap.size w (w.alloc (row2 d0 d1))) := (Below.refl _ _).alloc (Nat.le_refl _) _
  have kA := hide1 (awake_any (w.alloc (row2 d0 d1)) (hL.below B0.out hL.two))
  unfold row2 at B0 kA
  unfold rw2
  clear hL
  by_cases h1 : 40 < m
  · have t1 : (40 : Int) < (m : Int) := by omega
    clear hbig h1
    go_enter Tryd.func3, Tryd.ntmps3
    go_wp2_with fail
    go_at_call 7
    refine kA.out.mono ?_
    rintro e w9 ⟨rfl, hb9⟩
    have B9 := hide1 (B0.out.trans (hb9.mono B0.out.size))
    clear hb9
    go_wp2
    go_ret
    exact ⟨rfl, B9.out⟩
  · have t1 : ¬ (40 : Int) < (m : Int) := by omega
    have t2 : (1152921504606846976 : Int) < (F : Int) := by omega
    clear hbig h1
    go_enter Tryd.func3, Tryd.ntmps3
    go_wp2_with fail
    go_at_call 7
    refine kA.out.mono ?_
    rintro e w9 ⟨rfl, hb9⟩
    have B9 := hide1 (B0.out.trans (hb9.mono B0.out.size))
    clear hb9
    go_wp2
    go_ret
    exact ⟨rfl, B9.out⟩

set_option maxHeartbeats 8000000 in
theorem sends_in (d0 d1 F m c : Nat) (a : Option Addr) (R : Nat → Nat → Nat) (w : World) (hL : Sh.Laid w) (hR : T.Rws w m a R) (hm : m ≤ 40) (hF : F ≤ 1152921504606846976) (h0 : d0 < 18446744073709551616) (h1 : d1 < 18446744073709551616) :
    Calls Tryd.prog 3 #[rw2 d0 d1, .int .u64 (F : Int), .slice a m c] w fun e w' => e = .returned (.bool true) ∧ Below w.heap.size w w' := by
  have kS : Hid (∀ W, Below w.heap.size w W → Calls Tryd.prog 11 #[rw2 d0 d1, .int .u64 (F : Int), .slice a m c] W fun e w' => ∃ g, e = .returned (.slice (some ⟨g, 0, none⟩) m m) ∧ Pd w' m (some ⟨g, 0, none⟩) (pr (rcv F R) (snd d0 d1 F R)) ∧ Below W.heap.size W w') := fun W hW => send_ex d0 d1 F m c a R W (hL.below hW hL.two) (hR.below hW (Nat.le_refl _)) (by omega) (by omega) h0 h1
  have kQ : Hid (∀ W, Below w.heap.size w W → Calls Tryd.prog 12 #[rw2 d0 d1, .int .u64 (F : Int), .slice a m c] W fun e w' => ∃ g d, e = .returned (.slice g m d) ∧ Pd w' m g (pr (rcv F R) (snd d0 d1 F R)) ∧ Below W.heap.size W w') := fun W hW => rsend_any d0 d1 F m c a R W (hR.below hW (Nat.le_refl _)) (by omega) (by omega) h0 h1
  have kR : Hid (∀ W, Below w.heap.size w W → Calls Tryd.prog 14 #[.int .u64 (F : Int), .slice a m c] W fun e w' => ∃ g, e = .returned (.slice (some ⟨g, 0, none⟩) m m) ∧ Sd w' m (some ⟨g, 0, none⟩) (rcv F R) ∧ Below W.heap.size W w') := fun W hW => receive_ex F m c a R W (hL.below hW hL.two) (hR.below hW (Nat.le_refl _)) (by omega) (by omega)
  have kT : Hid (∀ W, Below w.heap.size w W → Calls Tryd.prog 15 #[.int .u64 (F : Int), .slice a m c] W fun e w' => ∃ g d, e = .returned (.slice g m d) ∧ Sd w' m g (rcv F R) ∧ Below W.heap.size W w') := fun W hW => rreceive_any F m c a R W (hR.below hW (Nat.le_refl _)) (by omega) (by omega)
  have kA : Hid (∀ W, Below w.heap.size w W → Calls Tryd.prog 7 #[] W fun e w' => e = .returned (.bool true) ∧ Below W.heap.size W w') := fun W hW => awake_any W (hL.below hW hL.two)
  have HH : Hid (∀ k, k < m → ∀ W, Below w.heap.size w W → Calls Tryd.prog 8 #[.int .u64 (F : Int), rw2 (R k 0) (R k 1)] W fun e w' => e = .returned (arr8 (hashP F (R k 0) (R k 1))) ∧ Below W.heap.size W w') := fun k hk W hW => hash_any F (R k 0) (R k 1) W (hL.below hW hL.two) (hR.lt _ _)
  have HH2 : Hid (∀ k, k < m → ∀ W, Calls Tryd.prog 9 #[.int .u64 (F : Int), rw2 (R k 0) (R k 1)] W fun e w' => e = .returned (arr8 (hashP F (R k 0) (R k 1))) ∧ Below W.heap.size W w') := fun k hk W => rhash_any F (R k 0) (R k 1) W (by omega) (hR.lt _ _)
  have HR := hide1 hR
  have h26 := hi26
  have t1 : ¬ (40 : Int) < (m : Int) := by omega
  have t2 : ¬ (1152921504606846976 : Int) < (F : Int) := by omega
  have HM := hide1 hm
  generalize pr (rcv F R) (snd d0 d1 F R) = S at *
  generalize rcv F R = S0 at *
  unfold rw2 arr8 at HH HH2
  unfold rw2 at kS kQ ⊢
  clear hL hR hF h0 h1
  go_enter Tryd.func3, Tryd.ntmps3
  go_upto_region 3 with (fail)
  generalize hX : World.alloc w _ = X
  have x0 : X.heap[w.heap.size]? = some (row2 d0 d1) := by rw [← hX]; exact heap_alloc_new _ _
  have xb : Below w.heap.size w X := by rw [← hX]; exact (Below.refl _ _).alloc (Nat.le_refl _) _
  have X0 := hide1 x0
  have XB := hide1 xb
  clear hX x0 xb
  go_wp2
  go_loopw [7] (fun v wr => ∃ k : Nat, k ≤ m ∧ v = .int .i64 k ∧ Below X.heap.size X wr) (fun v _ => m - (intOf v).toNat)
  case atStart => exact ⟨0, Nat.zero_le _, rfl, Below.refl _ _⟩
  case round =>
    obtain ⟨k, hk, rfl, hbe⟩ := hrel
    by_cases hlt : k < m
    · have bk : (k : Int) < (m : Int) := by omega
      have bk2 : (k : Int) < 40 := by omega
      have hbw := XB.out.trans (hbe.mono XB.out.size)
      obtain ⟨ga, oa, rfl, hga, hrw⟩ := (HR.out.below hbw (Nat.le_refl _)).first (by omega)
      obtain ⟨c0, c1⟩ := hrw k hlt
      have KH := hide1 (HH.out k hlt)
      have KH2 := hide1 (HH2.out k hlt)
      have hsl := hashP_len F (R k 0) (R k 1)
      have heq := fun w => eq_seeds hsl hsl (hashP_lt F (R k 0) (R k 1)) (hashP_lt F (R k 0) (R k 1)) w
      rw [decide_eq_true rfl] at heq
      generalize hashP F (R k 0) (R k 1) = s at *
      generalize R k 0 = y0 at *
      generalize R k 1 = y1 at *
      obtain ⟨j2, hj2⟩ : ∃ j, j = oa + k * 2 := ⟨_, rfl⟩
      rw [← hj2] at c0 c1
      have ej : oa + k * 2 = j2 := hj2.symm
      have CA : Hid (∀ W, Below wr.heap.size wr W → W.cell? ⟨ga, j2, none⟩ = some (.int .u64 (y0 : Int)) ∧ W.cell? ⟨ga, j2 + 1, none⟩ = some (.int .u64 (y1 : Int))) := fun W hW => ⟨(hW.cell (p := ⟨ga, j2, none⟩) hga).trans c0, (hW.cell (p := ⟨ga, j2 + 1, none⟩) hga).trans c1⟩
      have HE := hide1 hbe
      have HBW := hide1 hbw
      clear hbe hbw hrw hsl hj2 hga c0 c1
      go_upto_region 6 with (fail)
      refine region_f (F := []) (S := fun W' => Below wr.heap.size wr W') (by kernel_rfl) (Below.refl _ _).drew (fun hS => ?_)
      refine take_p 0 22 (.int .u64 (F : Int)) rfl rfl (by kernel_rfl) (by kernel_rfl) (by kernel_rfl) (fun _ _ _ h => h) rfl (fun w => by go_simp) ?_
      try simp only [List.setIfInBounds_toArray, List.set_cons_zero, List.set_cons_succ]
      refine take_p 1 23 (.slice (some ⟨ga, oa, none⟩) m c) rfl rfl (by kernel_rfl) (by kernel_rfl) (by kernel_rfl) (fun _ _ _ h => h) rfl (fun w => by go_simp) ?_
      try simp only [List.setIfInBounds_toArray, List.set_cons_zero, List.set_cons_succ]
      refine take_p 2 24 (.int .i64 (k : Int)) rfl rfl (by kernel_rfl) (by kernel_rfl) (by kernel_rfl) (fun _ _ _ h => h) rfl (fun w => by go_simp) ?_
      try simp only [List.setIfInBounds_toArray, List.set_cons_zero, List.set_cons_succ]
      refine take_p 3 25 (.pointer (some ⟨ga, j2, none⟩)) rfl rfl (by kernel_rfl) (by kernel_rfl) (by kernel_rfl) (fun _ _ _ h => h) rfl (fun w => by go_simp) ?_
      try simp only [List.setIfInBounds_toArray, List.set_cons_zero, List.set_cons_succ]
      refine take_f 4 26 (.agg #[.int .u64 (y0 : Int), .int .u64 (y1 : Int)]) [5, 11, 12] rfl rfl (by kernel_rfl) (by kernel_rfl) (by kernel_rfl) (by kernel_rfl) (by kernel_rfl) (by kernel_rfl) (fun _ _ _ h => h) rfl (fun w hSw => by have h1 := (CA.out w hSw).1; have h2 := (CA.out w hSw).2; go_simp) hS ?_
      try simp only [List.setIfInBounds_toArray, List.set_cons_zero, List.set_cons_succ]
      refine take_p 6 28 (.int .u64 (F : Int)) rfl rfl (by kernel_rfl) (by kernel_rfl) (by kernel_rfl) (fun _ _ _ h => h) rfl (fun w => by go_simp) ?_
      try simp only [List.setIfInBounds_toArray, List.set_cons_zero, List.set_cons_succ]
      refine take_p 7 29 (.slice (some ⟨ga, oa, none⟩) m c) rfl rfl (by kernel_rfl) (by kernel_rfl) (by kernel_rfl) (fun _ _ _ h => h) rfl (fun w => by go_simp) ?_
      try simp only [List.setIfInBounds_toArray, List.set_cons_zero, List.set_cons_succ]
      refine take_p 8 30 (.int .i64 (k : Int)) rfl rfl (by kernel_rfl) (by kernel_rfl) (by kernel_rfl) (fun _ _ _ h => h) rfl (fun w => by go_simp) ?_
      try simp only [List.setIfInBounds_toArray, List.set_cons_zero, List.set_cons_succ]
      refine take_p 9 31 (.pointer (some ⟨ga, j2, none⟩)) rfl rfl (by kernel_rfl) (by kernel_rfl) (by kernel_rfl) (fun _ _ _ h => h) rfl (fun w => by go_simp) ?_
      try simp only [List.setIfInBounds_toArray, List.set_cons_zero, List.set_cons_succ]
      refine take_f 10 32 (.agg #[.int .u64 (y0 : Int), .int .u64 (y1 : Int)]) [11, 12] rfl rfl (by kernel_rfl) (by kernel_rfl) (by kernel_rfl) (by kernel_rfl) (by kernel_rfl) (by kernel_rfl) (fun _ _ _ h => h) rfl (fun w hSw => by have h1 := (CA.out w hSw).1; have h2 := (CA.out w hSw).2; go_simp) hS ?_
      try simp only [List.setIfInBounds_toArray, List.set_cons_zero, List.set_cons_succ]
      refine ready_f 5 (o := { dst := some 27, op := Op.call { callee := Callee.value (Operand.func 8), args := #[Operand.tmp 22, Operand.tmp 26], argTypes := #[22, 24] }, type := 28, pos := "law.go:62", after := #[{ on := 0, ground := Ground.data }, { on := 4, ground := Ground.data }], guard := none }) (by kernel_rfl) rfl (fun K hK => ?_)
      go_simp
      refine (KH.out _ (HBW.out.trans (hS.mono HBW.out.size))).mono ?_
      rintro e w1 ⟨rfl, hb1⟩
      have hS1 := hS.trans (hb1.mono hS.size)
      refine hK.out _ _ (fun _ _ => hS1) ?_
      clear hb1
      clear hK K
      try simp only [Act.put, List.setIfInBounds_toArray, List.set_cons_zero, List.set_cons_succ]
      refine ready_f 11 (o := { dst := some 33, op := Op.call { callee := Callee.value (Operand.func 9), args := #[Operand.tmp 28, Operand.tmp 32], argTypes := #[22, 24] }, type := 28, pos := "law.go:62", after := #[{ on := 6, ground := Ground.data }, { on := 10, ground := Ground.data }, { on := 5, ground := Ground.chain }], guard := none }) (by kernel_rfl) rfl (fun K hK => ?_)
      go_simp
      refine (KH2.out _).mono ?_
      rintro e w2 ⟨rfl, hb2⟩
      have hS2 := hS1.trans (hb2.mono hS1.size)
      refine hK.out _ _ (fun _ _ => hS2) ?_
      clear hb2
      clear hK K
      try simp only [Act.put, List.setIfInBounds_toArray, List.set_cons_zero, List.set_cons_succ]
      refine take_p 12 34 (.bool false) rfl rfl (by kernel_rfl) (by kernel_rfl) (by kernel_rfl) (fun _ _ _ h => h) rfl (fun w => by exact exec_neq_seed _ _ 28 rfl rfl rfl (heq w)) ?_
      try simp only [List.setIfInBounds_toArray, List.set_cons_zero, List.set_cons_succ]
      refine done_f (by kernel_rfl) ?_ _
      have HS := hide1 (HE.out.trans (hS2.mono HE.out.size))
      clear hS2 heq
      go_wp2
      go_roundw
      case rel => exact ⟨k + 1, by omega, by go_num, HS.out⟩
      case measure => simp [intOf]; omega
    · obtain rfl : k = m := by omega
      have hbw := XB.out.trans (hbe.mono XB.out.size)
      have x0 := (hbe.block _ (lt_heap X0.out)).trans X0.out
      have HBW := hide1 hbw
      have Y0 := hide1 x0
      clear hbe hbw x0 X0 XB HH HH2 HR
      go_upto_region 8 with (fail)
      refine region_f (F := []) (S := fun W' => Below wr.heap.size wr W') (by kernel_rfl) (Below.refl _ _).drew (fun hS => ?_)
      refine take_f 0 35 (.agg #[.int .u64 (d0 : Int), .int .u64 (d1 : Int)]) [3, 7, 8, 9, 10, 11, 12, 13, 14, 15, 16, 17, 18, 19, 20, 21] rfl rfl (by kernel_rfl) (by kernel_rfl) (by kernel_rfl) (by kernel_rfl) (by kernel_rfl) (by kernel_rfl) (fun _ _ _ h => h) rfl (fun w hSw => by exact exec_load_row 24 (.tmp 3) rfl _ rfl 24 _ _ _ ((hSw.block _ (lt_heap Y0.out)).trans Y0.out) Tryd.underlying24 (h26 _ _)) hS ?_
      try simp only [List.setIfInBounds_toArray, List.set_cons_zero, List.set_cons_succ]
      refine take_p 1 36 (.int .u64 (F : Int)) rfl rfl (by kernel_rfl) (by kernel_rfl) (by kernel_rfl) (fun _ _ _ h => h) rfl (fun w => by go_simp) ?_
      try simp only [List.setIfInBounds_toArray, List.set_cons_zero, List.set_cons_succ]
      refine take_p 2 37 (.slice a k c) rfl rfl (by kernel_rfl) (by kernel_rfl) (by kernel_rfl) (fun _ _ _ h => h) rfl (fun w => by go_simp) ?_
      try simp only [List.setIfInBounds_toArray, List.set_cons_zero, List.set_cons_succ]
      refine take_f 4 39 (.agg #[.int .u64 (d0 : Int), .int .u64 (d1 : Int)]) [7, 8, 9, 10, 11, 12, 13, 14, 15, 16, 17, 18, 19, 20, 21] rfl rfl (by kernel_rfl) (by kernel_rfl) (by kernel_rfl) (by kernel_rfl) (by kernel_rfl) (by kernel_rfl) (fun _ _ _ h => h) rfl (fun w hSw => by exact exec_load_row 24 (.tmp 3) rfl _ rfl 24 _ _ _ ((hSw.block _ (lt_heap Y0.out)).trans Y0.out) Tryd.underlying24 (h26 _ _)) hS ?_
      try simp only [List.setIfInBounds_toArray, List.set_cons_zero, List.set_cons_succ]
      refine take_p 5 40 (.int .u64 (F : Int)) rfl rfl (by kernel_rfl) (by kernel_rfl) (by kernel_rfl) (fun _ _ _ h => h) rfl (fun w => by go_simp) ?_
      try simp only [List.setIfInBounds_toArray, List.set_cons_zero, List.set_cons_succ]
      refine take_p 6 41 (.slice a k c) rfl rfl (by kernel_rfl) (by kernel_rfl) (by kernel_rfl) (fun _ _ _ h => h) rfl (fun w => by go_simp) ?_
      try simp only [List.setIfInBounds_toArray, List.set_cons_zero, List.set_cons_succ]
      refine ready_f 3 (o := { dst := some 38, op := Op.call { callee := Callee.value (Operand.func 11), args := #[Operand.tmp 35, Operand.tmp 36, Operand.tmp 37], argTypes := #[24, 22, 25] }, type := 31, pos := "law.go:66", after := #[{ on := 0, ground := Ground.data }, { on := 1, ground := Ground.data }, { on := 2, ground := Ground.data }], guard := none }) (by kernel_rfl) rfl (fun K hK => ?_)
      go_simp
      refine (kS.out _ (HBW.out.trans (hS.mono HBW.out.size))).mono ?_
      rintro e w1 ⟨g1, rfl, hp1, hb1⟩
      have hS1 := hS.trans (hb1.mono hS.size)
      refine hK.out _ _ (fun _ _ => hS1) ?_
      clear hb1 hS
      clear hK K
      try simp only [Act.put, List.setIfInBounds_toArray, List.set_cons_zero, List.set_cons_succ]
      refine ready_f 7 (o := { dst := some 42, op := Op.call { callee := Callee.value (Operand.func 12), args := #[Operand.tmp 39, Operand.tmp 40, Operand.tmp 41], argTypes := #[24, 22, 25] }, type := 33, pos := "law.go:66", after := #[{ on := 4, ground := Ground.data }, { on := 5, ground := Ground.data }, { on := 6, ground := Ground.data }, { on := 3, ground := Ground.chain }], guard := none }) (by kernel_rfl) rfl (fun K hK => ?_)
      go_simp
      refine (kQ.out _ (HBW.out.trans (hS1.mono HBW.out.size))).mono ?_
      rintro e w2 ⟨g2, d2, rfl, hp2, hb2⟩
      have hS2 := hS1.trans (hb2.mono hS1.size)
      have hp1 := hp1.below hb2 (Nat.le_refl _)
      refine hK.out _ _ (fun _ _ => hS2) ?_
      clear hb2 hS1
      clear hK K
      try simp only [Act.put, List.setIfInBounds_toArray, List.set_cons_zero, List.set_cons_succ]
      refine ready_f 8 (o := { dst := some 43, op := Op.call { callee := Callee.value (Operand.func 10), args := #[Operand.tmp 38, Operand.tmp 42], argTypes := #[31, 33] }, type := 4, pos := "law.go:66", after := #[{ on := 3, ground := Ground.data }, { on := 7, ground := Ground.data }, { on := 7, ground := Ground.chain }], guard := none }) (by kernel_rfl) rfl (fun K hK => ?_)
      go_simp
      refine (same_any _ _ _ _ _ _ _ hp1 hp2 (by omega)).mono ?_
      rintro e w3 ⟨rfl, hb3⟩
      have hS3 := hS2.trans (hb3.mono hS2.size)
      refine hK.out _ _ (fun _ _ => hS3) ?_
      clear hb3 hS2
      clear hK K
      try simp only [Act.put, List.setIfInBounds_toArray, List.set_cons_zero, List.set_cons_succ]
      refine take_p 9 44 (.bool true) rfl rfl (by kernel_rfl) (by kernel_rfl) (by kernel_rfl) (fun _ _ _ h => h) rfl (fun w => by go_simp) ?_
      try simp only [List.setIfInBounds_toArray, List.set_cons_zero, List.set_cons_succ]
      refine take_p 10 45 (.int .u64 (F : Int)) rfl rfl (by kernel_rfl) (by kernel_rfl) (by kernel_rfl) (fun _ _ _ h => h) rfl (fun w => by go_simp) ?_
      try simp only [List.setIfInBounds_toArray, List.set_cons_zero, List.set_cons_succ]
      refine take_p 11 46 (.slice a k c) rfl rfl (by kernel_rfl) (by kernel_rfl) (by kernel_rfl) (fun _ _ _ h => h) rfl (fun w => by go_simp) ?_
      try simp only [List.setIfInBounds_toArray, List.set_cons_zero, List.set_cons_succ]
      refine take_p 13 48 (.int .u64 (F : Int)) rfl rfl (by kernel_rfl) (by kernel_rfl) (by kernel_rfl) (fun _ _ _ h => h) rfl (fun w => by go_simp) ?_
      try simp only [List.setIfInBounds_toArray, List.set_cons_zero, List.set_cons_succ]
      refine take_p 14 49 (.slice a k c) rfl rfl (by kernel_rfl) (by kernel_rfl) (by kernel_rfl) (fun _ _ _ h => h) rfl (fun w => by go_simp) ?_
      try simp only [List.setIfInBounds_toArray, List.set_cons_zero, List.set_cons_succ]
      refine ready_f 12 (o := { dst := some 47, op := Op.call { callee := Callee.value (Operand.func 14), args := #[Operand.tmp 45, Operand.tmp 46], argTypes := #[22, 25] }, type := 36, pos := "law.go:66", after := #[{ on := 10, ground := Ground.data }, { on := 11, ground := Ground.data }, { on := 9, ground := Ground.chain }, { on := 9, ground := Ground.guard }], guard := some (9, true) }) (by kernel_rfl) rfl (fun K hK => ?_)
      go_simp
      refine (kR.out _ (HBW.out.trans (hS3.mono HBW.out.size))).mono ?_
      rintro e w4 ⟨g4, rfl, hp4, hb4⟩
      have hS4 := hS3.trans (hb4.mono hS3.size)
      refine hK.out _ _ (fun _ _ => hS4) ?_
      clear hb4 hS3
      clear hK K
      try simp only [Act.put, List.setIfInBounds_toArray, List.set_cons_zero, List.set_cons_succ]
      refine ready_f 15 (o := { dst := some 50, op := Op.call { callee := Callee.value (Operand.func 15), args := #[Operand.tmp 48, Operand.tmp 49], argTypes := #[22, 25] }, type := 36, pos := "law.go:66", after := #[{ on := 13, ground := Ground.data }, { on := 14, ground := Ground.data }, { on := 12, ground := Ground.chain }, { on := 9, ground := Ground.guard }], guard := some (9, true) }) (by kernel_rfl) rfl (fun K hK => ?_)
      go_simp
      refine (kT.out _ (HBW.out.trans (hS4.mono HBW.out.size))).mono ?_
      rintro e w5 ⟨g5, d5, rfl, hp5, hb5⟩
      have hS5 := hS4.trans (hb5.mono hS4.size)
      have hp4 := hp4.below hb5 (Nat.le_refl _)
      refine hK.out _ _ (fun _ _ => hS5) ?_
      clear hb5 hS4
      clear hK K
      try simp only [Act.put, List.setIfInBounds_toArray, List.set_cons_zero, List.set_cons_succ]
      refine ready_f 16 (o := { dst := some 51, op := Op.call { callee := Callee.value (Operand.func 13), args := #[Operand.tmp 47, Operand.tmp 50], argTypes := #[36, 36] }, type := 4, pos := "law.go:66", after := #[{ on := 12, ground := Ground.data }, { on := 15, ground := Ground.data }, { on := 15, ground := Ground.chain }, { on := 9, ground := Ground.guard }], guard := some (9, true) }) (by kernel_rfl) rfl (fun K hK => ?_)
      go_simp
      refine (seeds_any _ _ _ _ _ _ _ hp4 hp5 (by omega)).mono ?_
      rintro e w6 ⟨rfl, hb6⟩
      have hS6 := hS5.trans (hb6.mono hS5.size)
      refine hK.out _ _ (fun _ _ => hS6) ?_
      clear hb6 hS5
      clear hK K
      try simp only [Act.put, List.setIfInBounds_toArray, List.set_cons_zero, List.set_cons_succ]
      refine take_p 17 52 (.bool true) rfl rfl (by kernel_rfl) (by kernel_rfl) (by kernel_rfl) (fun _ _ _ h => h) rfl (fun w => by go_simp) ?_
      try simp only [List.setIfInBounds_toArray, List.set_cons_zero, List.set_cons_succ]
      refine take_p 18 53 (.bool true) rfl rfl (by kernel_rfl) (by kernel_rfl) (by kernel_rfl) (fun _ _ _ h => h) rfl (fun w => by go_simp) ?_
      try simp only [List.setIfInBounds_toArray, List.set_cons_zero, List.set_cons_succ]
      refine ready_f 19 (o := { dst := some 54, op := Op.call { callee := Callee.value (Operand.func 7), args := #[], argTypes := #[] }, type := 4, pos := "law.go:66", after := #[{ on := 18, ground := Ground.chain }, { on := 18, ground := Ground.guard }], guard := some (18, true) }) (by kernel_rfl) rfl (fun K hK => ?_)
      go_simp
      refine (kA.out _ (HBW.out.trans (hS6.mono HBW.out.size))).mono ?_
      rintro e w7 ⟨rfl, hb7⟩
      have hS7 := hS6.trans (hb7.mono hS6.size)
      refine hK.out _ _ (fun _ _ => hS7) ?_
      clear hb7 hS6
      clear hK K
      try simp only [Act.put, List.setIfInBounds_toArray, List.set_cons_zero, List.set_cons_succ]
      refine take_p 20 55 (.bool true) rfl rfl (by kernel_rfl) (by kernel_rfl) (by kernel_rfl) (fun _ _ _ h => h) rfl (fun w => by go_simp) ?_
      try simp only [List.setIfInBounds_toArray, List.set_cons_zero, List.set_cons_succ]
      refine take_p 21 6 (.bool true) rfl rfl (by kernel_rfl) (by kernel_rfl) (by kernel_rfl) (fun _ _ _ h => h) rfl (fun w => by go_simp) ?_
      try simp only [List.setIfInBounds_toArray, List.set_cons_zero, List.set_cons_succ]
      refine done_f (by kernel_rfl) ?_ _
      have HS := hide1 (HBW.out.trans (hS7.mono HBW.out.size))
      clear hS7
      go_wp2
      go_ret
      exact ⟨rfl, HS.out⟩

theorem sends_all (d0 d1 F m c : Nat) (a : Option Addr) (R : Nat → Nat → Nat) (w : World) (hL : Sh.Laid w) (hR : T.Rws w m a R) (h0 : d0 < 18446744073709551616) (h1 : d1 < 18446744073709551616) :
    Calls Tryd.prog 3 #[rw2 d0 d1, .int .u64 (F : Int), .slice a m c] w fun e w' => e = .returned (.bool true) ∧ Below w.heap.size w w' := by
  by_cases h : 40 < m ∨ 1152921504606846976 < F
  · exact sends_else d0 d1 F m c a w hL h
  · exact sends_in d0 d1 F m c a R w hL hR (by omega) (by omega) h0 h1
end Go.Proofs.YtlkkninnfiaedaaDoor.Ro
