/- Rows of both. -/
import Derived.Test.YtgcbdjmlhjbacaaJ24
namespace Go.Proofs.Ytgcbdjmlhjbacaa.Gi
open Go.RowKit Ri
open Go.Proofs.Ytgcbdjmlhjbacaa.St (region_f take_f take_p skip_p ready_f ready2_f done_f)
set_option maxRecDepth 100000
attribute [local go_sem] Ri.not_any Ri.mf_any

def roF (L n : Nat) (us l : List Nat) (t : Nat) : Nat := at0 us (t / n) * at0 l t % 2 ^ L
/- a part of a list -/
theorem run_part (g o N cx p q : Nat) (hpq : p ≤ q) (hq : q ≤ cx) (hp : p < cx) (w : World) : (Instr.slice 22 (.slice (some ⟨g, o, none⟩) N cx) (some (.int .i64 (p : Int))) (some (.int .i64 (q : Int))) none).run Try.prog w = .ok (.slice (some ⟨g, o + p, none⟩) (q - p) (cx - p)) w := by
  have a1 : (0 : Int) ≤ (p : Int) := by omega
  have a2 : (0 : Int) ≤ (q : Int) := by omega
  have a3 : ¬ cx = p := by omega
  simp [Instr.slice, run_underlying Try.underlying22, Instr.sliceBounds, run_sliceBound, a1, a2, a3, hpq, hq, Addr.add]

set_option maxHeartbeats 8000000 in
theorem rows_good (L n k m ca c : Nat) (aa a : Option Addr) (us l : List Nat) (w : World) (h1 : 1 ≤ L) (h2 : L ≤ 64) (h3 : 1 ≤ n) (h4 : n ≤ 6) (hm : m = k * n) (hmx : m ≤ 4096) (hc : m ≤ c) (haa : Nl w k aa us) (ha : Nl w m a l) :
    Calls Try.prog 15 #[.int .i64 (L : Int), .int .i64 (n : Int), .slice aa k ca, .slice a m c] w fun e w' => ∃ a1 c1, e = .returned (.tuple #[.slice a1 m c1, .int .i64 0]) ∧ Nl w' m a1 (tl (roF L n us l) m) ∧ Below w.heap.size w w' := by
  have HA := hide1 ha
  have HB := hide1 haa
  have kN := fun w => hide1 (side_any (n : Int) w)
  rw [okN_of h3 h4] at kN
  have kW := fun w => hide1 (width_any (L : Int) w)
  rw [okW_of h1 h2] at kW
  have hkm : k ≤ 4096 := by
    have : k * 1 ≤ k * n := Nat.mul_le_mul_left k h3
    omega
  have e0 : IntKind.i64.wrap ((n : Int) * (k : Int)) = (m : Int) := by rw [← Int.natCast_mul, Nat.mul_comm, ← hm, wrap_i64_nat (by omega)]
  have nm : ((m : Int) != (m : Int)) = false := by rw [bne_eq_false_iff_eq]
  have hmk := make_empty m (by omega)
  obtain ⟨F, hF⟩ : ∃ F, F = roF L n us l := ⟨_, rfl⟩
  have HF : Shy (∀ i, tl (fun j => fit (L : Int) (at0 us i * at0 (tl (fun j => at0 l (i * n + j)) n) j)) n = tl (fun j => F (i * n + j)) n) := ⟨fun i => tl_congr fun j hj => by rw [fit_nat h1 h2, tl_at hj, hF, roF, place_div hj]⟩
  have HM := hide1 hm
  rw [← hF]
  clear ha haa hm hF
  go_enter Try.func15, Try.ntmps15
  go_wp2_with (first | (go_at_call 30; refine (kN _).out.mono ?_; rintro e w' ⟨rfl, he0⟩; obtain rfl := he0.symm; clear he0) | (go_at_call 34; refine (kW _).out.mono ?_; rintro e w' ⟨rfl, he0⟩; obtain rfl := he0.symm; clear he0) | fail)
  clear hmk
  have W0 := hide1 (wo_made (w := w.alloc (wrow (List.replicate m 0))) (Nat.le_refl _) (by omega) (heap_alloc_new _ _))
  go_loopw [10, 35] (fun v10 v35 wr => ∃ i p : Nat, i ≤ k ∧ p = i * n ∧ v35 = .int .i64 i ∧ Wo w.heap.size wr v10 (tl F p) ∧ Below w.heap.size w wr) (fun _ v35 _ => k - (intOf v35).toNat)
  case atStart => exact ⟨0, 0, Nat.zero_le _, (Nat.zero_mul _).symm, rfl, W0.out, below1 _⟩
  case round =>
    obtain ⟨i, p, hi, hp, rfl, ho, hbe⟩ := hrel
    obtain ⟨la, lc, rfl⟩ := ho.form
    rw [tl_length] at ho
    rw [tl_length]
    by_cases hil : i < k
    · obtain ⟨q, hq⟩ : ∃ q, q = p + n := ⟨_, rfl⟩
      have hqm : q ≤ m := by rw [hq, hp, HM.out, ← Nat.succ_mul]; exact Nat.mul_le_mul_right n hil
      have e1 : IntKind.i64.wrap ((i : Int) * (n : Int)) = (p : Int) := by rw [← Int.natCast_mul, ← hp, wrap_i64_nat (by omega)]
      have e2 : IntKind.i64.wrap (((i : Int) + 1) * (n : Int)) = (q : Int) := by
        have h9 : (((i + 1 : Nat) : Int)) * (n : Int) = (q : Int) := by rw [← Int.natCast_mul, Nat.succ_mul, ← hp, hq]
        rw [show (i : Int) + 1 = ((i + 1 : Nat) : Int) by omega, h9, wrap_i64_nat (by omega)]
      have hpart := HF.out i
      obtain ⟨b, off, hab⟩ : ∃ b off, a = some ⟨b, off, none⟩ := by
        obtain ⟨g, o, e, _⟩ := HA.out.val (k := p) (by omega)
        exact ⟨g, o, e⟩
      subst hab
      have XN0 := Nl.part HA.out HM.out hil
      rw [← hp] at XN0 hpart
      have XN := hide1 (fun X (hX : Below w.heap.size w X) => XN0.below hX (Nat.le_refl _))
      have hs := fun W => run_part b off m c p q (by omega) (by omega) (by omega) W
      rw [show q - p = n by omega] at hs
      obtain ⟨ga, oa, rfl, hca⟩ := (HB.out.below hbe (Nat.le_refl _)).val hil
      obtain ⟨x, hx⟩ : ∃ x, x = at0 us i := ⟨_, rfl⟩
      rw [← hx] at hca hpart
      have kS := hide1 (scale_any (L : Int) x wr n (c - p) _ _ (XN.out wr hbe) (by omega))
      have HO := hide1 ho
      have HE := hide1 hbe
      have HP := hide1 hp
      have HPT := hide1 hpart
      have HQ := hide1 (And.intro hq hqm)
      clear ho hbe hp hpart XN0 hq hx
      go_wp2_with (first
        | (go_at_call 32; refine kS.out.mono ?_; rintro e W1 ⟨rfl, hr1, hb1⟩; have NR := nl_row hr1; rw [told_length, told_tl, HPT.out] at NR; have HB1 := hide1 hb1; clear hb1 hr1)
        | (at_builtin; go_must (refine wpList_append_Wo rfl _ _ rfl (c := n) (A := tl F p) (B := w.heap.size) rfl rfl (HO.out.below HB1.out) NR (by have := HQ.out; rw [tl_length]; omega) (by have := HE.out.size; have := HB1.out.size; omega) ?_); intro a' c' w8 ro8 gr8 wh8; have HX8 : Hid (Wo w.heap.size w8 (.slice a' ((tl F p).length + n) c') (tl F p ++ tl (fun j => F (p + j)) n) ∧ Below w.heap.size w w8) := ⟨ro8, grow_below HE.out HB1.out HO.out gr8⟩; clear ro8 gr8 wh8; rw [tl_length] at HX8; rw [tl_length])
        | fail)
      rw [← tl_add] at HX8
      go_roundw
      case rel => exact ⟨i + 1, p + n, hil, by rw [HP.out, Nat.succ_mul], by go_num, HX8.out.1, HX8.out.2⟩
      case measure => simp [intOf]; omega
    · obtain rfl : i = k := by omega
      have n1 := ho.rd
      rw [hp, ← HM.out] at n1
      rw [hp, ← HM.out]
      have HN := hide1 n1
      have HE := hide1 hbe
      clear n1 ho hbe hp
      go_wp2
      go_ret2
      exact ⟨_, _, rfl, HN.out, HE.out⟩

set_option maxHeartbeats 8000000 in
theorem rrows_good (L n k m ca c : Nat) (aa a : Option Addr) (us l : List Nat) (w : World) (h1 : 1 ≤ L) (h2 : L ≤ 64) (h3 : 1 ≤ n) (h4 : n ≤ 6) (hm : m = k * n) (hmx : m ≤ 4096) (haa : Nl w k aa us) (hsa : Small us) (ha : Nl w m a l) (hs : Small l) :
    Calls Try.prog 16 #[.int .i64 (L : Int), .int .i64 (n : Int), .slice aa k ca, .slice a m c] w fun e w' => ∃ a1 c1, e = .returned (.tuple #[.slice a1 m c1, .int .i64 0]) ∧ Nl w' m a1 (tl (roF L n us l) m) ∧ Below w.heap.size w w' := by
  have HA := hide1 ha
  have HB := hide1 haa
  have HS := hide1 hs
  have HSA := hide1 hsa
  have kW := fun w => hide1 (wrong_any (L : Int) (n : Int) w)
  rw [show bad (L : Int) (n : Int) = false by unfold bad; rw [okW_of h1 h2, okN_of h3 h4]; rfl] at kW
  have kM : Hid (∀ x y : Nat, x < 18446744073709551616 → y < 18446744073709551616 → ∀ W, Calls Try.prog 24 #[.int .i64 (L : Int), .int .u64 (x : Int), .int .u64 (y : Int)] W fun e w' => e = .returned (.int .u64 ((x * y % 2 ^ L : Nat) : Int)) ∧ w' = W) := fun x y hx hy W => rmul_any L x y W h1 h2 hx hy
  have hkm : k ≤ 4096 := by
    have : k * 1 ≤ k * n := Nat.mul_le_mul_left k h3
    omega
  have e0 : IntKind.i64.wrap ((n : Int) * (k : Int)) = (m : Int) := by rw [← Int.natCast_mul, Nat.mul_comm, ← hm, wrap_i64_nat (by omega)]
  have nm : ((m : Int) != (m : Int)) = false := by rw [bne_eq_false_iff_eq]
  obtain ⟨F, hF⟩ : ∃ F, F = roF L n us l := ⟨_, rfl⟩
  have HF : Shy (∀ i j, j < n → F (i * n + j) = at0 us i * at0 l (i * n + j) % 2 ^ L) := ⟨fun i j hj => by rw [hF, roF, place_div hj]⟩
  have HM := hide1 hm
  have B0 := hide1 (Below.refl w.heap.size w)
  rw [← hF]
  clear ha haa hm hF hs hsa
  go_enter Try.func16, Try.ntmps16
  go_wp2_with (first | (go_at_call 18; refine (kW _).out.mono ?_; rintro e w' ⟨rfl, he0⟩; obtain rfl := he0.symm; clear he0) | fail)
  go_loopw [10, 11] (fun v10 v11 wr => ∃ i p : Nat, i ≤ k ∧ p = i * n ∧ v11 = .int .i64 i ∧ Wo w.heap.size wr v10 (tl F p) ∧ Below w.heap.size w wr) (fun _ v11 _ => k - (intOf v11).toNat)
  case atStart => exact ⟨0, 0, Nat.zero_le _, (Nat.zero_mul _).symm, rfl, Wo.nil _ _, B0.out⟩
  case round =>
    obtain ⟨i, p, hi, hp, rfl, ho, hbe⟩ := hrel
    obtain ⟨la, lc, rfl⟩ := ho.form
    by_cases hil : i < k
    · have HO := hide1 ho
      have HE := hide1 hbe
      have HP := hide1 hp
      have hiq : (i : Int) < (k : Int) := by omega
      clear ho hbe hp
      go_wp2
      go_loopw [10, 12] (fun v10 v12 wr => ∃ j p : Nat, j ≤ n ∧ p = i * n + j ∧ v12 = .int .i64 j ∧ Wo w.heap.size wr v10 (tl F p) ∧ Below w.heap.size w wr) (fun _ v12 _ => n - (intOf v12).toNat)
      case atStart => exact ⟨0, p, Nat.zero_le _, HP.out, rfl, HO.out, HE.out⟩
      case round =>
        clear HO HE HP
        obtain ⟨j, p, hj, hp, rfl, ho, hbe⟩ := hrel
        obtain ⟨la, lc, rfl⟩ := ho.form
        rw [tl_length] at ho
        rw [tl_length]
        by_cases hjl : j < n
        · obtain ⟨r, hr⟩ : ∃ r, r = i * n := ⟨_, rfl⟩
          have hpm : p < m := by rw [hp, HM.out]; exact place_lt hil hjl
          have e1 : IntKind.i64.wrap ((i : Int) * (n : Int)) = (r : Int) := by rw [← Int.natCast_mul, ← hr, wrap_i64_nat (by omega)]
          have e2 : IntKind.i64.wrap ((r : Int) + (j : Int)) = (p : Int) := by rw [← Int.natCast_add, hr, ← hp, wrap_i64_nat (by omega)]
          obtain ⟨g, o, rfl, hc⟩ := (HA.out.below hbe (Nat.le_refl _)).val hpm
          obtain ⟨g2, o2, rfl, hc2⟩ := (HB.out.below hbe (Nat.le_refl _)).val hil
          have hv := HF.out i j hjl
          rw [← hp] at hv
          have kM1 := fun W => hide1 (kM.out (at0 us i) (at0 l p) (small_at HSA.out i) (small_at HS.out p) W)
          rw [← hv] at kM1
          obtain ⟨x, hx0⟩ : ∃ x, x = at0 l p := ⟨_, rfl⟩
          obtain ⟨y, hy0⟩ : ∃ y, y = at0 us i := ⟨_, rfl⟩
          obtain ⟨v, hv0⟩ : ∃ v, v = F p := ⟨_, rfl⟩
          rw [← hx0] at hc kM1
          rw [← hy0] at hc2 kM1
          rw [← hv0] at kM1
          have HV := hide1 hv0
          have HO := hide1 ho
          have HE := hide1 hbe
          have HP := hide1 hp
          have hps : (p : Int) < (m : Int) := by omega
          have hp0 : (0 : Int) ≤ (p : Int) := by omega
          have hp4 : p + 1 ≤ 4194304 := by omega
          clear ho hbe hp hv hx0 hy0 hv0 hr hpm
          have CX := hide1 (fun W (hW : Below wr.heap.size wr W) => (hW.cell (p := ⟨g, o + p, none⟩) (lt_cell hc)).trans hc)
          have CY := hide1 (fun W (hW : Below wr.heap.size wr W) => (hW.cell (p := ⟨g2, o2 + i, none⟩) (lt_cell hc2)).trans hc2)
          clear hc hc2
          go_upto_region 10 with (fail)
          refine region_f (F := [16]) (S := fun W => Below wr.heap.size wr W) (by kernel_rfl) (Below.refl _ _).drew (fun hS => ?_)
          refine take_p 0 36 (.slice la p lc) rfl rfl (by kernel_rfl) (by kernel_rfl) (by kernel_rfl) (fun _ _ _ h => h) rfl (fun w => by go_simp) ?_
          try simp only [List.setIfInBounds_toArray, List.set_cons_zero, List.set_cons_succ]
          refine take_p 1 37 (.int .i64 (L : Int)) rfl rfl (by kernel_rfl) (by kernel_rfl) (by kernel_rfl) (fun _ _ _ h => h) rfl (fun w => by go_simp) ?_
          try simp only [List.setIfInBounds_toArray, List.set_cons_zero, List.set_cons_succ]
          refine take_p 2 38 (.slice (some ⟨g2, o2, none⟩) k ca) rfl rfl (by kernel_rfl) (by kernel_rfl) (by kernel_rfl) (fun _ _ _ h => h) rfl (fun w => by go_simp) ?_
          try simp only [List.setIfInBounds_toArray, List.set_cons_zero, List.set_cons_succ]
          refine take_p 3 39 (.int .i64 (i : Int)) rfl rfl (by kernel_rfl) (by kernel_rfl) (by kernel_rfl) (fun _ _ _ h => h) rfl (fun w => by go_simp) ?_
          try simp only [List.setIfInBounds_toArray, List.set_cons_zero, List.set_cons_succ]
          refine take_p 4 40 (.pointer (some ⟨g2, o2 + i, none⟩)) rfl rfl (by kernel_rfl) (by kernel_rfl) (by kernel_rfl) (fun _ _ _ h => h) rfl (fun w => by go_simp) ?_
          try simp only [List.setIfInBounds_toArray, List.set_cons_zero, List.set_cons_succ]
          refine take_f 5 41 (.int .u64 (y : Int)) [14, 15, 16, 17] rfl rfl (by kernel_rfl) (by kernel_rfl) (by kernel_rfl) (by kernel_rfl) (by kernel_rfl) (by kernel_rfl) (fun _ _ _ h => h) rfl (fun w hSw => by have h1 := CY.out w hSw; go_simp) hS ?_
          try simp only [List.setIfInBounds_toArray, List.set_cons_zero, List.set_cons_succ]
          refine take_p 6 42 (.slice (some ⟨g, o, none⟩) m c) rfl rfl (by kernel_rfl) (by kernel_rfl) (by kernel_rfl) (fun _ _ _ h => h) rfl (fun w => by go_simp) ?_
          try simp only [List.setIfInBounds_toArray, List.set_cons_zero, List.set_cons_succ]
          refine take_p 7 43 (.int .i64 (i : Int)) rfl rfl (by kernel_rfl) (by kernel_rfl) (by kernel_rfl) (fun _ _ _ h => h) rfl (fun w => by go_simp) ?_
          try simp only [List.setIfInBounds_toArray, List.set_cons_zero, List.set_cons_succ]
          refine take_p 8 44 (.int .i64 (n : Int)) rfl rfl (by kernel_rfl) (by kernel_rfl) (by kernel_rfl) (fun _ _ _ h => h) rfl (fun w => by go_simp) ?_
          try simp only [List.setIfInBounds_toArray, List.set_cons_zero, List.set_cons_succ]
          refine take_p 9 45 (.int .i64 (r : Int)) rfl rfl (by kernel_rfl) (by kernel_rfl) (by kernel_rfl) (fun _ _ _ h => h) rfl (fun w => by go_simp) ?_
          try simp only [List.setIfInBounds_toArray, List.set_cons_zero, List.set_cons_succ]
          refine take_p 10 46 (.int .i64 (j : Int)) rfl rfl (by kernel_rfl) (by kernel_rfl) (by kernel_rfl) (fun _ _ _ h => h) rfl (fun w => by go_simp) ?_
          try simp only [List.setIfInBounds_toArray, List.set_cons_zero, List.set_cons_succ]
          refine take_p 11 47 (.int .i64 (p : Int)) rfl rfl (by kernel_rfl) (by kernel_rfl) (by kernel_rfl) (fun _ _ _ h => h) rfl (fun w => by go_simp) ?_
          try simp only [List.setIfInBounds_toArray, List.set_cons_zero, List.set_cons_succ]
          refine take_p 12 48 (.pointer (some ⟨g, o + p, none⟩)) rfl rfl (by kernel_rfl) (by kernel_rfl) (by kernel_rfl) (fun _ _ _ h => h) rfl (fun w => by go_simp) ?_
          try simp only [List.setIfInBounds_toArray, List.set_cons_zero, List.set_cons_succ]
          refine take_f 13 49 (.int .u64 (x : Int)) [14, 15, 16, 17] rfl rfl (by kernel_rfl) (by kernel_rfl) (by kernel_rfl) (by kernel_rfl) (by kernel_rfl) (by kernel_rfl) (fun _ _ _ h => h) rfl (fun w hSw => by have h1 := CX.out w hSw; go_simp) hS ?_
          try simp only [List.setIfInBounds_toArray, List.set_cons_zero, List.set_cons_succ]
          refine ready_f 14 (o := { dst := some 50, op := Op.call { callee := Callee.value (Operand.func 24), args := #[Operand.tmp 37, Operand.tmp 41, Operand.tmp 49], argTypes := #[3, 44, 44] }, type := 44, pos := "ref.go:74", after := #[{ on := 1, ground := Ground.data }, { on := 5, ground := Ground.data }, { on := 13, ground := Ground.data }], guard := none }) (by kernel_rfl) rfl (fun K hK => ?_)
          go_simp
          refine (kM1 _).out.mono ?_
          rintro e w' ⟨rfl, he0⟩
          obtain rfl := he0.symm
          refine hK.out _ _ (fun _ h => h) ?_
          clear hK K
          try simp only [Act.put, List.setIfInBounds_toArray, List.set_cons_zero, List.set_cons_succ]
          refine ready_f 15 (o := { dst := some 51, op := Op.buildSlice 22 1 #[(0, Operand.tmp 50)], type := 22, pos := "ref.go:74", after := #[{ on := 14, ground := Ground.data }], guard := none }) (by kernel_rfl) rfl (fun K hK => ?_)
          go_simp
          generalize hU : World.drew (World.alloc _ _) = U
          have hU0 : U.heap[wr.heap.size]? = some (.cells #[.int .u64 (v : Int)] 44 (0, 0)) := by rw [← hU]; exact heap_alloc_new _ _
          have hS3 : Below wr.heap.size wr U := by rw [← hU]; exact ((Below.refl _ _).alloc (Nat.le_refl _) _).drew
          clear hU
          refine hK.out _ _ (fun _ _ => hS3) ?_
          clear hK K
          try simp only [Act.put, List.setIfInBounds_toArray, List.set_cons_zero, List.set_cons_succ]
          refine ready_f 16 (o := { dst := some 52, op := Op.call { callee := Callee.builtin Builtin.append, args := #[Operand.tmp 36, Operand.tmp 51], argTypes := #[22, 22] }, type := 22, pos := "ref.go:74", after := #[{ on := 0, ground := Ground.data }, { on := 15, ground := Ground.data }, { on := 14, ground := Ground.chain }], guard := none }) (by kernel_rfl) rfl (fun K hK => ?_)
          rw [if_pos (by rfl)]
          refine wp_append_Wo (c := 1) _ _ rfl (A := tl F p) (B := w.heap.size) rfl rfl (HO.out.below hS3) (one_Wo hU0) (by rw [tl_length]; omega) (by have := hS3.size; have := HE.out.size; omega) ?_
          intro a' c' w8 ro8 gr8 wh8
          have HX8 : Hid (Wo w.heap.size w8 (.slice a' ((tl F p).length + 1) c') (tl F p ++ [v]) ∧ Below w.heap.size w w8) := ⟨ro8, grow_below HE.out hS3 HO.out gr8⟩
          clear ro8 gr8 wh8
          rw [tl_length] at HX8
          rw [tl_length]
          refine hK.out _ _ (fun h => absurd (by decide) h) ?_
          clear hK K
          try simp only [Act.put, List.setIfInBounds_toArray, List.set_cons_zero, List.set_cons_succ]
          refine take_p 17 10 (.slice a' (p + 1) c') rfl rfl (by kernel_rfl) (by kernel_rfl) (by kernel_rfl) (fun _ _ _ h => h) rfl (fun w => by go_simp) ?_
          try simp only [List.setIfInBounds_toArray, List.set_cons_zero, List.set_cons_succ]
          refine done_f (by kernel_rfl) ?_ _
          go_wp2
          rw [HV.out, ← tl_succ] at HX8
          go_roundw
          case rel => exact ⟨j + 1, p + 1, hjl, by rw [HP.out]; rfl, by go_num, HX8.out.1, HX8.out.2⟩
          case measure => simp [intOf]; omega
        · obtain rfl : j = n := by omega
          have HO := hide1 ho
          have HE := hide1 hbe
          have HP := hide1 hp
          clear ho hbe hp
          go_wp2
          go_roundw
          case rel => exact ⟨i + 1, p, hil, by rw [HP.out, ← Nat.succ_mul], by go_num, HO.out, HE.out⟩
          case measure => simp [intOf]; omega
    · obtain rfl : i = k := by omega
      have n1 := ho.rd
      rw [tl_length] at n1
      rw [tl_length]
      rw [hp, ← HM.out] at n1 ⊢
      have HN := hide1 n1
      have HE := hide1 hbe
      clear n1 ho hbe hp
      go_wp2
      go_ret2
      exact ⟨_, _, rfl, HN.out, HE.out⟩

/- may there be so many rows? -/
def okR (W n : Int) (k m : Nat) : Bool := (okW W && okN n) && decide (m = k * n.toNat)
theorem rows_bad (W n : Int) (k m ca c : Nat) (aa a : Option Addr) (w : World) (hk : k ≤ 4096) (ho : okR W n k m = false) :
    Calls Try.prog 15 #[.int .i64 W, .int .i64 n, .slice aa k ca, .slice a m c] w fun e w' => e = .returned (.tuple #[.slice none 0 0, .int .i64 11]) ∧ w' = w := by
  have kN := fun w => hide1 (side_any n w)
  have kW := fun w => hide1 (width_any W w)
  cases hn : okN n with
  | false =>
    rw [hn] at kN
    clear ho
    go_enter Try.func15, Try.ntmps15
    go_wp2_with (first | (go_at_call 30; refine (kN _).out.mono ?_; rintro e w' ⟨rfl, he0⟩; obtain rfl := he0.symm; clear he0) | fail)
    go_ret2
    exact ⟨rfl, rfl⟩
  | true =>
    rw [hn] at kN
    cases hW : okW W with
    | false =>
      rw [hW] at kW
      clear ho
      go_enter Try.func15, Try.ntmps15
      go_wp2_with (first | (go_at_call 30; refine (kN _).out.mono ?_; rintro e w' ⟨rfl, he0⟩; obtain rfl := he0.symm; clear he0) | (go_at_call 34; refine (kW _).out.mono ?_; rintro e w' ⟨rfl, he0⟩; obtain rfl := he0.symm; clear he0) | fail)
      go_ret2
      exact ⟨rfl, rfl⟩
    | true =>
      rw [hW] at kW
      unfold okR at ho
      rw [hW, hn] at ho
      obtain ⟨N, rfl, h3, h4⟩ := okN_nat hn
      have hne : m ≠ k * N := by simpa using ho
      obtain ⟨q, hq⟩ : ∃ q, q = N * k := ⟨_, rfl⟩
      have hqb : q ≤ 6 * 4096 := by rw [hq]; exact Nat.mul_le_mul h4 hk
      have e1 : IntKind.i64.wrap ((N : Int) * (k : Int)) = (q : Int) := by rw [← Int.natCast_mul, ← hq, wrap_i64_nat (by omega)]
      have nm : ((m : Int) != (q : Int)) = true := by rw [bne_iff_ne, hq, Nat.mul_comm]; omega
      clear ho hn hW hq hne
      go_enter Try.func15, Try.ntmps15
      go_wp2_with (first | (go_at_call 30; refine (kN _).out.mono ?_; rintro e w' ⟨rfl, he0⟩; obtain rfl := he0.symm; clear he0) | (go_at_call 34; refine (kW _).out.mono ?_; rintro e w' ⟨rfl, he0⟩; obtain rfl := he0.symm; clear he0) | fail)
      go_ret2
      exact ⟨rfl, rfl⟩
theorem rrows_bad (W n : Int) (k m ca c : Nat) (aa a : Option Addr) (w : World) (hk : k ≤ 4096) (ho : okR W n k m = false) :
    Calls Try.prog 16 #[.int .i64 W, .int .i64 n, .slice aa k ca, .slice a m c] w fun e w' => e = .returned (.tuple #[.slice none 0 0, .int .i64 11]) ∧ w' = w := by
  have kW := fun w => hide1 (wrong_any W n w)
  cases hb : bad W n with
  | true =>
    rw [hb] at kW
    clear ho
    go_enter Try.func16, Try.ntmps16
    go_wp2_with (first | (go_at_call 18; refine (kW _).out.mono ?_; rintro e w' ⟨rfl, he0⟩; obtain rfl := he0.symm; clear he0) | fail)
    go_ret2
    exact ⟨rfl, rfl⟩
  | false =>
    rw [hb] at kW
    obtain ⟨hW, hn⟩ := bad_no hb
    unfold okR at ho
    rw [hW, hn] at ho
    obtain ⟨N, rfl, h3, h4⟩ := okN_nat hn
    have hne : m ≠ k * N := by simpa using ho
    obtain ⟨q, hq⟩ : ∃ q, q = N * k := ⟨_, rfl⟩
    have hqb : q ≤ 6 * 4096 := by rw [hq]; exact Nat.mul_le_mul h4 hk
    have e1 : IntKind.i64.wrap ((N : Int) * (k : Int)) = (q : Int) := by rw [← Int.natCast_mul, ← hq, wrap_i64_nat (by omega)]
    have nm : ((m : Int) != (q : Int)) = true := by rw [bne_iff_ne, hq, Nat.mul_comm]; omega
    clear ho hn hW hq hne hb
    go_enter Try.func16, Try.ntmps16
    go_wp2_with (first | (go_at_call 18; refine (kW _).out.mono ?_; rintro e w' ⟨rfl, he0⟩; obtain rfl := he0.symm; clear he0) | fail)
    go_ret2
    exact ⟨rfl, rfl⟩

/- what both tell -/
def roL (W n : Int) (m : Nat) (us l : List Nat) : List Nat := tl (roF W.toNat n.toNat us l) m
theorem okR_yes {W n : Int} {k m : Nat} (h : okR W n k m = true) : okW W = true ∧ okN n = true ∧ m = k * n.toNat := by
  unfold okR at h
  simpa [and_assoc] using h
theorem rows_any (W n : Int) (k m ca c : Nat) (aa a : Option Addr) (us l : List Nat) (w : World) (hmx : m ≤ 4096) (hk : k ≤ 4096) (hc : m ≤ c) (haa : Nl w k aa us) (ha : Nl w m a l) :
    Calls Try.prog 15 #[.int .i64 W, .int .i64 n, .slice aa k ca, .slice a m c] w (NPost (okR W n k m) (roL W n m us l) w) := by
  cases ho : okR W n k m with
  | false => exact (rows_bad W n k m ca c aa a w hk ho).mono fun e w' ⟨he, hb⟩ => npost_bad he (by rw [hb]; exact Below.refl _ _)
  | true =>
    obtain ⟨hW, hn, hm⟩ := okR_yes ho
    obtain ⟨L, rfl, h1, h2⟩ := okW_nat hW
    obtain ⟨N, rfl, h3, h4⟩ := okN_nat hn
    exact (rows_good L N k m ca c aa a us l w h1 h2 h3 h4 hm hmx hc haa ha).mono fun e w' ⟨a1, c1, he, hn, hb⟩ => npost_good he hn hb
theorem rrows_any (W n : Int) (k m ca c : Nat) (aa a : Option Addr) (us l : List Nat) (w : World) (hmx : m ≤ 4096) (hk : k ≤ 4096) (haa : Nl w k aa us) (hsa : Small us) (ha : Nl w m a l) (hs : Small l) :
    Calls Try.prog 16 #[.int .i64 W, .int .i64 n, .slice aa k ca, .slice a m c] w (NPost (okR W n k m) (roL W n m us l) w) := by
  cases ho : okR W n k m with
  | false => exact (rrows_bad W n k m ca c aa a w hk ho).mono fun e w' ⟨he, hb⟩ => npost_bad he (by rw [hb]; exact Below.refl _ _)
  | true =>
    obtain ⟨hW, hn, hm⟩ := okR_yes ho
    obtain ⟨L, rfl, h1, h2⟩ := okW_nat hW
    obtain ⟨N, rfl, h3, h4⟩ := okN_nat hn
    exact (rrows_good L N k m ca c aa a us l w h1 h2 h3 h4 hm hmx haa hsa ha hs).mono fun e w' ⟨a1, c1, he, hn, hb⟩ => npost_good he hn hb
end Go.Proofs.Ytgcbdjmlhjbacaa.Gi
