/- TransPacks. -/
import Derived.Test.YtaghcbmipihpmaaUu
namespace Go.Proofs.Ytaghcbmipihpmaa
open Go.RowKit
set_option maxRecDepth 100000
attribute [local go_sem] not_any

theorem prt_list (s : ByteArray) (sz i : Nat) : (prt s sz i).data.toList = (s.data.toList.drop (i * sz)).take sz := by
  unfold prt
  rw [ByteArray.data_extract, Array.toList_extract, List.extract_eq_take_drop, Nat.add_sub_cancel_left]
theorem pk_take {n sz : Nat} {s : ByteArray} (hz : sz = need n 8) (hs : s.size = 128 * sz) (hc : ∀ i, i < 128 → Clean n (prt s sz i)) : ∀ k, k ≤ 128 → pkL (fun i => rbits n (prt s sz i)) k = s.data.toList.take (k * sz)
  | 0, _ => by rw [pkL, Nat.zero_mul, List.take_zero]
  | k + 1, hk => by
    rw [pkL, pk_take hz hs hc k (by omega), chunks_rbits (hc k (by omega)) (by rw [prt_size hs (by omega)]; exact hz), txt_nums, prt_list, Nat.succ_mul, List.take_add]
theorem pk_back {n sz : Nat} {s : ByteArray} (hz : sz = need n 8) (hs : s.size = 128 * sz) (hc : ∀ i, i < 128 → Clean n (prt s sz i)) : (⟨(pkL (fun i => rbits n (prt s sz i)) 128).toArray⟩ : ByteArray) = s := by
  have h : s.data.toList.length ≤ 128 * sz := by rw [Array.length_toList, ← hs]; exact Nat.le_refl _
  rw [pk_take hz hs hc 128 (by omega), List.take_of_length_le h, Array.toArray_toList]

set_option maxHeartbeats 2000000 in
theorem packs_bad (w : World) (n : Int) (s : ByteArray) (c : Nat) (hs : s.size ≤ 9000) (hc : c ≠ 0)
    (kU : Calls Try.prog 16 #[.int .i64 n, .string s] w fun e w' => e = .returned (.tuple #[.slice none 0 0, .int .i64 (c : Nat)]) ∧ Below w.heap.size w w')
    (kR : ∀ w, Calls Try.prog 17 #[.int .i64 n, .string s] w fun e w' => e = .returned (.tuple #[.slice none 0 0, .int .i64 (c : Nat)]) ∧ Below w.heap.size w w') :
    Calls Try.prog 5 #[.int .i64 n, .string s] w fun e w' => e = .returned (.bool true) ∧ Below w.heap.size w w' := by
  have kA := fun w => hide1 (awake_any w)
  have KU := hide1 kU
  have KR := hide1 kR
  have h1 : ¬ (9000 : Int) < (s.size : Int) := by omega
  have t1 : ((c : Int) != (c : Int)) = false := by simp
  have t2 : ((c : Int) != 0) = true := by rw [bne_iff_ne]; omega
  have t3 : ¬ (c : Int) = 0 := by omega
  clear kU kR
  go_enter Try.func5, Try.ntmps5
  go_wp2_with fail
  go_at_call 16
  refine KU.out.mono ?_
  rintro e w1 ⟨rfl, hb1⟩
  have B1 := hide1 hb1
  clear hb1 KU
  go_wp2_with fail
  go_at_call 17
  refine (KR.out _).mono ?_
  rintro e w2 ⟨rfl, hb2⟩
  have B2 := hide1 (B1.out.trans (hb2.mono B1.out.size))
  clear hb2 KR
  go_wp2
  go_loopw [9] (fun i wr => i = .int .i64 0 ∧ wr = w2) (fun i _ => 0)
  case atStart => exact ⟨rfl, rfl⟩
  case round =>
    obtain ⟨rfl, rfl⟩ := hrel
    go_wp2_with fail
    go_at_call 6
    refine (kA _).out.mono ?_
    rintro e w9 ⟨rfl, hb9⟩
    have HB9 := hide1 hb9
    clear hb9
    go_wp2
    go_ret
    exact ⟨rfl, B2.out.trans (HB9.out.mono B2.out.size)⟩

set_option maxHeartbeats 4000000 in
theorem packs_good (w : World) (n : Nat) (s : ByteArray) (hs : s.size ≤ 9000) (hn : n ≤ 65536) (hz : s.size = 128 * need n 8) (hcl : ∀ i, i < 128 → Clean n (prt s (need n 8) i)) :
    Calls Try.prog 5 #[.int .i64 n, .string s] w fun e w' => e = .returned (.bool true) ∧ Below w.heap.size w w' := by
  have kA := fun w => hide1 (awake_any w)
  have KU := hide1 (unpack_any n s w hn)
  have KR := fun w => hide1 (runpack_any n s w hn)
  have h1 : ¬ (9000 : Int) < (s.size : Int) := by omega
  have HPB := hide1 (pk_back rfl hz hcl)
  have HCL : Hid (∀ i, i < 128 → cd n (prt s (need n 8) i) = 0) := fun i hi => cd_clean (hcl i hi)
  have HZ := hide1 hz
  have t0 : ((128 : Int) != 128) = false := by decide
  clear hz hcl
  go_enter Try.func5, Try.ntmps5
  go_wp2_with fail
  go_at_call 16
  refine KU.out.mono ?_
  rintro e w1 ⟨hG, _⟩
  obtain ⟨hb1, hg⟩ := hG HZ.out
  rcases hg with ⟨k, g1, _, g3, _⟩ | ⟨_, g, aa, rfl, hv⟩
  · exact absurd (HCL.out k g1) g3
  have B1 := hide1 hb1
  have V1 := hide1 hv
  clear hb1 hv KU
  go_wp2_with fail
  go_at_call 17
  refine (KR _).out.mono ?_
  rintro e w2 ⟨hG, _⟩
  obtain ⟨hb2, hg⟩ := hG HZ.out
  rcases hg with ⟨k, g1, _, g3, _⟩ | ⟨_, g2, c2, ab, cc, rfl, hr⟩
  · exact absurd (HCL.out k g1) g3
  have B2 := hide1 (B1.out.trans (hb2.mono B1.out.size))
  have V2 := hide1 (V1.out.below hb2 (Nat.le_refl _))
  have R2 := hide1 hr
  clear hb2 hr KR V1 B1
  go_wp2
  go_loopw [9] (fun i wr => ∃ k : Nat, k ≤ 128 ∧ i = .int .i64 k ∧ Below w2.heap.size w2 wr) (fun i _ => 128 - (intOf i).toNat)
  case atStart => exact ⟨0, Nat.zero_le _, rfl, Below.refl _ _⟩
  case round =>
    obtain ⟨k, hk, rfl, hbe⟩ := hrel
    have HBE := hide1 hbe
    have HV := hide1 (V2.out.below hbe (Nat.le_refl _))
    have HRR := hide1 (R2.out.below hbe)
    clear hbe
    by_cases hlt : k < 128
    · obtain ⟨Z, hZ⟩ : ∃ Z, Z = wr := ⟨_, rfl⟩
      subst hZ
      obtain ⟨g', o', e', hgl, hcs⟩ := HV.out.first (by omega)
      cases e'
      obtain ⟨g3, c3, e3, hgl3, hcs3⟩ := HRR.out.at'
      cases e3
      have BL2 := hide1 (HRR.out.bl k hlt)
      have kB : Hid (∀ W', Below Z.heap.size Z W' → Calls Try.prog 9 #[.agg #[.int .i64 n, .slice (aa k) (need n 64) (need n 64)]] W' fun e w' => ∃ a', e = .returned (.slice a' n n) ∧ Bl w' n a' (rbits n (prt s (need n 8) k)) ∧ Below W'.heap.size W' w') := fun W' h => bools_any 0 W' n (aa k) _ ((HV.out.vc k hlt).below h (Nat.le_refl _)) (by omega)
      have CA : Hid (∀ W', Below Z.heap.size Z W' → W'.cell? ⟨g, k * 2, none⟩ = some (.int .i64 n) ∧ W'.cell? ⟨g, k * 2 + 1, none⟩ = some (.slice (aa k) (need n 64) (need n 64))) := fun W' h => by
        have d := hcs k hlt
        rw [Nat.zero_add] at d
        exact ⟨(h.cell (p := ⟨g, k * 2, none⟩) hgl).trans d.1, (h.cell (p := ⟨g, k * 2 + 1, none⟩) hgl).trans d.2⟩
      have CB : Hid (∀ W', Below Z.heap.size Z W' → W'.cell? ⟨g2, k, none⟩ = some (.slice (ab k) n (cc k))) := fun W' h => (h.cell (p := ⟨g2, k, none⟩) hgl3).trans (hcs3 k hlt)
      clear hcs hcs3
      generalize aa k = ak at *
      generalize ab k = a2 at *
      generalize cc k = c9 at *
      have hk2 : (k : Int) < 128 := by omega
      go_upto_region 10 with (fail)
      refine region_f (F := []) (S := fun W' => Below Z.heap.size Z W') (by kernel_rfl) (Below.refl _ _).drew (fun hS => ?_)
      refine take_p 0 44 (.slice (some ⟨g, 0, none⟩) 128 128) rfl rfl (by kernel_rfl) (by kernel_rfl) (by kernel_rfl) (fun _ _ _ h => h) rfl (fun w => by go_simp) ?_
      try simp only [List.setIfInBounds_toArray, List.set_cons_zero, List.set_cons_succ]
      refine take_p 1 45 (.int .i64 (k : Int)) rfl rfl (by kernel_rfl) (by kernel_rfl) (by kernel_rfl) (fun _ _ _ h => h) rfl (fun w => by go_simp) ?_
      try simp only [List.setIfInBounds_toArray, List.set_cons_zero, List.set_cons_succ]
      refine take_p 2 46 (.pointer (some ⟨g, k * 2, none⟩)) rfl rfl (by kernel_rfl) (by kernel_rfl) (by kernel_rfl) (fun _ _ _ h => h) rfl (fun w => by go_simp) ?_
      try simp only [List.setIfInBounds_toArray, List.set_cons_zero, List.set_cons_succ]
      refine take_f 3 47 (.agg #[.int .i64 (n : Int), .slice ak (need n 64) (need n 64)]) [4, 9, 10] rfl rfl (by kernel_rfl) (by kernel_rfl) (by kernel_rfl) (by kernel_rfl) (by kernel_rfl) (by kernel_rfl) (fun _ _ _ h => h) rfl (fun w hSw => by have h1 := (CA.out w hSw).1; have h2 := (CA.out w hSw).2; go_simp) hS ?_
      try simp only [List.setIfInBounds_toArray, List.set_cons_zero, List.set_cons_succ]
      refine take_p 5 49 (.slice (some ⟨g2, 0, none⟩) 128 c2) rfl rfl (by kernel_rfl) (by kernel_rfl) (by kernel_rfl) (fun _ _ _ h => h) rfl (fun w => by go_simp) ?_
      try simp only [List.setIfInBounds_toArray, List.set_cons_zero, List.set_cons_succ]
      refine take_p 6 50 (.int .i64 (k : Int)) rfl rfl (by kernel_rfl) (by kernel_rfl) (by kernel_rfl) (fun _ _ _ h => h) rfl (fun w => by go_simp) ?_
      try simp only [List.setIfInBounds_toArray, List.set_cons_zero, List.set_cons_succ]
      refine take_p 7 51 (.pointer (some ⟨g2, k, none⟩)) rfl rfl (by kernel_rfl) (by kernel_rfl) (by kernel_rfl) (fun _ _ _ h => h) rfl (fun w => by go_simp) ?_
      try simp only [List.setIfInBounds_toArray, List.set_cons_zero, List.set_cons_succ]
      refine take_f 8 52 (.slice a2 n c9) [9, 10] rfl rfl (by kernel_rfl) (by kernel_rfl) (by kernel_rfl) (by kernel_rfl) (by kernel_rfl) (by kernel_rfl) (fun _ _ _ h => h) rfl (fun w hSw => by have h1 := CB.out w hSw; go_simp) hS ?_
      try simp only [List.setIfInBounds_toArray, List.set_cons_zero, List.set_cons_succ]
      refine ready_f 4 (o := { dst := some 48, op := Op.call { callee := Callee.value (Operand.func 9), args := #[Operand.tmp 47], argTypes := #[32] }, type := 29, pos := "law.go:102", after := #[{ on := 3, ground := Ground.data }], guard := none }) (by kernel_rfl) rfl (fun K hK => ?_)
      go_simp
      refine (kB.out _ hS).mono ?_
      rintro e w1 ⟨a1, rfl, hl1, hb1⟩
      have hS1 := hS.trans (hb1.mono hS.size)
      refine hK.out _ _ (fun _ _ => hS1) ?_
      clear hK K
      try simp only [Act.put, List.setIfInBounds_toArray, List.set_cons_zero, List.set_cons_succ]
      have kS := hide1 (same_any w1 n n n c9 a1 a2 _ _ hl1 (BL2.out.below hS1 (Nat.le_refl _)) (by omega) (by omega))
      rw [decide_eq_true rfl] at kS
      clear hl1
      refine ready_f 9 (o := { dst := some 53, op := Op.call { callee := Callee.value (Operand.func 8), args := #[Operand.tmp 48, Operand.tmp 52], argTypes := #[29, 29] }, type := 4, pos := "law.go:102", after := #[{ on := 4, ground := Ground.data }, { on := 8, ground := Ground.data }, { on := 4, ground := Ground.chain }], guard := none }) (by kernel_rfl) rfl (fun K hK => ?_)
      go_simp
      refine kS.out.mono ?_
      rintro e w2 ⟨rfl, q2, rfl⟩
      have hS2 : Below Z.heap.size Z (w1.drewN q2) := hS1.trans (below_dn _ _ _)
      refine hK.out _ _ (fun _ _ => hS2) ?_
      clear hK K
      try simp only [Act.put, List.setIfInBounds_toArray, List.set_cons_zero, List.set_cons_succ]
      refine take_p 10 54 (.bool false) rfl rfl (by kernel_rfl) (by kernel_rfl) (by kernel_rfl) (fun _ _ _ h => h) rfl (fun w => by go_simp) ?_
      try simp only [List.setIfInBounds_toArray, List.set_cons_zero, List.set_cons_succ]
      refine done_f (by kernel_rfl) ?_ _
      have HS2 := hide1 hS2
      clear hS1 hS2 hS kS
      go_wp2
      go_roundw
      case rel => exact ⟨k + 1, by omega, by go_num, HBE.out.trans (HS2.out.mono HBE.out.size)⟩
      case measure => simp [intOf]; omega
    · obtain rfl : k = 128 := by omega
      have kP := hide1 (pack_yes wr n 128 _ _ _ _ HV.out (fun _ _ => rfl) hn)
      rw [HPB.out] at kP
      go_wp2_with fail
      go_at_call 13
      refine kP.out.mono ?_
      rintro e w3 ⟨rfl, hb3⟩
      have B3 := hide1 ((B2.out.trans (HBE.out.mono B2.out.size)).trans (hb3.mono (B2.out.trans (HBE.out.mono B2.out.size)).size))
      clear hb3 kP
      go_wp2_with fail
      go_at_call 6
      refine (kA _).out.mono ?_
      rintro e w9 ⟨rfl, hb9⟩
      have HB9 := hide1 hb9
      clear hb9
      go_wp2
      go_ret
      exact ⟨rfl, B3.out.trans (HB9.out.mono B3.out.size)⟩

theorem packs_law (w : World) (n : Int) (s : ByteArray) :
    Calls Try.prog 5 #[.int .i64 n, .string s] w fun e w' => e = .returned (.bool true) ∧ Below w.heap.size w w' := by
  by_cases hs : 9000 < s.size
  · have kA := fun w => hide1 (awake_any w)
    have h1 : (9000 : Int) < (s.size : Int) := by omega
    go_enter Try.func5, Try.ntmps5
    go_wp2_with fail
    go_at_call 6
    refine (kA _).out.mono ?_
    rintro e w1 ⟨rfl, hb⟩
    have HB := hide1 hb
    clear hb kA
    go_wp2
    go_ret
    exact ⟨rfl, HB.out⟩
  · by_cases hr : n < 0 ∨ 65536 < n
    · exact packs_bad w n s 2 (by omega) (by omega) (unpack_no n s w hr) (fun w => runpack_no n s w hr)
    · obtain ⟨k, rfl⟩ := Int.eq_ofNat_of_zero_le (show 0 ≤ n by omega)
      have hk : k ≤ 65536 := by omega
      by_cases hz : s.size = 128 * need k 8
      · rcases Classical.em (∀ i, i < 128 → Clean k (prt s (need k 8) i)) with hc | hc
        · exact packs_good w k s (by omega) hk hz hc
        · refine packs_bad w k s 13 (by omega) (by omega) ((unpack_any k s w hk).mono ?_) (fun w => (runpack_any k s w hk).mono ?_)
          · rintro e w' ⟨h, _⟩
            obtain ⟨hb, hg⟩ := h hz
            rcases hg with ⟨i, _, _, h3, rfl⟩ | ⟨h1, _⟩
            · refine ⟨?_, hb⟩
              rw [cd_not (fun hcl => h3 (cd_clean hcl))]
            · exact absurd (fun i hi => cd_zero (h1 i hi)) hc
          · rintro e w' ⟨h, _⟩
            obtain ⟨hb, hg⟩ := h hz
            rcases hg with ⟨i, _, _, h3, rfl⟩ | ⟨h1, _⟩
            · refine ⟨?_, hb⟩
              rw [cd_not (fun hcl => h3 (cd_clean hcl))]
            · exact absurd (fun i hi => cd_zero (h1 i hi)) hc
      · refine packs_bad w k s 11 (by omega) (by omega) ((unpack_any k s w hk).mono fun e w' h => h.2 hz) (fun w => (runpack_any k s w hk).mono fun e w' h => h.2 hz)
end Go.Proofs.Ytaghcbmipihpmaa
