/- Words of a stream: the program's. -/
import Derived.Test.YtdmodknjcdkocaaJ18
namespace Go.Proofs.Ytdmodknjcdkocaa.Pg
open Go.RowKit
set_option maxRecDepth 100000
attribute [local go_sem] not_any

set_option maxHeartbeats 4000000 in
theorem words_yes (kl : List Nat) (x F N : Nat) (w : World) (hk : kl.length = 32) (bk : Lt 256 kl) (hx : x < 4294967296) (hN : N ≤ 4096) (hF : F + N ≤ 134217728) :
    Calls Try.prog 39 #[arr8 kl, .int .u32 (x : Int), .int .i64 (F : Int), .int .i64 (N : Int)] w (WPost w (wrd kl x F N) 0) := by
  obtain ⟨F8, hF8⟩ : ∃ v, v = 8 * F := ⟨_, rfl⟩
  obtain ⟨N8, hN8⟩ : ∃ v, v = 8 * N := ⟨_, rfl⟩
  have kb := fun w => hide1 (bytes_yes kl x F8 N8 w hk bk hx (by omega) (by omega))
  have HA : Shy (wacc (byt kl x F8 N8) N N8 = wrd kl x F N) := ⟨by rw [hF8, hN8, wacc_all]⟩
  have HLn : Shy ((byt kl x F8 N8).length = 8 * N) := ⟨by rw [byt_length, hN8]⟩
  have HLt : Shy (Lt 256 (byt kl x F8 N8)) := ⟨byt_lt _ _ _ _⟩
  have HT : Shy (nums (txt (byt kl x F8 N8)) = byt kl x F8 N8) := ⟨nums_txt (byt_lt _ _ _ _)⟩
  have hts : (txt (byt kl x F8 N8)).size = N8 := by rw [nums_size HT.out, byt_length]
  have Hz : Hid ((u8s kl).toArray.size = 32) := by show _ = _; simp [u8s, hk]
  generalize txt (byt kl x F8 N8) = tp at *
  generalize byt kl x F8 N8 = lb at *
  generalize wrd kl x F N = ws at *
  have hmk := V.make_words N (by omega)
  have h1 : decide ((F : Int) < 0) = false := by simp
  have h2 : decide ((N : Int) < 0) = false := by simp
  have h3 : decide ((4096 : Int) < (N : Int)) = false := by rw [decide_eq_false_iff_not]; omega
  have h4 : decide ((134217728 : Int) < (F : Int)) = false := by rw [decide_eq_false_iff_not]; omega
  have e1 : (F : Int) * 8 = (F8 : Int) := by omega
  have e2 : (N : Int) * 8 = (N8 : Int) := by omega
  have b1 : (F8 : Int) ≤ 1073741824 := by omega
  have b2 : (N8 : Int) ≤ 32768 := by omega
  have HN8 : Shy (N8 = 8 * N ∧ N ≤ 4096) := ⟨⟨hN8, hN⟩⟩
  clear hF8 hN8 hk bk hx hN hF
  unfold arr8 at kb ⊢
  go_enter Try.func39, Try.ntmps39
  go_upto_region 3 with (fail)
  generalize hX : World.alloc w _ = X
  have x0 : X.heap[w.heap.size]? = some (row8 46 kl) := by rw [← hX]; exact heap_alloc_new _ _
  have xb : Below w.heap.size w X := by rw [← hX]; exact (Below.refl _ _).alloc (Nat.le_refl _) _
  have X0 := hide1 x0
  have XB := hide1 xb
  clear hX x0 xb
  go_wp2_with (first | (refine wpList_load_row rfl 46 (.tmp 4) rfl w.heap.size rfl 46 (u8s kl).toArray (0, 0) _ X0.out Try.underlying46 rfl (by rw [Hz.out]; kernel_rfl) ?_) | fail)
  go_at_call 49
  refine (kb _).out.mono ?_
  rintro e w1 ⟨rfl, hb1⟩
  have B1 := hide1 (XB.out.trans (hb1.mono XB.out.size))
  clear hb1 kb X0 XB
  go_upto_region 7 with (fail)
  generalize hY : World.alloc w1 _ = Y
  have y0 : Y.heap[w1.heap.size]? = some (V.wrow (List.replicate N 0)) := by rw [← hY]; exact heap_alloc_new _ _
  have yb : Below w.heap.size w Y := by rw [← hY]; exact B1.out.alloc B1.out.size _
  have HG : Hid (w.heap.size ≤ w1.heap.size) := B1.out.size
  obtain ⟨g, hg⟩ : ∃ v, v = w1.heap.size := ⟨_, rfl⟩
  rw [← hg] at y0 HG ⊢
  have Y0 := hide1 y0
  have YB := hide1 yb
  clear hY y0 yb B1 hg hmk
  go_wp2
  go_loopw [45] (fun v wr => ∃ i : Nat, i ≤ N8 ∧ v = .int .i64 i ∧ wr.heap[g]? = some (V.wrow (wacc lb N i)) ∧ Below w.heap.size w wr) (fun v _ => N8 - (intOf v).toNat)
  case atStart => exact ⟨0, Nat.zero_le _, rfl, by rw [wacc_zero]; exact Y0.out, YB.out⟩
  case round =>
    obtain ⟨i, hi, rfl, hrow, hbe⟩ := hrel
    by_cases hlt : i < N8
    · have hlti : (i : Int) < (N8 : Int) := by omega
      obtain ⟨a1, a2⟩ := wacc_succ HLn.out HLt.out (i := i) (by have := HN8.out; omega)
      have bl := num_lt64 ((HLt.out.drop (8 * (i / 8))).take (i % 8)) (by rw [List.length_take]; omega)
      have cu := V.row_cell hrow a1
      have bb := HLt.out.at (by omega) i
      have hix := run_index tp i (by omega)
      rw [HT.out] at hix
      obtain ⟨q, hq⟩ : ∃ v, v = i / 8 := ⟨_, rfl⟩
      obtain ⟨m, hm⟩ : ∃ v, v = i % 8 := ⟨_, rfl⟩
      obtain ⟨p, hp⟩ : ∃ v, v = 8 * m := ⟨_, rfl⟩
      rw [← hq, ← hm] at a2 bl
      rw [← hq] at cu
      rw [← hm] at cu
      rw [← hp] at a2
      have fu := frozen_of_row wr g q _ _ hrow
      generalize num ((lb.drop (8 * q)).take m) = y at *
      generalize at0 lb i = b at *
      have hor := V.or_byte bl bb (show p ≤ 56 by omega)
      obtain ⟨z, hz⟩ : ∃ v, v = b * 2 ^ p := ⟨_, rfl⟩
      obtain ⟨u, hu⟩ : ∃ v, v = y ||| b * 2 ^ p := ⟨_, rfl⟩
      have ez : IntKind.u64.wrap ((b : Int) * 2 ^ p) = (z : Int) := by
        have h1 : 2 ^ p ≤ 2 ^ 56 := Nat.pow_le_pow_right (by omega) (by omega)
        have h2 : b * 2 ^ p ≤ 255 * 2 ^ 56 := Nat.mul_le_mul (by omega) h1
        rw [V.pow_cast, ← Int.natCast_mul, ← hz, IntKind.wrap_u64]
        rw [← hz] at h2
        omega
      rw [ez] at hor
      rw [← hu] at hor a2
      have eq1 : (i : Int) / 8 = (q : Int) := by omega
      have em : (i : Int) % 8 = (m : Int) := by omega
      have em' : Int.tmod (i : Int) 8 = (m : Int) := by rw [Int.tmod_eq_emod_of_nonneg (by omega), em]
      have ep : 8 * (m : Int) = (p : Int) := by omega
      have wq : IntKind.i64.wrap (q : Int) = (q : Int) := by rw [IntKind.wrap_i64]; have := HN8.out; omega
      have wp : IntKind.i64.wrap (p : Int) = (p : Int) := by rw [IntKind.wrap_i64]; omega
      have wb : IntKind.u64.wrap (b : Int) = (b : Int) := by rw [IntKind.wrap_u64]; omega
      have qN : (q : Int) < (N : Int) := by have := HN8.out; omega
      have p64 : (p : Int) < 64 := by omega
      have p0 : (p : Int) ≤ 56 := by omega
      have HS : Shy (wacc lb N (i + 1) = (wacc lb N i).set q u) := ⟨a2⟩
      have HR := hide1 hrow
      have HE := hide1 hbe
      clear a1 a2 bl hrow hbe hq hm hp hz hu
      go_upto_region 10 with (fail)
      refine region_f (F := [15]) (S := fun w' => w'.cell? ⟨g, q, none⟩ = some (.int .u64 (y : Int))) (by kernel_rfl) cu (fun hS => ?_)
      refine take_p 0 48 (.slice (some ⟨g, 0, none⟩) N N) rfl rfl (by kernel_rfl) (by kernel_rfl) (by kernel_rfl) (fun _ _ _ h => h) rfl (fun w => by go_simp) ?_
      try simp only [List.setIfInBounds_toArray, List.set_cons_zero, List.set_cons_succ]
      refine take_p 1 49 (.int .i64 (i : Int)) rfl rfl (by kernel_rfl) (by kernel_rfl) (by kernel_rfl) (fun _ _ _ h => h) rfl (fun w => by go_simp) ?_
      try simp only [List.setIfInBounds_toArray, List.set_cons_zero, List.set_cons_succ]
      refine take_p 2 50 (.int .i64 (q : Int)) rfl rfl (by kernel_rfl) (by kernel_rfl) (by kernel_rfl) (fun _ _ _ h => h) rfl (fun w => by go_simp) ?_
      try simp only [List.setIfInBounds_toArray, List.set_cons_zero, List.set_cons_succ]
      refine take_p 3 51 (.pointer (some ⟨g, q, none⟩)) rfl rfl (by kernel_rfl) (by kernel_rfl) (by kernel_rfl) (fun _ _ _ h => h) rfl (fun w => by go_simp) ?_
      try simp only [List.setIfInBounds_toArray, List.set_cons_zero, List.set_cons_succ]
      refine take_f 4 52 (.int .u64 (y : Int)) [13, 14, 15] rfl rfl (by kernel_rfl) (by kernel_rfl) (by kernel_rfl) (by kernel_rfl) (by kernel_rfl) (by kernel_rfl) (fun _ _ _ h => h) rfl (fun w hSw => by have h1 := hSw; clear hSw; go_simp) hS ?_
      try simp only [List.setIfInBounds_toArray, List.set_cons_zero, List.set_cons_succ]
      refine take_p 5 53 (.string tp) rfl rfl (by kernel_rfl) (by kernel_rfl) (by kernel_rfl) (fun _ _ _ h => h) rfl (fun w => by go_simp) ?_
      try simp only [List.setIfInBounds_toArray, List.set_cons_zero, List.set_cons_succ]
      refine take_p 6 54 (.int .i64 (i : Int)) rfl rfl (by kernel_rfl) (by kernel_rfl) (by kernel_rfl) (fun _ _ _ h => h) rfl (fun w => by go_simp) ?_
      try simp only [List.setIfInBounds_toArray, List.set_cons_zero, List.set_cons_succ]
      refine take_p 7 55 (.int .u8 (b : Int)) rfl rfl (by kernel_rfl) (by kernel_rfl) (by kernel_rfl) (fun _ _ _ h => h) rfl (fun w => by have h1 := hix; go_simp) ?_
      try simp only [List.setIfInBounds_toArray, List.set_cons_zero, List.set_cons_succ]
      refine take_p 8 56 (.int .u64 (b : Int)) rfl rfl (by kernel_rfl) (by kernel_rfl) (by kernel_rfl) (fun _ _ _ h => h) rfl (fun w => by go_simp) ?_
      try simp only [List.setIfInBounds_toArray, List.set_cons_zero, List.set_cons_succ]
      refine take_p 9 57 (.int .i64 (i : Int)) rfl rfl (by kernel_rfl) (by kernel_rfl) (by kernel_rfl) (fun _ _ _ h => h) rfl (fun w => by go_simp) ?_
      try simp only [List.setIfInBounds_toArray, List.set_cons_zero, List.set_cons_succ]
      refine take_p 10 58 (.int .i64 (m : Int)) rfl rfl (by kernel_rfl) (by kernel_rfl) (by kernel_rfl) (fun _ _ _ h => h) rfl (fun w => by go_simp) ?_
      try simp only [List.setIfInBounds_toArray, List.set_cons_zero, List.set_cons_succ]
      refine take_p 11 59 (.int .i64 (p : Int)) rfl rfl (by kernel_rfl) (by kernel_rfl) (by kernel_rfl) (fun _ _ _ h => h) rfl (fun w => by go_simp) ?_
      try simp only [List.setIfInBounds_toArray, List.set_cons_zero, List.set_cons_succ]
      refine take_p 12 60 (.int .u64 (z : Int)) rfl rfl (by kernel_rfl) (by kernel_rfl) (by kernel_rfl) (fun _ _ _ h => h) rfl (fun w => by go_simp) ?_
      try simp only [List.setIfInBounds_toArray, List.set_cons_zero, List.set_cons_succ]
      refine take_p 13 61 (.int .u64 (u : Int)) rfl rfl (by kernel_rfl) (by kernel_rfl) (by kernel_rfl) (fun _ _ _ h => h) rfl (fun w => by go_simp) ?_
      try simp only [List.setIfInBounds_toArray, List.set_cons_zero, List.set_cons_succ]
      refine take_p 14 62 (.pointer (some ⟨g, q, none⟩)) rfl rfl (by kernel_rfl) (by kernel_rfl) (by kernel_rfl) (fun _ _ _ h => h) rfl (fun w => by go_simp) ?_
      try simp only [List.setIfInBounds_toArray, List.set_cons_zero, List.set_cons_succ]
      refine ready_f 15 (o := { dst := none, op := Op.store 49 (Operand.tmp 62) (Operand.tmp 61), type := 0, pos := "prg.go:52", after := #[{ on := 14, ground := Ground.data }, { on := 13, ground := Ground.data }, { on := 0, ground := Ground.phase }, { on := 1, ground := Ground.phase }, { on := 2, ground := Ground.phase }, { on := 3, ground := Ground.phase }, { on := 4, ground := Ground.phase }, { on := 5, ground := Ground.phase }, { on := 6, ground := Ground.phase }, { on := 7, ground := Ground.phase }, { on := 8, ground := Ground.phase }, { on := 9, ground := Ground.phase }, { on := 10, ground := Ground.phase }, { on := 11, ground := Ground.phase }, { on := 12, ground := Ground.phase }, { on := 13, ground := Ground.phase }], guard := none }) (by kernel_rfl) rfl (fun K hK => ?_)
      go_simp
      refine hK.out _ _ (fun h => absurd (by decide) h) ?_
      clear hK K
      refine done_f (by kernel_rfl) ?_ _
      clear hS cu fu hix
      go_wp2
      go_roundw
      case rel =>
        refine ⟨i + 1, by omega, by go_num, ?_, ?_⟩
        · rw [HS.out]
          exact V.wset (w := wr.drew) HR.out
        · exact (HE.out.drew).setCell HG.out _
      case measure => simp [intOf]; omega
    · obtain rfl : i = N8 := by omega
      rw [HA.out] at hrow
      have HR := hide1 hrow
      have HLN : Hid (ws.length = N) := by show _ = _; rw [← HA.out, wacc_length]
      have HE := hide1 hbe
      clear hrow hbe
      go_wp2
      go_ret2
      refine ⟨_, N, _, rfl, ?_, fun p hp => (by cases hp; exact HG.out), HE.out⟩
      have := nl_row HR.out
      rw [HLN.out] at this
      exact this

theorem words_far (kl : List Nat) (x F N : Nat) (w : World) (hN : N ≤ 4096) (hF : F ≤ 134217728) (hh : 134217728 < F + N) (hk : kl.length = 32) :
    Calls Try.prog 39 #[arr8 kl, .int .u32 (x : Int), .int .i64 (F : Int), .int .i64 (N : Int)] w (WPost w [] 2) := by
  obtain ⟨F8, hF8⟩ : ∃ v, v = 8 * F := ⟨_, rfl⟩
  obtain ⟨N8, hN8⟩ : ∃ v, v = 8 * N := ⟨_, rfl⟩
  have kb := fun w => hide1 (bytes_no kl x F8 N8 w (by omega))
  have Hz : Hid ((u8s kl).toArray.size = 32) := by show _ = _; simp [u8s, hk]
  have h1 : decide ((F : Int) < 0) = false := by simp
  have h2 : decide ((N : Int) < 0) = false := by simp
  have h3 : decide ((4096 : Int) < (N : Int)) = false := by rw [decide_eq_false_iff_not]; omega
  have h4 : decide ((134217728 : Int) < (F : Int)) = false := by rw [decide_eq_false_iff_not]; omega
  have e1 : (F : Int) * 8 = (F8 : Int) := by omega
  have e2 : (N : Int) * 8 = (N8 : Int) := by omega
  have b1 : (F8 : Int) ≤ 1073741824 := by omega
  have b2 : (N8 : Int) ≤ 32768 := by omega
  clear hF8 hN8 hk hN hF hh
  unfold arr8 at kb ⊢
  go_enter Try.func39, Try.ntmps39
  go_upto_region 3 with (fail)
  generalize hX : World.alloc w _ = X
  have x0 : X.heap[w.heap.size]? = some (row8 46 kl) := by rw [← hX]; exact heap_alloc_new _ _
  have xb : Below w.heap.size w X := by rw [← hX]; exact (Below.refl _ _).alloc (Nat.le_refl _) _
  have X0 := hide1 x0
  have XB := hide1 xb
  clear hX x0 xb
  go_wp2_with (first | (refine wpList_load_row rfl 46 (.tmp 4) rfl w.heap.size rfl 46 (u8s kl).toArray (0, 0) _ X0.out Try.underlying46 rfl (by rw [Hz.out]; kernel_rfl) ?_) | fail)
  go_at_call 49
  refine (kb _).out.mono ?_
  rintro e w1 ⟨rfl, hb1⟩
  have B1 := hide1 (XB.out.trans (hb1.mono XB.out.size))
  clear hb1 kb X0 XB
  go_wp2
  go_ret2
  exact ⟨_, _, _, rfl, nl_nil _, fun p hp => (by cases hp), B1.out⟩

theorem words_no (kl : List Nat) (x : Int) (f n : Int) (w : World) (h : f < 0 ∨ n < 0 ∨ 4096 < n ∨ 134217728 < f) :
    Calls Try.prog 39 #[arr8 kl, .int .u32 x, .int .i64 f, .int .i64 n] w fun e w' => WPost w [] 2 e w' := by
  have hB := fun (o : Obj) => hide1 ((Below.refl w.heap.size w).alloc (Nat.le_refl _) o)
  unfold arr8
  by_cases h1 : f < 0
  · clear h
    go_enter Try.func39, Try.ntmps39
    go_wp2
    go_ret2
    exact ⟨_, _, _, rfl, nl_nil _, fun p hp => (by cases hp), (hB _).out⟩
  · have h1' : decide (f < 0) = false := by rw [decide_eq_false_iff_not]; exact h1
    by_cases h2 : n < 0
    · clear h
      go_enter Try.func39, Try.ntmps39
      go_wp2
      go_ret2
      exact ⟨_, _, _, rfl, nl_nil _, fun p hp => (by cases hp), (hB _).out⟩
    · have h2' : decide (n < 0) = false := by rw [decide_eq_false_iff_not]; exact h2
      by_cases h3 : 4096 < n
      · clear h
        go_enter Try.func39, Try.ntmps39
        go_wp2
        go_ret2
        exact ⟨_, _, _, rfl, nl_nil _, fun p hp => (by cases hp), (hB _).out⟩
      · have h3' : decide (4096 < n) = false := by rw [decide_eq_false_iff_not]; exact h3
        have h4 : 134217728 < f := by omega
        clear h
        go_enter Try.func39, Try.ntmps39
        go_wp2
        go_ret2
        exact ⟨_, _, _, rfl, nl_nil _, fun p hp => (by cases hp), (hB _).out⟩

theorem words_any (kl : List Nat) (x : Nat) (f n : Int) (w : World) (hk : kl.length = 32) (bk : Lt 256 kl) (hx : x < 4294967296) :
    Calls Try.prog 39 #[arr8 kl, .int .u32 (x : Int), .int .i64 f, .int .i64 n] w (WPost w (wL kl x f n) (wC f n)) := by
  by_cases h : f < 0 ∨ n < 0 ∨ 4096 < n ∨ 134217728 < f
  · rw [wL_two (wC_no h), wC_no h]
    exact words_no kl x f n w h
  · obtain ⟨F, rfl⟩ := Int.eq_ofNat_of_zero_le (show 0 ≤ f by omega)
    obtain ⟨N, rfl⟩ := Int.eq_ofNat_of_zero_le (show 0 ≤ n by omega)
    by_cases h2 : F + N ≤ 134217728
    · rw [wC_yes (by omega) h2, wL_yes (by omega) h2]
      exact words_yes kl x F N w hk bk hx (by omega) h2
    · have e := wC_far (F := F) (N := N) (by omega) (by omega) (by omega)
      rw [wL_two e, e]
      exact words_far kl x F N w (by omega) (by omega) (by omega) hk
end Go.Proofs.Ytdmodknjcdkocaa.Pg
