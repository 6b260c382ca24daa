/- Words of a stream, and where they lie. -/
import Derived.Test.YtdmodknjcdkocaaJ20
namespace Go.Proofs.Ytdmodknjcdkocaa.Pg
open Go.RowKit
set_option maxRecDepth 100000
attribute [local go_sem] not_any

set_option maxHeartbeats 4000000 in
theorem words_own (kl : List Nat) (x F N : Nat) (w : World) (hk : kl.length = 32) (bk : Lt 256 kl) (hx : x < 4294967296) (hN : N ≤ 4096) (hF : F + N ≤ 134217728) :
    Calls Try.prog 39 #[arr8 kl, .int .u32 (x : Int), .int .i64 (F : Int), .int .i64 (N : Int)] w (fun e w' => ∃ g, e = .returned (.tuple #[.slice (some ⟨g, 0, none⟩) N N, .int .i64 0]) ∧ w.heap.size ≤ g ∧ w'.heap[g]? = some (V.wrow (wrd kl x F N)) ∧ Below w.heap.size w w') := by
  obtain ⟨F8, hF8⟩ : ∃ v, v = 8 * F := ⟨_, rfl⟩
  obtain ⟨N8, hN8⟩ : ∃ v, v = 8 * N := ⟨_, rfl⟩
  have kb := fun w => hide1 (bytes_yes kl x F8 N8 w hk bk hx (by omega) (by omega))
  have HA : Shy (wacc (byt kl x F8 N8) N N8 = wrd kl x F N) := ⟨by rw [hF8, hN8, wacc_all]⟩
  have HLn : Shy ((byt kl x F8 N8).length = 8 * N) := ⟨by rw [byt_length, hN8]⟩
  have HLt : Shy (Lt 256 (byt kl x F8 N8)) := ⟨byt_lt _ _ _ _⟩
  have HT : Shy (nums (txt (byt kl x F8 N8)) = byt kl x F8 N8) := ⟨nums_txt (byt_lt _ _ _ _)⟩
  have hts : (txt (byt kl x F8 N8)).size = N8 := by rw [nums_size HT.out, byt_length]
  have Hz : Hid ((u8s kl).toArray.size = 32) := by show _ = _; simp [u8s, hk]
  generalize txt (byt kl x F8 N8) = tp at *
  generalize byt kl x F8 N8 = lb at *
  generalize wrd kl x F N = ws at *
  have hmk := V.make_words N (by omega)
  have h1 : decide ((F : Int) < 0) = false := by simp
  have h2 : decide ((N : Int) < 0) = false := by simp
  have h3 : decide ((4096 : Int) < (N : Int)) = false := by rw [decide_eq_false_iff_not]; omega
  have h4 : decide ((134217728 : Int) < (F : Int)) = false := by rw [decide_eq_false_iff_not]; omega
  have e1 : (F : Int) * 8 = (F8 : Int) := by omega
  have e2 : (N : Int) * 8 = (N8 : Int) := by omega
  have b1 : (F8 : Int) ≤ 1073741824 := by omega
  have b2 : (N8 : Int) ≤ 32768 := by omega
  have HN8 : Shy (N8 = 8 * N ∧ N ≤ 4096) := ⟨⟨hN8, hN⟩⟩
  clear hF8 hN8 hk bk hx hN hF
  unfold arr8 at kb ⊢
  go_enter Try.func39, Try.ntmps39
  go_upto_region 3 with (fail)
  generalize hX : World.alloc w _ = X
  have x0 : X.heap[w.heap.size]? = some (row8 46 kl) := by rw [← hX]; exact heap_alloc_new _ _
  have xb : Below w.heap.size w X := by rw [← hX]; exact (Below.refl _ _).alloc (Nat.le_refl _) _
  have X0 := hide1 x0
  have XB := hide1 xb
  clear hX x0 xb
  go_wp2_with (first | (refine wpList_load_row rfl 46 (.tmp 4) rfl w.heap.size rfl 46 (u8s kl).toArray (0, 0) _ X0.out Try.underlying46 rfl (by rw [Hz.out]; kernel_rfl) ?_) | fail)
  go_at_call 49
  refine (kb _).out.mono ?_
  rintro e w1 ⟨rfl, hb1⟩
  have B1 := hide1 (XB.out.trans (hb1.mono XB.out.size))
  clear hb1 kb X0 XB
  go_upto_region 7 with (fail)
  generalize hY : World.alloc w1 _ = Y
  have y0 : Y.heap[w1.heap.size]? = some (V.wrow (List.replicate N 0)) := by rw [← hY]; exact heap_alloc_new _ _
  have yb : Below w.heap.size w Y := by rw [← hY]; exact B1.out.alloc B1.out.size _
  have HG : Hid (w.heap.size ≤ w1.heap.size) := B1.out.size
  obtain ⟨g, hg⟩ : ∃ v, v = w1.heap.size := ⟨_, rfl⟩
  rw [← hg] at y0 HG ⊢
  have Y0 := hide1 y0
  have YB := hide1 yb
  clear hY y0 yb B1 hg hmk
  go_wp2
  go_loopw [45] (fun v wr => ∃ i : Nat, i ≤ N8 ∧ v = .int .i64 i ∧ wr.heap[g]? = some (V.wrow (wacc lb N i)) ∧ Below w.heap.size w wr) (fun v _ => N8 - (intOf v).toNat)
  case atStart => exact ⟨0, Nat.zero_le _, rfl, by rw [wacc_zero]; exact Y0.out, YB.out⟩
  case round =>
    obtain ⟨i, hi, rfl, hrow, hbe⟩ := hrel
    by_cases hlt : i < N8
    · have hlti : (i : Int) < (N8 : Int) := by omega
      obtain ⟨a1, a2⟩ := wacc_succ HLn.out HLt.out (i := i) (by have := HN8.out; omega)
      have bl := num_lt64 ((HLt.out.drop (8 * (i / 8))).take (i % 8)) (by rw [List.length_take]; omega)
      have cu := V.row_cell hrow a1
      have bb := HLt.out.at (by omega) i
      have hix := run_index tp i (by omega)
      rw [HT.out] at hix
      obtain ⟨q, hq⟩ : ∃ v, v = i / 8 := ⟨_, rfl⟩
      obtain ⟨m, hm⟩ : ∃ v, v = i % 8 := ⟨_, rfl⟩
      obtain ⟨p, hp⟩ : ∃ v, v = 8 * m := ⟨_, rfl⟩
      rw [← hq, ← hm] at a2 bl
      rw [← hq] at cu
      rw [← hm] at cu
      rw [← hp] at a2
      have fu := frozen_of_row wr g q _ _ hrow
      generalize num ((lb.drop (8 * q)).take m) = y at *
      generalize at0 lb i = b at *
      have hor := V.or_byte bl bb (show p ≤ 56 by omega)
      obtain ⟨z, hz⟩ : ∃ v, v = b * 2 ^ p := ⟨_, rfl⟩
      obtain ⟨u, hu⟩ : ∃ v, v = y ||| b * 2 ^ p := ⟨_, rfl⟩
      have ez : IntKind.u64.wrap ((b : Int) * 2 ^ p) = (z : Int) := by
        have h1 : 2 ^ p ≤ 2 ^ 56 := Nat.pow_le_pow_right (by omega) (by omega)
        have h2 : b * 2 ^ p ≤ 255 * 2 ^ 56 := Nat.mul_le_mul (by omega) h1
        rw [V.pow_cast, ← Int.natCast_mul, ← hz, IntKind.wrap_u64]
        rw [← hz] at h2
        omega
      rw [ez] at hor
      rw [← hu] at hor a2
      have eq1 : (i : Int) / 8 = (q : Int) := by omega
      have em : (i : Int) % 8 = (m : Int) := by omega
      have em' : Int.tmod (i : Int) 8 = (m : Int) := by rw [Int.tmod_eq_emod_of_nonneg (by omega), em]
      have ep : 8 * (m : Int) = (p : Int) := by omega
      have wq : IntKind.i64.wrap (q : Int) = (q : Int) := by rw [IntKind.wrap_i64]; have := HN8.out; omega
      have wp : IntKind.i64.wrap (p : Int) = (p : Int) := by rw [IntKind.wrap_i64]; omega
      have wb : IntKind.u64.wrap (b : Int) = (b : Int) := by rw [IntKind.wrap_u64]; omega
      have qN : (q : Int) < (N : Int) := by have := HN8.out; omega
      have p64 : (p : Int) < 64 := by omega
      have p0 : (p : Int) ≤ 56 := by omega
      have HS : Shy (wacc lb N (i + 1) = (wacc lb N i).set q u) := ⟨a2⟩
      have HR := hide1 hrow
      have HE := hide1 hbe
      clear a1 a2 bl hrow hbe hq hm hp hz hu
      go_upto_region 10 with (fail)
      refine region_f (F := [15]) (S := fun w' => w'.cell? ⟨g, q, none⟩ = some (.int .u64 (y : Int))) (by kernel_rfl) cu (fun hS => ?_)
      refine take_p 0 48 (.slice (some ⟨g, 0, none⟩) N N) rfl rfl (by kernel_rfl) (by kernel_rfl) (by kernel_rfl) (fun _ _ _ h => h) rfl (fun w => by go_simp) ?_
      try simp only [List.setIfInBounds_toArray, List.set_cons_zero, List.set_cons_succ]
      refine take_p 1 49 (.int .i64 (i : Int)) rfl rfl (by kernel_rfl) (by kernel_rfl) (by kernel_rfl) (fun _ _ _ h => h) rfl (fun w => by go_simp) ?_
      try simp only [List.setIfInBounds_toArray, List.set_cons_zero, List.set_cons_succ]
      refine take_p 2 50 (.int .i64 (q : Int)) rfl rfl (by kernel_rfl) (by kernel_rfl) (by kernel_rfl) (fun _ _ _ h => h) rfl (fun w => by go_simp) ?_
      try simp only [List.setIfInBounds_toArray, List.set_cons_zero, List.set_cons_succ]
      refine take_p 3 51 (.pointer (some ⟨g, q, none⟩)) rfl rfl (by kernel_rfl) (by kernel_rfl) (by kernel_rfl) (fun _ _ _ h => h) rfl (fun w => by go_simp) ?_
      try simp only [List.setIfInBounds_toArray, List.set_cons_zero, List.set_cons_succ]
      refine take_f 4 52 (.int .u64 (y : Int)) [13, 14, 15] rfl rfl (by kernel_rfl) (by kernel_rfl) (by kernel_rfl) (by kernel_rfl) (by kernel_rfl) (by kernel_rfl) (fun _ _ _ h => h) rfl (fun w hSw => by have h1 := hSw; clear hSw; go_simp) hS ?_
      try simp only [List.setIfInBounds_toArray, List.set_cons_zero, List.set_cons_succ]
      refine take_p 5 53 (.string tp) rfl rfl (by kernel_rfl) (by kernel_rfl) (by kernel_rfl) (fun _ _ _ h => h) rfl (fun w => by go_simp) ?_
      try simp only [List.setIfInBounds_toArray, List.set_cons_zero, List.set_cons_succ]
      refine take_p 6 54 (.int .i64 (i : Int)) rfl rfl (by kernel_rfl) (by kernel_rfl) (by kernel_rfl) (fun _ _ _ h => h) rfl (fun w => by go_simp) ?_
      try simp only [List.setIfInBounds_toArray, List.set_cons_zero, List.set_cons_succ]
      refine take_p 7 55 (.int .u8 (b : Int)) rfl rfl (by kernel_rfl) (by kernel_rfl) (by kernel_rfl) (fun _ _ _ h => h) rfl (fun w => by have h1 := hix; go_simp) ?_
      try simp only [List.setIfInBounds_toArray, List.set_cons_zero, List.set_cons_succ]
      refine take_p 8 56 (.int .u64 (b : Int)) rfl rfl (by kernel_rfl) (by kernel_rfl) (by kernel_rfl) (fun _ _ _ h => h) rfl (fun w => by go_simp) ?_
      try simp only [List.setIfInBounds_toArray, List.set_cons_zero, List.set_cons_succ]
      refine take_p 9 57 (.int .i64 (i : Int)) rfl rfl (by kernel_rfl) (by kernel_rfl) (by kernel_rfl) (fun _ _ _ h => h) rfl (fun w => by go_simp) ?_
      try simp only [List.setIfInBounds_toArray, List.set_cons_zero, List.set_cons_succ]
      refine take_p 10 58 (.int .i64 (m : Int)) rfl rfl (by kernel_rfl) (by kernel_rfl) (by kernel_rfl) (fun _ _ _ h => h) rfl (fun w => by go_simp) ?_
      try simp only [List.setIfInBounds_toArray, List.set_cons_zero, List.set_cons_succ]
      refine take_p 11 59 (.int .i64 (p : Int)) rfl rfl (by kernel_rfl) (by kernel_rfl) (by kernel_rfl) (fun _ _ _ h => h) rfl (fun w => by go_simp) ?_
      try simp only [List.setIfInBounds_toArray, List.set_cons_zero, List.set_cons_succ]
      refine take_p 12 60 (.int .u64 (z : Int)) rfl rfl (by kernel_rfl) (by kernel_rfl) (by kernel_rfl) (fun _ _ _ h => h) rfl (fun w => by go_simp) ?_
      try simp only [List.setIfInBounds_toArray, List.set_cons_zero, List.set_cons_succ]
      refine take_p 13 61 (.int .u64 (u : Int)) rfl rfl (by kernel_rfl) (by kernel_rfl) (by kernel_rfl) (fun _ _ _ h => h) rfl (fun w => by go_simp) ?_
      try simp only [List.setIfInBounds_toArray, List.set_cons_zero, List.set_cons_succ]
      refine take_p 14 62 (.pointer (some ⟨g, q, none⟩)) rfl rfl (by kernel_rfl) (by kernel_rfl) (by kernel_rfl) (fun _ _ _ h => h) rfl (fun w => by go_simp) ?_
      try simp only [List.setIfInBounds_toArray, List.set_cons_zero, List.set_cons_succ]
      refine ready_f 15 (o := { dst := none, op := Op.store 49 (Operand.tmp 62) (Operand.tmp 61), type := 0, pos := "prg.go:52", after := #[{ on := 14, ground := Ground.data }, { on := 13, ground := Ground.data }, { on := 0, ground := Ground.phase }, { on := 1, ground := Ground.phase }, { on := 2, ground := Ground.phase }, { on := 3, ground := Ground.phase }, { on := 4, ground := Ground.phase }, { on := 5, ground := Ground.phase }, { on := 6, ground := Ground.phase }, { on := 7, ground := Ground.phase }, { on := 8, ground := Ground.phase }, { on := 9, ground := Ground.phase }, { on := 10, ground := Ground.phase }, { on := 11, ground := Ground.phase }, { on := 12, ground := Ground.phase }, { on := 13, ground := Ground.phase }], guard := none }) (by kernel_rfl) rfl (fun K hK => ?_)
      go_simp
      refine hK.out _ _ (fun h => absurd (by decide) h) ?_
      clear hK K
      refine done_f (by kernel_rfl) ?_ _
      clear hS cu fu hix
      go_wp2
      go_roundw
      case rel =>
        refine ⟨i + 1, by omega, by go_num, ?_, ?_⟩
        · rw [HS.out]
          exact V.wset (w := wr.drew) HR.out
        · exact (HE.out.drew).setCell HG.out _
      case measure => simp [intOf]; omega
    · obtain rfl : i = N8 := by omega
      rw [HA.out] at hrow
      have HR := hide1 hrow
      have HE := hide1 hbe
      clear hrow hbe
      go_wp2
      go_ret2
      exact ⟨_, rfl, HG.out, HR.out, HE.out⟩

set_option maxHeartbeats 4000000 in
theorem rwords_own (kl : List Nat) (x F N : Nat) (w : World) (hk : kl.length = 32) (bk : Lt 256 kl) (hx : x < 4294967296) (hN : N ≤ 4096) (hF : F + N ≤ 134217728) :
    Calls Try.prog 41 #[arr8 kl, .int .u32 (x : Int), .int .i64 (F : Int), .int .i64 (N : Int)] w (fun e w' => ∃ a c, e = .returned (.tuple #[.slice a N c, .int .i64 0]) ∧ w'.ownsRow w.heap.size 49 1 (.slice a N c) N (V.u64s (wrd kl x F N)) ∧ Below w.heap.size w w') := by
  obtain ⟨i0, hi, hz0, hz1, hz2⟩ := info_of info47
  obtain ⟨F8, hF8⟩ : ∃ v, v = 8 * F := ⟨_, rfl⟩
  obtain ⟨N8, hN8⟩ : ∃ v, v = 8 * N := ⟨_, rfl⟩
  have kb := fun w => hide1 (rbytes_yes kl x F8 N8 w hk bk hx (by omega) (by omega))
  have HT : Shy (nums (txt (byt kl x F8 N8)) = byt kl x F8 N8) := ⟨nums_txt (byt_lt _ _ _ _)⟩
  have hts : (txt (byt kl x F8 N8)).size = N8 := by rw [nums_size HT.out, byt_length]
  have HAt : Shy (∀ i m, i < N → m < 8 → at0 (byt kl x F8 N8) (8 * i + m) = at0 (byt kl x (8 * (F + i)) 8) m) := ⟨fun i m hi hm => by
    rw [byt_at (by omega), byt_at hm]
    congr 1
    omega⟩
  have HWd : Shy (∀ i, hi8 (byt kl x (8 * (F + i)) 8) 8 = wd kl x (F + i)) := ⟨fun i => by rw [hi8_all, wd]⟩
  have HL8 : Shy (∀ i, (byt kl x (8 * (F + i)) 8).length = 8 ∧ Lt 256 (byt kl x (8 * (F + i)) 8)) := ⟨fun i => ⟨byt_length _ _ _ _, byt_lt _ _ _ _⟩⟩
  have HSuc : Shy (∀ k, wrd kl x F (k + 1) = wrd kl x F k ++ [wd kl x (F + k)]) := ⟨wrd_succ kl x F⟩
  have HLn : Shy (∀ k, (wrd kl x F k).length = k) := ⟨wrd_length kl x F⟩
  have HZ : Shy (wrd kl x F 0 = []) := ⟨rfl⟩
  have HWL : Shy (∀ i, wd kl x (F + i) < 18446744073709551616) := ⟨fun i => wd_lt _ _ _⟩
  have Hz : Hid ((u8s kl).toArray.size = 32) := by show _ = _; simp [u8s, hk]
  generalize txt (byt kl x F8 N8) = tp at *
  generalize byt kl x F8 N8 = lb at *
  have h1 : decide ((F : Int) < 0) = false := by simp
  have h2 : decide ((N : Int) < 0) = false := by simp
  have h3 : decide ((4096 : Int) < (N : Int)) = false := by rw [decide_eq_false_iff_not]; omega
  have h4 : decide ((134217728 : Int) < (F : Int)) = false := by rw [decide_eq_false_iff_not]; omega
  have e1 : 8 * (F : Int) = (F8 : Int) := by omega
  have e2 : 8 * (N : Int) = (N8 : Int) := by omega
  have b1 : (F8 : Int) ≤ 1073741824 := by omega
  have b2 : (N8 : Int) ≤ 32768 := by omega
  have HN8 : Shy (N8 = 8 * N ∧ N ≤ 4096) := ⟨⟨hN8, hN⟩⟩
  clear hF8 hN8 hk bk hx hN hF
  unfold arr8 at kb ⊢
  go_enter Try.func41, Try.ntmps41
  go_upto_region 3 with (fail)
  generalize hX : World.alloc w _ = X
  have x0 : X.heap[w.heap.size]? = some (row8 46 kl) := by rw [← hX]; exact heap_alloc_new _ _
  have xb : Below w.heap.size w X := by rw [← hX]; exact (Below.refl _ _).alloc (Nat.le_refl _) _
  have X0 := hide1 x0
  have XB := hide1 xb
  clear hX x0 xb
  go_wp2_with (first | (refine wpList_load_row rfl 46 (.tmp 4) rfl w.heap.size rfl 46 (u8s kl).toArray (0, 0) _ X0.out Try.underlying46 rfl (by rw [Hz.out]; kernel_rfl) ?_) | fail)
  go_at_call 51
  refine (kb _).out.mono ?_
  rintro e w1 ⟨rfl, hb1⟩
  have B1 := hide1 (XB.out.trans (hb1.mono XB.out.size))
  clear hb1 kb X0 XB
  go_wp2
  go_loopw [12, 13] (fun v12 v13 wr => ∃ k : Nat, k ≤ N ∧ v13 = .int .i64 k ∧ (∃ a c, v12 = .slice a k c) ∧ wr.ownsRow w.heap.size 49 1 v12 k (V.u64s (wrd kl x F k)) ∧ Below w.heap.size w wr) (fun _ v13 _ => N - (intOf v13).toNat)
  case atStart => exact ⟨0, Nat.zero_le _, rfl, ⟨none, 0, rfl⟩, by rw [HZ.out]; exact World.ownsRow_nil _ _ _ _, B1.out⟩
  case round =>
    obtain ⟨k, hk, rfl, ⟨a12, c12, rfl⟩, hro, hbe⟩ := hrel
    by_cases hlt : k < N
    · have hlti : (k : Int) < (N : Int) := by omega
      have hS := HSuc.out k
      have hA := HAt.out k
      obtain ⟨l8, lt8⟩ := HL8.out k
      have hW := HWd.out k
      have hvl := HWL.out k
      generalize byt kl x (8 * (F + k)) 8 = ch at *
      generalize wd kl x (F + k) = v at *
      obtain ⟨p, hp⟩ : ∃ p, p = 8 * k := ⟨_, rfl⟩
      have ep : 8 * (k : Int) = (p : Int) := by omega
      have bp : (p : Int) ≤ 32768 := by have := HN8.out; omega
      have HS : Shy (wrd kl x F (k + 1) = wrd kl x F k ++ [v]) := ⟨hS⟩
      have HA : Shy (∀ m, m < 8 → at0 lb (p + m) = at0 ch m) := ⟨fun m hm => by rw [hp]; exact hA m hlt hm⟩
      have HL : Shy (ch.length = 8 ∧ Lt 256 ch ∧ hi8 ch 8 = v ∧ p + 8 ≤ N8) := ⟨⟨l8, lt8, hW, by have := HN8.out; omega⟩⟩
      have HRO := hide1 hro
      have HE := hide1 hbe
      have HKN : Shy (k < N ∧ N ≤ 4096) := ⟨⟨hlt, HN8.out.2⟩⟩
      clear hS hA l8 lt8 hW hro hbe hp
      obtain ⟨Z, hZ⟩ : ∃ Z, Z = wr := ⟨_, rfl⟩
      subst hZ
      go_wp2
      go_loop [14, 15] (fun v14 v15 => ∃ t : Nat, t ≤ 8 ∧ v15 = .int .i64 (7 - (t : Int)) ∧ v14 = .int .u64 (hi8 ch t : Nat)) (fun _ v15 => (intOf v15 + 1).toNat)
      case atStart => exact ⟨0, Nat.zero_le _, rfl, by rw [hi8_zero HL.out.1]; rfl⟩
      case round =>
        obtain ⟨t, ht, rfl, rfl⟩ := hrel
        by_cases hlt8 : t < 8
        · obtain ⟨m, hm⟩ : ∃ m, m = 7 - t := ⟨_, rfl⟩
          have em : 7 - (t : Int) = (m : Int) := by omega
          rw [em]
          have HM : Shy (m = 7 - t) := ⟨hm⟩
          obtain ⟨q, hq⟩ : ∃ q, q = p + m := ⟨_, rfl⟩
          have eq1 : (p : Int) + (m : Int) = (q : Int) := by omega
          have bq : (q : Int) < (N8 : Int) := by have := HL.out.2.2.2; omega
          have hix := fun w => run_index tp q (by have := HL.out.2.2.2; omega) w
          rw [HT.out, hq, HA.out m (by omega), ← hq] at hix
          have HN : Shy (hi8 ch (t + 1) = 256 * hi8 ch t + at0 ch m) := ⟨by rw [hi8_succ HL.out.1 hlt8, hm]⟩
          have b3 := hi8_lt HL.out.2.1 HL.out.1 hlt8
          have b4 := HL.out.2.1.at (by omega) m
          generalize hi8 ch t = v1 at *
          generalize at0 ch m = u at *
          have bm : (0 : Int) ≤ (m : Int) := by omega
          clear hm em hq
          go_wp2
          go_round
          case rel => exact ⟨t + 1, by omega, by have := HM.out; congr 1; omega, by rw [HN.out]; congr 1⟩
          case measure => simp [intOf]
        · have : t = 8 := by omega
          subst this
          rw [show 7 - ((8 : Nat) : Int) = -1 from rfl, HL.out.2.2.1]
          have hkm : k ≤ 4096 := by have := HKN.out; omega
          go_wp2_with (first
            | (at_builtin; go_must (refine wpList_append_lies _ rfl (.tmp 62) (.tmp 64) 23 rfl w.heap.size 49 i0 (.int .u64 0) 1 8 Try.underlying23 hi hz0 hz1 hz2 rfl (by decide) (.slice a12 k c12) k (V.u64s (wrd kl x F k)) rfl (HRO.out.alloc _) ⟨Z.heap.size, 0, none⟩ 1 1 (V.u64s [v]) rfl rfl (World.news_of_block (heap_alloc_new Z (V.wrow [v]))) (V.u64s_one _) (by omega) (by unfold maxLen; omega) (by omega) (by have := HE.out.size; rw [size_alloc]; omega) _ rfl ?_; intro g8 cap8 w8 ro8 gr8 wh8 lt8))
            | fail)
          rw [show V.u64s (wrd kl x F k) ++ V.u64s [v] = V.u64s (wrd kl x F (k + 1)) by rw [HS.out]; simp [V.u64s]] at ro8
          have hb8 : Below w.heap.size w w8 := (HE.out.alloc HE.out.size _).grown gr8 (by rw [size_alloc]; have := HE.out.size; omega) (fun k hk => (HRO.out.lt k hk).1)
          have RO8 := hide1 ro8
          have HB8 := hide1 hb8
          clear ro8 hb8 gr8 wh8 lt8
          go_wp2
          go_roundw
          case rel => exact ⟨k + 1, by omega, by go_num, ⟨_, _, rfl⟩, RO8.out, HB8.out⟩
          case measure => simp [intOf]; omega
    · obtain rfl : k = N := by omega
      have HRO := hide1 hro
      have HE := hide1 hbe
      clear hro hbe
      go_wp2
      go_ret2
      exact ⟨_, _, rfl, HRO.out, HE.out⟩
end Go.Proofs.Ytdmodknjcdkocaa.Pg
