/- Words of a stream, and where they lie. Bits in numbers: lists of truths packed, so many a number; no program is named here. -/
import Derived.Test.YtlkkninnfiaedaaDoorJ12
import Derived.Laws.BitsAllLaws
namespace Go.Proofs.YtlkkninnfiaedaaDoor.Pg
open Go.RowKit
set_option maxRecDepth 100000
attribute [local go_sem] not_any

set_option maxHeartbeats 4000000 in
theorem words_own (kl : List Nat) (x F N : Nat) (w : World) (hk : kl.length = 32) (bk : Lt 256 kl) (hx : x < 4294967296) (hN : N ≤ 4096) (hF : F + N ≤ 134217728) :
    Calls Tryd.prog 35 #[arr8 kl, .int .u32 (x : Int), .int .i64 (F : Int), .int .i64 (N : Int)] w (fun e w' => ∃ g, e = .returned (.tuple #[.slice (some ⟨g, 0, none⟩) N N, .int .i64 0]) ∧ w.heap.size ≤ g ∧ w'.heap[g]? = some (V.wrow (wrd kl x F N)) ∧ Below w.heap.size w w') := by
  obtain ⟨F8, hF8⟩ : ∃ v, v = 8 * F := ⟨_, rfl⟩
  obtain ⟨N8, hN8⟩ : ∃ v, v = 8 * N := ⟨_, rfl⟩
  have kb := fun w => hide1 (bytes_yes kl x F8 N8 w hk bk hx (by omega) (by omega))
  have HA : Shy (wacc (byt kl x F8 N8) N N8 = wrd kl x F N) := ⟨by rw [hF8, hN8, wacc_all]⟩
  have HLn : Shy ((byt kl x F8 N8).length = 8 * N) := ⟨by rw [byt_length, hN8]⟩
  have HLt : Shy (Lt 256 (byt kl x F8 N8)) := ⟨byt_lt _ _ _ _⟩
  have HT : Shy (nums (txt (byt kl x F8 N8)) = byt kl x F8 N8) := ⟨nums_txt (byt_lt _ _ _ _)⟩
  have hts : (txt (byt kl x F8 N8)).size = N8 := by rw [nums_size HT.out, byt_length]
  have Hz : Hid ((u8s kl).toArray.size = 32) := by show _ = _; simp [u8s, hk]
  generalize txt (byt kl x F8 N8) = tp at *
  generalize byt kl x F8 N8 = lb at *
  generalize wrd kl x F N = ws at *
  have hmk := V.make_words N (by omega)
  have h1 : decide ((F : Int) < 0) = false := by simp
  have h2 : decide ((N : Int) < 0) = false := by simp
  have h3 : decide ((4096 : Int) < (N : Int)) = false := by rw [decide_eq_false_iff_not]; omega
  have h4 : decide ((134217728 : Int) < (F : Int)) = false := by rw [decide_eq_false_iff_not]; omega
  have e1 : (F : Int) * 8 = (F8 : Int) := by omega
  have e2 : (N : Int) * 8 = (N8 : Int) := by omega
  have b1 : (F8 : Int) ≤ 1073741824 := by omega
  have b2 : (N8 : Int) ≤ 32768 := by omega
  have HN8 : Shy (N8 = 8 * N ∧ N ≤ 4096) := ⟨⟨hN8, hN⟩⟩
  clear hF8 hN8 hk bk hx hN hF
  unfold arr8 at kb ⊢
  go_enter Tryd.func35, Tryd.ntmps35
  go_upto_region 3 with (fail)
  generalize hX : World.alloc w _ = X
  have x0 : X.heap[w.heap.size]? = some (row8 28 kl) := by rw [← hX]; exact heap_alloc_new _ _
  have xb : Below w.heap.size w X := by rw [← hX]; exact (Below.refl _ _).alloc (Nat.le_refl _) _
  have X0 := hide1 x0
  have XB := hide1 xb
  clear hX x0 xb
  go_wp2_with (first | (refine wpList_load_row rfl 28 (.tmp 4) rfl w.heap.size rfl 28 (u8s kl).toArray (0, 0) _ X0.out Tryd.underlying28 rfl (by rw [Hz.out]; kernel_rfl) ?_) | fail)
  go_at_call 55
  refine (kb _).out.mono ?_
  rintro e w1 ⟨rfl, hb1⟩
  have B1 := hide1 (XB.out.trans (hb1.mono XB.out.size))
  clear hb1 kb X0 XB
  go_upto_region 7 with (fail)
  generalize hY : World.alloc w1 _ = Y
  have y0 : Y.heap[w1.heap.size]? = some (V.wrow (List.replicate N 0)) := by rw [← hY]; exact heap_alloc_new _ _
  have yb : Below w.heap.size w Y := by rw [← hY]; exact B1.out.alloc B1.out.size _
  have HG : Hid (w.heap.size ≤ w1.heap.size) := B1.out.size
  obtain ⟨g, hg⟩ : ∃ v, v = w1.heap.size := ⟨_, rfl⟩
  rw [← hg] at y0 HG ⊢
  have Y0 := hide1 y0
  have YB := hide1 yb
  clear hY y0 yb B1 hg hmk
  go_wp2
  go_loopw [45] (fun v wr => ∃ i : Nat, i ≤ N8 ∧ v = .int .i64 i ∧ wr.heap[g]? = some (V.wrow (wacc lb N i)) ∧ Below w.heap.size w wr) (fun v _ => N8 - (intOf v).toNat)
  case atStart => exact ⟨0, Nat.zero_le _, rfl, by rw [wacc_zero]; exact Y0.out, YB.out⟩
  case round =>
    obtain ⟨i, hi, rfl, hrow, hbe⟩ := hrel
    by_cases hlt : i < N8
    · have hlti : (i : Int) < (N8 : Int) := by omega
      obtain ⟨a1, a2⟩ := wacc_succ HLn.out HLt.out (i := i) (by have := HN8.out; omega)
      have bl := num_lt64 ((HLt.out.drop (8 * (i / 8))).take (i % 8)) (by rw [List.length_take]; omega)
      have cu := V.row_cell hrow a1
      have bb := HLt.out.at (by omega) i
      have hix := run_index tp i (by omega)
      rw [HT.out] at hix
      obtain ⟨q, hq⟩ : ∃ v, v = i / 8 := ⟨_, rfl⟩
      obtain ⟨m, hm⟩ : ∃ v, v = i % 8 := ⟨_, rfl⟩
      obtain ⟨p, hp⟩ : ∃ v, v = 8 * m := ⟨_, rfl⟩
      rw [← hq, ← hm] at a2 bl
      rw [← hq] at cu
      rw [← hm] at cu
      rw [← hp] at a2
      have fu := frozen_of_row wr g q _ _ hrow
      generalize num ((lb.drop (8 * q)).take m) = y at *
      generalize at0 lb i = b at *
      have hor := V.or_byte bl bb (show p ≤ 56 by omega)
      obtain ⟨z, hz⟩ : ∃ v, v = b * 2 ^ p := ⟨_, rfl⟩
      obtain ⟨u, hu⟩ : ∃ v, v = y ||| b * 2 ^ p := ⟨_, rfl⟩
      have ez : IntKind.u64.wrap ((b : Int) * 2 ^ p) = (z : Int) := by
        have h1 : 2 ^ p ≤ 2 ^ 56 := Nat.pow_le_pow_right (by omega) (by omega)
        have h2 : b * 2 ^ p ≤ 255 * 2 ^ 56 := Nat.mul_le_mul (by omega) h1
        rw [V.pow_cast, ← Int.natCast_mul, ← hz, IntKind.wrap_u64]
        rw [← hz] at h2
        omega
      rw [ez] at hor
      rw [← hu] at hor a2
      have eq1 : (i : Int) / 8 = (q : Int) := by omega
      have em : (i : Int) % 8 = (m : Int) := by omega
      have em' : Int.tmod (i : Int) 8 = (m : Int) := by rw [Int.tmod_eq_emod_of_nonneg (by omega), em]
      have ep : 8 * (m : Int) = (p : Int) := by omega
      have wq : IntKind.i64.wrap (q : Int) = (q : Int) := by rw [IntKind.wrap_i64]; have := HN8.out; omega
      have wp : IntKind.i64.wrap (p : Int) = (p : Int) := by rw [IntKind.wrap_i64]; omega
      have wb : IntKind.u64.wrap (b : Int) = (b : Int) := by rw [IntKind.wrap_u64]; omega
      have qN : (q : Int) < (N : Int) := by have := HN8.out; omega
      have p64 : (p : Int) < 64 := by omega
      have p0 : (p : Int) ≤ 56 := by omega
      have HS : Shy (wacc lb N (i + 1) = (wacc lb N i).set q u) := ⟨a2⟩
      have HR := hide1 hrow
      have HE := hide1 hbe
      clear a1 a2 bl hrow hbe hq hm hp hz hu
      go_upto_region 10 with (fail)
      refine region_f (F := [15]) (S := fun w' => w'.cell? ⟨g, q, none⟩ = some (.int .u64 (y : Int))) (by kernel_rfl) cu (fun hS => ?_)
      refine take_p 0 48 (.slice (some ⟨g, 0, none⟩) N N) rfl rfl (by kernel_rfl) (by kernel_rfl) (by kernel_rfl) (fun _ _ _ h => h) rfl (fun w => by go_simp) ?_
      try simp only [List.setIfInBounds_toArray, List.set_cons_zero, List.set_cons_succ]
      refine take_p 1 49 (.int .i64 (i : Int)) rfl rfl (by kernel_rfl) (by kernel_rfl) (by kernel_rfl) (fun _ _ _ h => h) rfl (fun w => by go_simp) ?_
      try simp only [List.setIfInBounds_toArray, List.set_cons_zero, List.set_cons_succ]
      refine take_p 2 50 (.int .i64 (q : Int)) rfl rfl (by kernel_rfl) (by kernel_rfl) (by kernel_rfl) (fun _ _ _ h => h) rfl (fun w => by go_simp) ?_
      try simp only [List.setIfInBounds_toArray, List.set_cons_zero, List.set_cons_succ]
      refine take_p 3 51 (.pointer (some ⟨g, q, none⟩)) rfl rfl (by kernel_rfl) (by kernel_rfl) (by kernel_rfl) (fun _ _ _ h => h) rfl (fun w => by go_simp) ?_
      try simp only [List.setIfInBounds_toArray, List.set_cons_zero, List.set_cons_succ]
      refine take_f 4 52 (.int .u64 (y : Int)) [13, 14, 15] rfl rfl (by kernel_rfl) (by kernel_rfl) (by kernel_rfl) (by kernel_rfl) (by kernel_rfl) (by kernel_rfl) (fun _ _ _ h => h) rfl (fun w hSw => by have h1 := hSw; clear hSw; go_simp) hS ?_
      try simp only [List.setIfInBounds_toArray, List.set_cons_zero, List.set_cons_succ]
      refine take_p 5 53 (.string tp) rfl rfl (by kernel_rfl) (by kernel_rfl) (by kernel_rfl) (fun _ _ _ h => h) rfl (fun w => by go_simp) ?_
      try simp only [List.setIfInBounds_toArray, List.set_cons_zero, List.set_cons_succ]
      refine take_p 6 54 (.int .i64 (i : Int)) rfl rfl (by kernel_rfl) (by kernel_rfl) (by kernel_rfl) (fun _ _ _ h => h) rfl (fun w => by go_simp) ?_
      try simp only [List.setIfInBounds_toArray, List.set_cons_zero, List.set_cons_succ]
      refine take_p 7 55 (.int .u8 (b : Int)) rfl rfl (by kernel_rfl) (by kernel_rfl) (by kernel_rfl) (fun _ _ _ h => h) rfl (fun w => by have h1 := hix; go_simp) ?_
      try simp only [List.setIfInBounds_toArray, List.set_cons_zero, List.set_cons_succ]
      refine take_p 8 56 (.int .u64 (b : Int)) rfl rfl (by kernel_rfl) (by kernel_rfl) (by kernel_rfl) (fun _ _ _ h => h) rfl (fun w => by go_simp) ?_
      try simp only [List.setIfInBounds_toArray, List.set_cons_zero, List.set_cons_succ]
      refine take_p 9 57 (.int .i64 (i : Int)) rfl rfl (by kernel_rfl) (by kernel_rfl) (by kernel_rfl) (fun _ _ _ h => h) rfl (fun w => by go_simp) ?_
      try simp only [List.setIfInBounds_toArray, List.set_cons_zero, List.set_cons_succ]
      refine take_p 10 58 (.int .i64 (m : Int)) rfl rfl (by kernel_rfl) (by kernel_rfl) (by kernel_rfl) (fun _ _ _ h => h) rfl (fun w => by go_simp) ?_
      try simp only [List.setIfInBounds_toArray, List.set_cons_zero, List.set_cons_succ]
      refine take_p 11 59 (.int .i64 (p : Int)) rfl rfl (by kernel_rfl) (by kernel_rfl) (by kernel_rfl) (fun _ _ _ h => h) rfl (fun w => by go_simp) ?_
      try simp only [List.setIfInBounds_toArray, List.set_cons_zero, List.set_cons_succ]
      refine take_p 12 60 (.int .u64 (z : Int)) rfl rfl (by kernel_rfl) (by kernel_rfl) (by kernel_rfl) (fun _ _ _ h => h) rfl (fun w => by go_simp) ?_
      try simp only [List.setIfInBounds_toArray, List.set_cons_zero, List.set_cons_succ]
      refine take_p 13 61 (.int .u64 (u : Int)) rfl rfl (by kernel_rfl) (by kernel_rfl) (by kernel_rfl) (fun _ _ _ h => h) rfl (fun w => by go_simp) ?_
      try simp only [List.setIfInBounds_toArray, List.set_cons_zero, List.set_cons_succ]
      refine take_p 14 62 (.pointer (some ⟨g, q, none⟩)) rfl rfl (by kernel_rfl) (by kernel_rfl) (by kernel_rfl) (fun _ _ _ h => h) rfl (fun w => by go_simp) ?_
      try simp only [List.setIfInBounds_toArray, List.set_cons_zero, List.set_cons_succ]
      refine ready_f 15 (o := { dst := none, op := Op.store 22 (Operand.tmp 62) (Operand.tmp 61), type := 0, pos := "prg.go:52", after := #[{ on := 14, ground := Ground.data }, { on := 13, ground := Ground.data }, { on := 0, ground := Ground.phase }, { on := 1, ground := Ground.phase }, { on := 2, ground := Ground.phase }, { on := 3, ground := Ground.phase }, { on := 4, ground := Ground.phase }, { on := 5, ground := Ground.phase }, { on := 6, ground := Ground.phase }, { on := 7, ground := Ground.phase }, { on := 8, ground := Ground.phase }, { on := 9, ground := Ground.phase }, { on := 10, ground := Ground.phase }, { on := 11, ground := Ground.phase }, { on := 12, ground := Ground.phase }, { on := 13, ground := Ground.phase }], guard := none }) (by kernel_rfl) rfl (fun K hK => ?_)
      go_simp
      refine hK.out _ _ (fun h => absurd (by decide) h) ?_
      clear hK K
      refine done_f (by kernel_rfl) ?_ _
      clear hS cu fu hix
      go_wp2
      go_roundw
      case rel =>
        refine ⟨i + 1, by omega, by go_num, ?_, ?_⟩
        · rw [HS.out]
          exact V.wset (w := wr.drew) HR.out
        · exact (HE.out.drew).setCell HG.out _
      case measure => simp [intOf]; omega
    · obtain rfl : i = N8 := by omega
      rw [HA.out] at hrow
      have HR := hide1 hrow
      have HE := hide1 hbe
      clear hrow hbe
      go_wp2
      go_ret2
      exact ⟨_, rfl, HG.out, HR.out, HE.out⟩

set_option maxHeartbeats 4000000 in
theorem rwords_own (kl : List Nat) (x F N : Nat) (w : World) (hk : kl.length = 32) (bk : Lt 256 kl) (hx : x < 4294967296) (hN : N ≤ 4096) (hF : F + N ≤ 134217728) :
    Calls Tryd.prog 36 #[arr8 kl, .int .u32 (x : Int), .int .i64 (F : Int), .int .i64 (N : Int)] w (fun e w' => ∃ a c, e = .returned (.tuple #[.slice a N c, .int .i64 0]) ∧ w'.ownsRow w.heap.size 22 1 (.slice a N c) N (V.u64s (wrd kl x F N)) ∧ Below w.heap.size w w') := by
  obtain ⟨i0, hi, hz0, hz1, hz2⟩ := info_of info47
  obtain ⟨F8, hF8⟩ : ∃ v, v = 8 * F := ⟨_, rfl⟩
  obtain ⟨N8, hN8⟩ : ∃ v, v = 8 * N := ⟨_, rfl⟩
  have kb := fun w => hide1 (rbytes_yes kl x F8 N8 w hk bk hx (by omega) (by omega))
  have HT : Shy (nums (txt (byt kl x F8 N8)) = byt kl x F8 N8) := ⟨nums_txt (byt_lt _ _ _ _)⟩
  have hts : (txt (byt kl x F8 N8)).size = N8 := by rw [nums_size HT.out, byt_length]
  have HAt : Shy (∀ i m, i < N → m < 8 → at0 (byt kl x F8 N8) (8 * i + m) = at0 (byt kl x (8 * (F + i)) 8) m) := ⟨fun i m hi hm => by
    rw [byt_at (by omega), byt_at hm]
    congr 1
    omega⟩
  have HWd : Shy (∀ i, hi8 (byt kl x (8 * (F + i)) 8) 8 = wd kl x (F + i)) := ⟨fun i => by rw [hi8_all, wd]⟩
  have HL8 : Shy (∀ i, (byt kl x (8 * (F + i)) 8).length = 8 ∧ Lt 256 (byt kl x (8 * (F + i)) 8)) := ⟨fun i => ⟨byt_length _ _ _ _, byt_lt _ _ _ _⟩⟩
  have HSuc : Shy (∀ k, wrd kl x F (k + 1) = wrd kl x F k ++ [wd kl x (F + k)]) := ⟨wrd_succ kl x F⟩
  have HLn : Shy (∀ k, (wrd kl x F k).length = k) := ⟨wrd_length kl x F⟩
  have HZ : Shy (wrd kl x F 0 = []) := ⟨rfl⟩
  have HWL : Shy (∀ i, wd kl x (F + i) < 18446744073709551616) := ⟨fun i => wd_lt _ _ _⟩
  have Hz : Hid ((u8s kl).toArray.size = 32) := by show _ = _; simp [u8s, hk]
  generalize txt (byt kl x F8 N8) = tp at *
  generalize byt kl x F8 N8 = lb at *
  have h1 : decide ((F : Int) < 0) = false := by simp
  have h2 : decide ((N : Int) < 0) = false := by simp
  have h3 : decide ((4096 : Int) < (N : Int)) = false := by rw [decide_eq_false_iff_not]; omega
  have h4 : decide ((134217728 : Int) < (F : Int)) = false := by rw [decide_eq_false_iff_not]; omega
  have e1 : 8 * (F : Int) = (F8 : Int) := by omega
  have e2 : 8 * (N : Int) = (N8 : Int) := by omega
  have b1 : (F8 : Int) ≤ 1073741824 := by omega
  have b2 : (N8 : Int) ≤ 32768 := by omega
  have HN8 : Shy (N8 = 8 * N ∧ N ≤ 4096) := ⟨⟨hN8, hN⟩⟩
  clear hF8 hN8 hk bk hx hN hF
  unfold arr8 at kb ⊢
  go_enter Tryd.func36, Tryd.ntmps36
  go_upto_region 3 with (fail)
  generalize hX : World.alloc w _ = X
  have x0 : X.heap[w.heap.size]? = some (row8 28 kl) := by rw [← hX]; exact heap_alloc_new _ _
  have xb : Below w.heap.size w X := by rw [← hX]; exact (Below.refl _ _).alloc (Nat.le_refl _) _
  have X0 := hide1 x0
  have XB := hide1 xb
  clear hX x0 xb
  go_wp2_with (first | (refine wpList_load_row rfl 28 (.tmp 4) rfl w.heap.size rfl 28 (u8s kl).toArray (0, 0) _ X0.out Tryd.underlying28 rfl (by rw [Hz.out]; kernel_rfl) ?_) | fail)
  go_at_call 56
  refine (kb _).out.mono ?_
  rintro e w1 ⟨rfl, hb1⟩
  have B1 := hide1 (XB.out.trans (hb1.mono XB.out.size))
  clear hb1 kb X0 XB
  go_wp2
  go_loopw [12, 13] (fun v12 v13 wr => ∃ k : Nat, k ≤ N ∧ v13 = .int .i64 k ∧ (∃ a c, v12 = .slice a k c) ∧ wr.ownsRow w.heap.size 22 1 v12 k (V.u64s (wrd kl x F k)) ∧ Below w.heap.size w wr) (fun _ v13 _ => N - (intOf v13).toNat)
  case atStart => exact ⟨0, Nat.zero_le _, rfl, ⟨none, 0, rfl⟩, by rw [HZ.out]; exact World.ownsRow_nil _ _ _ _, B1.out⟩
  case round =>
    obtain ⟨k, hk, rfl, ⟨a12, c12, rfl⟩, hro, hbe⟩ := hrel
    by_cases hlt : k < N
    · have hlti : (k : Int) < (N : Int) := by omega
      have hS := HSuc.out k
      have hA := HAt.out k
      obtain ⟨l8, lt8⟩ := HL8.out k
      have hW := HWd.out k
      have hvl := HWL.out k
      generalize byt kl x (8 * (F + k)) 8 = ch at *
      generalize wd kl x (F + k) = v at *
      obtain ⟨p, hp⟩ : ∃ p, p = 8 * k := ⟨_, rfl⟩
      have ep : 8 * (k : Int) = (p : Int) := by omega
      have bp : (p : Int) ≤ 32768 := by have := HN8.out; omega
      have HS : Shy (wrd kl x F (k + 1) = wrd kl x F k ++ [v]) := ⟨hS⟩
      have HA : Shy (∀ m, m < 8 → at0 lb (p + m) = at0 ch m) := ⟨fun m hm => by rw [hp]; exact hA m hlt hm⟩
      have HL : Shy (ch.length = 8 ∧ Lt 256 ch ∧ hi8 ch 8 = v ∧ p + 8 ≤ N8) := ⟨⟨l8, lt8, hW, by have := HN8.out; omega⟩⟩
      have HRO := hide1 hro
      have HE := hide1 hbe
      have HKN : Shy (k < N ∧ N ≤ 4096) := ⟨⟨hlt, HN8.out.2⟩⟩
      clear hS hA l8 lt8 hW hro hbe hp
      obtain ⟨Z, hZ⟩ : ∃ Z, Z = wr := ⟨_, rfl⟩
      subst hZ
      go_wp2
      go_loop [14, 15] (fun v14 v15 => ∃ t : Nat, t ≤ 8 ∧ v15 = .int .i64 (7 - (t : Int)) ∧ v14 = .int .u64 (hi8 ch t : Nat)) (fun _ v15 => (intOf v15 + 1).toNat)
      case atStart => exact ⟨0, Nat.zero_le _, rfl, by rw [hi8_zero HL.out.1]; rfl⟩
      case round =>
        obtain ⟨t, ht, rfl, rfl⟩ := hrel
        by_cases hlt8 : t < 8
        · obtain ⟨m, hm⟩ : ∃ m, m = 7 - t := ⟨_, rfl⟩
          have em : 7 - (t : Int) = (m : Int) := by omega
          rw [em]
          have HM : Shy (m = 7 - t) := ⟨hm⟩
          obtain ⟨q, hq⟩ : ∃ q, q = p + m := ⟨_, rfl⟩
          have eq1 : (p : Int) + (m : Int) = (q : Int) := by omega
          have bq : (q : Int) < (N8 : Int) := by have := HL.out.2.2.2; omega
          have hix := fun w => run_index tp q (by have := HL.out.2.2.2; omega) w
          rw [HT.out, hq, HA.out m (by omega), ← hq] at hix
          have HN : Shy (hi8 ch (t + 1) = 256 * hi8 ch t + at0 ch m) := ⟨by rw [hi8_succ HL.out.1 hlt8, hm]⟩
          have b3 := hi8_lt HL.out.2.1 HL.out.1 hlt8
          have b4 := HL.out.2.1.at (by omega) m
          generalize hi8 ch t = v1 at *
          generalize at0 ch m = u at *
          have bm : (0 : Int) ≤ (m : Int) := by omega
          clear hm em hq
          go_wp2
          go_round
          case rel => exact ⟨t + 1, by omega, by have := HM.out; congr 1; omega, by rw [HN.out]; congr 1⟩
          case measure => simp [intOf]
        · have : t = 8 := by omega
          subst this
          rw [show 7 - ((8 : Nat) : Int) = -1 from rfl, HL.out.2.2.1]
          have hkm : k ≤ 4096 := by have := HKN.out; omega
          go_wp2_with (first
            | (at_builtin; go_must (refine wpList_append_lies _ rfl (.tmp 62) (.tmp 64) 39 rfl w.heap.size 22 i0 (.int .u64 0) 1 8 Tryd.underlying39 hi hz0 hz1 hz2 rfl (by decide) (.slice a12 k c12) k (V.u64s (wrd kl x F k)) rfl (HRO.out.alloc _) ⟨Z.heap.size, 0, none⟩ 1 1 (V.u64s [v]) rfl rfl (World.news_of_block (heap_alloc_new Z (V.wrow [v]))) (V.u64s_one _) (by omega) (by unfold maxLen; omega) (by omega) (by have := HE.out.size; rw [size_alloc]; omega) _ rfl ?_; intro g8 cap8 w8 ro8 gr8 wh8 lt8))
            | fail)
          rw [show V.u64s (wrd kl x F k) ++ V.u64s [v] = V.u64s (wrd kl x F (k + 1)) by rw [HS.out]; simp [V.u64s]] at ro8
          have hb8 : Below w.heap.size w w8 := (HE.out.alloc HE.out.size _).grown gr8 (by rw [size_alloc]; have := HE.out.size; omega) (fun k hk => (HRO.out.lt k hk).1)
          have RO8 := hide1 ro8
          have HB8 := hide1 hb8
          clear ro8 hb8 gr8 wh8 lt8
          go_wp2
          go_roundw
          case rel => exact ⟨k + 1, by omega, by go_num, ⟨_, _, rfl⟩, RO8.out, HB8.out⟩
          case measure => simp [intOf]; omega
    · obtain rfl : k = N := by omega
      have HRO := hide1 hro
      have HE := hide1 hbe
      clear hro hbe
      go_wp2
      go_ret2
      exact ⟨_, _, rfl, HRO.out, HE.out⟩
end Go.Proofs.YtlkkninnfiaedaaDoor.Pg

namespace Go.Proofs.YtlkkninnfiaedaaDoor.T

/- digits of k bits -/
def pk (k : Nat) : List Nat → Nat
  | [] => 0
  | d :: ds => d + 2 ^ k * pk k ds

def nats (l : List Bool) : List Nat := l.map Bool.toNat
def pack (l : List Bool) : Nat := pk 1 (nats l)

theorem pack_nil : pack [] = 0 := rfl
theorem pack_cons (b : Bool) (l : List Bool) : pack (b :: l) = b.toNat + 2 * pack l := rfl

theorem pack_testBit : ∀ (l : List Bool) (j : Nat), (pack l).testBit j = l.getD j false
  | [], j => by simp [pack_nil]
  | b :: l, 0 => by
    rw [pack_cons, Nat.testBit_zero]
    cases b <;> simp <;> omega
  | b :: l, j + 1 => by
    rw [pack_cons, Nat.testBit_succ]
    have : (b.toNat + 2 * pack l) / 2 = pack l := by cases b <;> simp <;> omega
    rw [this, pack_testBit l j]
    simp

theorem pack_lt : ∀ l : List Bool, pack l < 2 ^ l.length
  | [] => by simp [pack_nil]
  | b :: l => by
    have := pack_lt l
    rw [pack_cons, List.length_cons, Nat.pow_succ]
    cases b <;> simp <;> omega

theorem pack_append : ∀ A B : List Bool, pack (A ++ B) = pack A + 2 ^ A.length * pack B
  | [], B => by simp [pack_nil]
  | a :: A, B => by
    rw [List.cons_append, pack_cons, pack_append A B, pack_cons, List.length_cons, Nat.pow_succ, Nat.mul_add, Nat.mul_comm (2 ^ A.length) 2, Nat.mul_assoc]
    omega

theorem pack_falses (A : List Bool) (n : Nat) : pack (A ++ List.replicate n false) = pack A := by
  apply Nat.eq_of_testBit_eq
  intro j
  rw [pack_testBit, pack_testBit]
  simp only [List.getD_eq_getElem?_getD, List.getElem?_append, List.getElem?_replicate]
  by_cases h : j < A.length
  · simp [h]
  · simp only [h, if_false]
    rw [List.getElem?_eq_none (by omega)]
    split <;> rfl

/- so many a number -/
def need (n s : Nat) : Nat := (n + s - 1) / s
def chunk (s : Nat) (l : List Bool) (k : Nat) : Nat := pack ((l.drop (s * k)).take s)
def chunks (s : Nat) (l : List Bool) : List Nat := (List.range (need l.length s)).map (chunk s l)

theorem chunk_testBit (s : Nat) (l : List Bool) (k j : Nat) : (chunk s l k).testBit j = (decide (j < s) && l.getD (s * k + j) false) := by
  rw [chunk, pack_testBit]
  simp only [List.getD_eq_getElem?_getD, List.getElem?_take, List.getElem?_drop]
  by_cases h : j < s <;> simp [h]

theorem chunk_lt (s : Nat) (l : List Bool) (k : Nat) : chunk s l k < 2 ^ s := by
  refine Nat.lt_of_lt_of_le (pack_lt _) (Nat.pow_le_pow_right (by omega) ?_)
  simp
  omega

theorem chunk64_lt (l : List Bool) (k : Nat) : chunk 64 l k < 18446744073709551616 := chunk_lt 64 l k
theorem chunk8_lt (l : List Bool) (k : Nat) : chunk 8 l k < 256 := chunk_lt 8 l k

theorem chunks_length (s : Nat) (l : List Bool) : (chunks s l).length = need l.length s := by simp [chunks]

theorem chunks_get {s : Nat} {l : List Bool} {k : Nat} (h : k < need l.length s) : (chunks s l)[k]? = some (chunk s l k) := by
  simp [chunks, h]

theorem chunks_get' {s : Nat} {l : List Bool} {k x : Nat} (h : (chunks s l)[k]? = some x) : k < need l.length s ∧ x = chunk s l k := by
  by_cases hk : k < need l.length s
  · rw [chunks_get hk] at h
    exact ⟨hk, (Option.some.inj h).symm⟩
  · rw [List.getElem?_eq_none (by rw [chunks_length]; omega)] at h
    cases h

theorem need64 (n : Nat) : need n 64 = (n + 63) / 64 := rfl
theorem need8 (n : Nat) : need n 8 = (n + 7) / 8 := rfl

theorem chunks_ext {s : Nat} {l : List Bool} {ws : List Nat} (hlen : ws.length = need l.length s)
    (h : ∀ k x, ws[k]? = some x → x < 2 ^ s ∧ ∀ j, j < s → x.testBit j = l.getD (s * k + j) false) : ws = chunks s l := by
  apply List.ext_getElem?
  intro k
  by_cases hk : k < need l.length s
  · rw [chunks_get hk]
    obtain ⟨x, hx⟩ : ∃ x, ws[k]? = some x := ⟨_, List.getElem?_eq_getElem (by omega)⟩
    rw [hx]
    obtain ⟨h1, h2⟩ := h k x hx
    congr 1
    apply Nat.eq_of_testBit_eq
    intro j
    rw [chunk_testBit]
    by_cases hj : j < s
    · simp [hj, h2 j hj]
    · simp only [hj, decide_false, Bool.false_and]
      exact Nat.testBit_lt_two_pow (Nat.lt_of_lt_of_le h1 (Nat.pow_le_pow_right (by omega) (by omega)))
  · rw [List.getElem?_eq_none (by omega), List.getElem?_eq_none (by rw [chunks_length]; omega)]

theorem chunks_falses (s n : Nat) : chunks s (List.replicate n false) = List.replicate (need n s) 0 := by
  symm
  apply chunks_ext (by simp)
  intro k x hx
  simp [List.getElem?_replicate] at hx
  obtain ⟨_, rfl⟩ := hx
  refine ⟨Nat.two_pow_pos s, fun j _ => ?_⟩
  rw [Nat.zero_testBit]
  simp [List.getD_eq_getElem?_getD, List.getElem?_replicate]
  split <;> rfl

theorem getD_set (l : List Bool) (k : Nat) (b : Bool) (i : Nat) (hk : k < l.length) : (l.set k b).getD i false = if i = k then b else l.getD i false := by
  simp only [List.getD_eq_getElem?_getD, List.getElem?_set]
  by_cases h : k = i
  · subst h; simp [hk]
  · simp only [h, if_false]
    rw [if_neg (fun e => h e.symm)]

theorem split_at {s : Nat} (hs : 0 < s) (k q j : Nat) (hj : j < s) : (s * q + j = k) ↔ (q = k / s ∧ j = k % s) := by
  constructor
  · intro h
    subst h
    rw [Nat.mul_add_div hs, Nat.mul_add_mod, Nat.div_eq_of_lt hj, Nat.mod_eq_of_lt hj]
    simp
  · rintro ⟨rfl, rfl⟩
    exact Nat.div_add_mod k s

theorem chunks_set {s : Nat} (hs : 0 < s) (l : List Bool) (k : Nat) (b : Bool) (hk : k < l.length) (x : Nat) (hx : x < 2 ^ s)
    (ht : ∀ j, j < s → x.testBit j = if j = k % s then b else (chunk s l (k / s)).testBit j) : chunks s (l.set k b) = (chunks s l).set (k / s) x := by
  symm
  apply chunks_ext (by simp [chunks_length])
  intro q y hy
  rw [List.getElem?_set] at hy
  by_cases hq : k / s = q
  · subst hq
    rw [if_pos rfl] at hy
    split at hy
    · cases hy
      refine ⟨hx, fun j hj => ?_⟩
      rw [ht j hj, getD_set _ _ _ _ hk, chunk_testBit]
      have := split_at hs k (k / s) j hj
      simp only [true_and] at this
      by_cases hj' : j = k % s
      · rw [if_pos hj', if_pos (this.2 hj')]
      · rw [if_neg hj', if_neg (fun e => hj' (this.1 e))]
        simp [hj]
    · cases hy
  · rw [if_neg hq] at hy
    obtain ⟨hq', rfl⟩ := chunks_get' hy
    refine ⟨chunk_lt _ _ _, fun j hj => ?_⟩
    rw [chunk_testBit, getD_set _ _ _ _ hk]
    have := split_at hs k q j hj
    rw [if_neg (fun e => hq (this.1 e).1.symm)]
    simp [hj]

theorem chunks_set_true {s : Nat} (hs : 0 < s) (l : List Bool) (k : Nat) (hk : k < l.length) : chunks s (l.set k true) = (chunks s l).set (k / s) (chunk s l (k / s) ||| 2 ^ (k % s)) := by
  refine chunks_set hs l k true hk _ ?_ ?_
  · exact Nat.or_lt_two_pow (chunk_lt _ _ _) (Nat.pow_lt_pow_right (by omega) (Nat.mod_lt _ hs))
  · intro j hj
    rw [Nat.testBit_or, Nat.testBit_two_pow]
    by_cases h : j = k % s
    · simp [h]
    · rw [if_neg h]
      have : ¬ k % s = j := fun e => h e.symm
      simp [this]

theorem chunks_set_false {s : Nat} (hs : 0 < s) (l : List Bool) (k : Nat) (hk : k < l.length) : chunks s (l.set k false) = (chunks s l).set (k / s) (chunk s l (k / s) &&& (2 ^ s - 1 - 2 ^ (k % s))) := by
  refine chunks_set hs l k false hk _ ?_ ?_
  · exact Nat.lt_of_le_of_lt (Nat.and_le_left) (chunk_lt _ _ _)
  · intro j hj
    have hlt : 2 ^ (k % s) < 2 ^ s := Nat.pow_lt_pow_right (by omega) (Nat.mod_lt _ hs)
    rw [Nat.testBit_and, show 2 ^ s - 1 - 2 ^ (k % s) = 2 ^ s - (2 ^ (k % s) + 1) by omega, Nat.testBit_two_pow_sub_succ hlt, Nat.testBit_two_pow]
    by_cases h : j = k % s
    · simp [h]
    · rw [if_neg h]
      have : ¬ k % s = j := fun e => h e.symm
      simp [this, hj]

/- what is behind the last bit is cleared -/
def trimmed (n : Nat) (ws : List Nat) : List Nat := if 0 < n % 64 then ws.set (ws.length - 1) (ws.getD (ws.length - 1) 0 &&& (2 ^ (n % 64) - 1)) else ws

theorem trimmed_spec {n : Nat} {ws : List Nat} {l : List Bool} (hl : l.length = n) (hlen : ws.length = need n 64)
    (h : ∀ k x, ws[k]? = some x → x < 2 ^ 64 ∧ ∀ j, j < 64 → 64 * k + j < n → x.testBit j = l.getD (64 * k + j) false) : trimmed n ws = chunks 64 l := by
  rw [need64] at hlen
  unfold trimmed
  split
  · rename_i hu
    apply chunks_ext (by simp [hl, hlen, need64])
    intro q y hy
    rw [List.getElem?_set] at hy
    by_cases hq : ws.length - 1 = q
    · rw [if_pos hq] at hy
      split at hy
      · cases hy
        obtain ⟨x, hx⟩ : ∃ x, ws[q]? = some x := ⟨_, List.getElem?_eq_getElem (by omega)⟩
        obtain ⟨h1, h2⟩ := h q x hx
        have e : ws.getD (ws.length - 1) 0 = x := by rw [hq, List.getD_eq_getElem?_getD, hx]; rfl
        rw [e]
        refine ⟨Nat.lt_of_le_of_lt Nat.and_le_left h1, fun j hj => ?_⟩
        rw [Nat.testBit_and, Nat.testBit_two_pow_sub_one]
        by_cases hj' : j < n % 64
        · rw [h2 j hj (by omega)]
          simp [hj']
        · simp only [hj', decide_false, Bool.and_false]
          rw [List.getD_eq_getElem?_getD, List.getElem?_eq_none (by omega)]
          rfl
      · omega
    · rw [if_neg hq] at hy
      obtain ⟨h1, h2⟩ := h q y hy
      have : q < ws.length := (List.getElem?_eq_some_iff.1 hy).1
      exact ⟨h1, fun j hj => h2 j hj (by omega)⟩
  · rename_i hu
    apply chunks_ext (by simp [hl, hlen, need64])
    intro q y hy
    obtain ⟨h1, h2⟩ := h q y hy
    have : q < ws.length := (List.getElem?_eq_some_iff.1 hy).1
    exact ⟨h1, fun j hj => h2 j hj (by omega)⟩

/- ones counted, as the library counts them -/
def masks (k : Nat) : Nat → Nat
  | 0 => 0
  | n + 1 => (2 ^ k - 1) + 2 ^ (k + k) * masks k n

def pairs : List Nat → List Nat
  | a :: b :: t => (a + b) :: pairs t
  | l => l

theorem and_split (m a b x y : Nat) (ha : a < 2 ^ m) (hb : b < 2 ^ m) : (a + 2 ^ m * x) &&& (b + 2 ^ m * y) = (a &&& b) + 2 ^ m * (x &&& y) := by
  have hab : a &&& b < 2 ^ m := Nat.lt_of_le_of_lt Nat.and_le_left ha
  rw [Nat.add_comm a, Nat.add_comm b, Nat.add_comm (a &&& b)]
  apply Nat.eq_of_testBit_eq
  intro j
  rw [Nat.testBit_and, Nat.testBit_two_pow_mul_add _ ha, Nat.testBit_two_pow_mul_add _ hb, Nat.testBit_two_pow_mul_add _ hab]
  split <;> simp

theorem two_digits {k a b : Nat} (ha : a < 2 ^ k) (hb : b < 2 ^ k) : a + 2 ^ k * b < 2 ^ (k + k) := by
  rw [Nat.pow_add]
  have : 2 ^ k * b ≤ 2 ^ k * (2 ^ k - 1) := Nat.mul_le_mul_left _ (by omega)
  have e : 2 ^ k * (2 ^ k - 1) = 2 ^ k * 2 ^ k - 2 ^ k := by rw [Nat.mul_sub, Nat.mul_one]
  have : 2 ^ k ≤ 2 ^ k * 2 ^ k := Nat.le_mul_of_pos_right _ (Nat.two_pow_pos k)
  omega

theorem low_digit {k a b : Nat} (ha : a < 2 ^ k) : (a + 2 ^ k * b) &&& (2 ^ k - 1) = a := by
  rw [Nat.and_two_pow_sub_one_eq_mod, Nat.add_mul_mod_self_left, Nat.mod_eq_of_lt ha]

theorem mask_lt (k : Nat) : 2 ^ k - 1 < 2 ^ (k + k) := by
  have := Nat.two_pow_pos k
  rw [Nat.pow_add]
  have : 2 ^ k ≤ 2 ^ k * 2 ^ k := Nat.le_mul_of_pos_right _ (Nat.two_pow_pos k)
  omega

theorem pk_pairs (k : Nat) : ∀ (n : Nat) (ds : List Nat), ds.length = 2 * n → (∀ d ∈ ds, d < 2 ^ k) →
    (pk k ds / 2 ^ k &&& masks k n) + (pk k ds &&& masks k n) = pk (k + k) (pairs ds)
  | 0, [], _, _ => by simp [pk, masks, pairs]
  | 0, _ :: _, h, _ => by simp at h
  | n + 1, [], h, _ => by simp at h
  | n + 1, [_], h, _ => by simp at h; omega
  | n + 1, a :: b :: t, h, hd => by
    have ha : a < 2 ^ k := hd a (by simp)
    have hb : b < 2 ^ k := hd b (by simp)
    have IH := pk_pairs k n t (by simp at h; omega) (fun d hd' => hd d (by simp [hd']))
    have hp := Nat.two_pow_pos k
    have e1 : pk k (a :: b :: t) = (a + 2 ^ k * b) + 2 ^ (k + k) * pk k t := by
      simp only [pk, Nat.pow_add, Nat.mul_add, Nat.mul_assoc]
      omega
    have e2 : pk k (a :: b :: t) / 2 ^ k = b + 2 ^ k * pk k t := by
      show (a + 2 ^ k * (b + 2 ^ k * pk k t)) / 2 ^ k = _
      rw [Nat.add_mul_div_left _ _ hp, Nat.div_eq_of_lt ha, Nat.zero_add]
    have e3 : b + 2 ^ k * pk k t = (b + 2 ^ k * (pk k t % 2 ^ k)) + 2 ^ (k + k) * (pk k t / 2 ^ k) := by
      rw [Nat.pow_add, Nat.mul_assoc, Nat.add_assoc, ← Nat.mul_add, Nat.mod_add_div]
    rw [e2, e3, e1, masks, and_split _ _ _ _ _ (two_digits hb (Nat.mod_lt _ hp)) (mask_lt k), and_split _ _ _ _ _ (two_digits ha hb) (mask_lt k), low_digit hb, low_digit ha, pairs, pk, ← IH, Nat.mul_add]
    omega

def adds : List Nat → List Nat
  | a :: b :: t => (a + b) :: adds (b :: t)
  | l => l

theorem pairs_sum : ∀ (n : Nat) (ds : List Nat), ds.length = 2 * n → (pairs ds).sum = ds.sum ∧ (pairs ds).length = n
  | 0, [], _ => by simp [pairs]
  | 0, _ :: _, h => by simp at h
  | n + 1, [], h => by simp at h
  | n + 1, [_], h => by simp at h; omega
  | n + 1, a :: b :: t, h => by
    have IH := pairs_sum n t (by simp at h; omega)
    obtain ⟨i1, i2⟩ := IH
    refine ⟨?_, ?_⟩
    · rw [pairs, List.sum_cons, List.sum_cons, List.sum_cons, i1, Nat.add_assoc]
    · rw [pairs, List.length_cons, i2]

theorem pairs_le (c : Nat) : ∀ (n : Nat) (ds : List Nat), ds.length = 2 * n → (∀ d ∈ ds, d ≤ c) → ∀ d ∈ pairs ds, d ≤ 2 * c
  | 0, [], _, _ => by simp [pairs]
  | 0, _ :: _, h, _ => by simp at h
  | n + 1, [], h, _ => by simp at h
  | n + 1, [_], h, _ => by simp at h; omega
  | n + 1, a :: b :: t, h, hd => by
    have IH := pairs_le c n t (by simp at h; omega) (fun d hd' => hd d (by simp [hd']))
    have ha := hd a (by simp)
    have hb := hd b (by simp)
    intro d hdm
    simp only [pairs, List.mem_cons] at hdm
    rcases hdm with rfl | hdm
    · omega
    · exact IH d hdm

/- the third step: neighbours are added first, then every other digit is taken -/
theorem pk_third (k c : Nat) (hc : 2 * c < 2 ^ k) : ∀ (n : Nat) (ds : List Nat), ds.length = 2 * n → (∀ d ∈ ds, d ≤ c) →
    (pk k ds / 2 ^ k + pk k ds) &&& masks k n = pk (k + k) (pairs ds) ∧ (pk k ds / 2 ^ k + pk k ds) % 2 ^ k ≤ 2 * c
  | 0, [], _, _ => by simp [pk, masks, pairs]
  | 0, _ :: _, h, _ => by simp at h
  | n + 1, [], h, _ => by simp at h
  | n + 1, [_], h, _ => by simp at h; omega
  | n + 1, a :: b :: t, h, hd => by
    have ha : a ≤ c := hd a (by simp)
    have hb : b ≤ c := hd b (by simp)
    have hl : t.length = 2 * n := by simp at h; omega
    have ht : ∀ d ∈ t, d ≤ c := fun d hd' => hd d (by simp [hd'])
    obtain ⟨IH, _⟩ := pk_third k c hc n t hl ht
    have hp := Nat.two_pow_pos k
    have e2 : pk k (a :: b :: t) / 2 ^ k = b + 2 ^ k * pk k t := by
      show (a + 2 ^ k * (b + 2 ^ k * pk k t)) / 2 ^ k = _
      rw [Nat.add_mul_div_left _ _ hp, Nat.div_eq_of_lt (by omega), Nat.zero_add]
    have hf : pk k t % 2 ^ k ≤ c := by
      match t, ht with
      | [], _ => simp [pk]
      | d :: r, ht =>
        have hdc := ht d (by simp)
        rw [pk, Nat.add_mul_mod_self_left, Nat.mod_eq_of_lt (by omega)]
        exact hdc
    have e4 : pk k t = pk k t % 2 ^ k + 2 ^ k * (pk k t / 2 ^ k) := (Nat.mod_add_div _ _).symm
    have e5 : pk k (a :: b :: t) / 2 ^ k + pk k (a :: b :: t) = ((a + b) + 2 ^ k * (b + pk k t % 2 ^ k)) + 2 ^ (k + k) * (pk k t / 2 ^ k + pk k t) := by
      rw [e2]
      show b + 2 ^ k * pk k t + (a + 2 ^ k * (b + 2 ^ k * pk k t)) = _
      have : 2 ^ k * pk k t = 2 ^ k * (pk k t % 2 ^ k) + 2 ^ (k + k) * (pk k t / 2 ^ k) := by
        conv => lhs; rw [e4]
        rw [Nat.mul_add, Nat.pow_add, Nat.mul_assoc]
      rw [Nat.mul_add, Nat.mul_add, Nat.mul_add, ← Nat.mul_assoc, ← Nat.pow_add]
      omega
    rw [e5]
    refine ⟨?_, ?_⟩
    · rw [masks, and_split _ _ _ _ _ (two_digits (by omega) (by omega)) (mask_lt k), low_digit (by omega), IH, pairs, pk]
    · rw [Nat.pow_add, Nat.mul_assoc, Nat.add_assoc, ← Nat.mul_add, Nat.add_mul_mod_self_left, Nat.mod_eq_of_lt (by omega)]
      omega

def ones1 (x : Nat) : Nat := (x / 2 &&& 6148914691236517205) + (x &&& 6148914691236517205)
def ones2 (x : Nat) : Nat := (x / 4 &&& 3689348814741910323) + (x &&& 3689348814741910323)
def ones3 (x : Nat) : Nat := (x / 16 + x) &&& 1085102592571150095

theorem masks1 : masks 1 32 = 6148914691236517205 := by decide +kernel
theorem masks2 : masks 2 16 = 3689348814741910323 := by decide +kernel
theorem masks4 : masks 4 8 = 1085102592571150095 := by decide +kernel

theorem nats_sum : ∀ l : List Bool, (nats l).sum = l.count true
  | [] => rfl
  | b :: l => by
    have := nats_sum l
    show b.toNat + (nats l).sum = _
    rw [this]
    cases b <;> simp <;> omega

theorem ones_spec (l : List Bool) (h : l.length = 64) : ∃ es : List Nat, ones1 (pack l) = pk 2 (pairs (nats l)) ∧ ones2 (ones1 (pack l)) = pk 4 (pairs (pairs (nats l))) ∧
    ones3 (ones2 (ones1 (pack l))) = pk 8 es ∧ es.length = 8 ∧ es.sum = l.count true ∧ ∀ d ∈ es, d ≤ 8 := by
  have h0 : (nats l).length = 2 * 32 := by simp [nats, h]
  have b0 : ∀ d ∈ nats l, d ≤ 1 := by
    intro d hd
    simp [nats] at hd
    obtain ⟨b, hb | hb⟩ := hd
    all_goals (first | omega | (cases b <;> simp_all))
  have s0 := pairs_sum 32 (nats l) h0
  have b1 := pairs_le 1 32 (nats l) h0 b0
  have h1 : (pairs (nats l)).length = 2 * 16 := s0.2
  have s1 := pairs_sum 16 _ h1
  have b2 := pairs_le 2 16 _ h1 b1
  have h2 : (pairs (pairs (nats l))).length = 2 * 8 := s1.2
  have s2 := pairs_sum 8 _ h2
  have b3 := pairs_le 4 8 _ h2 b2
  have e1 : ones1 (pack l) = pk 2 (pairs (nats l)) := by
    have := pk_pairs 1 32 (nats l) h0 (fun d hd => by have := b0 d hd; omega)
    rw [masks1] at this
    exact this
  have e2 : ones2 (ones1 (pack l)) = pk 4 (pairs (pairs (nats l))) := by
    have := pk_pairs 2 16 _ h1 (fun d hd => by have := b1 d hd; omega)
    rw [masks2] at this
    rw [e1]
    exact this
  refine ⟨pairs (pairs (pairs (nats l))), e1, e2, ?_, s2.2, ?_, b3⟩
  · have := (pk_third 4 4 (by decide) 8 _ h2 b2).1
    rw [masks4] at this
    rw [e2]
    exact this
  · rw [s2.1, s1.1, s0.1, nats_sum]

theorem pk8_sum (es : List Nat) (h : es.length = 8) (hd : ∀ d ∈ es, d ≤ 8) :
    pk 8 es < 18446744073709551616 ∧
    (let a := pk 8 es + pk 8 es / 256; let b := a + a / 65536; let c := b + b / 4294967296; a < 18446744073709551616 ∧ b < 18446744073709551616 ∧ c < 9223372036854775808 ∧ c % 128 = es.sum) := by
  match es, h with
  | [d0, d1, d2, d3, d4, d5, d6, d7], _ =>
    have k0 := hd d0 (by simp)
    have k1 := hd d1 (by simp)
    have k2 := hd d2 (by simp)
    have k3 := hd d3 (by simp)
    have k4 := hd d4 (by simp)
    have k5 := hd d5 (by simp)
    have k6 := hd d6 (by simp)
    have k7 := hd d7 (by simp)
    obtain ⟨y6, h6⟩ : ∃ y, y = d6 + 256 * d7 := ⟨_, rfl⟩
    obtain ⟨y5, h5⟩ : ∃ y, y = d5 + 256 * y6 := ⟨_, rfl⟩
    obtain ⟨y4, h4⟩ : ∃ y, y = d4 + 256 * y5 := ⟨_, rfl⟩
    obtain ⟨y3, h3⟩ : ∃ y, y = d3 + 256 * y4 := ⟨_, rfl⟩
    obtain ⟨y2, h2⟩ : ∃ y, y = d2 + 256 * y3 := ⟨_, rfl⟩
    obtain ⟨y1, h1⟩ : ∃ y, y = d1 + 256 * y2 := ⟨_, rfl⟩
    obtain ⟨x, h0⟩ : ∃ y, y = d0 + 256 * y1 := ⟨_, rfl⟩
    have e0 : pk 8 [d0, d1, d2, d3, d4, d5, d6, d7] = x := by
      rw [h0, h1, h2, h3, h4, h5, h6]
      simp only [pk, Nat.reducePow, Nat.mul_zero, Nat.add_zero]
    have es : [d0, d1, d2, d3, d4, d5, d6, d7].sum = d0 + d1 + d2 + d3 + (d4 + d5 + d6 + d7) := by
      simp only [List.sum_cons, List.sum_nil]
      omega
    rw [e0, es]
    clear e0 es hd
    have b6 : y6 ≤ 2056 := by omega
    have b5 : y5 ≤ 526344 := by omega
    have b4 : y4 ≤ 134744072 := by omega
    have b3 : y3 ≤ 34494482440 := by omega
    have b2 : y2 ≤ 8830587504648 := by omega
    have b1 : y1 ≤ 2260630401189896 := by omega
    have b0 : x ≤ 578721382704613384 := by omega
    have q1 : x / 256 = y1 := by omega
    dsimp only
    rw [q1]
    obtain ⟨a, ha⟩ : ∃ a, a = x + y1 := ⟨_, rfl⟩
    rw [← ha]
    have a1 : a = (d0 + d1) + 256 * (y1 + y2) := by omega
    have a2 : y1 + y2 = (d1 + d2) + 256 * (y2 + y3) := by omega
    obtain ⟨z, hz⟩ : ∃ z, z = y2 + y3 := ⟨_, rfl⟩
    obtain ⟨u, hu⟩ : ∃ u, u = y1 + y2 := ⟨_, rfl⟩
    rw [← hz, ← hu] at a2
    rw [← hu] at a1
    have q2 : a / 65536 = z := by
      clear h0 h1 h2 h3 h4 h5 h6 hz hu ha
      omega
    rw [q2]
    obtain ⟨b, hb⟩ : ∃ b, b = a + z := ⟨_, rfl⟩
    rw [← hb]
    obtain ⟨t1, ht1⟩ : ∃ t, t = y1 + y2 + y3 + y4 := ⟨_, rfl⟩
    obtain ⟨t2, ht2⟩ : ∃ t, t = y2 + y3 + y4 + y5 := ⟨_, rfl⟩
    obtain ⟨t3, ht3⟩ : ∃ t, t = y3 + y4 + y5 + y6 := ⟨_, rfl⟩
    obtain ⟨t4, ht4⟩ : ∃ t, t = y4 + y5 + y6 + d7 := ⟨_, rfl⟩
    have c0 : b = (d0 + d1 + d2 + d3) + 256 * t1 := by
      rw [hb, a1, hz, hu, ht1]
      clear h0 h1 hz hu ha a1 a2 q1 q2 hb ht1 ht2 ht3 ht4
      omega
    have c1 : t1 = (d1 + d2 + d3 + d4) + 256 * t2 := by
      rw [ht1, ht2]
      clear hz hu ha a1 a2 q1 q2 hb ht1 ht2 ht3 ht4
      omega
    have c2 : t2 = (d2 + d3 + d4 + d5) + 256 * t3 := by
      rw [ht2, ht3]
      clear hz hu ha a1 a2 q1 q2 hb ht1 ht2 ht3 ht4
      omega
    have c3 : t3 = (d3 + d4 + d5 + d6) + 256 * t4 := by
      rw [ht3, ht4]
      clear hz hu ha a1 a2 q1 q2 hb ht1 ht2 ht3 ht4
      omega
    have q3 : b / 4294967296 = t4 := by
      clear h0 h1 h2 h3 h4 h5 h6 hz hu ha a1 a2 q1 q2 hb ht1 ht2 ht3 ht4
      omega
    rw [q3]
    have c4 : b + t4 = (d0 + d1 + d2 + d3 + (d4 + d5 + d6 + d7)) + 256 * (t1 + (y5 + y6 + d7)) := by
      rw [c0, ht4]
      clear h0 h1 h2 h3 hz hu ha a1 a2 q1 q2 q3 hb ht1 ht2 ht3 ht4 c0 c1 c2 c3
      omega
    have bz : z ≤ 8865081987088 := by omega
    have bt : t4 ≤ 135272480 := by omega
    have bb : a ≤ 580982013105803280 := by omega
    clear h0 h1 h2 h3 h4 h5 h6 hz hu a1 a2 q1 q2 q3 ht1 ht2 ht3 ht4 c0 c1 c2 c3
    refine ⟨by omega, by omega, by omega, by omega, by omega⟩

end Go.Proofs.YtlkkninnfiaedaaDoor.T
