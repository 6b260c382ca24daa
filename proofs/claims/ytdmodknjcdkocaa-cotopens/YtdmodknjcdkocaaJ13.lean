/- Bytes of a stream: the document's. -/
import Derived.Test.YtdmodknjcdkocaaJ10
import Derived.Test.YtdmodknjcdkocaaJ12
namespace Go.Proofs.Ytdmodknjcdkocaa.Pg
open Go.RowKit
set_option maxRecDepth 100000
attribute [local go_sem] not_any

set_option maxHeartbeats 4000000 in
theorem rbytes_yes (kl : List Nat) (x F N : Nat) (w : World) (hk : kl.length = 32) (bk : Lt 256 kl) (hx : x < 4294967296) (hN : N ≤ 32768) (hF : F + N ≤ 1073741824) :
    Calls Try.prog 51 #[arr8 kl, .int .u32 (x : Int), .int .i64 (F : Int), .int .i64 (N : Int)] w fun e w' => e = .returned (.tuple #[.string (txt (byt kl x F N)), .int .i64 0]) ∧ Below w.heap.size w w' := by
  obtain ⟨s, hs⟩ : ∃ s, s = F % 64 := ⟨_, rfl⟩
  obtain ⟨c, hc⟩ : ∃ c, c = F / 64 := ⟨_, rfl⟩
  obtain ⟨T, hT⟩ : ∃ T, T = s + N := ⟨_, rfl⟩
  have HT : Shy (nums (txt (nonceP x 0)) = nonceP x 0) := ⟨nums_txt (nonceP_lt x 0)⟩
  have hts : (txt (nonceP x 0)).size = 12 := by rw [nums_size HT.out, nonceP_length]
  have kn := fun w => hide1 (rnonce_any x 0 w hx (by omega))
  have HRB : Hid (∀ (d : Nat) (w : World), d < 4294967296 → Calls Try.prog 56 #[.agg (u8s kl).toArray, .string (txt (nonceP x 0)), .int .u32 (d : Int)] w fun e w' => e = .returned (.tuple #[.string (txt (blockP kl (nonceP x 0) d)), .int .i64 0]) ∧ Below w.heap.size w w') := fun d w hd => by
    have := rblock_any kl (txt (nonceP x 0)) d w hk bk hts hd
    rw [HT.out] at this
    exact this
  have HCut : Shy (∀ k, T ≤ 64 * k → ((strT kl (nonceP x 0) c k).drop s).take N = byt kl x F N) := ⟨fun k h => by rw [hc, hs]; exact strT_byt kl x F N k (by omega)⟩
  have HD : Shy (s + N = T ∧ s < 64 ∧ c ≤ 16777216 ∧ T ≤ 33000) := ⟨⟨hT.symm, by omega, by omega, by omega⟩⟩
  have HNl : Shy (nonceP x 0 = nonceP x 0) := ⟨rfl⟩
  have HBl : Shy (Lt 256 (byt kl x F N)) := ⟨byt_lt _ _ _ _⟩
  generalize byt kl x F N = br at *
  generalize txt (nonceP x 0) = tx at *
  generalize nonceP x 0 = nl at *
  have h1 : decide ((F : Int) < 0) = false := by simp
  have h2 : decide ((N : Int) < 0) = false := by simp
  have h3 : decide ((32768 : Int) < (N : Int)) = false := by rw [decide_eq_false_iff_not]; omega
  have h4 : decide (1073741824 - (N : Int) < (F : Int)) = false := by rw [decide_eq_false_iff_not]; omega
  have es : (F : Int) % 64 = (s : Int) := by omega
  have ec : (F : Int) / 64 = (c : Int) := by omega
  have eT : (s : Int) + (N : Int) = (T : Int) := by omega
  have bc : (c : Int) ≤ 16777216 := by omega
  have bT' : (T : Int) ≤ 33000 := by omega
  have bs : (s : Int) < 64 := by omega
  have bN : (N : Int) ≤ 32768 := by omega
  have bF : (F : Int) ≤ 1073741824 := by omega
  have hu := Try.underlying46
  have hi : (Try.prog.info? 46).map (·.size) = some (u8s kl).toArray.size := by rw [show (u8s kl).toArray.size = 32 by simp [u8s, hk]]; kernel_rfl
  clear hs hc hT hk bk hN hF HT hts hx HNl
  unfold arr8
  go_enter Try.func51, Try.ntmps51
  go_upto_region 4 with (fail)
  generalize hX : World.alloc w _ = X
  have x0 : X.heap[w.heap.size]? = some (row8 46 kl) := by rw [← hX]; exact heap_alloc_new _ _
  have xb : Below w.heap.size w X := by rw [← hX]; exact (Below.refl _ _).alloc (Nat.le_refl _) _
  have X0 := hide1 x0
  have XB := hide1 xb
  clear hX x0 xb
  go_wp2
  go_loopw [10, 11] (fun v10 v11 wr => ∃ (k a : Nat) (o : ByteArray), a = c + k ∧ v11 = .int .i64 a ∧ v10 = .string o ∧ k ≤ need T ∧ Shy (nums o = strT kl nl c k) ∧ Below X.heap.size X wr) (fun _ v11 _ => c + need T - (intOf v11).toNat)
  case atStart => exact ⟨0, c, ByteArray.empty, rfl, rfl, rfl, Nat.zero_le _, ⟨rfl⟩, Below.refl _ _⟩
  case round =>
    obtain ⟨k, a, o, ha, rfl, rfl, hk, ho, hbe⟩ := hrel
    have hsz : o.size = 64 * k := by rw [nums_size ho.out, strT_length]
    obtain ⟨z, hz⟩ : ∃ z, z = 64 * k := ⟨_, rfl⟩
    rw [← hz] at hsz
    have Hz2 : Shy (z = 64 * k ∧ k ≤ need T) := ⟨⟨hz, hk⟩⟩
    have Ha : Shy (a = c + k) := ⟨ha⟩
    have HE := hide1 hbe
    have hX0 : Hid (wr.heap[w.heap.size]? = some (row8 46 kl)) := (hbe.block _ (lt_heap X0.out)).trans X0.out
    by_cases hlt : z < T
    · have hlti : (z : Int) < (T : Int) := by omega
      have hkn : k + 1 ≤ need T := by unfold need; omega
      have hal : a < 4294967296 := by have := HD.out; have h5 : need T ≤ 600 := by (unfold need; omega)
                                      omega
      have bal : (a : Int) ≤ 20000000 := by have := HD.out; have h5 : need T ≤ 600 := by (unfold need; omega)
                                            omega
      have kb := fun w => hide1 (HRB.out a w hal)
      have HTb : Shy (nums (txt (blockP kl nl a)) = blockP kl nl a) := ⟨nums_txt (blockP_lt _ _ _)⟩
      have htb : (txt (blockP kl nl a)).size = 64 := by rw [nums_size HTb.out, blockP_length]
      have HN2 : Shy (nums (o ++ txt (blockP kl nl a)) = strT kl nl c (k + 1)) := ⟨by rw [nums_append, ho.out, HTb.out, strT, Ha.out]⟩
      generalize txt (blockP kl nl a) = tb at *
      have zz : ¬ (9223372036854775807 < o.size + tb.size) := by omega
      have zz2 : ¬ (9223372036854775807 < z + 64) := by omega
      have wa : IntKind.u32.wrap (a : Int) = (a : Int) := by rw [IntKind.wrap_u32]; omega
      have HKN := hide1 hkn
      clear hbe ha hz hk HTb hkn
      go_upto_region 7 with (fail)
      refine region_f (F := []) (S := fun w' => w'.heap[w.heap.size]? = some (row8 46 kl)) (by kernel_rfl) hX0.out (fun hS => ?_)
      refine take_f 0 42 (.agg (u8s kl).toArray) [5, 6, 7, 8, 9, 10] rfl rfl (by kernel_rfl) (by kernel_rfl) (by kernel_rfl) (by kernel_rfl) (by kernel_rfl) (by kernel_rfl) (fun _ _ _ h => h) rfl (fun w hSw => by exact exec_load_row 46 (.tmp 4) rfl _ rfl 46 _ _ _ hSw hu hi) hS ?_
      try simp only [List.setIfInBounds_toArray, List.set_cons_zero, List.set_cons_succ]
      refine take_p 1 43 (.int .u32 (x : Int)) rfl rfl (by kernel_rfl) (by kernel_rfl) (by kernel_rfl) (fun _ _ _ h => h) rfl (fun w => by go_simp) ?_
      try simp only [List.setIfInBounds_toArray, List.set_cons_zero, List.set_cons_succ]
      refine take_p 3 45 (.int .i64 (a : Int)) rfl rfl (by kernel_rfl) (by kernel_rfl) (by kernel_rfl) (fun _ _ _ h => h) rfl (fun w => by go_simp) ?_
      try simp only [List.setIfInBounds_toArray, List.set_cons_zero, List.set_cons_succ]
      refine take_p 4 46 (.int .u32 (a : Int)) rfl rfl (by kernel_rfl) (by kernel_rfl) (by kernel_rfl) (fun _ _ _ h => h) rfl (fun w => by go_simp) ?_
      try simp only [List.setIfInBounds_toArray, List.set_cons_zero, List.set_cons_succ]
      refine ready_f 2 (o := { dst := some 44, op := Op.call { callee := Callee.value (Operand.func 57), args := #[Operand.tmp 43, Operand.const (Value.int IntKind.u64 0)], argTypes := #[72, 49] }, type := 9, pos := "ref.go:40", after := #[{ on := 1, ground := Ground.data }], guard := none }) (by kernel_rfl) rfl (fun K hK => ?_)
      go_simp
      refine (kn _).out.mono ?_
      rintro e w1 ⟨rfl, hb1⟩
      have hS1 := (hb1.block _ (lt_heap hS)).trans hS
      refine hK.out _ _ (fun _ _ => hS1) ?_
      clear hK K
      try simp only [Act.put, List.setIfInBounds_toArray, List.set_cons_zero, List.set_cons_succ]
      have HB1 := hide1 (HE.out.drew.trans (hb1.mono HE.out.size))
      clear hb1 hS
      refine ready_f 5 (o := { dst := some 47, op := Op.call { callee := Callee.value (Operand.func 56), args := #[Operand.tmp 42, Operand.tmp 44, Operand.tmp 46], argTypes := #[46, 9, 72] }, type := 81, pos := "ref.go:40", after := #[{ on := 0, ground := Ground.data }, { on := 2, ground := Ground.data }, { on := 4, ground := Ground.data }, { on := 2, ground := Ground.chain }], guard := none }) (by kernel_rfl) rfl (fun K hK => ?_)
      go_simp
      refine (kb _).out.mono ?_
      rintro e w2 ⟨rfl, hb2⟩
      have hS2 := (hb2.block _ (lt_heap hS1)).trans hS1
      refine hK.out _ _ (fun _ _ => hS2) ?_
      clear hK K
      try simp only [Act.put, List.setIfInBounds_toArray, List.set_cons_zero, List.set_cons_succ]
      have HB2 := hide1 (HB1.out.trans (hb2.mono HB1.out.size))
      clear hb2 hS1 hS2
      refine take_p 6 41 (.tuple #[.string tb, .int .i64 0]) rfl rfl (by kernel_rfl) (by kernel_rfl) (by kernel_rfl) (fun _ _ _ h => h) rfl (fun w => by go_simp) ?_
      try simp only [List.setIfInBounds_toArray, List.set_cons_zero, List.set_cons_succ]
      refine take_p 7 48 (.string tb) rfl rfl (by kernel_rfl) (by kernel_rfl) (by kernel_rfl) (fun _ _ _ h => h) rfl (fun w => by go_simp) ?_
      try simp only [List.setIfInBounds_toArray, List.set_cons_zero, List.set_cons_succ]
      refine take_p 8 49 (.int .i64 0) rfl rfl (by kernel_rfl) (by kernel_rfl) (by kernel_rfl) (fun _ _ _ h => h) rfl (fun w => by go_simp) ?_
      try simp only [List.setIfInBounds_toArray, List.set_cons_zero, List.set_cons_succ]
      refine take_p 9 12 (.string tb) rfl rfl (by kernel_rfl) (by kernel_rfl) (by kernel_rfl) (fun _ _ _ h => h) rfl (fun w => by go_simp) ?_
      try simp only [List.setIfInBounds_toArray, List.set_cons_zero, List.set_cons_succ]
      refine take_p 10 13 (.int .i64 0) rfl rfl (by kernel_rfl) (by kernel_rfl) (by kernel_rfl) (fun _ _ _ h => h) rfl (fun w => by go_simp) ?_
      try simp only [List.setIfInBounds_toArray, List.set_cons_zero, List.set_cons_succ]
      refine done_f (by kernel_rfl) ?_ _
      clear kb
      go_wp2
      go_roundw
      case rel =>
        exact ⟨k + 1, a + 1, _, by have := Ha.out; omega, by go_num, rfl, HKN.out, HN2, HB2.out⟩
      case measure =>
        simp [intOf]
        have h1 := Ha.out
        have h2 := HKN.out
        omega
    · have hlti : ¬ (z : Int) < (T : Int) := by omega
      have hfr := run_left o s (by have := HD.out; omega)
      have hs1 : (o.extract s o.size).size = z - s := by rw [ByteArray.size_extract]; omega
      have hup := run_upto (o.extract s o.size) N (by rw [hs1]; have := HD.out; omega)
      have hxt : (o.extract s o.size).extract 0 N = txt br := by
        apply nums_inj
        rw [nums_txt HBl.out, nums_extract, nums_extract, ho.out, List.drop_zero, Nat.sub_zero, List.take_of_length_le (l := (strT kl nl c k).drop s) (by rw [List.length_drop, strT_length]; omega)]
        exact HCut.out k (by omega)
      rw [hxt] at hup
      generalize o.extract s o.size = o1 at *
      obtain ⟨tr, htr⟩ : ∃ tr, tr = txt br := ⟨_, rfl⟩
      rw [← htr] at hup
      have HTR : Shy (tr = txt br) := ⟨htr⟩
      have HF := hide1 (XB.out.trans (HE.out.mono XB.out.size))
      clear hbe ha hz hk hxt hs1 htr
      go_wp2
      go_ret2
      exact ⟨by rw [← HTR.out]; rfl, HF.out⟩

theorem rbytes_no (kl : List Nat) (x : Int) (f n : Int) (w : World) (h : f < 0 ∨ n < 0 ∨ 32768 < n ∨ 1073741824 - n < f) :
    Calls Try.prog 51 #[arr8 kl, .int .u32 x, .int .i64 f, .int .i64 n] w fun e w' => e = .returned (.tuple #[.string ByteArray.empty, .int .i64 2]) ∧ Below w.heap.size w w' := by
  have hB := fun (o : Obj) => hide1 ((Below.refl w.heap.size w).alloc (Nat.le_refl _) o)
  unfold arr8
  by_cases h1 : f < 0
  · clear h
    go_enter Try.func51, Try.ntmps51
    go_wp2
    go_ret2
    exact ⟨rfl, (hB _).out⟩
  · have h1' : decide (f < 0) = false := by rw [decide_eq_false_iff_not]; exact h1
    by_cases h2 : n < 0
    · clear h
      go_enter Try.func51, Try.ntmps51
      go_wp2
      go_ret2
      exact ⟨rfl, (hB _).out⟩
    · have h2' : decide (n < 0) = false := by rw [decide_eq_false_iff_not]; exact h2
      by_cases h3 : 32768 < n
      · clear h
        go_enter Try.func51, Try.ntmps51
        go_wp2
        go_ret2
        exact ⟨rfl, (hB _).out⟩
      · have h3' : decide (32768 < n) = false := by rw [decide_eq_false_iff_not]; exact h3
        have h4 : 1073741824 - n < f := by omega
        clear h
        go_enter Try.func51, Try.ntmps51
        go_wp2
        go_ret2
        exact ⟨rfl, (hB _).out⟩

theorem rbytes_any (kl : List Nat) (x : Nat) (f n : Int) (w : World) (hk : kl.length = 32) (bk : Lt 256 kl) (hx : x < 4294967296) :
    Calls Try.prog 51 #[arr8 kl, .int .u32 (x : Int), .int .i64 f, .int .i64 n] w fun e w' => e = .returned (.tuple #[.string (bT kl x f n), .int .i64 (bC f n)]) ∧ Below w.heap.size w w' := by
  by_cases h : f < 0 ∨ n < 0 ∨ 32768 < n ∨ 1073741824 - n < f
  · rw [bC_no h, bT_no h]
    exact rbytes_no kl x f n w h
  · obtain ⟨F, rfl⟩ := Int.eq_ofNat_of_zero_le (show 0 ≤ f by omega)
    obtain ⟨N, rfl⟩ := Int.eq_ofNat_of_zero_le (show 0 ≤ n by omega)
    rw [bC_yes (by omega) (by omega), bT_yes (by omega) (by omega)]
    exact rbytes_yes kl x F N w hk bk hx (by omega) (by omega)
end Go.Proofs.Ytdmodknjcdkocaa.Pg
