/- The program's Plan. -/
import Derived.Test.YtceemkjmmfkmdaaJ04
namespace Go.Proofs.Ytceemkjmmfkmdaa.St
open Go.RowKit
set_option maxRecDepth 100000
attribute [local go_sem] not_any

theorem numbered_any (F : Nat) (n : Int) (w : World) :
    Calls Try.prog 22 #[.int .u64 (F : Int), .int .i64 n] w fun e w' => e = .returned (.int .i64 (planC F n)) ∧ w' = w := by
  unfold planC
  by_cases h1 : n < 0
  · rw [if_pos (.inl h1)]
    go_enter Try.func22, Try.ntmps22
    go_wp2
    go_ret
    exact ⟨rfl, rfl⟩
  · by_cases h2 : 4096 < n
    · rw [if_pos (.inr h2)]
      go_enter Try.func22, Try.ntmps22
      go_wp2
      go_ret
      exact ⟨rfl, rfl⟩
    · rw [if_neg (fun h => h.elim h1 h2)]
      have e0 : IntKind.u64.wrap n = n := by rw [IntKind.wrap_u64]; omega
      have e1 : IntKind.u64.wrap (67108864 - n) = 67108864 - n := by rw [IntKind.wrap_u64]; omega
      by_cases h3 : 67108864 < (F : Int) + n
      · rw [if_pos h3]
        have t3 : 67108864 - n < (F : Int) := by omega
        clear h3
        go_enter Try.func22, Try.ntmps22
        go_wp2
        go_ret
        exact ⟨rfl, rfl⟩
      · rw [if_neg h3]
        have t3 : ¬ 67108864 - n < (F : Int) := by omega
        clear h3
        go_enter Try.func22, Try.ntmps22
        go_wp2
        go_ret
        exact ⟨rfl, rfl⟩

set_option maxHeartbeats 8000000 in
theorem pplan_good (F n : Nat) (w : World) (hn : n ≤ 4096) (hF : F + n ≤ 67108864) :
    Calls Try.prog 8 #[.int .u64 (F : Int), .int .i64 (n : Int)] w fun e w' => ∃ a c, e = .returned (.tuple #[.slice a (pn n) c, .int .i64 0]) ∧ w'.ownsRow w.heap.size 32 3 (.slice a (pn n) c) (pn n) (chks (pl F n)) ∧ Below w.heap.size w w' := by
  obtain ⟨i0, hi, hz0, hz1, hz2⟩ := info_of' info_pchunk
  have hC : planC F (n : Int) = 0 := by unfold planC; rw [if_neg (by omega), if_neg (by omega)]
  have kN := fun w => hide1 (numbered_any F n w)
  rw [hC] at kN
  have HF := hide1 hF
  have HPL := hide1 (pl_length F n)
  clear hF hC
  go_enter Try.func8, Try.ntmps8
  go_wp2_with fail
  go_at_call 22
  refine (kN _).out.mono ?_
  rintro e w1 ⟨rfl, he⟩
  obtain rfl := he.symm
  clear kN
  go_wp2
  go_loopw [7, 8] (fun v6 v7 wr => ∃ k s : Nat, k ≤ pn n ∧ s = 512 * k ∧ v7 = .int .i64 (s : Int) ∧ wr.ownsRow w.heap.size 32 3 v6 k (chks ((pl F n).take k)) ∧ Below w.heap.size w wr) (fun _ v7 _ => n + 512 - (intOf v7).toNat)
  case atStart => exact ⟨0, 0, Nat.zero_le _, rfl, rfl, World.ownsRow_nil _ _ _ _, Below.refl _ _⟩
  case round =>
    obtain ⟨k, s, hk, hs, rfl, ho, hbe⟩ := hrel
    obtain ⟨la, lc, rfl⟩ := own_form ho
    by_cases hlt : s < n
    · have bs : (s : Int) < (n : Int) := by omega
      have hkp : k < pn n := by unfold pn; omega
      have hsn := take_snoc (pl_get (F := F) hkp)
      have hF := HF.out
      have e2 : IntKind.u64.wrap (s : Int) = (s : Int) := by rw [IntKind.wrap_u64]; omega
      obtain ⟨X, hX⟩ : ∃ X, X = F + 512 * k := ⟨_, rfl⟩
      have e3 : IntKind.u64.wrap ((F : Int) + (s : Int)) = (X : Int) := by rw [IntKind.wrap_u64]; omega
      have e4 : IntKind.i64.wrap ((n : Int) - (s : Int)) = ((n - s : Nat) : Int) := by rw [IntKind.wrap_i64]; omega
      have e5 : IntKind.i64.wrap ((s : Int) + 512) = ((s + 512 : Nat) : Int) := by rw [IntKind.wrap_i64]; omega
      obtain ⟨R, hR⟩ : ∃ R, R = n - s := ⟨_, rfl⟩
      rw [← hR] at e4
      obtain ⟨T, hT⟩ : ∃ T, T = s + 512 := ⟨_, rfl⟩
      rw [← hT] at e5
      have hcv : chk F n k = ⟨X, ((min 512 R : Nat) : Int), (s : Int)⟩ := by unfold chk; rw [← hX, hR, hs]
      rw [hcv] at hsn
      have HSN := hide1 hsn
      have hTk : T = 512 * (k + 1) := by omega
      have HT := hide1 hTk
      have HTS := hide1 hT
      have hkT : k + 1 ≤ pn n := hkp
      have hk8 : k < 8 := by have := pn_le hn; omega
      have HO := hide1 ho
      have HE := hide1 hbe
      have hmin : ((min 512 R : Nat) : Int) = if (R : Int) < 512 then (R : Int) else 512 := by split <;> omega
      clear hX hR hT hs hcv hsn ho hbe hF hTk
      go_upto_region 8 with (fail)
      go_wp2_with (first
        | (at_builtin; go_must (refine wpList_append_lies _ rfl (.tmp 20) (.tmp 31) 23 rfl w.heap.size 32 i0 zero3 3 24 Try.underlying23 hi hz0 hz1 hz2 rfl (by decide) (.slice la k lc) k (chks ((pl F n).take k)) rfl (own_below HO.out (below1 _)) ⟨wr.heap.size, 0, none⟩ 1 1 (Chk.cells ⟨X, if (R : Int) < 512 then (R : Int) else 512, (s : Int)⟩) rfl rfl (World.news_of_block (heap_alloc_new wr _)) (cells_one _) (by omega) (by unfold maxLen; omega) (by omega) (by have := HE.out.size; rw [size_alloc]; omega) _ rfl ?_; intro g8 cap8 w8 ro8 gr8 wh8 lt8))
        | fail)
      have hb8 : Below w.heap.size w w8 := (HE.out.alloc HE.out.size _).grown gr8 (by rw [size_alloc]; have := HE.out.size; omega) (fun k hk => (HO.out.lt k hk).1)
      have ro9 : w8.ownsRow w.heap.size 32 3 (.slice (some ⟨g8, 0, none⟩) (k + 1) cap8) (k + 1) (chks ((pl F n).take (k + 1))) := by
        rw [HSN.out, chks_snoc, hmin]
        exact ro8
      have HO8 := hide1 ro9
      have HE8 := hide1 hb8
      clear ro8 gr8 wh8 lt8 ro9 hb8 HO HE
      go_wp2
      go_roundw
      case rel => exact ⟨k + 1, T, hkT, HT.out, by go_num, HO8.out, HE8.out⟩
      case measure => have := HTS.out; simp [intOf]; omega
    · have hkn : k = pn n := by unfold pn at hk ⊢; omega
      have bs : ¬ (s : Int) < (n : Int) := by omega
      have HO := hide1 ho
      have HE := hide1 hbe
      rw [hkn] at HO ⊢
      rw [List.take_of_length_le (by rw [HPL.out]; exact Nat.le_refl _)] at HO
      clear ho hbe hs hkn hk
      go_wp2
      go_ret2
      exact ⟨la, lc, rfl, HO.out, HE.out⟩

theorem pplan_bad (F : Nat) (n : Int) (w : World) (h : planC F n ≠ 0) :
    Calls Try.prog 8 #[.int .u64 (F : Int), .int .i64 n] w fun e w' => e = .returned (.tuple #[.slice none 0 0, .int .i64 (planC F n)]) ∧ w' = w := by
  have kN := fun w => hide1 (numbered_any F n w)
  obtain ⟨C, hC⟩ : ∃ C, C = planC F n := ⟨_, rfl⟩
  rw [← hC] at kN h ⊢
  have q0 : (C != 0) = true := by rw [bne_iff_ne]; exact h
  clear hC h
  go_enter Try.func8, Try.ntmps8
  go_wp2_with fail
  go_at_call 22
  refine (kN _).out.mono ?_
  rintro e w1 ⟨rfl, he⟩
  obtain rfl := he.symm
  clear kN
  go_wp2
  go_ret2
  exact ⟨rfl, rfl⟩
theorem pplan_any (F : Nat) (n : Int) (w : World) (_hF : F < 18446744073709551616) :
    Calls Try.prog 8 #[.int .u64 (F : Int), .int .i64 n] w (PPost F n 32 w) := by
  unfold PPost planL
  by_cases h : planC F n = 0
  · rw [if_pos h]
    obtain ⟨k, rfl, h1, h2⟩ := planC_good h
    rw [h]
    exact (pplan_good F k w h1 h2).mono fun _ _ ⟨a, c, he, ho, hb⟩ => ⟨a, pn k, c, he, ho, hb⟩
  · rw [if_neg h]
    refine (pplan_bad F n w h).mono ?_
    rintro e w' ⟨rfl, rfl⟩
    exact ⟨none, 0, 0, rfl, World.ownsRow_nil _ _ _ _, Below.refl _ _⟩
end Go.Proofs.Ytceemkjmmfkmdaa.St
