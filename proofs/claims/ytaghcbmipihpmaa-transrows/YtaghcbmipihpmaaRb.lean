/- Bits read of bytes. -/
import Derived.Test.YtaghcbmipihpmaaRa
namespace Go.Proofs.Ytaghcbmipihpmaa
open Go.RowKit
set_option maxRecDepth 100000
attribute [local go_sem] not_any mf_any field_words

theorem read_no (n : Int) (w : World) (s : ByteArray) (hn : n < 0 ∨ 4194304 < n) :
    Calls Try.prog 39 #[.int .i64 n, .string s] w fun e w' => e = .returned (.tuple #[.agg #[.int .i64 0, .slice none 0 0], .int .i64 2]) ∧ Below w.heap.size w w' := by
  have hN := fun w => hide1 (new_no n w hn)
  go_enter Try.func39, Try.ntmps39
  go_wp2_with fail
  refine (hN _).out.mono ?_
  rintro e w1 ⟨rfl, hb⟩
  have hbx := after_alloc hb
  have hbw := below_after hb
  obtain ⟨c0, c1, c2, c3, c4⟩ := box2 hbx
  have HX := hide1 hbx
  clear hbx hb
  go_wp2
  exact ret_vec2 Try.results39 w.heap.size _ _ _ rfl rfl ((Below.heap_alloc _ _ _ (by simpa using c4)).trans (set_box2 HX.out)) rfl ⟨rfl, ((hbw.setCell (Nat.le_refl _) _).setCell (Nat.le_refl _) _).alloc (by have := hbw.size; simp; omega) _⟩

theorem read_shape (n : Nat) (w : World) (s : ByteArray) (hn : n ≤ 4194304) (hs : s.size ≠ need n 8) :
    Calls Try.prog 39 #[.int .i64 n, .string s] w fun e w' => e = .returned (.tuple #[.agg #[.int .i64 0, .slice none 0 0], .int .i64 11]) ∧ Below w.heap.size w w' := by
  have hN := fun w => hide1 (new_any n w hn)
  have hNe := fun w => hide1 (needed_any n 8 w hn (.inl rfl))
  have h1 : ((s.size : Int) != (need n 8 : Int)) = true := by simp; omega
  go_enter Try.func39, Try.ntmps39
  go_wp2_with fail
  refine (hN _).out.mono ?_
  rintro e w1 ⟨a, rfl, hv, hb⟩
  have hbx := after_alloc hb
  have hbw := below_after hb
  obtain ⟨c0, c1, c2, c3, c4⟩ := box2 hbx
  have HX := hide1 hbx
  clear hbx hb hv
  go_wp2_with fail
  refine (hNe _).out.mono ?_
  rintro e w2 ⟨rfl, rfl⟩
  go_wp2
  exact ret_vec2 Try.results39 w.heap.size _ _ _ rfl rfl ((Below.heap_alloc _ _ _ (by simpa using c4)).trans (set_box2 HX.out)) rfl ⟨rfl, ((hbw.setCell (Nat.le_refl _) _).setCell (Nat.le_refl _) _).alloc (by have := hbw.size; simp; omega) _⟩

theorem nums_at {s : ByteArray} {k : Nat} (h : k < s.size) : (nums s)[k]? = some (s[k]'h).toNat := by
  unfold nums
  rw [List.getElem?_map, Array.getElem?_toList, Array.getElem?_eq_getElem (show k < s.data.size from h)]
  rfl

theorem byte_shift (x j : Nat) : ((x : Int) / 2 ^ j != 0) = decide (x / 2 ^ j ≠ 0) := by
  rw [pow_cast, ← Int.natCast_ediv]
  by_cases h : x / 2 ^ j = 0
  · simp [h]
  · simp only [ne_eq, h, not_false_eq_true, decide_true, bne_iff_ne]
    omega

set_option maxHeartbeats 1000000 in
theorem read_form (n : Nat) (w : World) (s : ByteArray) (x : Nat) (hn : n ≤ 4194304) (hs : s.size = need n 8) (h8 : 0 < n % 8) (hx : (nums s)[need n 8 - 1]? = some x) (hf : x / 2 ^ (n % 8) ≠ 0) :
    Calls Try.prog 39 #[.int .i64 n, .string s] w fun e w' => e = .returned (.tuple #[.agg #[.int .i64 0, .slice none 0 0], .int .i64 13]) ∧ Below w.heap.size w w' := by
  have hN := fun w => hide1 (new_any n w hn)
  have hNe := fun w => hide1 (needed_any n 8 w hn (.inl rfl))
  have h1 : ((need n 8 : Int) != (need n 8 : Int)) = false := by simp
  have h2 : (0 : Int) < (n : Int) % 8 := by omega
  have HF := hide1 hf
  have hm1 : need n 8 ≤ 524288 := by rw [need8]; omega
  have hm2 : 1 ≤ need n 8 := by rw [need8]; omega
  have hk0 : (0 : Int) ≤ (need n 8 : Int) - 1 := by omega
  have hk1 : (need n 8 : Int) - 1 < (need n 8 : Int) := by omega
  have hk2 : ((need n 8 : Int) - 1).toNat = need n 8 - 1 := by omega
  have hkw : wrap64 ((need n 8 : Int) - 1) = (need n 8 : Int) - 1 := by unfold wrap64; omega
  clear hf
  go_enter Try.func39, Try.ntmps39
  go_wp2_with fail
  refine (hN _).out.mono ?_
  rintro e w1 ⟨a, rfl, hv, hb⟩
  have hbx := after_alloc hb
  have hbw := below_after hb
  obtain ⟨c0, c1, c2, c3, c4⟩ := box2 hbx
  have HX := hide1 hbx
  clear hbx hb hv
  go_wp2_with fail
  refine (hNe _).out.mono ?_
  rintro e w2 ⟨rfl, rfl⟩
  go_wp2
  · exact ret_vec2 Try.results39 w.heap.size _ _ _ rfl rfl ((Below.heap_alloc _ _ _ (by simpa using c4)).trans (set_box2 HX.out)) rfl ⟨rfl, ((hbw.setCell (Nat.le_refl _) _).setCell (Nat.le_refl _) _).alloc (by have := hbw.size; simp; omega) _⟩
  · exfalso
    have hz : (((s[need n 8 - 1]'(by omega)).toNat : Int) / 2 ^ (n % 8) != 0) = false := by assumption
    rw [byte_shift, decide_eq_false_iff_not] at hz
    apply hz
    have := nums_at (s := s) (k := need n 8 - 1) (by omega)
    rw [hx] at this
    rw [← Option.some.inj this]
    exact HF.out

theorem or_byte {x y j : Nat} (hx : x < 18446744073709551616) (hy : y < 256) (hj : j ≤ 56) : bits .or .u64 (x : Int) (IntKind.u64.wrap ((y : Int) * 2 ^ j)) = ((x ||| y * 2 ^ j : Nat) : Int) := by
  have h1 : 2 ^ j ≤ 2 ^ 56 := Nat.pow_le_pow_right (by omega) hj
  have h2 : y * 2 ^ j ≤ 255 * 2 ^ 56 := Nat.mul_le_mul (by omega) h1
  have h3 : 255 * 2 ^ 56 < 18446744073709551616 := by decide
  have h4 : IntKind.u64.wrap (((y * 2 ^ j : Nat) : Int)) = ((y * 2 ^ j : Nat) : Int) := by
    rw [IntKind.wrap_u64]
    generalize y * 2 ^ j = z at h2 ⊢
    omega
  rw [pow_cast, ← Int.natCast_mul, h4, u64_or_nat _ _ hx (by omega)]

set_option maxHeartbeats 4000000 in
theorem read_any (n : Nat) (w : World) (s : ByteArray) (hn : n ≤ 4194304) (hs : s.size = need n 8) (hc : Clean n s) :
    Calls Try.prog 39 #[.int .i64 n, .string s] w fun e w' => ∃ a, e = .returned (.tuple #[.agg #[.int .i64 n, .slice a (need n 64) (need n 64)], .int .i64 0]) ∧ Vc w.heap.size w' n a (rbits n s) ∧ Below w.heap.size w w' := by
  have hN := fun w => hide1 (new_any n w hn)
  have hNe := fun w => hide1 (needed_any n 8 w hn (.inl rfl))
  have hP := fun k w h => hide1 (bytePlace_any k w h)
  have h1 : ((need n 8 : Int) != (need n 8 : Int)) = false := by simp
  have hm1 : need n 8 ≤ 524288 := by rw [need8]; omega
  have HCl := hide1 hc
  clear hc
  go_enter Try.func39, Try.ntmps39
  go_wp2_with fail
  refine (hN _).out.mono ?_
  rintro e w1 ⟨a, rfl, hv, hb⟩
  have hbx := after_alloc hb
  have hbw := below_after hb
  have l0 := lt_heap hbx
  have HX := hide1 hbx
  have HV := hide1 hv
  have HBW := hide1 hbw
  clear hbx hb hv hbw
  go_wp2_with fail
  refine (hNe _).out.mono ?_
  rintro e w2 ⟨rfl, rfl⟩
  have HG : Hid (∀ g, a = some ⟨g, 0, none⟩ → w.heap.size < g ∧ g < w1.heap.size) := by
    intro g hg
    have := HV.out.blk g (by rw [hg]; rfl)
    simp at this
    exact ⟨by omega, this.2⟩
  have hp64 : ∀ k, k < need n 8 → k / 8 < need n 64 := fun k hk => by rw [need8] at hk; rw [need64]; omega
  have HP64 := hide1 hp64
  clear hp64
  have hm2 : 0 < n % 8 → 1 ≤ need n 8 := fun h => by rw [need8]; omega
  have hlast : 0 < n % 8 → ∀ (h : need n 8 - 1 < s.size), (((s[need n 8 - 1]'h).toNat : Int) / 2 ^ (n % 8) != 0) = false := by
    intro h8 h
    rw [byte_shift, decide_eq_false_iff_not, Classical.not_not]
    apply Nat.div_eq_of_lt
    have hx := nums_at h
    apply Nat.lt_pow_two_of_testBit
    intro j hj
    by_cases hj8 : j < 8
    · exact HCl.out _ _ hx j hj8 (by rw [need8] at h ⊢; omega)
    · exact Nat.testBit_lt_two_pow (Nat.lt_of_lt_of_le (nums_lt hx) (show 2 ^ 8 ≤ 2 ^ j from Nat.pow_le_pow_right (by omega) (by omega)))
  have HLast := hide1 hlast
  have HM2 := hide1 hm2
  clear hlast hm2
  have hkw : 0 < n % 8 → wrap64 ((need n 8 : Int) - 1) = (need n 8 : Int) - 1 := fun h => by have := HM2.out h; unfold wrap64; omega
  have HKW := hide1 hkw
  clear hkw
  by_cases h8 : 0 < n % 8
  · have h2 : (0 : Int) < (n : Int) % 8 := by omega
    have hm2 := HM2.out h8
    have hk0 : (0 : Int) ≤ (need n 8 : Int) - 1 := by omega
    have hk1 : (need n 8 : Int) - 1 < (need n 8 : Int) := by omega
    have hk2 : ((need n 8 : Int) - 1).toNat = need n 8 - 1 := by omega
    have hkw := HKW.out h8
    have hl := HLast.out h8 (by omega)
    go_wp2
    go_loopw [44] (fun i wr => ∃ k : Nat, k ≤ need n 8 ∧ i = .int .i64 k ∧ Vc (w.heap.size + 1) wr n a (firsts (rbits n s) (8 * k)) ∧ wr.heap[w.heap.size]? = some (.cells #[.int .i64 0, .slice none 0 0] 32 (0, 0)) ∧
      wr.heap[w1.heap.size]? = some (.cells #[.int .i64 n, .slice a (need n 64) (need n 64)] 32 (0, 0)) ∧ Below w.heap.size w wr) (fun i _ => need n 8 - (intOf i).toNat)
    case atStart =>
      refine ⟨0, Nat.zero_le _, rfl, ?_, (Below.heap_alloc _ _ _ l0).trans HX.out, heap_alloc_new _ _, HBW.out.alloc (by omega) _⟩
      rw [Nat.mul_zero, firsts_zero, rbits_length]
      simpa using HV.out.alloc _
    case round =>
      obtain ⟨k, hk, rfl, hV, hss, ht, hB⟩ := hrel
      by_cases hlt : k < need n 8
      · have hkd := HP64.out k hlt
        obtain ⟨g, rfl, hbg, hg, hc⟩ := hV.cell hkd
        have hgg := HG.out g rfl
        have hfz : wr.frozen? ⟨g, k / 8, none⟩ = false := frozen_of_row wr g _ _ _ hg
        obtain ⟨d0, d1, _, _, ltt⟩ := box2 ht
        have hPk := fun w => hP k w (by omega)
        have hks : k < s.size := by omega
        have hy := nums_at hks
        have hy' := nums_lt hy
        have hk1 : ((k / 8 : Nat) : Int) < (need n 64 : Int) := by omega
        have HV' := hide1 hV
        have HS' := hide1 hss
        have HT' := hide1 ht
        have HY := hide1 hy
        clear hV hss ht hg hP hy
        go_wp2_with fail
        refine (hPk _).out.mono ?_
        rintro e w3 ⟨rfl, rfl⟩
        go_wp2
        go_region
        all_goals
          go_wp2
          go_roundw
          case rel =>
            rw [or_byte (chunk64_lt _ _) hy' (by omega)]
            refine ⟨k + 1, by omega, by go_num, ?_, ?_, ?_, ?_⟩
            · refine (HV'.out.set (firsts (rbits n s) (8 * (k + 1))) (by rw [firsts_length, rbits_length]) ?_).drew
              exact chunks_or_byte _ _ _ hy' (by rw [rbits_length]; rw [need8] at hlt; omega) (fun j hj => byte_bits HCl.out HY.out hj)
            · exact (Below.heap_setCell _ _ _ _ (by simp; omega)).trans HS'.out
            · exact (Below.heap_setCell _ _ _ _ (by simp; omega)).trans HT'.out
            · exact (hB.setCell (by simp; omega) _).drew
          case measure => simp [intOf]; omega
      · have : k = need n 8 := by omega
        subst this
        obtain ⟨d0, d1, _, _, ltt⟩ := box2 ht
        obtain ⟨e0, e1, e2, e3, lts⟩ := box2 hss
        have HV' := hide1 hV
        have HS' := hide1 hss
        clear hV hss
        go_wp2
        refine ret_vec2 Try.results39 w.heap.size _ _ _ rfl rfl (set_box2 HS'.out) rfl ⟨_, rfl, ?_, ?_⟩
        · rw [firsts_all (by rw [rbits_length, need8]; omega)] at HV'
          exact ((HV'.out.setCell (by simp) _).setCell (by simp) _).mono (by omega)
        · exact (hB.setCell (Nat.le_refl _) _).setCell (Nat.le_refl _) _
  · have h2 : ¬ (0 : Int) < (n : Int) % 8 := by omega
    go_wp2
    go_loopw [44] (fun i wr => ∃ k : Nat, k ≤ need n 8 ∧ i = .int .i64 k ∧ Vc (w.heap.size + 1) wr n a (firsts (rbits n s) (8 * k)) ∧ wr.heap[w.heap.size]? = some (.cells #[.int .i64 0, .slice none 0 0] 32 (0, 0)) ∧
      wr.heap[w1.heap.size]? = some (.cells #[.int .i64 n, .slice a (need n 64) (need n 64)] 32 (0, 0)) ∧ Below w.heap.size w wr) (fun i _ => need n 8 - (intOf i).toNat)
    case atStart =>
      refine ⟨0, Nat.zero_le _, rfl, ?_, (Below.heap_alloc _ _ _ l0).trans HX.out, heap_alloc_new _ _, HBW.out.alloc (by omega) _⟩
      rw [Nat.mul_zero, firsts_zero, rbits_length]
      simpa using HV.out.alloc _
    case round =>
      obtain ⟨k, hk, rfl, hV, hss, ht, hB⟩ := hrel
      by_cases hlt : k < need n 8
      · have hkd := HP64.out k hlt
        obtain ⟨g, rfl, hbg, hg, hc⟩ := hV.cell hkd
        have hgg := HG.out g rfl
        have hfz : wr.frozen? ⟨g, k / 8, none⟩ = false := frozen_of_row wr g _ _ _ hg
        obtain ⟨d0, d1, _, _, ltt⟩ := box2 ht
        have hPk := fun w => hP k w (by omega)
        have hks : k < s.size := by omega
        have hy := nums_at hks
        have hy' := nums_lt hy
        have hk1 : ((k / 8 : Nat) : Int) < (need n 64 : Int) := by omega
        have HV' := hide1 hV
        have HS' := hide1 hss
        have HT' := hide1 ht
        have HY := hide1 hy
        clear hV hss ht hg hP hy
        go_wp2_with fail
        refine (hPk _).out.mono ?_
        rintro e w3 ⟨rfl, rfl⟩
        go_wp2
        go_region
        all_goals
          go_wp2
          go_roundw
          case rel =>
            rw [or_byte (chunk64_lt _ _) hy' (by omega)]
            refine ⟨k + 1, by omega, by go_num, ?_, ?_, ?_, ?_⟩
            · refine (HV'.out.set (firsts (rbits n s) (8 * (k + 1))) (by rw [firsts_length, rbits_length]) ?_).drew
              exact chunks_or_byte _ _ _ hy' (by rw [rbits_length]; rw [need8] at hlt; omega) (fun j hj => byte_bits HCl.out HY.out hj)
            · exact (Below.heap_setCell _ _ _ _ (by simp; omega)).trans HS'.out
            · exact (Below.heap_setCell _ _ _ _ (by simp; omega)).trans HT'.out
            · exact (hB.setCell (by simp; omega) _).drew
          case measure => simp [intOf]; omega
      · have : k = need n 8 := by omega
        subst this
        obtain ⟨d0, d1, _, _, ltt⟩ := box2 ht
        obtain ⟨e0, e1, e2, e3, lts⟩ := box2 hss
        have HV' := hide1 hV
        have HS' := hide1 hss
        clear hV hss
        go_wp2
        refine ret_vec2 Try.results39 w.heap.size _ _ _ rfl rfl (set_box2 HS'.out) rfl ⟨_, rfl, ?_, ?_⟩
        · rw [firsts_all (by rw [rbits_length, need8]; omega)] at HV'
          exact ((HV'.out.setCell (by simp) _).setCell (by simp) _).mono (by omega)
        · exact (hB.setCell (Nat.le_refl _) _).setCell (Nat.le_refl _) _

end Go.Proofs.Ytaghcbmipihpmaa
