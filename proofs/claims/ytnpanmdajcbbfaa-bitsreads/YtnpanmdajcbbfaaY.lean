/- The document's own bits of words. -/
import Derived.Test.YtnpanmdajcbbfaaX
namespace Go.Proofs.Ytnpanmdajcbbfaa
open Go.RowKit
set_option maxRecDepth 100000
attribute [local go_sem] not_any mf_any field_words

theorem shr_test (x j : Nat) : (((x : Int) / 2 ^ j).tmod 2 == 1) = x.testBit j := by
  have hp : (0 : Int) ≤ (x : Int) / 2 ^ j := by
    rw [pow_cast]
    exact Int.natCast_nonneg (x / 2 ^ j)
  rw [Int.tmod_eq_emod_of_nonneg hp]
  have h : x.testBit j = decide (x / 2 ^ j % 2 = 1) := by rw [Nat.testBit_eq_decide_div_mod_eq]
  rw [h, ← int_odd, pow_cast]
  rfl

set_option maxHeartbeats 2000000 in
theorem rof_any (n : Nat) (w : World) (c : Nat) (a : Option Addr) (ws : List Nat) (hn : n ≤ 4194304) (hs : Nl w (need n 64) a ws) (hlt : ∀ (k x : Nat), ws[k]? = some x → x < 18446744073709551616) :
    Calls Try.prog 15 #[.int .i64 n, .slice a (need n 64) c] w fun e w' => ∃ a' c', e = .returned (.slice a' n c') ∧ Bl w' n a' (bitsOf n ws) ∧ Below w.heap.size w w' := by
  obtain ⟨i0, hi, hz0, hz1, hz2⟩ := info_parts info4
  have HS := hide1 hs
  have HLT := hide1 hlt
  clear hs hlt
  go_enter Try.func15, Try.ntmps15
  go_wp2
  go_loopw [5, 6] (fun ov i wr => ∃ k : Nat, k ≤ n ∧ i = .int .i64 k ∧ wr.ownsRow w.heap.size 4 1 ov k (bools ((bitsOf n ws).take k)) ∧ Below w.heap.size w wr) (fun _ i _ => n - (intOf i).toNat)
  case atStart => exact ⟨0, Nat.zero_le _, rfl, World.ownsRow_nil _ _ _ _, Below.refl _ _⟩
  case round =>
    obtain ⟨k, hk, rfl, hrow, hB⟩ := hrel
    by_cases hlt : k < n
    · have hkd : k / 64 < need n 64 := by rw [need64]; omega
      obtain ⟨x, hx⟩ : ∃ x, ws[k / 64]? = some x := ⟨_, List.getElem?_eq_getElem (by rw [HS.out.len]; exact hkd)⟩
      obtain ⟨g, o, rfl, hc0⟩ := HS.out.at' (k / 64) x hx
      have hgl := lt_cell hc0
      have hc := (hB.cell (p := ⟨g, o + k / 64, none⟩) hgl).trans hc0
      have hbg := bitsOf_get (ws := ws) hlt
      rw [List.getD_eq_getElem?_getD, hx] at hbg
      have HT := hide1 (take_snoc hbg)
      have hsh := shr_test x (k % 64)
      have hxl := HLT.out _ _ hx
      obtain ⟨y, hy⟩ : ∃ y, y = x.testBit (k % 64) := ⟨_, rfl⟩
      rw [← hy] at hsh
      have HT' : Hid ((bitsOf n ws).take (k + 1) = (bitsOf n ws).take k ++ [y]) := by rw [hy]; exact HT.out
      have hk0 : (0 : Int) ≤ (k : Int) / 64 := by omega
      have hk1 : (k : Int) / 64 < (need n 64 : Int) := by omega
      have hk2 : ((k : Int) / 64).toNat = k / 64 := by omega
      have hkw : IntKind.i64.wrap ((k : Int) / 64) = (k : Int) / 64 := by rw [IntKind.wrap_i64]; omega
      obtain ⟨la, lc, rfl⟩ := row_form hrow
      have HW := hide1 (And.intro hrow hB)
      clear hrow hB hx hc0 hbg hy HT
      go_wp2_with (at_builtin; go_must (refine wpList_append_own _ rfl _ _ 22 rfl w.heap.size 4 i0 (.bool false) 1 1 Try.underlying22 hi hz0 hz1 hz2 rfl (by decide) _ _ _ rfl (HW.out.1.alloc _) ⟨wr.heap.size, 0, none⟩ 1 1 [.bool y] rfl rfl (cell_one_new _ _ _) (by simp [Value.oneCell']) (by unfold maxLen; omega) (by omega) (by have := HW.out.2.size; simp; omega) ?_); intro v' w1 hown' hgrow _)
      go_roundw
      case rel =>
        refine ⟨k + 1, by omega, by go_num, ?_, (HW.out.2.alloc HW.out.2.size _).grown hgrow (by have := HW.out.2.size; simp; omega) (fun b hb => (HW.out.1.lt b hb).1)⟩
        rw [HT'.out]
        simpa [bools] using hown'
      case measure => simp [intOf]; omega
    · have : k = n := by omega
      subst this
      obtain ⟨la, lc, rfl⟩ := row_form hrow
      go_wp2
      go_ret
      rw [List.take_of_length_le (by rw [bitsOf_length]; omega)] at hrow
      exact ⟨_, _, rfl, own_bl hrow (bitsOf_length _ _), hB⟩

end Go.Proofs.Ytnpanmdajcbbfaa
