/- The document's own reading of bytes. -/
import Derived.Test.YtaghcbmipihpmaaRb
import Derived.Test.YtaghcbmipihpmaaY
namespace Go.Proofs.Ytaghcbmipihpmaa
open Go.RowKit
set_option maxRecDepth 100000
attribute [local go_sem] not_any mf_any field_words

theorem rread_no (n : Int) (w : World) (s : ByteArray) (hn : n < 0 ∨ 4194304 < n) :
    Calls Try.prog 40 #[.int .i64 n, .string s] w fun e w' => e = .returned (.tuple #[.slice none 0 0, .int .i64 2]) ∧ Below w.heap.size w w' := by
  by_cases h : n < 0
  · go_enter Try.func40, Try.ntmps40
    go_wp2
    go_ret2
    exact ⟨rfl, Below.refl _ _⟩
  · have h2 : 4194304 < n := by omega
    go_enter Try.func40, Try.ntmps40
    go_wp2
    go_ret2
    exact ⟨rfl, Below.refl _ _⟩

theorem rread_shape (n : Nat) (w : World) (s : ByteArray) (hn : n ≤ 4194304) (hs : s.size ≠ need n 8) :
    Calls Try.prog 40 #[.int .i64 n, .string s] w fun e w' => e = .returned (.tuple #[.slice none 0 0, .int .i64 11]) ∧ Below w.heap.size w w' := by
  have h1 : ¬ (n : Int) < 0 := by omega
  have h2 : ¬ (4194304 : Int) < (n : Int) := by omega
  have h3 : ((s.size : Int) != (n : Int) / 8 + ((n : Int) % 8 + 7) / 8) = true := by
    rw [need8] at hs
    simp
    omega
  go_enter Try.func40, Try.ntmps40
  go_wp2
  go_ret2
  exact ⟨rfl, Below.refl _ _⟩

theorem bit_at {s : ByteArray} {k : Nat} (h : k / 8 < s.size) : ((((s[k / 8]'h).toNat : Int) / 2 ^ (k % 8)).tmod 2 == 1) = ((nums s).getD (k / 8) 0).testBit (k % 8) := by
  rw [shr_test, List.getD_eq_getElem?_getD, nums_at h]
  rfl

def bitAt (s : ByteArray) (k : Nat) : Bool := ((nums s).getD (k / 8) 0).testBit (k % 8)

theorem rbits_get {n : Nat} {s : ByteArray} {k : Nat} (h : k < n) : (rbits n s)[k]? = some (bitAt s k) := by simp [rbits, bitAt, h]

theorem clean_iff {n : Nat} {s : ByteArray} : Clean n s ↔ ∀ k, n ≤ k → k < 8 * s.size → bitAt s k = false := by
  constructor
  · intro h k hn hk
    obtain ⟨x, hx⟩ : ∃ x, (nums s)[k / 8]? = some x := ⟨_, List.getElem?_eq_getElem (by rw [nums_length]; omega)⟩
    unfold bitAt
    rw [List.getD_eq_getElem?_getD, hx]
    exact h _ _ hx _ (Nat.mod_lt _ (by omega)) (by omega)
  · intro h k x hx j hj hn
    have hk : k < s.size := by rw [← nums_length]; exact (List.getElem?_eq_some_iff.1 hx).1
    have := h (8 * k + j) hn (by omega)
    unfold bitAt at this
    rw [Nat.mul_add_div (by omega), Nat.mul_add_mod, Nat.div_eq_of_lt hj, Nat.mod_eq_of_lt hj, Nat.add_zero, List.getD_eq_getElem?_getD, hx] at this
    exact this

/- what is told: the bits, where nothing is behind the last one; else ErrForm -/
theorem own_far {w : World} {base e size n : Nat} {a : Option Addr} {c m : Nat} {xs : List Value} (h : w.ownsRow base e size (.slice a n c) m xs) : ∀ ad, a = some ad → base ≤ ad.block ∧ ad.block < w.heap.size := fun ad e => h.lt ad.block (by rw [e]; rfl)

def Told (B n : Nat) (s : ByteArray) (w' : World) (v : Value) (f : Int) : Prop :=
  (Clean n s ∧ f = 0 ∧ ∃ a c, v = .slice a n c ∧ Bl w' n a (rbits n s) ∧ ∀ ad, a = some ad → B ≤ ad.block ∧ ad.block < w'.heap.size) ∨ (¬ Clean n s ∧ f = 13)

set_option maxHeartbeats 4000000 in
theorem rread_any (n : Nat) (w : World) (s : ByteArray) (hn : n ≤ 4194304) (hs : s.size = need n 8) :
    Calls Try.prog 40 #[.int .i64 n, .string s] w fun e w' => ∃ v f, e = .returned (.tuple #[v, .int .i64 f]) ∧ Told w.heap.size n s w' v f ∧ Below w.heap.size w w' := by
  obtain ⟨i0, hi, hz0, hz1, hz2⟩ := info_parts info4
  have h1 : ¬ (n : Int) < 0 := by omega
  have h2 : ¬ (4194304 : Int) < (n : Int) := by omega
  have h3 : ((need n 8 : Int) != (n : Int) / 8 + ((n : Int) % 8 + 7) / 8) = false := by
    rw [need8]
    simp
    omega
  have hm1 : need n 8 ≤ 524288 := by rw [need8]; omega
  have hm3 : n ≤ 8 * need n 8 := by rw [need8]; omega
  go_enter Try.func40, Try.ntmps40
  go_wp2
  go_loopw [6, 7] (fun ov i wr => ∃ k j : Nat, k ≤ 8 * need n 8 ∧ i = .int .i64 k ∧ j = min k n ∧ wr.ownsRow w.heap.size 4 1 ov j (bools ((rbits n s).take k)) ∧ Below w.heap.size w wr ∧ ∀ i, n ≤ i → i < k → bitAt s i = false) (fun _ i _ => 8 * need n 8 - (intOf i).toNat)
  case atStart => exact ⟨0, 0, Nat.zero_le _, rfl, by simp, World.ownsRow_nil _ _ _ _, Below.refl _ _, fun i h1 h2 => by omega⟩
  case round =>
    obtain ⟨k, j, hk, rfl, hj, hrow, hB, hcl⟩ := hrel
    by_cases hlt : k < 8 * need n 8
    · have hks : k / 8 < s.size := by omega
      have hbt := bit_at hks
      have hk0 : (0 : Int) ≤ (k : Int) / 8 := by omega
      have hk1 : (k : Int) / 8 < (need n 8 : Int) := by omega
      have hk2 : ((k : Int) / 8).toNat = k / 8 := by omega
      have hkw : IntKind.i64.wrap ((k : Int) / 8) = (k : Int) / 8 := by rw [IntKind.wrap_i64]; omega
      obtain ⟨la, lc, rfl⟩ := row_form hrow
      have hbt' : ((((s[k / 8]'hks).toNat : Int) / 2 ^ (k % 8)).tmod 2 == 1) = bitAt s k := hbt
      obtain ⟨y, hy⟩ : ∃ y, y = bitAt s k := ⟨_, rfl⟩
      rw [← hy] at hbt'
      have HY := hide1 hy
      have HCL := hide1 hcl
      clear hbt hy hcl
      by_cases hkn : k < n
      · have HT : Hid ((rbits n s).take (k + 1) = (rbits n s).take k ++ [y]) := by rw [HY.out]; exact take_snoc (rbits_get hkn)
        have hjk : j = k := by omega
        subst hjk
        have h4 : ¬ (n : Int) ≤ (j : Int) := by omega
        have h5 : (j : Int) < (n : Int) := by omega
        have HW := hide1 (And.intro hrow hB)
        clear hrow hB hj
        go_wp2_with (at_builtin; go_must (refine wpList_append_own _ rfl _ _ 29 rfl w.heap.size 4 i0 (.bool false) 1 1 Try.underlying29 hi hz0 hz1 hz2 rfl (by decide) _ _ _ rfl (HW.out.1.alloc _) ⟨wr.heap.size, 0, none⟩ 1 1 [.bool y] rfl rfl (cell_one_new _ _ _) (by simp [Value.oneCell']) (by unfold maxLen; omega) (by omega) (by have := HW.out.2.size; simp; omega) ?_); intro v' w1 hown' hgrow _)
        go_roundw
        case rel =>
          refine ⟨j + 1, j + 1, by omega, by go_num, by omega, ?_, (HW.out.2.alloc HW.out.2.size _).grown hgrow (by have := HW.out.2.size; simp; omega) (fun b hb => (HW.out.1.lt b hb).1), fun i h1 h2 => by omega⟩
          rw [HT.out]
          simpa [bools] using hown'
        case measure => simp [intOf]; omega
      · have h4 : (n : Int) ≤ (k : Int) := by omega
        have h5 : ¬ (k : Int) < (n : Int) := by omega
        have HW := hide1 (And.intro hrow hB)
        have HJ := hide1 hj
        clear hrow hB hj
        cases y with
        | true =>
          go_wp2
          go_ret2
          refine ⟨_, _, rfl, .inr ⟨fun hc => ?_, rfl⟩, HW.out.2⟩
          have := clean_iff.1 hc k (by omega) (by omega)
          rw [← HY.out] at this
          cases this
        | false =>
          go_wp2
          refine ⟨⟨k + 1, j, by omega, by go_num, by have := HJ.out; omega, ?_, HW.out.2, fun i h1 h2 => ?_⟩, by simp [intOf]; omega⟩
          · rw [List.take_of_length_le (by rw [rbits_length]; omega)]
            have := HW.out.1
            rw [List.take_of_length_le (by rw [rbits_length]; omega)] at this
            exact this
          · by_cases hik : i < k
            · exact HCL.out i h1 hik
            · have : i = k := by omega
              subst this
              exact HY.out.symm
    · have : k = 8 * need n 8 := by omega
      have hjn : j = n := by omega
      subst hjn
      obtain ⟨la, lc, rfl⟩ := row_form hrow
      have HW := hide1 (And.intro hrow hB)
      have HCL := hide1 hcl
      clear hrow hB hj hcl
      have h6 : ¬ (k : Int) < 8 * (need j 8 : Int) := by omega
      have HK := hide1 this
      clear this
      go_wp2
      go_ret2
      have hro := HW.out.1
      rw [List.take_of_length_le (by rw [rbits_length, HK.out]; omega)] at hro
      exact ⟨_, _, rfl, .inl ⟨clean_iff.2 (fun i h1 h2 => HCL.out i h1 (by rw [HK.out]; omega)), rfl, _, _, rfl, own_bl hro (rbits_length _ _), own_far hro⟩, HW.out.2⟩

end Go.Proofs.Ytaghcbmipihpmaa
