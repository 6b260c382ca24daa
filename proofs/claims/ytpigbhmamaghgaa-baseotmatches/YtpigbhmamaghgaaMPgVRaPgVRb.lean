/- Bits of bytes: what each byte lays. Bits read of bytes. -/
import Derived.Test.YtpigbhmamaghgaaMPgVIPgVEPgVFPgVK
namespace Go.Proofs.Ytpigbhmamaghgaa.Pg.V
open Go.RowKit
set_option maxRecDepth 100000

/- the numbers of a text's bytes, and its first n bits -/
def nums (s : ByteArray) : List Nat := s.data.toList.map (fun b => b.toNat)
def rbits (n : Nat) (s : ByteArray) : List Bool := (List.range n).map (fun i => ((nums s).getD (i / 8) 0).testBit (i % 8))

theorem nums_length (s : ByteArray) : (nums s).length = s.size := by
  rw [nums, List.length_map]
  exact Array.length_toList
theorem nums_lt {s : ByteArray} {k x : Nat} (h : (nums s)[k]? = some x) : x < 256 := by
  simp only [nums, List.getElem?_map, Option.map_eq_some_iff] at h
  obtain ⟨b, _, rfl⟩ := h
  exact b.toNat_lt
theorem rbits_length (n : Nat) (s : ByteArray) : (rbits n s).length = n := by simp [rbits]
theorem rbits_getD {n : Nat} {s : ByteArray} {i : Nat} (h : i < n) : (rbits n s).getD i false = ((nums s).getD (i / 8) 0).testBit (i % 8) := by
  rw [List.getD_eq_getElem?_getD]
  simp [rbits, h]

/- nothing stands behind the last bit -/
def Clean (n : Nat) (s : ByteArray) : Prop := ∀ (k x : Nat), (nums s)[k]? = some x → ∀ j, j < 8 → n ≤ 8 * k + j → x.testBit j = false

theorem byte_bits {n : Nat} {s : ByteArray} (hc : Clean n s) {k x : Nat} (h : (nums s)[k]? = some x) {j : Nat} (hj : j < 8) : x.testBit j = (rbits n s).getD (8 * k + j) false := by
  by_cases hn : 8 * k + j < n
  · rw [rbits_getD hn, Nat.mul_add_div (by omega), Nat.mul_add_mod, Nat.div_eq_of_lt hj, Nat.mod_eq_of_lt hj, Nat.add_zero, List.getD_eq_getElem?_getD, h]
    rfl
  · rw [hc k x h j hj (by omega), List.getD_eq_getElem?_getD, List.getElem?_eq_none (by rw [rbits_length]; omega)]
    rfl

theorem chunks_rbits {n : Nat} {s : ByteArray} (hc : Clean n s) (hl : s.size = need n 8) : chunks 8 (rbits n s) = nums s := by
  symm
  apply chunks_ext (by rw [nums_length, rbits_length, hl])
  intro k x hx
  exact ⟨nums_lt hx, fun j hj => byte_bits hc hx hj⟩

theorem chunks_or_byte (l : List Bool) (k y : Nat) (hy : y < 256) (_hk : 8 * k < l.length) (h : ∀ j, j < 8 → y.testBit j = l.getD (8 * k + j) false) :
    chunks 64 (firsts l (8 * (k + 1))) = (chunks 64 (firsts l (8 * k))).set (k / 8) (chunk 64 (firsts l (8 * k)) (k / 8) ||| y * 2 ^ (8 * (k % 8))) := by
  symm
  apply chunks_ext (by rw [List.length_set, chunks_length, firsts_length, firsts_length])
  intro q x hx
  rw [List.getElem?_set] at hx
  have hb : y * 2 ^ (8 * (k % 8)) < 2 ^ 64 := by
    have h1 : 2 ^ (8 * (k % 8)) ≤ 2 ^ 56 := Nat.pow_le_pow_right (by omega) (by omega)
    have h2 : y * 2 ^ (8 * (k % 8)) ≤ 255 * 2 ^ 56 := Nat.mul_le_mul (by omega) h1
    have h3 : 255 * 2 ^ 56 < (2 : Nat) ^ 64 := by decide
    omega
  by_cases hq : k / 8 = q
  · rw [if_pos hq] at hx
    split at hx
    · cases hx
      refine ⟨Nat.or_lt_two_pow (chunk_lt _ _ _) hb, fun j hj => ?_⟩
      rw [Nat.testBit_or, chunk_testBit, firsts_getD, firsts_getD, Nat.mul_comm y, Nat.testBit_two_pow_mul]
      have e8 : 8 * k = 64 * q + 8 * (k % 8) := by omega
      by_cases h1 : j < 8 * (k % 8)
      · have a1 : 64 * q + j < 8 * k := by omega
        have a2 : 64 * q + j < 8 * (k + 1) := by omega
        have a3 : ¬ 8 * (k % 8) ≤ j := by omega
        rw [hq]
        simp [hj, a1, a2, a3]
      · have a1 : ¬ 64 * (k / 8) + j < 8 * k := by omega
        have a3 : 8 * (k % 8) ≤ j := by omega
        by_cases h2 : j - 8 * (k % 8) < 8
        · have a2 : 64 * q + j < 8 * (k + 1) := by omega
          rw [h _ h2, show 8 * k + (j - 8 * (k % 8)) = 64 * q + j by omega]
          simp [a1, a2, a3]
        · have a2 : ¬ 64 * q + j < 8 * (k + 1) := by omega
          have a4 : y.testBit (j - 8 * (k % 8)) = false := Nat.testBit_lt_two_pow (Nat.lt_of_lt_of_le hy (show 2 ^ 8 ≤ 2 ^ (j - 8 * (k % 8)) from Nat.pow_le_pow_right (by omega) (by omega)))
          simp [a1, a2, a4]
    · cases hx
  · rw [if_neg hq] at hx
    obtain ⟨_, rfl⟩ := chunks_get' hx
    refine ⟨chunk_lt _ _ _, fun j hj => ?_⟩
    rw [chunk_testBit, firsts_getD, firsts_getD]
    have : (64 * q + j < 8 * (k + 1)) ↔ 64 * q + j < 8 * k := by omega
    simp [hj, this]

end Go.Proofs.Ytpigbhmamaghgaa.Pg.V

namespace Go.Proofs.Ytpigbhmamaghgaa.Pg.V
open Go.RowKit
set_option maxRecDepth 100000
attribute [local go_sem] not_any mf_any

theorem nums_at {s : ByteArray} {k : Nat} (h : k < s.size) : (nums s)[k]? = some (s[k]'h).toNat := by
  unfold nums
  rw [List.getElem?_map, Array.getElem?_toList, Array.getElem?_eq_getElem (show k < s.data.size from h)]
  rfl

theorem byte_shift (x j : Nat) : ((x : Int) / 2 ^ j != 0) = decide (x / 2 ^ j ≠ 0) := by
  rw [pow_cast, ← Int.natCast_ediv]
  by_cases h : x / 2 ^ j = 0
  · simp [h]
  · simp only [ne_eq, h, not_false_eq_true, decide_true, bne_iff_ne]
    omega

theorem or_byte {x y j : Nat} (hx : x < 18446744073709551616) (hy : y < 256) (hj : j ≤ 56) : bits .or .u64 (x : Int) (IntKind.u64.wrap ((y : Int) * 2 ^ j)) = ((x ||| y * 2 ^ j : Nat) : Int) := by
  have h1 : 2 ^ j ≤ 2 ^ 56 := Nat.pow_le_pow_right (by omega) hj
  have h2 : y * 2 ^ j ≤ 255 * 2 ^ 56 := Nat.mul_le_mul (by omega) h1
  have h3 : 255 * 2 ^ 56 < 18446744073709551616 := by decide
  have h4 : IntKind.u64.wrap (((y * 2 ^ j : Nat) : Int)) = ((y * 2 ^ j : Nat) : Int) := by
    rw [IntKind.wrap_u64]
    generalize y * 2 ^ j = z at h2 ⊢
    omega
  rw [pow_cast, ← Int.natCast_mul, h4, u64_or_nat _ _ hx (by omega)]

end Go.Proofs.Ytpigbhmamaghgaa.Pg.V
