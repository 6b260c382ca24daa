/- Bits read of bytes. -/
import Derived.Test.YtpigbhmamaghgaaPgVRa
namespace Go.Proofs.Ytpigbhmamaghgaa.Pg.V
open Go.RowKit
set_option maxRecDepth 100000
attribute [local go_sem] not_any mf_any

theorem nums_at {s : ByteArray} {k : Nat} (h : k < s.size) : (nums s)[k]? = some (s[k]'h).toNat := by
  unfold nums
  rw [List.getElem?_map, Array.getElem?_toList, Array.getElem?_eq_getElem (show k < s.data.size from h)]
  rfl

theorem byte_shift (x j : Nat) : ((x : Int) / 2 ^ j != 0) = decide (x / 2 ^ j ≠ 0) := by
  rw [pow_cast, ← Int.natCast_ediv]
  by_cases h : x / 2 ^ j = 0
  · simp [h]
  · simp only [ne_eq, h, not_false_eq_true, decide_true, bne_iff_ne]
    omega

theorem or_byte {x y j : Nat} (hx : x < 18446744073709551616) (hy : y < 256) (hj : j ≤ 56) : bits .or .u64 (x : Int) (IntKind.u64.wrap ((y : Int) * 2 ^ j)) = ((x ||| y * 2 ^ j : Nat) : Int) := by
  have h1 : 2 ^ j ≤ 2 ^ 56 := Nat.pow_le_pow_right (by omega) hj
  have h2 : y * 2 ^ j ≤ 255 * 2 ^ 56 := Nat.mul_le_mul (by omega) h1
  have h3 : 255 * 2 ^ 56 < 18446744073709551616 := by decide
  have h4 : IntKind.u64.wrap (((y * 2 ^ j : Nat) : Int)) = ((y * 2 ^ j : Nat) : Int) := by
    rw [IntKind.wrap_u64]
    generalize y * 2 ^ j = z at h2 ⊢
    omega
  rw [pow_cast, ← Int.natCast_mul, h4, u64_or_nat _ _ hx (by omega)]

end Go.Proofs.Ytpigbhmamaghgaa.Pg.V
