/- The document's own bits of words. -/
import Derived.Test.YtaghcbmipihpmaaX
namespace Go.Proofs.Ytaghcbmipihpmaa
open Go.RowKit
set_option maxRecDepth 100000
attribute [local go_sem] not_any mf_any field_words

theorem shr_test (x j : Nat) : (((x : Int) / 2 ^ j).tmod 2 == 1) = x.testBit j := by
  have hp : (0 : Int) ≤ (x : Int) / 2 ^ j := by
    rw [pow_cast]
    exact Int.natCast_nonneg (x / 2 ^ j)
  rw [Int.tmod_eq_emod_of_nonneg hp]
  have h : x.testBit j = decide (x / 2 ^ j % 2 = 1) := by rw [Nat.testBit_eq_decide_div_mod_eq]
  rw [h, ← int_odd, pow_cast]
  rfl

end Go.Proofs.Ytaghcbmipihpmaa
