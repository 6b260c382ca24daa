/- A byte opened. -/
import Derived.Test.YtaghcbmipihpmaaQ
namespace Go.Proofs.Ytaghcbmipihpmaa
open Go.ChangeShapes Go.WideShapes Go.RowKit Go.Deep
theorem nat_u8 {n : Int} (h : (Lit.int .u8 n).wf = true) : ∃ a : Nat, n = (a : Int) ∧ a < 256 := by
  obtain ⟨h1, h2⟩ := bounds_u8 h
  exact ⟨n.toNat, by omega, by omega⟩
end Go.Proofs.Ytaghcbmipihpmaa
