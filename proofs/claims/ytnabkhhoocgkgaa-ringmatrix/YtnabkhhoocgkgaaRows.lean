/-
  No cell of these rows narrows 'for every input' (looked for: loops, veiled, ifaces, maps, wideKeys, modest, calm, conditions, laid).
  DERIVED. THE GIVEN ROWS OF THIS SEAT. 6 by the template 'for every input the law returns true; each argument reads behind the call as it read before'; 0 by the template 'total and deterministic' (their statements: YtnabkhhoocgkgaaTotals.lean).
  GIVEN WITH THE SEED: the statements are not yours to turn. If you find one false, say at which input.
  Laid BY PROGRAM, IN A SANDBOX (cutbox-rows.mjs): the forced cells as the released guide's own fill.sh prints them over the translation cb0ef92e4d97b7fb… (all of the seat's roots in one cut). By AI agents, Wed Nov 11 2026. No macro, syntax, notation, axiom, sorry.
-/
import Derived.Test.YtnabkhhoocgkgaaChecked
import GoSem.Claim
import GoSem.ClaimJoined
import GoSem.ClaimMapViews
import Derived.JoinedTies
import Derived.KernelRfl
namespace Go.Proofs.Ytnabkhhoocgkgaa
/- THE CELL 'sum', in the pinned program and in every row, IS THE sha256 OF THE DUMP (.gsa) THAT YtnabkhhoocgkgaaProg.lean LOADS. Nothing in Lean hashes anything: it is a label: what it is worth is what the hold of that sum in a sandbox is worth. -/
noncomputable def Try.pinned : Pinned := { name := "ytnabkhhoocgkgaa", sum := "cb0ef92e4d97b7fba64c198a4bdd436d63087349f4cd2594b535f6586402b6e7", checked := Try.checked }
namespace Rows
def none {H : Type} : Left H := { results := [], args := [] }

/-- 'trefoillaw03.RingReckons': WHATEVER THE INPUT: true; the input reads as it did. -/
def ringReckonsSpec : ChangeSpec := { name := "ringReckons", fn := fun _ => fun
  | [d1, d2, d3, d4] => { results := [.lit (.bool true)], args := [d1, d2, d3, d4] }
  | _ => none }
def ringReckonsRow : OpenClaim := { program := "ytnabkhhoocgkgaa", sum := "cb0ef92e4d97b7fba64c198a4bdd436d63087349f4cd2594b535f6586402b6e7", func := "trefoil/trefoillaw03.RingReckons", spec := "ringReckons", apart := false }
def RingReckonsSaid : Prop := ringReckonsRow.holds Try.pinned (OpenSpec.ofChange ringReckonsSpec)

/-- ITS FALSE NEIGHBOUR: 'it returns false'. Refute it at one input. -/
def ringReckonsWrong : ChangeSpec := { name := "ringReckons", fn := fun _ => fun
  | [d1, d2, d3, d4] => { results := [.lit (.bool false)], args := [d1, d2, d3, d4] }
  | _ => none }
def RingReckonsWrongFalsely : Prop := ringReckonsRow.holds Try.pinned (OpenSpec.ofChange ringReckonsWrong)

/-- 'trefoillaw03.RingInverse': WHATEVER THE INPUT: true; the input reads as it did. -/
def ringInverseSpec : ChangeSpec := { name := "ringInverse", fn := fun _ => fun
  | [d1, d2] => { results := [.lit (.bool true)], args := [d1, d2] }
  | _ => none }
def ringInverseRow : OpenClaim := { program := "ytnabkhhoocgkgaa", sum := "cb0ef92e4d97b7fba64c198a4bdd436d63087349f4cd2594b535f6586402b6e7", func := "trefoil/trefoillaw03.RingInverse", spec := "ringInverse", apart := false }
def RingInverseSaid : Prop := ringInverseRow.holds Try.pinned (OpenSpec.ofChange ringInverseSpec)

/-- ITS FALSE NEIGHBOUR: 'it returns false'. Refute it at one input. -/
def ringInverseWrong : ChangeSpec := { name := "ringInverse", fn := fun _ => fun
  | [d1, d2] => { results := [.lit (.bool false)], args := [d1, d2] }
  | _ => none }
def RingInverseWrongFalsely : Prop := ringInverseRow.holds Try.pinned (OpenSpec.ofChange ringInverseWrong)

/-- 'trefoillaw03.RingLists': WHATEVER THE INPUT: true; the input reads as it did. -/
def ringListsSpec : ChangeSpec := { name := "ringLists", fn := fun _ => fun
  | [d1, d2, d3, d4] => { results := [.lit (.bool true)], args := [d1, d2, d3, d4] }
  | _ => none }
def ringListsRow : OpenClaim := { program := "ytnabkhhoocgkgaa", sum := "cb0ef92e4d97b7fba64c198a4bdd436d63087349f4cd2594b535f6586402b6e7", func := "trefoil/trefoillaw03.RingLists", spec := "ringLists", unfollowed := true, recurses := true, apart := false }
def RingListsSaid : Prop := ringListsRow.holds Try.pinned (OpenSpec.ofChange ringListsSpec)

/-- ITS FALSE NEIGHBOUR: 'it returns false'. Refute it at one input. -/
def ringListsWrong : ChangeSpec := { name := "ringLists", fn := fun _ => fun
  | [d1, d2, d3, d4] => { results := [.lit (.bool false)], args := [d1, d2, d3, d4] }
  | _ => none }
def RingListsWrongFalsely : Prop := ringListsRow.holds Try.pinned (OpenSpec.ofChange ringListsWrong)

/-- 'trefoillaw03.RingMatrix': WHATEVER THE INPUT: true; the input reads as it did. -/
def ringMatrixSpec : ChangeSpec := { name := "ringMatrix", fn := fun _ => fun
  | [d1, d2, d3, d4, d5, d6] => { results := [.lit (.bool true)], args := [d1, d2, d3, d4, d5, d6] }
  | _ => none }
def ringMatrixRow : OpenClaim := { program := "ytnabkhhoocgkgaa", sum := "cb0ef92e4d97b7fba64c198a4bdd436d63087349f4cd2594b535f6586402b6e7", func := "trefoil/trefoillaw03.RingMatrix", spec := "ringMatrix", apart := false }
def RingMatrixSaid : Prop := ringMatrixRow.holds Try.pinned (OpenSpec.ofChange ringMatrixSpec)

/-- ITS FALSE NEIGHBOUR: 'it returns false'. Refute it at one input. -/
def ringMatrixWrong : ChangeSpec := { name := "ringMatrix", fn := fun _ => fun
  | [d1, d2, d3, d4, d5, d6] => { results := [.lit (.bool false)], args := [d1, d2, d3, d4, d5, d6] }
  | _ => none }
def RingMatrixWrongFalsely : Prop := ringMatrixRow.holds Try.pinned (OpenSpec.ofChange ringMatrixWrong)

/-- 'trefoillaw03.RingSpread': WHATEVER THE INPUT: true; the input reads as it did. -/
def ringSpreadSpec : ChangeSpec := { name := "ringSpread", fn := fun _ => fun
  | [d1, d2, d3, d4, d5, d6, d7] => { results := [.lit (.bool true)], args := [d1, d2, d3, d4, d5, d6, d7] }
  | _ => none }
def ringSpreadRow : OpenClaim := { program := "ytnabkhhoocgkgaa", sum := "cb0ef92e4d97b7fba64c198a4bdd436d63087349f4cd2594b535f6586402b6e7", func := "trefoil/trefoillaw03.RingSpread", spec := "ringSpread", unfollowed := true, recurses := true, apart := false }
def RingSpreadSaid : Prop := ringSpreadRow.holds Try.pinned (OpenSpec.ofChange ringSpreadSpec)

/-- ITS FALSE NEIGHBOUR: 'it returns false'. Refute it at one input. -/
def ringSpreadWrong : ChangeSpec := { name := "ringSpread", fn := fun _ => fun
  | [d1, d2, d3, d4, d5, d6, d7] => { results := [.lit (.bool false)], args := [d1, d2, d3, d4, d5, d6, d7] }
  | _ => none }
def RingSpreadWrongFalsely : Prop := ringSpreadRow.holds Try.pinned (OpenSpec.ofChange ringSpreadWrong)

/-- 'trefoillaw03.RingBits': WHATEVER THE INPUT: true; the input reads as it did. -/
def ringBitsSpec : ChangeSpec := { name := "ringBits", fn := fun _ => fun
  | [d1, d2] => { results := [.lit (.bool true)], args := [d1, d2] }
  | _ => none }
def ringBitsRow : OpenClaim := { program := "ytnabkhhoocgkgaa", sum := "cb0ef92e4d97b7fba64c198a4bdd436d63087349f4cd2594b535f6586402b6e7", func := "trefoil/trefoillaw03.RingBits", spec := "ringBits", apart := false }
def RingBitsSaid : Prop := ringBitsRow.holds Try.pinned (OpenSpec.ofChange ringBitsSpec)

/-- ITS FALSE NEIGHBOUR: 'it returns false'. Refute it at one input. -/
def ringBitsWrong : ChangeSpec := { name := "ringBits", fn := fun _ => fun
  | [d1, d2] => { results := [.lit (.bool false)], args := [d1, d2] }
  | _ => none }
def RingBitsWrongFalsely : Prop := ringBitsRow.holds Try.pinned (OpenSpec.ofChange ringBitsWrong)

/- THE SECOND FORM. 'bulk': how many values and letters a reading holds, each counted each time it is reached (what is shared counts as often as it is met; a slice's spare places count too). A statement '..UptoSaid' is the law's where the arguments, and the package variables that the reading takes, are together of bulk at most 1048576: NARROWER than '..Said'. Prove '..Said' where nothing that the law and all that it calls make is longer than what came in: it says more and counts as full. Else prove '..UptoSaid'. A law counts once. -/
mutual
def uptoBulk {H : Type} : DataW H → Nat
  | .lit (.string bytes) => bytes.length + 1
  | .lit _ => 1
  | .nil => 1
  | .ptr d => uptoBulk d + 1
  | .slice elems spare => uptoBulkAll elems + uptoBulkAll spare + 1
  | .agg parts => uptoBulkAll parts + 1
  | .iface _ d => uptoBulk d + 1
  | .map entries => uptoBulkEntries entries + 1
  | .held _ => 1
def uptoBulkAll {H : Type} : List (DataW H) → Nat
  | [] => 0
  | d :: r => uptoBulk d + uptoBulkAll r
def uptoBulkEntries {H : Type} : List (Lit × DataW H) → Nat
  | [] => 0
  | x :: r => uptoBulkEntry x + uptoBulkEntries r
def uptoBulkEntry {H : Type} : Lit × DataW H → Nat
  | (.string bytes, d) => bytes.length + uptoBulk d + 1
  | (_, d) => uptoBulk d + 1
 end
def uptoSmall : (H : Type) → List (DataW H) → Bool := fun _ ds => decide (uptoBulkAll ds ≤ 1048576)
def OpenSpec.upto (s : _root_.Go.ChangeSpec) : _root_.Go.OpenSpec := { _root_.Go.OpenSpec.ofChange s with cond := some uptoSmall }

/-- 'trefoillaw03.RingReckons', WHERE WHAT IT READS IS OF BULK AT MOST 1048576: true; the input reads as it did. -/
def ringReckonsUptoRow : OpenClaim := { program := "ytnabkhhoocgkgaa", sum := "cb0ef92e4d97b7fba64c198a4bdd436d63087349f4cd2594b535f6586402b6e7", func := "trefoil/trefoillaw03.RingReckons", spec := "ringReckons", apart := false, narrowed := true }
def RingReckonsUptoSaid : Prop := ringReckonsUptoRow.holds Try.pinned (OpenSpec.upto ringReckonsSpec)

/-- 'trefoillaw03.RingInverse', WHERE WHAT IT READS IS OF BULK AT MOST 1048576: true; the input reads as it did. -/
def ringInverseUptoRow : OpenClaim := { program := "ytnabkhhoocgkgaa", sum := "cb0ef92e4d97b7fba64c198a4bdd436d63087349f4cd2594b535f6586402b6e7", func := "trefoil/trefoillaw03.RingInverse", spec := "ringInverse", apart := false, narrowed := true }
def RingInverseUptoSaid : Prop := ringInverseUptoRow.holds Try.pinned (OpenSpec.upto ringInverseSpec)

/-- 'trefoillaw03.RingLists', WHERE WHAT IT READS IS OF BULK AT MOST 1048576: true; the input reads as it did. -/
def ringListsUptoRow : OpenClaim := { program := "ytnabkhhoocgkgaa", sum := "cb0ef92e4d97b7fba64c198a4bdd436d63087349f4cd2594b535f6586402b6e7", func := "trefoil/trefoillaw03.RingLists", spec := "ringLists", unfollowed := true, recurses := true, apart := false, narrowed := true }
def RingListsUptoSaid : Prop := ringListsUptoRow.holds Try.pinned (OpenSpec.upto ringListsSpec)

/-- 'trefoillaw03.RingMatrix', WHERE WHAT IT READS IS OF BULK AT MOST 1048576: true; the input reads as it did. -/
def ringMatrixUptoRow : OpenClaim := { program := "ytnabkhhoocgkgaa", sum := "cb0ef92e4d97b7fba64c198a4bdd436d63087349f4cd2594b535f6586402b6e7", func := "trefoil/trefoillaw03.RingMatrix", spec := "ringMatrix", apart := false, narrowed := true }
def RingMatrixUptoSaid : Prop := ringMatrixUptoRow.holds Try.pinned (OpenSpec.upto ringMatrixSpec)

/-- 'trefoillaw03.RingSpread', WHERE WHAT IT READS IS OF BULK AT MOST 1048576: true; the input reads as it did. -/
def ringSpreadUptoRow : OpenClaim := { program := "ytnabkhhoocgkgaa", sum := "cb0ef92e4d97b7fba64c198a4bdd436d63087349f4cd2594b535f6586402b6e7", func := "trefoil/trefoillaw03.RingSpread", spec := "ringSpread", unfollowed := true, recurses := true, apart := false, narrowed := true }
def RingSpreadUptoSaid : Prop := ringSpreadUptoRow.holds Try.pinned (OpenSpec.upto ringSpreadSpec)

/-- 'trefoillaw03.RingBits', WHERE WHAT IT READS IS OF BULK AT MOST 1048576: true; the input reads as it did. -/
def ringBitsUptoRow : OpenClaim := { program := "ytnabkhhoocgkgaa", sum := "cb0ef92e4d97b7fba64c198a4bdd436d63087349f4cd2594b535f6586402b6e7", func := "trefoil/trefoillaw03.RingBits", spec := "ringBits", apart := false, narrowed := true }
def RingBitsUptoSaid : Prop := ringBitsUptoRow.holds Try.pinned (OpenSpec.upto ringBitsSpec)

end Rows
end Go.Proofs.Ytnabkhhoocgkgaa
