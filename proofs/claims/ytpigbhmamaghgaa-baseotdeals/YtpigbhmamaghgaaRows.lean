/-
  No cell of these rows narrows 'for every input' (looked for: loops, veiled, ifaces, maps, wideKeys, modest, calm, conditions, laid).
  DERIVED. THE GIVEN ROWS OF THIS SEAT. 3 by the template 'for every input the law returns true; each argument reads behind the call as it read before'; 0 by the template 'total and deterministic' (their statements: YtpigbhmamaghgaaTotals.lean).
  GIVEN WITH THE SEED: the statements are not yours to turn. If you find one false, say at which input.
  Laid BY PROGRAM, IN A SANDBOX (cutbox-rows.mjs): the forced cells as the released guide's own fill.sh prints them over the translation 4a550da4ddd52450… (all of the seat's roots in one cut). By AI agents, Wed Nov 11 2026. No macro, syntax, notation, axiom, sorry.
-/
import Derived.Test.YtpigbhmamaghgaaChecked
import GoSem.Claim
import GoSem.ClaimJoined
import GoSem.ClaimMapViews
import Derived.JoinedTies
import Derived.KernelRfl
namespace Go.Proofs.Ytpigbhmamaghgaa
/- THE CELL 'sum', in the pinned program and in every row, IS THE sha256 OF THE DUMP (.gsa) THAT YtpigbhmamaghgaaProg.lean LOADS. Nothing in Lean hashes anything: it is a label: what it is worth is what the hold of that sum in a sandbox is worth. -/
noncomputable def Try.pinned : Pinned := { name := "ytpigbhmamaghgaa", sum := "4a550da4ddd52450b96b1b246f3a8d1ae8eb90223f6b0396942660538bb18835", checked := Try.checked }
namespace Rows
def none {H : Type} : Left H := { results := [], args := [] }

/-- 'trefoillaw15.BaseotDeals': WHATEVER THE INPUT: true; the input reads as it did. -/
def baseotDealsSpec : ChangeSpec := { name := "baseotDeals", fn := fun _ => fun
  | [d1, d2] => { results := [.lit (.bool true)], args := [d1, d2] }
  | _ => none }
def baseotDealsRow : OpenClaim := { program := "ytpigbhmamaghgaa", sum := "4a550da4ddd52450b96b1b246f3a8d1ae8eb90223f6b0396942660538bb18835", func := "trefoil/trefoillaw15.BaseotDeals", spec := "baseotDeals", apart := false }
def BaseotDealsSaid : Prop := baseotDealsRow.holds Try.pinned (OpenSpec.ofChange baseotDealsSpec)

/-- ITS FALSE NEIGHBOUR: 'it returns false'. Refute it at one input. -/
def baseotDealsWrong : ChangeSpec := { name := "baseotDeals", fn := fun _ => fun
  | [d1, d2] => { results := [.lit (.bool false)], args := [d1, d2] }
  | _ => none }
def BaseotDealsWrongFalsely : Prop := baseotDealsRow.holds Try.pinned (OpenSpec.ofChange baseotDealsWrong)

/-- 'trefoillaw15.BaseotMatches': WHATEVER THE INPUT: true; the input reads as it did. -/
def baseotMatchesSpec : ChangeSpec := { name := "baseotMatches", fn := fun _ => fun
  | [d1, d2, d3, d4, d5] => { results := [.lit (.bool true)], args := [d1, d2, d3, d4, d5] }
  | _ => none }
def baseotMatchesRow : OpenClaim := { program := "ytpigbhmamaghgaa", sum := "4a550da4ddd52450b96b1b246f3a8d1ae8eb90223f6b0396942660538bb18835", func := "trefoil/trefoillaw15.BaseotMatches", spec := "baseotMatches", apart := false }
def BaseotMatchesSaid : Prop := baseotMatchesRow.holds Try.pinned (OpenSpec.ofChange baseotMatchesSpec)

/-- ITS FALSE NEIGHBOUR: 'it returns false'. Refute it at one input. -/
def baseotMatchesWrong : ChangeSpec := { name := "baseotMatches", fn := fun _ => fun
  | [d1, d2, d3, d4, d5] => { results := [.lit (.bool false)], args := [d1, d2, d3, d4, d5] }
  | _ => none }
def BaseotMatchesWrongFalsely : Prop := baseotMatchesRow.holds Try.pinned (OpenSpec.ofChange baseotMatchesWrong)

/-- 'trefoillaw15.BaseotRows': WHATEVER THE INPUT: true; the input reads as it did. -/
def baseotRowsSpec : ChangeSpec := { name := "baseotRows", fn := fun _ => fun
  | [d1, d2, d3, d4] => { results := [.lit (.bool true)], args := [d1, d2, d3, d4] }
  | _ => none }
def baseotRowsRow : OpenClaim := { program := "ytpigbhmamaghgaa", sum := "4a550da4ddd52450b96b1b246f3a8d1ae8eb90223f6b0396942660538bb18835", func := "trefoil/trefoillaw15.BaseotRows", spec := "baseotRows", apart := false }
def BaseotRowsSaid : Prop := baseotRowsRow.holds Try.pinned (OpenSpec.ofChange baseotRowsSpec)

/-- ITS FALSE NEIGHBOUR: 'it returns false'. Refute it at one input. -/
def baseotRowsWrong : ChangeSpec := { name := "baseotRows", fn := fun _ => fun
  | [d1, d2, d3, d4] => { results := [.lit (.bool false)], args := [d1, d2, d3, d4] }
  | _ => none }
def BaseotRowsWrongFalsely : Prop := baseotRowsRow.holds Try.pinned (OpenSpec.ofChange baseotRowsWrong)

/- THE SECOND FORM. 'bulk': how many values and letters a reading holds, each counted each time it is reached (what is shared counts as often as it is met; a slice's spare places count too). A statement '..UptoSaid' is the law's where the arguments, and the package variables that the reading takes, are together of bulk at most 1048576: NARROWER than '..Said'. Prove '..Said' where nothing that the law and all that it calls make is longer than what came in: it says more and counts as full. Else prove '..UptoSaid'. A law counts once. -/
mutual
def uptoBulk {H : Type} : DataW H → Nat
  | .lit (.string bytes) => bytes.length + 1
  | .lit _ => 1
  | .nil => 1
  | .ptr d => uptoBulk d + 1
  | .slice elems spare => uptoBulkAll elems + uptoBulkAll spare + 1
  | .agg parts => uptoBulkAll parts + 1
  | .iface _ d => uptoBulk d + 1
  | .map entries => uptoBulkEntries entries + 1
  | .held _ => 1
def uptoBulkAll {H : Type} : List (DataW H) → Nat
  | [] => 0
  | d :: r => uptoBulk d + uptoBulkAll r
def uptoBulkEntries {H : Type} : List (Lit × DataW H) → Nat
  | [] => 0
  | x :: r => uptoBulkEntry x + uptoBulkEntries r
def uptoBulkEntry {H : Type} : Lit × DataW H → Nat
  | (.string bytes, d) => bytes.length + uptoBulk d + 1
  | (_, d) => uptoBulk d + 1
 end
def uptoSmall : (H : Type) → List (DataW H) → Bool := fun _ ds => decide (uptoBulkAll ds ≤ 1048576)
def OpenSpec.upto (s : _root_.Go.ChangeSpec) : _root_.Go.OpenSpec := { _root_.Go.OpenSpec.ofChange s with cond := some uptoSmall }

/-- 'trefoillaw15.BaseotDeals', WHERE WHAT IT READS IS OF BULK AT MOST 1048576: true; the input reads as it did. -/
def baseotDealsUptoRow : OpenClaim := { program := "ytpigbhmamaghgaa", sum := "4a550da4ddd52450b96b1b246f3a8d1ae8eb90223f6b0396942660538bb18835", func := "trefoil/trefoillaw15.BaseotDeals", spec := "baseotDeals", apart := false, narrowed := true }
def BaseotDealsUptoSaid : Prop := baseotDealsUptoRow.holds Try.pinned (OpenSpec.upto baseotDealsSpec)

/-- 'trefoillaw15.BaseotMatches', WHERE WHAT IT READS IS OF BULK AT MOST 1048576: true; the input reads as it did. -/
def baseotMatchesUptoRow : OpenClaim := { program := "ytpigbhmamaghgaa", sum := "4a550da4ddd52450b96b1b246f3a8d1ae8eb90223f6b0396942660538bb18835", func := "trefoil/trefoillaw15.BaseotMatches", spec := "baseotMatches", apart := false, narrowed := true }
def BaseotMatchesUptoSaid : Prop := baseotMatchesUptoRow.holds Try.pinned (OpenSpec.upto baseotMatchesSpec)

/-- 'trefoillaw15.BaseotRows', WHERE WHAT IT READS IS OF BULK AT MOST 1048576: true; the input reads as it did. -/
def baseotRowsUptoRow : OpenClaim := { program := "ytpigbhmamaghgaa", sum := "4a550da4ddd52450b96b1b246f3a8d1ae8eb90223f6b0396942660538bb18835", func := "trefoil/trefoillaw15.BaseotRows", spec := "baseotRows", apart := false, narrowed := true }
def BaseotRowsUptoSaid : Prop := baseotRowsUptoRow.holds Try.pinned (OpenSpec.upto baseotRowsSpec)

end Rows
end Go.Proofs.Ytpigbhmamaghgaa
