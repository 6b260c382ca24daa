/-
  No cell of these rows narrows 'for every input' (looked for: loops, veiled, ifaces, maps, wideKeys, modest, calm, conditions, laid).
  DERIVED. THE GIVEN ROWS OF THIS SEAT. 3 by the template 'for every input the law returns true; each argument reads behind the call as it read before'; 0 by the template 'total and deterministic' (their statements: YtaghcbmipihpmaaTotals.lean).
  GIVEN WITH THE SEED: the statements are not yours to turn. If you find one false, say at which input.
  Laid BY PROGRAM, IN A SANDBOX (cutbox-rows.mjs): the forced cells as the released guide's own fill.sh prints them over the translation 1057a75446cb5f98… (all of the seat's roots in one cut). By AI agents, Wed Nov 11 2026. No macro, syntax, notation, axiom, sorry.
-/
import Derived.Test.YtaghcbmipihpmaaChecked
import GoSem.Claim
import GoSem.ClaimJoined
import GoSem.ClaimMapViews
import Derived.JoinedTies
import Derived.KernelRfl
namespace Go.Proofs.Ytaghcbmipihpmaa
/- THE CELL 'sum', in the pinned program and in every row, IS THE sha256 OF THE DUMP (.gsa) THAT YtaghcbmipihpmaaProg.lean LOADS. Nothing in Lean hashes anything: it is a label: what it is worth is what the hold of that sum in a sandbox is worth. -/
noncomputable def Try.pinned : Pinned := { name := "ytaghcbmipihpmaa", sum := "1057a75446cb5f98073e96c13fa28a6967377a9b29b0eddfc9eb296b6c69bb3b", checked := Try.checked }
namespace Rows
def none {H : Type} : Left H := { results := [], args := [] }

/-- 'trefoillaw16.TransCols': WHATEVER THE INPUT: true; the input reads as it did. -/
def transColsSpec : ChangeSpec := { name := "transCols", fn := fun _ => fun
  | [d] => { results := [.lit (.bool true)], args := [d] }
  | _ => none }
def transColsRow : OpenClaim := { program := "ytaghcbmipihpmaa", sum := "1057a75446cb5f98073e96c13fa28a6967377a9b29b0eddfc9eb296b6c69bb3b", func := "trefoil/trefoillaw16.TransCols", spec := "transCols", unfollowed := true, recurses := true, apart := false }
def TransColsSaid : Prop := transColsRow.holds Try.pinned (OpenSpec.ofChange transColsSpec)

/-- ITS FALSE NEIGHBOUR: 'it returns false'. Refute it at one input. -/
def transColsWrong : ChangeSpec := { name := "transCols", fn := fun _ => fun
  | [d] => { results := [.lit (.bool false)], args := [d] }
  | _ => none }
def TransColsWrongFalsely : Prop := transColsRow.holds Try.pinned (OpenSpec.ofChange transColsWrong)

/-- 'trefoillaw16.TransRows': WHATEVER THE INPUT: true; the input reads as it did. -/
def transRowsSpec : ChangeSpec := { name := "transRows", fn := fun _ => fun
  | [d1, d2, d3, d4] => { results := [.lit (.bool true)], args := [d1, d2, d3, d4] }
  | _ => none }
def transRowsRow : OpenClaim := { program := "ytaghcbmipihpmaa", sum := "1057a75446cb5f98073e96c13fa28a6967377a9b29b0eddfc9eb296b6c69bb3b", func := "trefoil/trefoillaw16.TransRows", spec := "transRows", inPlace := ["internal/abi.NoEscape"], unfollowed := true, recurses := true, apart := false }
def TransRowsSaid : Prop := transRowsRow.holds Try.pinned (OpenSpec.ofChange transRowsSpec)

/-- ITS FALSE NEIGHBOUR: 'it returns false'. Refute it at one input. -/
def transRowsWrong : ChangeSpec := { name := "transRows", fn := fun _ => fun
  | [d1, d2, d3, d4] => { results := [.lit (.bool false)], args := [d1, d2, d3, d4] }
  | _ => none }
def TransRowsWrongFalsely : Prop := transRowsRow.holds Try.pinned (OpenSpec.ofChange transRowsWrong)

/-- 'trefoillaw16.TransPacks': WHATEVER THE INPUT: true; the input reads as it did. -/
def transPacksSpec : ChangeSpec := { name := "transPacks", fn := fun _ => fun
  | [d1, d2] => { results := [.lit (.bool true)], args := [d1, d2] }
  | _ => none }
def transPacksRow : OpenClaim := { program := "ytaghcbmipihpmaa", sum := "1057a75446cb5f98073e96c13fa28a6967377a9b29b0eddfc9eb296b6c69bb3b", func := "trefoil/trefoillaw16.TransPacks", spec := "transPacks", inPlace := ["internal/abi.NoEscape"], unfollowed := true, recurses := true, apart := false }
def TransPacksSaid : Prop := transPacksRow.holds Try.pinned (OpenSpec.ofChange transPacksSpec)

/-- ITS FALSE NEIGHBOUR: 'it returns false'. Refute it at one input. -/
def transPacksWrong : ChangeSpec := { name := "transPacks", fn := fun _ => fun
  | [d1, d2] => { results := [.lit (.bool false)], args := [d1, d2] }
  | _ => none }
def TransPacksWrongFalsely : Prop := transPacksRow.holds Try.pinned (OpenSpec.ofChange transPacksWrong)

/- THE SECOND FORM. 'bulk': how many values and letters a reading holds, each counted each time it is reached (what is shared counts as often as it is met; a slice's spare places count too). A statement '..UptoSaid' is the law's where the arguments, and the package variables that the reading takes, are together of bulk at most 1048576: NARROWER than '..Said'. Prove '..Said' where nothing that the law and all that it calls make is longer than what came in: it says more and counts as full. Else prove '..UptoSaid'. A law counts once. -/
mutual
def uptoBulk {H : Type} : DataW H → Nat
  | .lit (.string bytes) => bytes.length + 1
  | .lit _ => 1
  | .nil => 1
  | .ptr d => uptoBulk d + 1
  | .slice elems spare => uptoBulkAll elems + uptoBulkAll spare + 1
  | .agg parts => uptoBulkAll parts + 1
  | .iface _ d => uptoBulk d + 1
  | .map entries => uptoBulkEntries entries + 1
  | .held _ => 1
def uptoBulkAll {H : Type} : List (DataW H) → Nat
  | [] => 0
  | d :: r => uptoBulk d + uptoBulkAll r
def uptoBulkEntries {H : Type} : List (Lit × DataW H) → Nat
  | [] => 0
  | x :: r => uptoBulkEntry x + uptoBulkEntries r
def uptoBulkEntry {H : Type} : Lit × DataW H → Nat
  | (.string bytes, d) => bytes.length + uptoBulk d + 1
  | (_, d) => uptoBulk d + 1
 end
def uptoSmall : (H : Type) → List (DataW H) → Bool := fun _ ds => decide (uptoBulkAll ds ≤ 1048576)
def OpenSpec.upto (s : _root_.Go.ChangeSpec) : _root_.Go.OpenSpec := { _root_.Go.OpenSpec.ofChange s with cond := some uptoSmall }

/-- 'trefoillaw16.TransCols', WHERE WHAT IT READS IS OF BULK AT MOST 1048576: true; the input reads as it did. -/
def transColsUptoRow : OpenClaim := { program := "ytaghcbmipihpmaa", sum := "1057a75446cb5f98073e96c13fa28a6967377a9b29b0eddfc9eb296b6c69bb3b", func := "trefoil/trefoillaw16.TransCols", spec := "transCols", unfollowed := true, recurses := true, apart := false, narrowed := true }
def TransColsUptoSaid : Prop := transColsUptoRow.holds Try.pinned (OpenSpec.upto transColsSpec)

/-- 'trefoillaw16.TransRows', WHERE WHAT IT READS IS OF BULK AT MOST 1048576: true; the input reads as it did. -/
def transRowsUptoRow : OpenClaim := { program := "ytaghcbmipihpmaa", sum := "1057a75446cb5f98073e96c13fa28a6967377a9b29b0eddfc9eb296b6c69bb3b", func := "trefoil/trefoillaw16.TransRows", spec := "transRows", inPlace := ["internal/abi.NoEscape"], unfollowed := true, recurses := true, apart := false, narrowed := true }
def TransRowsUptoSaid : Prop := transRowsUptoRow.holds Try.pinned (OpenSpec.upto transRowsSpec)

/-- 'trefoillaw16.TransPacks', WHERE WHAT IT READS IS OF BULK AT MOST 1048576: true; the input reads as it did. -/
def transPacksUptoRow : OpenClaim := { program := "ytaghcbmipihpmaa", sum := "1057a75446cb5f98073e96c13fa28a6967377a9b29b0eddfc9eb296b6c69bb3b", func := "trefoil/trefoillaw16.TransPacks", spec := "transPacks", inPlace := ["internal/abi.NoEscape"], unfollowed := true, recurses := true, apart := false, narrowed := true }
def TransPacksUptoSaid : Prop := transPacksUptoRow.holds Try.pinned (OpenSpec.upto transPacksSpec)

end Rows
end Go.Proofs.Ytaghcbmipihpmaa
