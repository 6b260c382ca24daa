/-
  No cell of these rows narrows 'for every input' (looked for: loops, veiled, ifaces, maps, wideKeys, modest, calm, conditions, laid).
  DERIVED. THE GIVEN ROWS OF THIS SEAT. 6 by the template 'for every input the law returns true; each argument reads behind the call as it read before'; 0 by the template 'total and deterministic' (their statements: YtldopgngbnjlnaaTotals.lean).
  GIVEN WITH THE SEED: the statements are not yours to turn. If you find one false, say at which input.
  Laid BY PROGRAM, IN A SANDBOX (cutbox-rows.mjs): the forced cells as the released guide's own fill.sh prints them over the translation 2500e7125773b5a1… (all of the seat's roots in one cut). By AI agents, Wed Nov 11 2026. No macro, syntax, notation, axiom, sorry.
-/
import Derived.Test.YtldopgngbnjlnaaChecked
import GoSem.Claim
import GoSem.ClaimJoined
import GoSem.ClaimMapViews
import Derived.JoinedTies
import Derived.KernelRfl
namespace Go.Proofs.Ytldopgngbnjlnaa
/- THE CELL 'sum', in the pinned program and in every row, IS THE sha256 OF THE DUMP (.gsa) THAT YtldopgngbnjlnaaProg.lean LOADS. Nothing in Lean hashes anything: it is a label: what it is worth is what the hold of that sum in a sandbox is worth. -/
noncomputable def Try.pinned : Pinned := { name := "ytldopgngbnjlnaa", sum := "2500e7125773b5a15a41dcddecd0c7838dbffb3fa74cb7846ed4ea52069c3d76", checked := Try.checked }
namespace Rows
def none {H : Type} : Left H := { results := [], args := [] }

/-- 'trefoillaw07.PrgParts': WHATEVER THE INPUT: true; the input reads as it did. -/
def prgPartsSpec : ChangeSpec := { name := "prgParts", fn := fun _ => fun
  | [d1, d2, d3, d4] => { results := [.lit (.bool true)], args := [d1, d2, d3, d4] }
  | _ => none }
def prgPartsRow : OpenClaim := { program := "ytldopgngbnjlnaa", sum := "2500e7125773b5a15a41dcddecd0c7838dbffb3fa74cb7846ed4ea52069c3d76", func := "trefoil/trefoillaw07.PrgParts", spec := "prgParts", unfollowed := true, recurses := true, apart := false }
def PrgPartsSaid : Prop := prgPartsRow.holds Try.pinned (OpenSpec.ofChange prgPartsSpec)

/-- ITS FALSE NEIGHBOUR: 'it returns false'. Refute it at one input. -/
def prgPartsWrong : ChangeSpec := { name := "prgParts", fn := fun _ => fun
  | [d1, d2, d3, d4] => { results := [.lit (.bool false)], args := [d1, d2, d3, d4] }
  | _ => none }
def PrgPartsWrongFalsely : Prop := prgPartsRow.holds Try.pinned (OpenSpec.ofChange prgPartsWrong)

/-- 'trefoillaw07.PrgChild': WHATEVER THE INPUT: true; the input reads as it did. -/
def prgChildSpec : ChangeSpec := { name := "prgChild", fn := fun _ => fun
  | [d1, d2] => { results := [.lit (.bool true)], args := [d1, d2] }
  | _ => none }
def prgChildRow : OpenClaim := { program := "ytldopgngbnjlnaa", sum := "2500e7125773b5a15a41dcddecd0c7838dbffb3fa74cb7846ed4ea52069c3d76", func := "trefoil/trefoillaw07.PrgChild", spec := "prgChild", apart := false }
def PrgChildSaid : Prop := prgChildRow.holds Try.pinned (OpenSpec.ofChange prgChildSpec)

/-- ITS FALSE NEIGHBOUR: 'it returns false'. Refute it at one input. -/
def prgChildWrong : ChangeSpec := { name := "prgChild", fn := fun _ => fun
  | [d1, d2] => { results := [.lit (.bool false)], args := [d1, d2] }
  | _ => none }
def PrgChildWrongFalsely : Prop := prgChildRow.holds Try.pinned (OpenSpec.ofChange prgChildWrong)

/-- 'trefoillaw07.PrgSources': WHATEVER THE INPUT: true; the input reads as it did. -/
def prgSourcesSpec : ChangeSpec := { name := "prgSources", fn := fun _ => fun
  | [d1, d2, d3] => { results := [.lit (.bool true)], args := [d1, d2, d3] }
  | _ => none }
def prgSourcesRow : OpenClaim := { program := "ytldopgngbnjlnaa", sum := "2500e7125773b5a15a41dcddecd0c7838dbffb3fa74cb7846ed4ea52069c3d76", func := "trefoil/trefoillaw07.PrgSources", spec := "prgSources", unfollowed := true, recurses := true, apart := false }
def PrgSourcesSaid : Prop := prgSourcesRow.holds Try.pinned (OpenSpec.ofChange prgSourcesSpec)

/-- ITS FALSE NEIGHBOUR: 'it returns false'. Refute it at one input. -/
def prgSourcesWrong : ChangeSpec := { name := "prgSources", fn := fun _ => fun
  | [d1, d2, d3] => { results := [.lit (.bool false)], args := [d1, d2, d3] }
  | _ => none }
def PrgSourcesWrongFalsely : Prop := prgSourcesRow.holds Try.pinned (OpenSpec.ofChange prgSourcesWrong)

/-- 'trefoillaw07.PrgEven': WHATEVER THE INPUT: true; the input reads as it did. -/
def prgEvenSpec : ChangeSpec := { name := "prgEven", fn := fun _ => fun
  | [d1, d2] => { results := [.lit (.bool true)], args := [d1, d2] }
  | _ => none }
def prgEvenRow : OpenClaim := { program := "ytldopgngbnjlnaa", sum := "2500e7125773b5a15a41dcddecd0c7838dbffb3fa74cb7846ed4ea52069c3d76", func := "trefoil/trefoillaw07.PrgEven", spec := "prgEven", unfollowed := true, recurses := true, apart := false }
def PrgEvenSaid : Prop := prgEvenRow.holds Try.pinned (OpenSpec.ofChange prgEvenSpec)

/-- ITS FALSE NEIGHBOUR: 'it returns false'. Refute it at one input. -/
def prgEvenWrong : ChangeSpec := { name := "prgEven", fn := fun _ => fun
  | [d1, d2] => { results := [.lit (.bool false)], args := [d1, d2] }
  | _ => none }
def PrgEvenWrongFalsely : Prop := prgEvenRow.holds Try.pinned (OpenSpec.ofChange prgEvenWrong)

/-- 'trefoillaw07.PrgJoins': WHATEVER THE INPUT: true; the input reads as it did. -/
def prgJoinsSpec : ChangeSpec := { name := "prgJoins", fn := fun _ => fun
  | [d1, d2, d3, d4, d5] => { results := [.lit (.bool true)], args := [d1, d2, d3, d4, d5] }
  | _ => none }
def prgJoinsRow : OpenClaim := { program := "ytldopgngbnjlnaa", sum := "2500e7125773b5a15a41dcddecd0c7838dbffb3fa74cb7846ed4ea52069c3d76", func := "trefoil/trefoillaw07.PrgJoins", spec := "prgJoins", unfollowed := true, recurses := true, apart := false }
def PrgJoinsSaid : Prop := prgJoinsRow.holds Try.pinned (OpenSpec.ofChange prgJoinsSpec)

/-- ITS FALSE NEIGHBOUR: 'it returns false'. Refute it at one input. -/
def prgJoinsWrong : ChangeSpec := { name := "prgJoins", fn := fun _ => fun
  | [d1, d2, d3, d4, d5] => { results := [.lit (.bool false)], args := [d1, d2, d3, d4, d5] }
  | _ => none }
def PrgJoinsWrongFalsely : Prop := prgJoinsRow.holds Try.pinned (OpenSpec.ofChange prgJoinsWrong)

/-- 'trefoillaw07.PrgNobody': WHATEVER THE INPUT: true; the input reads as it did. -/
def prgNobodySpec : ChangeSpec := { name := "prgNobody", fn := fun _ => fun
  | [d] => { results := [.lit (.bool true)], args := [d] }
  | _ => none }
def prgNobodyRow : OpenClaim := { program := "ytldopgngbnjlnaa", sum := "2500e7125773b5a15a41dcddecd0c7838dbffb3fa74cb7846ed4ea52069c3d76", func := "trefoil/trefoillaw07.PrgNobody", spec := "prgNobody", unfollowed := true, recurses := true, apart := false }
def PrgNobodySaid : Prop := prgNobodyRow.holds Try.pinned (OpenSpec.ofChange prgNobodySpec)

/-- ITS FALSE NEIGHBOUR: 'it returns false'. Refute it at one input. -/
def prgNobodyWrong : ChangeSpec := { name := "prgNobody", fn := fun _ => fun
  | [d] => { results := [.lit (.bool false)], args := [d] }
  | _ => none }
def PrgNobodyWrongFalsely : Prop := prgNobodyRow.holds Try.pinned (OpenSpec.ofChange prgNobodyWrong)

/- THE SECOND FORM. 'bulk': how many values and letters a reading holds, each counted each time it is reached (what is shared counts as often as it is met; a slice's spare places count too). A statement '..UptoSaid' is the law's where the arguments, and the package variables that the reading takes, are together of bulk at most 1048576: NARROWER than '..Said'. Prove '..Said' where nothing that the law and all that it calls make is longer than what came in: it says more and counts as full. Else prove '..UptoSaid'. A law counts once. -/
mutual
def uptoBulk {H : Type} : DataW H → Nat
  | .lit (.string bytes) => bytes.length + 1
  | .lit _ => 1
  | .nil => 1
  | .ptr d => uptoBulk d + 1
  | .slice elems spare => uptoBulkAll elems + uptoBulkAll spare + 1
  | .agg parts => uptoBulkAll parts + 1
  | .iface _ d => uptoBulk d + 1
  | .map entries => uptoBulkEntries entries + 1
  | .held _ => 1
def uptoBulkAll {H : Type} : List (DataW H) → Nat
  | [] => 0
  | d :: r => uptoBulk d + uptoBulkAll r
def uptoBulkEntries {H : Type} : List (Lit × DataW H) → Nat
  | [] => 0
  | x :: r => uptoBulkEntry x + uptoBulkEntries r
def uptoBulkEntry {H : Type} : Lit × DataW H → Nat
  | (.string bytes, d) => bytes.length + uptoBulk d + 1
  | (_, d) => uptoBulk d + 1
 end
def uptoSmall : (H : Type) → List (DataW H) → Bool := fun _ ds => decide (uptoBulkAll ds ≤ 1048576)
def OpenSpec.upto (s : _root_.Go.ChangeSpec) : _root_.Go.OpenSpec := { _root_.Go.OpenSpec.ofChange s with cond := some uptoSmall }

/-- 'trefoillaw07.PrgParts', WHERE WHAT IT READS IS OF BULK AT MOST 1048576: true; the input reads as it did. -/
def prgPartsUptoRow : OpenClaim := { program := "ytldopgngbnjlnaa", sum := "2500e7125773b5a15a41dcddecd0c7838dbffb3fa74cb7846ed4ea52069c3d76", func := "trefoil/trefoillaw07.PrgParts", spec := "prgParts", unfollowed := true, recurses := true, apart := false, narrowed := true }
def PrgPartsUptoSaid : Prop := prgPartsUptoRow.holds Try.pinned (OpenSpec.upto prgPartsSpec)

/-- 'trefoillaw07.PrgChild', WHERE WHAT IT READS IS OF BULK AT MOST 1048576: true; the input reads as it did. -/
def prgChildUptoRow : OpenClaim := { program := "ytldopgngbnjlnaa", sum := "2500e7125773b5a15a41dcddecd0c7838dbffb3fa74cb7846ed4ea52069c3d76", func := "trefoil/trefoillaw07.PrgChild", spec := "prgChild", apart := false, narrowed := true }
def PrgChildUptoSaid : Prop := prgChildUptoRow.holds Try.pinned (OpenSpec.upto prgChildSpec)

/-- 'trefoillaw07.PrgSources', WHERE WHAT IT READS IS OF BULK AT MOST 1048576: true; the input reads as it did. -/
def prgSourcesUptoRow : OpenClaim := { program := "ytldopgngbnjlnaa", sum := "2500e7125773b5a15a41dcddecd0c7838dbffb3fa74cb7846ed4ea52069c3d76", func := "trefoil/trefoillaw07.PrgSources", spec := "prgSources", unfollowed := true, recurses := true, apart := false, narrowed := true }
def PrgSourcesUptoSaid : Prop := prgSourcesUptoRow.holds Try.pinned (OpenSpec.upto prgSourcesSpec)

/-- 'trefoillaw07.PrgEven', WHERE WHAT IT READS IS OF BULK AT MOST 1048576: true; the input reads as it did. -/
def prgEvenUptoRow : OpenClaim := { program := "ytldopgngbnjlnaa", sum := "2500e7125773b5a15a41dcddecd0c7838dbffb3fa74cb7846ed4ea52069c3d76", func := "trefoil/trefoillaw07.PrgEven", spec := "prgEven", unfollowed := true, recurses := true, apart := false, narrowed := true }
def PrgEvenUptoSaid : Prop := prgEvenUptoRow.holds Try.pinned (OpenSpec.upto prgEvenSpec)

/-- 'trefoillaw07.PrgJoins', WHERE WHAT IT READS IS OF BULK AT MOST 1048576: true; the input reads as it did. -/
def prgJoinsUptoRow : OpenClaim := { program := "ytldopgngbnjlnaa", sum := "2500e7125773b5a15a41dcddecd0c7838dbffb3fa74cb7846ed4ea52069c3d76", func := "trefoil/trefoillaw07.PrgJoins", spec := "prgJoins", unfollowed := true, recurses := true, apart := false, narrowed := true }
def PrgJoinsUptoSaid : Prop := prgJoinsUptoRow.holds Try.pinned (OpenSpec.upto prgJoinsSpec)

/-- 'trefoillaw07.PrgNobody', WHERE WHAT IT READS IS OF BULK AT MOST 1048576: true; the input reads as it did. -/
def prgNobodyUptoRow : OpenClaim := { program := "ytldopgngbnjlnaa", sum := "2500e7125773b5a15a41dcddecd0c7838dbffb3fa74cb7846ed4ea52069c3d76", func := "trefoil/trefoillaw07.PrgNobody", spec := "prgNobody", unfollowed := true, recurses := true, apart := false, narrowed := true }
def PrgNobodyUptoSaid : Prop := prgNobodyUptoRow.holds Try.pinned (OpenSpec.upto prgNobodySpec)

end Rows
end Go.Proofs.Ytldopgngbnjlnaa
