/-
  DERIVED. GIVEN WITH THE SEED: THE CARDS: each row of YtcadlcpccemkbaaGreatDoorRows.lean that lists a variable, with what it lists TIED to the program's text (the seventh form; the later family's looks); each row that meets fmt, with fmt's text TOLD by the authors' own Lean function (tested against real Go, not proved from fmt's source: count such statements apart). THE CARD IS WHAT COUNTS. Prove the row's statement (the work); the ties are given (YtcadlcpccemkbaaGreatDoorTie.lean); close each card by the builder's one call (the guide's Derived/Test/ToyasCard.lean, 'card_holds'). Laid BY PROGRAM, IN A SANDBOX (cutbox-door.mjs). By AI agents, Wed Nov 11 2026. No macro, syntax, notation, axiom, sorry.
-/
import Derived.Test.YtcadlcpccemkbaaGreatDoorRows
import GoSem.ClaimSeven
namespace Go.Proofs.YtcadlcpccemkbaaGreatDoor
namespace Rows

/-- THE TIED CARD OF 'trefoillaw14.LinkPlays'. -/
def linkPlaysCard : Claim7 := { stood := { row := linkPlaysRow, standIns := [], harness := (true, "26fce14c05cb431c92ffe91d5c843965c9666b340fcfd70fa1b1cd45003445d4"), looks := true }, kinds := [], alts := [], laidByText := true, laidKinds := [.handle], laidTests := true, laidLooks := .later }
def LinkPlaysCardSaid : Prop := Claim7.holds Tryz.pinned (.plain (OpenSpec.ofChange linkPlaysSpec)) linkPlaysCard

/-- THE TIED CARD OF 'trefoillaw14.LinkNobody'. -/
def linkNobodyCard : Claim7 := { stood := { row := linkNobodyRow, standIns := [], harness := (true, "26fce14c05cb431c92ffe91d5c843965c9666b340fcfd70fa1b1cd45003445d4"), looks := true }, kinds := [], alts := [], laidByText := true, laidKinds := [.handle], laidTests := true, laidLooks := .later }
def LinkNobodyCardSaid : Prop := Claim7.holds Tryz.pinned (.plain (OpenSpec.ofChange linkNobodySpec)) linkNobodyCard

/-- THE SECOND FORM's CARD OF 'trefoillaw14.LinkPlays'. -/
def linkPlaysUptoCard : Claim7 := { stood := { row := linkPlaysUptoRow, standIns := [], harness := (true, "26fce14c05cb431c92ffe91d5c843965c9666b340fcfd70fa1b1cd45003445d4"), looks := true }, kinds := [], alts := [], laidByText := true, laidKinds := [.handle], laidTests := true, laidLooks := .later }
def LinkPlaysUptoCardSaid : Prop := Claim7.holds Tryz.pinned (.plain (OpenSpec.upto linkPlaysSpec)) linkPlaysUptoCard

/-- THE SECOND FORM's CARD OF 'trefoillaw14.LinkNobody'. -/
def linkNobodyUptoCard : Claim7 := { stood := { row := linkNobodyUptoRow, standIns := [], harness := (true, "26fce14c05cb431c92ffe91d5c843965c9666b340fcfd70fa1b1cd45003445d4"), looks := true }, kinds := [], alts := [], laidByText := true, laidKinds := [.handle], laidTests := true, laidLooks := .later }
def LinkNobodyUptoCardSaid : Prop := Claim7.holds Tryz.pinned (.plain (OpenSpec.upto linkNobodySpec)) linkNobodyUptoCard
end Rows
end Go.Proofs.YtcadlcpccemkbaaGreatDoor
