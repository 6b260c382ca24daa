/- The door's own heap; what is imported for the claims. -/
import Derived.Test.YtnkdbkhgfakjaaaDoorKq
import Derived.Test.YtnkdbkhgfakjaaaDoorCards
import Derived.Test.YtnkdbkhgfakjaaaDoorTie
import Derived.SevenTiedAt
import Derived.LaidMore
import Derived.Carry
import Derived.Stop.Joined
import Derived.Lib.LaidTab
namespace Go.Proofs.YtnkdbkhgfakjaaaDoor
open Go.ChangeShapes Go.WideShapes Go.RowKit

def laid3 : List (String × DataW Unit) := [("math/bits.deBruijn32tab", Rows.laid_math_bits_deBruijn32tab), ("math/bits.deBruijn64tab", Rows.laid_math_bits_deBruijn64tab), ("internal/strconv.uint64pow10", Rows.laid_internal_strconv_uint64pow10)]

theorem door_met (os : Os) (args : Array Value) : laidMetH Tryd.prog laid3 ((World.doorLaid Tryd.prog 24 os).forCall (fun _ _ => 0) ⟨#[], args, []⟩).memory :=
  laidMetH_of_parts3 (fuel := 8) (laidMet_of_run' 8 (by kernel_rfl) (by kernel_rfl)) (by kernel_rfl) (by kernel_rfl)

end Go.Proofs.YtnkdbkhgfakjaaaDoor
