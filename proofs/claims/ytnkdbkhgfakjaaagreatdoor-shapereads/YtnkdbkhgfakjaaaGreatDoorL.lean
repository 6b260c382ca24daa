/- Lists held against each other. -/
import Derived.Test.YtnkdbkhgfakjaaaGreatDoorK
namespace Go.Proofs.YtnkdbkhgfakjaaaGreatDoor
open Go.RowKit
set_option maxRecDepth 100000
attribute [local go_sem] not_any mf_any

end Go.Proofs.YtnkdbkhgfakjaaaGreatDoor
