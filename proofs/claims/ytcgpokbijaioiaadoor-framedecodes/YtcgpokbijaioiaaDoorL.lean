/- Lists held against each other. -/
import Derived.Test.YtcgpokbijaioiaaDoorK
namespace Go.Proofs.YtcgpokbijaioiaaDoor
open Go.RowKit
set_option maxRecDepth 100000
attribute [local go_sem] not_any mf_any

end Go.Proofs.YtcgpokbijaioiaaDoor
