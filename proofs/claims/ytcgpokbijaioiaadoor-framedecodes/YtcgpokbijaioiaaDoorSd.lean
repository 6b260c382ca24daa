/- The reader's end. -/
import Derived.Test.YtcgpokbijaioiaaDoorRw
namespace Go.Proofs.YtcgpokbijaioiaaDoor
open Go.RowKit
set_option maxRecDepth 100000
attribute [local go_sem] not_any mf_any

/- an error in memory: none, or what New made -/
def ErrIs (w : World) (c : Int) (f : ByteArray) (v : Value) : Prop := (c = 0 ∧ v = .nilIface) ∨ (c ≠ 0 ∧ ∃ p, v = .iface 74 (.pointer (some ⟨p, 0, none⟩)) ∧ w.heap[p]? = some (flt c f))
def tENDs : ByteArray := ⟨#[101, 110, 100]⟩

end Go.Proofs.YtcgpokbijaioiaaDoor
