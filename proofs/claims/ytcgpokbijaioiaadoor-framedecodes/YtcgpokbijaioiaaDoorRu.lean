/- Texts and numbers read. -/
import Derived.Test.YtcgpokbijaioiaaDoorRr
namespace Go.Proofs.YtcgpokbijaioiaaDoor
open Go.RowKit
set_option maxRecDepth 100000
attribute [local go_sem] not_any mf_any

def mostN (most : Int) (top : Int) : Int := if most ≤ top then most else top
theorem mostN_le (most top : Int) : mostN most top ≤ top := by unfold mostN; split <;> omega

theorem mostN_cases (most top : Int) : (most ≤ top ∧ mostN most top = most) ∨ (¬ most ≤ top ∧ mostN most top = top) := by
  by_cases h : most ≤ top
  · exact .inl ⟨h, if_pos h⟩
  · exact .inr ⟨h, if_neg h⟩
theorem lstH_lt (tb : Nat) (t : ByteArray) : Lt 256 (lstH tb (nums t)) := ((nums_all t).drop 4).take _

/- what Blob's function answers -/
def BPost (code : Int) (tv : ByteArray) (w : World) (e : Ending) (w' : World) : Prop := e = .returned (.tuple #[.string tv, .int .i64 ((4 + tv.size : Nat) : Int), .int .i64 code]) ∧ Below w.heap.size w w'
def blobT (most : Int) (R : List Nat) : ByteArray := if lstC (mostN most 65536) 8 R = 0 then txt (lstH 8 R) else ⟨#[]⟩

end Go.Proofs.YtcgpokbijaioiaaDoor
