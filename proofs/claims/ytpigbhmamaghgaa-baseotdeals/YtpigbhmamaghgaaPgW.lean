/- The document's Stream. -/
import Derived.Test.YtpigbhmamaghgaaMPgVPgH
import Derived.Test.YtpigbhmamaghgaaPgN
namespace Go.Proofs.Ytpigbhmamaghgaa.Pg
open Go.RowKit
set_option maxRecDepth 100000
attribute [local go_sem] not_any

theorem run_upto (s : ByteArray) (q : Nat) (h : q ≤ s.size) (w : World) : (Instr.slice 9 (.string s) none (some (.int .i64 (q : Int))) none).run Try.prog w = .ok (.string (s.extract 0 q)) w := by
  have := Try.underlying9
  go_simp

end Go.Proofs.Ytpigbhmamaghgaa.Pg
