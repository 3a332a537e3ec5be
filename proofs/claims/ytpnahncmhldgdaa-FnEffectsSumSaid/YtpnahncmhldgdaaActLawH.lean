/- Helpers of the laws FnActionReads, FnActionWrites: hasKey, the draws. -/
import Derived.Test.YtpnahncmhldgdaaDrawEff
import Derived.Test.YtpnahncmhldgdaaConvEff
import Derived.Test.YtpnahncmhldgdaaImplRun
import Derived.Test.YtpnahncmhldgdaaSpecEff2
import Derived.Test.YtpnahncmhldgdaaConv
import Derived.Test.YtpnahncmhldgdaaOne
namespace Go.Proofs.Ytpnahncmhldgdaa
open Go.RowKit
set_option linter.unusedVariables false
/-- A drawn action, by value. -/
def ActD2 (w : World) (e : Ending) (w' : World) : Prop :=
  ∃ p q r t : Int, e = .returned (.agg #[.int .i64 p, .int .i64 q, .int .i64 r, .int .i64 t]) ∧ Below w.heap.size w w'
end Go.Proofs.Ytpnahncmhldgdaa
