/- Marks of actions,and the contract of the laws' own helper heldActionS. -/
import Derived.Test.YtolhdacbahgfgaaConvAX
import Derived.Test.YtolhdacbahgfgaaConv

namespace Go.Proofs.Ytolhdacbahgfgaa
open Go.RowKit
set_option linter.unusedVariables false
end Go.Proofs.Ytolhdacbahgfgaa
