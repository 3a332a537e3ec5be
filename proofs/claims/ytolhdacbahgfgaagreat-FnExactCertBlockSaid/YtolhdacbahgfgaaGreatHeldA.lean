/- Marks of actions,and the contract of the laws' own helper heldActionS. -/
import Derived.Test.YtolhdacbahgfgaaGreatConvAX
import Derived.Test.YtolhdacbahgfgaaGreatConv

namespace Go.Proofs.YtolhdacbahgfgaaGreat
open Go.RowKit
set_option linter.unusedVariables false
end Go.Proofs.YtolhdacbahgfgaaGreat
