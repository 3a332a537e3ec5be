/- Marks of actions,and the contract of the laws' own helper heldActionS. -/
import Derived.Test.YtnojhgckinibgaaGreatConvAX
import Derived.Test.YtnojhgckinibgaaGreatConv

namespace Go.Proofs.YtnojhgckinibgaaGreat
open Go.RowKit
set_option linter.unusedVariables false
end Go.Proofs.YtnojhgckinibgaaGreat
