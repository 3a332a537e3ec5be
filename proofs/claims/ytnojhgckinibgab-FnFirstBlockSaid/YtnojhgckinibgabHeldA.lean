/- Marks of actions,and the contract of the laws' own helper heldActionS. -/
import Derived.Test.YtnojhgckinibgabConvAX
import Derived.Test.YtnojhgckinibgabConv

namespace Go.Proofs.Ytnojhgckinibgab
open Go.RowKit
set_option linter.unusedVariables false
end Go.Proofs.Ytnojhgckinibgab
