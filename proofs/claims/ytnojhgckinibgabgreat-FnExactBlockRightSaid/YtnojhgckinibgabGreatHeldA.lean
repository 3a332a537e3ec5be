/- Marks of actions,and the contract of the laws' own helper heldActionS. -/
import Derived.Test.YtnojhgckinibgabGreatConvAX
import Derived.Test.YtnojhgckinibgabGreatConv

namespace Go.Proofs.YtnojhgckinibgabGreat
open Go.RowKit
set_option linter.unusedVariables false
end Go.Proofs.YtnojhgckinibgabGreat
