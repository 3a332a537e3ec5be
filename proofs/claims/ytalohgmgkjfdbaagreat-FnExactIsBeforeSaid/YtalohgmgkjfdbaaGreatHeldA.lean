/- Marks of actions,and the contract of the laws' own helper heldActionS. -/
import Derived.Test.YtalohgmgkjfdbaaGreatConvAX
import Derived.Test.YtalohgmgkjfdbaaGreatConv

namespace Go.Proofs.YtalohgmgkjfdbaaGreat
open Go.RowKit
set_option linter.unusedVariables false
end Go.Proofs.YtalohgmgkjfdbaaGreat
