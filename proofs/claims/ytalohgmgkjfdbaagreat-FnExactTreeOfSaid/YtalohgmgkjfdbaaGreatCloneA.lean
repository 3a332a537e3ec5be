/- The contract of slices.Clone at actions,by itself. -/
import Derived.Test.YtalohgmgkjfdbaaGreatActs
import Derived.Lib.BufferMore
namespace Go.Proofs.YtalohgmgkjfdbaaGreat
open Go.RowKit
set_option linter.unusedVariables false
end Go.Proofs.YtalohgmgkjfdbaaGreat
