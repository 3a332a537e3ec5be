/- The contract of slices.Clone at actions,by itself. -/
import Derived.Test.YtnojhgckinibgabActs
import Derived.Lib.BufferMore
namespace Go.Proofs.Ytnojhgckinibgab
open Go.RowKit
set_option linter.unusedVariables false
end Go.Proofs.Ytnojhgckinibgab
