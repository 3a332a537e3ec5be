/- The contract of slices.Clone at actions,by itself. -/
import Derived.Test.YtnojhgckinibgabGreatActs
import Derived.Lib.BufferMore
namespace Go.Proofs.YtnojhgckinibgabGreat
open Go.RowKit
set_option linter.unusedVariables false
end Go.Proofs.YtnojhgckinibgabGreat
