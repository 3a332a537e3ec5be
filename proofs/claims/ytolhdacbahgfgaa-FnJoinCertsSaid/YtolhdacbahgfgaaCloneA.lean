/- The contract of slices.Clone at actions,by itself. -/
import Derived.Test.YtolhdacbahgfgaaActs
import Derived.Lib.BufferMore
namespace Go.Proofs.Ytolhdacbahgfgaa
open Go.RowKit
set_option linter.unusedVariables false
end Go.Proofs.Ytolhdacbahgfgaa
