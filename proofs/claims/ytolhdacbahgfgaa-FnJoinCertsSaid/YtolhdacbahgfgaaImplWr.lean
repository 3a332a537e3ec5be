/- The contract of the program's areWrites. -/
import Derived.Test.YtolhdacbahgfgaaTwo
import Derived.Test.YtolhdacbahgfgaaLay
namespace Go.Proofs.Ytolhdacbahgfgaa
open Go.RowKit
set_option linter.unusedVariables false
end Go.Proofs.Ytolhdacbahgfgaa
