/- The contract of the program's areWrites. -/
import Derived.Test.YtaaffpolmecicabGreatTwo
import Derived.Test.YtaaffpolmecicabGreatLay
namespace Go.Proofs.YtaaffpolmecicabGreat
open Go.RowKit
set_option linter.unusedVariables false
end Go.Proofs.YtaaffpolmecicabGreat
