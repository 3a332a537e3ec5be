/- The contract of the laws' own sameEngine,at two engines that read the same. -/
import Derived.Test.YtaaffpolmecicabGreatConvG
import Derived.Test.YtaaffpolmecicabGreatConvVx
import Derived.Test.YtaaffpolmecicabGreatConvX
import Derived.Test.YtaaffpolmecicabGreatConv
namespace Go.Proofs.YtaaffpolmecicabGreat
open Go.RowKit
set_option linter.unusedVariables false
set_option linter.unusedSimpArgs false
end Go.Proofs.YtaaffpolmecicabGreat
