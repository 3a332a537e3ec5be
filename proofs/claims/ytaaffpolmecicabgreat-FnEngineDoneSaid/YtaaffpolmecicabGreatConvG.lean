/- Texts of ours that stand together: ConvEng, ConvEng2 -/
import Derived.Test.YtaaffpolmecicabGreatEngM
import Derived.Test.YtaaffpolmecicabGreatConvX
import Derived.Test.YtaaffpolmecicabGreatConv
import Derived.Test.YtaaffpolmecicabGreatConvAX
import Derived.Test.YtaaffpolmecicabGreatConvVx
import Derived.Deep.Cut
import Derived.StillTailTactics
import Derived.Test.YtaaffpolmecicabGreatCopG
/- The contracts of the laws' own helpers over slots and engines: weights. -/
namespace Go.Proofs.YtaaffpolmecicabGreat
open Go.RowKit
set_option linter.unusedVariables false
end Go.Proofs.YtaaffpolmecicabGreat
/- The contracts of the laws' own helpers over slots and engines: comparisons. -/
namespace Go.Proofs.YtaaffpolmecicabGreat
open Go.RowKit
set_option linter.unusedVariables false
end Go.Proofs.YtaaffpolmecicabGreat
