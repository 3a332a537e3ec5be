/- Texts of ours that stand together: ConvEng, ConvEng2 -/
import Derived.Test.YtoiblfjafjoaeaaGreatEngM
import Derived.Test.YtoiblfjafjoaeaaGreatConvX
import Derived.Test.YtoiblfjafjoaeaaGreatConv
import Derived.Test.YtoiblfjafjoaeaaGreatConvA
import Derived.Test.YtoiblfjafjoaeaaGreatConvV
import Derived.Deep.Cut
import Derived.StillTailTactics
import Derived.Test.YtoiblfjafjoaeaaGreatCopG
/- The contracts of the laws' own helpers over slots and engines: weights. -/
namespace Go.Proofs.YtoiblfjafjoaeaaGreat
open Go.RowKit
set_option linter.unusedVariables false
end Go.Proofs.YtoiblfjafjoaeaaGreat
/- The contracts of the laws' own helpers over slots and engines: comparisons. -/
namespace Go.Proofs.YtoiblfjafjoaeaaGreat
open Go.RowKit
set_option linter.unusedVariables false
end Go.Proofs.YtoiblfjafjoaeaaGreat
