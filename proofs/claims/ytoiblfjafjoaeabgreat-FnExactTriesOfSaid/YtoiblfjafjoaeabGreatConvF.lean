/- Texts of ours that stand together: ConvL, ConvL2, ConvL3 -/
import Derived.Test.YtoiblfjafjoaeabGreatConv
import Derived.Test.YtoiblfjafjoaeabGreatLayP
/- The contracts of the laws' own helpers over layers. -/
namespace Go.Proofs.YtoiblfjafjoaeabGreat
open Go.RowKit
set_option linter.unusedVariables false
end Go.Proofs.YtoiblfjafjoaeabGreat
/- The contracts of the laws' own helpers over layers: copies,comparisons. -/
namespace Go.Proofs.YtoiblfjafjoaeabGreat
open Go.RowKit
set_option linter.unusedVariables false
end Go.Proofs.YtoiblfjafjoaeabGreat
/- The contracts of the laws' own helpers over layers: marks;sameLayers. -/
namespace Go.Proofs.YtoiblfjafjoaeabGreat
open Go.RowKit
set_option linter.unusedVariables false
end Go.Proofs.YtoiblfjafjoaeabGreat
