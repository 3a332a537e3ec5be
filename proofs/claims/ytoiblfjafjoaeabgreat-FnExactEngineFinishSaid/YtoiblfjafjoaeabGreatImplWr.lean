/- The contract of the program's areWrites. -/
import Derived.Test.YtoiblfjafjoaeabGreatTwo
import Derived.Test.YtoiblfjafjoaeabGreatLay
namespace Go.Proofs.YtoiblfjafjoaeabGreat
open Go.RowKit
set_option linter.unusedVariables false
end Go.Proofs.YtoiblfjafjoaeabGreat
