/- Texts of ours that stand together: ConvV, ConvV2 -/
import Derived.Test.YtnojhgckinibgaaGreatVerA
import Derived.Test.YtnojhgckinibgaaGreatConvAX
import Derived.StillTailTactics
import Derived.Test.YtnojhgckinibgaaGreatCore
import Derived.Deep.QuietTactic
import Derived.BigQuiet
/- The contracts of the laws' own helpers over Version: toVersion,eqVersion,szVersionS,toVersionS,eqVersionS,markVersionS,heldVersionS (gen9/structs.py). -/
namespace Go.Proofs.YtnojhgckinibgaaGreat
open Go.RowKit
set_option linter.unusedVariables false
end Go.Proofs.YtnojhgckinibgaaGreat
/- The contract of the laws' own sameVersions. -/
namespace Go.Proofs.YtnojhgckinibgaaGreat
open Go.RowKit
set_option linter.unusedVariables false
end Go.Proofs.YtnojhgckinibgaaGreat
