/- Texts of ours that stand together: ConvV, ConvV2 -/
import Derived.Test.YtolhdacbahgfgaaVerA
import Derived.Test.YtolhdacbahgfgaaConvAX
import Derived.StillTailTactics
import Derived.Test.YtolhdacbahgfgaaCore
import Derived.Deep.QuietTactic
import Derived.BigQuiet
/- The contracts of the laws' own helpers over Version: toVersion,eqVersion,szVersionS,toVersionS,eqVersionS,markVersionS,heldVersionS (gen9/structs.py). -/
namespace Go.Proofs.Ytolhdacbahgfgaa
open Go.RowKit
set_option linter.unusedVariables false
end Go.Proofs.Ytolhdacbahgfgaa
/- The contract of the laws' own sameVersions. -/
namespace Go.Proofs.Ytolhdacbahgfgaa
open Go.RowKit
set_option linter.unusedVariables false
end Go.Proofs.Ytolhdacbahgfgaa
