/- Texts of ours that stand together: ConvV, ConvV2 -/
import Derived.Test.YtolhdacbahgfgaaGreatVerA
import Derived.Test.YtolhdacbahgfgaaGreatConvAX
import Derived.StillTailTactics
import Derived.Test.YtolhdacbahgfgaaGreatCore
import Derived.Deep.QuietTactic
import Derived.BigQuiet
/- The contracts of the laws' own helpers over Version: toVersion,eqVersion,szVersionS,toVersionS,eqVersionS,markVersionS,heldVersionS (gen9/structs.py). -/
namespace Go.Proofs.YtolhdacbahgfgaaGreat
open Go.RowKit
set_option linter.unusedVariables false
end Go.Proofs.YtolhdacbahgfgaaGreat
/- The contract of the laws' own sameVersions. -/
namespace Go.Proofs.YtolhdacbahgfgaaGreat
open Go.RowKit
set_option linter.unusedVariables false
end Go.Proofs.YtolhdacbahgfgaaGreat
