/- Texts of ours that stand together: ConvA, ExLib -/
import Derived.Test.YtolhdacbahgfgaaActs
import Derived.StillTailTactics
import Derived.Test.YtolhdacbahgfgaaConv
/- The contracts of the laws' own helpers over actions: toAction,toActionS (a copy),eqAction,eqActionS,szActionS. -/
namespace Go.Proofs.Ytolhdacbahgfgaa
open Go.RowKit
set_option linter.unusedVariables false
end Go.Proofs.Ytolhdacbahgfgaa
/- What the walks of exact laws share (gen8/exact.py): rows that are owned,marks of actions. -/
namespace Go.Proofs.Ytolhdacbahgfgaa
open Go.RowKit
set_option linter.unusedVariables false
end Go.Proofs.Ytolhdacbahgfgaa
