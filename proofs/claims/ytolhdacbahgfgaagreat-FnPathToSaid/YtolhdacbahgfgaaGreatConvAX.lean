/- Texts of ours that stand together: ConvA, ExLib -/
import Derived.Test.YtolhdacbahgfgaaGreatActs
import Derived.StillTailTactics
import Derived.Test.YtolhdacbahgfgaaGreatConv
/- The contracts of the laws' own helpers over actions: toAction,toActionS (a copy),eqAction,eqActionS,szActionS. -/
namespace Go.Proofs.YtolhdacbahgfgaaGreat
open Go.RowKit
set_option linter.unusedVariables false
end Go.Proofs.YtolhdacbahgfgaaGreat
/- What the walks of exact laws share (gen8/exact.py): rows that are owned,marks of actions. -/
namespace Go.Proofs.YtolhdacbahgfgaaGreat
open Go.RowKit
set_option linter.unusedVariables false
end Go.Proofs.YtolhdacbahgfgaaGreat
