/- Texts of ours that stand together: EqA, ImplTr -/
import Derived.Test.YtolhdacbahgfgaaTrM
import Derived.Test.YtolhdacbahgfgaaActs
import Derived.Test.YtolhdacbahgfgaaTrI
import Derived.Test.YtolhdacbahgfgaaCloneA
import Derived.Test.YtolhdacbahgfgaaTwo
import Derived.Deep.Cut
import Derived.StillTailTactics
/- The contract of slices.Equal at actions (gen16/eqa.py). -/
namespace Go.Proofs.Ytolhdacbahgfgaa
open Go.RowKit
set_option linter.unusedVariables false
set_option linter.unusedSimpArgs false
end Go.Proofs.Ytolhdacbahgfgaa
/- The contracts of the program's indexedTree.has and numberOf,Block.isNext,equals and copied. -/
namespace Go.Proofs.Ytolhdacbahgfgaa
open Go.RowKit
set_option linter.unusedVariables false
set_option linter.unusedSimpArgs false
end Go.Proofs.Ytolhdacbahgfgaa
