/- Texts of ours that stand together: ImplBlk, ImplBlk2, ImplBlk3 -/
import Derived.Test.YtolhdacbahgfgaaTrM
import Derived.Test.YtolhdacbahgfgaaFive
import Derived.Test.YtolhdacbahgfgaaTree
import Derived.Test.YtolhdacbahgfgaaImplVw
import Derived.Test.YtolhdacbahgfgaaImplNum
import Derived.Test.YtolhdacbahgfgaaSr2
import Derived.Test.YtolhdacbahgfgaaImplSer
import Derived.Test.YtolhdacbahgfgaaTwo
import Derived.Test.YtolhdacbahgfgaaCloneA
import Derived.Test.YtolhdacbahgfgaaRegO
import Derived.Deep.Cut
/- The contracts of the program's isHeight,isView,BlockValid. -/
namespace Go.Proofs.Ytolhdacbahgfgaa
open Go.RowKit
set_option linter.unusedVariables false
end Go.Proofs.Ytolhdacbahgfgaa
/- The contracts of the program's Block.numbers,BlockSum,Block.run and FirstBlock. -/
namespace Go.Proofs.Ytolhdacbahgfgaa
open Go.RowKit
set_option linter.unusedVariables false
set_option linter.unusedSimpArgs false
end Go.Proofs.Ytolhdacbahgfgaa
/- The contracts of the program's FirstBlock,canBeBefore,NextBlock and BlockRight. -/
namespace Go.Proofs.Ytolhdacbahgfgaa
open Go.RowKit
set_option linter.unusedVariables false
set_option linter.unusedSimpArgs false
end Go.Proofs.Ytolhdacbahgfgaa
