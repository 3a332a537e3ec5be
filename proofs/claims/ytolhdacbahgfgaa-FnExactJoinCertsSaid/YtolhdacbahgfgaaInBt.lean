/- Texts of ours that stand together: InBl, InTr -/
import Derived.Test.YtolhdacbahgfgaaActs
import Derived.Test.YtolhdacbahgfgaaTrM
import Derived.Deep.SlicePairs
import Derived.ProofKit
import Derived.Lib.SmallJoins
import Derived.Test.YtolhdacbahgfgaaConv
/- What comes in: a block of the laws' own type,by value,opened. -/
namespace Go.Proofs.Ytolhdacbahgfgaa
open Go.RowKit Go.Joins Go.Deep Go.WideShapes
set_option linter.unusedVariables false
end Go.Proofs.Ytolhdacbahgfgaa
/- What comes in: a tree of blocks of the laws' own type,by value,opened. -/
namespace Go.Proofs.Ytolhdacbahgfgaa
open Go.RowKit Go.Joins Go.Deep
set_option linter.unusedVariables false
end Go.Proofs.Ytolhdacbahgfgaa
