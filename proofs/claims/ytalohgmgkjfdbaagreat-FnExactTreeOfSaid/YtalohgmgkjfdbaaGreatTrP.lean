/- Texts of ours that stand together: EqA, ImplTr -/
import Derived.Test.YtalohgmgkjfdbaaGreatTrM
import Derived.Test.YtalohgmgkjfdbaaGreatActs
import Derived.Test.YtalohgmgkjfdbaaGreatTrI
import Derived.Test.YtalohgmgkjfdbaaGreatCloneA
import Derived.Test.YtalohgmgkjfdbaaGreatTwo
import Derived.Deep.Cut
import Derived.StillTailTactics
/- The contract of slices.Equal at actions (gen16/eqa.py). -/
namespace Go.Proofs.YtalohgmgkjfdbaaGreat
open Go.RowKit
set_option linter.unusedVariables false
set_option linter.unusedSimpArgs false
end Go.Proofs.YtalohgmgkjfdbaaGreat
/- The contracts of the program's indexedTree.has and numberOf,Block.isNext,equals and copied. -/
namespace Go.Proofs.YtalohgmgkjfdbaaGreat
open Go.RowKit
set_option linter.unusedVariables false
set_option linter.unusedSimpArgs false
end Go.Proofs.YtalohgmgkjfdbaaGreat
