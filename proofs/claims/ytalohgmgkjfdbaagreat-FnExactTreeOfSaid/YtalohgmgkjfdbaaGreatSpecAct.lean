/- The contracts of the model's actions: ActionValid,ActionReads,ActionWrites. -/
import Derived.Test.YtalohgmgkjfdbaaGreatActs

import Derived.Test.YtalohgmgkjfdbaaGreatSpecS
namespace Go.Proofs.YtalohgmgkjfdbaaGreat
open Go.RowKit
set_option linter.unusedVariables false
set_option linter.unusedSimpArgs false
end Go.Proofs.YtalohgmgkjfdbaaGreat
