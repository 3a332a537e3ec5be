/- The contracts of the model's actions: ActionValid,ActionReads,ActionWrites. -/
import Derived.Test.YtnojhgckinibgabActs

import Derived.Test.YtnojhgckinibgabSpecS
namespace Go.Proofs.Ytnojhgckinibgab
open Go.RowKit
set_option linter.unusedVariables false
set_option linter.unusedSimpArgs false
end Go.Proofs.Ytnojhgckinibgab
