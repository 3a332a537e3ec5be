/- What stage 11's promises ask of engines: plain mathematics. No function of the program is named here. -/
import Derived.Test.YtaaffpolmecicabGreatEngR
import Derived.Test.YtaaffpolmecicabGreatSpecE

namespace Go.Proofs.YtaaffpolmecicabGreat
set_option linter.unusedVariables false
set_option linter.unusedSimpArgs false
end Go.Proofs.YtaaffpolmecicabGreat
