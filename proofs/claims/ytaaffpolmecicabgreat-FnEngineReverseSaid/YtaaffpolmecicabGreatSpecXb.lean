/- Texts of ours that stand together: SpecEff3, SpecSer -/
import Derived.Test.YtaaffpolmecicabGreatEffA
import Derived.Test.YtaaffpolmecicabGreatSpecF
import Derived.Test.YtaaffpolmecicabGreatSpecS
import Derived.Deep.RegionHeld3
import Derived.Test.YtaaffpolmecicabGreatSpecX
import Derived.Test.YtaaffpolmecicabGreatSpecAct
import Derived.Test.YtaaffpolmecicabGreatEff
/- The contract of the model's ApplyEffect. -/
namespace Go.Proofs.YtaaffpolmecicabGreat
open Go.RowKit
set_option linter.unusedVariables false
end Go.Proofs.YtaaffpolmecicabGreat
/- The contracts of the model's serial runs: RunSerial. -/
namespace Go.Proofs.YtaaffpolmecicabGreat
open Go.RowKit
set_option linter.unusedVariables false
end Go.Proofs.YtaaffpolmecicabGreat
