/- Texts of ours that stand together: SpecEff3, SpecSer -/
import Derived.Test.YtoiblfjafjoaeaaGreatEffA
import Derived.Test.YtoiblfjafjoaeaaGreatSpecF
import Derived.Test.YtoiblfjafjoaeaaGreatSpecS
import Derived.Deep.RegionHeld3
import Derived.Test.YtoiblfjafjoaeaaGreatSpecX
import Derived.Test.YtoiblfjafjoaeaaGreatSpecAct
import Derived.Test.YtoiblfjafjoaeaaGreatEff
/- The contract of the model's ApplyEffect. -/
namespace Go.Proofs.YtoiblfjafjoaeaaGreat
open Go.RowKit
set_option linter.unusedVariables false
end Go.Proofs.YtoiblfjafjoaeaaGreat
/- The contracts of the model's serial runs: RunSerial. -/
namespace Go.Proofs.YtoiblfjafjoaeaaGreat
open Go.RowKit
set_option linter.unusedVariables false
end Go.Proofs.YtoiblfjafjoaeaaGreat
