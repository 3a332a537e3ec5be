/- The contracts of the model's versions: VersionsValid, l9Read, ReadVersion, l9Drop, DropVersions (its drawn region: gen9/specver.py). -/
import Derived.Test.YtncedcliklpapaaGreatVerMath
import Derived.Test.YtncedcliklpapaaGreatSpecS
import Derived.Test.YtncedcliklpapaaGreatConvV
import Derived.Test.YtncedcliklpapaaGreatSpecAct
import Derived.Deep.Cut
import Derived.BigQuiet
namespace Go.Proofs.YtncedcliklpapaaGreat
open Go.RowKit
set_option linter.unusedVariables false
set_option linter.unusedSimpArgs false
end Go.Proofs.YtncedcliklpapaaGreat
