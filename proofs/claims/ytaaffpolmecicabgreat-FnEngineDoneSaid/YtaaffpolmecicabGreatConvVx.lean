/- Texts of ours that stand together: ConvV, ConvV2 -/
import Derived.Test.YtaaffpolmecicabGreatVerA
import Derived.Test.YtaaffpolmecicabGreatConvAX
import Derived.StillTailTactics
import Derived.Test.YtaaffpolmecicabGreatCore
import Derived.Deep.QuietTactic
import Derived.BigQuiet
/- The contracts of the laws' own helpers over Version: toVersion,eqVersion,szVersionS,toVersionS,eqVersionS,markVersionS,heldVersionS (gen9/structs.py). -/
namespace Go.Proofs.YtaaffpolmecicabGreat
open Go.RowKit
set_option linter.unusedVariables false
theorem infoVer:(Tryz.prog.info? 73).map (fun i=>(i.zero,i.size,i.bytes))=some (some (.agg #[.int .i64 0,.int .i64 0,.int .i64 0]),3,24):=by kernel_rfl
end Go.Proofs.YtaaffpolmecicabGreat
/- The contract of the laws' own sameVersions. -/
namespace Go.Proofs.YtaaffpolmecicabGreat
open Go.RowKit
set_option linter.unusedVariables false
end Go.Proofs.YtaaffpolmecicabGreat
