/- The contracts of the model's l9Read, ReadVersion, l9Drop, DropVersions. -/
import Derived.Test.YtncedcliklpapaaGreatSpecVer
namespace Go.Proofs.YtncedcliklpapaaGreat
open Go.RowKit
set_option linter.unusedVariables false
set_option linter.unusedSimpArgs false
/-- Two numbers; only new blocks have turned. -/
def IntsB2 (p : Int × Int) (w : World) (e : Ending) (w' : World) : Prop := e = .returned (.tuple #[.int .i64 p.1, .int .i64 p.2]) ∧ Below w.heap.size w w'
def IntsS2 (p : Int × Int) (w : World) (e : Ending) (w' : World) : Prop := e = .returned (.tuple #[.int .i64 p.1, .int .i64 p.2]) ∧ w = w'
end Go.Proofs.YtncedcliklpapaaGreat
