/- The contract of the model's PutVersions. -/
import Derived.Test.YtncedcliklpapaaGreatSpecVer4
namespace Go.Proofs.YtncedcliklpapaaGreat
open Go.RowKit
set_option linter.unusedVariables false
set_option linter.unusedSimpArgs false
/-- New versions, and a truth value. -/
def NewVB (w : World) (e0 : TypeId) (p : List Ver × Bool) (e : Ending) (w' : World) : Prop :=
  ∃ v, e = .returned (.tuple #[v, .bool p.2]) ∧ Own w' w.heap.size e0 3 v p.1.length (flatV p.1) ∧ WfVs p.1 ∧ Below w.heap.size w w'
end Go.Proofs.YtncedcliklpapaaGreat
