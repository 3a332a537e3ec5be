/- The contract of slices.Clone at actions, by itself. -/
import Derived.Test.YtaaffpolmecicaaActs
import Derived.Lib.BufferMore
namespace Go.Proofs.Ytaaffpolmecicaa
open Go.RowKit
set_option linter.unusedVariables false
theorem infoActN : (Try.prog.info? 75).map (fun i => (i.zero, i.size, i.bytes)) = some (some (.agg #[.int .i64 0, .int .i64 0, .int .i64 0, .int .i64 0]), 4, 32) := by kernel_rfl
/-- A copy of a row of actions. -/
def CopyA (w : World) (e0 : TypeId) (size n : Nat) (cs : List Value) (e : Ending) (w' : World) : Prop := ∃ v, e = .returned v ∧ w'.ownsRow w.heap.size e0 size v n cs ∧ Below w.heap.size w w'
end Go.Proofs.Ytaaffpolmecicaa
