/- The contracts of the program's StoreTotal and ChangedKeys. -/
import Derived.Test.YtpaeioabmmkheaaImplPut
import Derived.Test.YtpaeioabmmkheaaSpecChanged
namespace Go.Proofs.Ytpaeioabmmkheaa
open Go.RowKit
theorem valsM_get {l : List Ent} (hs : storeB l = true) (k : Nat) (hk : k < 32) : (valsM l).getD k 0 = atM l k := by
  rw [show valsM l = arrOf l by simp [valsM, hs]]; exact arrOf_get l k hk
theorem valsM_bd {l : List Ent} (hs : storeB l = true) : BdA (valsM l) := by
  rw [show valsM l = arrOf l by simp [valsM, hs]]; exact bdA_arrOf ((storeB_ok l).1 hs).2
theorem run_index_vals (A : List Int) (hl : A.length = 32) (k : Nat) (hk : k < 32) (W : World) :
    (Instr.index 73 (.agg (cellsI A)) (.int .i64 (k : Int))).run Try.prog W = .ok (.int .i64 (A.getD k 0)) W :=
  run_index_arr (P := Try.prog) W 73 32 3 _ Try.underlying73 Try.underlying3 rfl (by kernel_rfl) A hl k hk
/-- A list of ints, new or nil. -/
def NewLN (w : World) (l : List Int) (e : Ending) (w' : World) : Prop :=
  ∃ v, e = .returned v ∧ w'.ownsRow w.heap.size 3 1 v l.length (l.map (Value.int .i64)) ∧ (∀ x ∈ l, (Lit.int .i64 x).wf = true) ∧ Below w.heap.size w w'
end Go.Proofs.Ytpaeioabmmkheaa
