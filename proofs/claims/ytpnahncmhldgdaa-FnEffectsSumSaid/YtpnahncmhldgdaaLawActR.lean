/- The walk of the law FnActionReads. -/
import Derived.Test.YtpnahncmhldgdaaLawActW
import Derived.Test.YtpnahncmhldgdaaTwo
import Derived.BigQuiet
import Derived.Deep.RegionHeld3
namespace Go.Proofs.Ytpnahncmhldgdaa
open Go.RowKit
set_option linter.unusedVariables false
theorem put_two (k : Nat) (hk : k < 6) : (putM twoE k 55).2 = true ∧ storeB (putM twoE k 55).1 = true ∧ (putM twoE k 55).1.length ≤ 3 ∧ ∀ key : Int, atM (putM twoE k 55).1 key = if key = k then 55 else atM twoE key := by
  have h1 : putM twoE k 55 = (putRaw k 55 twoE, true) := by
    unfold putM
    rw [twoE_store, inB_yes (by omega) (by omega), inB_yes (by omega) (by omega)]; rfl
  rw [h1]
  refine ⟨rfl, (storeB_ok _).2 (ok_put ((storeB_ok _).1 twoE_store) (by omega) (by omega) (by omega) (by omega)), ?_, fun key => atM_put _ _ _ _⟩
  rcases (by omega : k = 0 ∨ k = 1 ∨ k = 2 ∨ k = 3 ∨ k = 4 ∨ k = 5) with rfl | rfl | rfl | rfl | rfl | rfl <;> decide
end Go.Proofs.Ytpnahncmhldgdaa
