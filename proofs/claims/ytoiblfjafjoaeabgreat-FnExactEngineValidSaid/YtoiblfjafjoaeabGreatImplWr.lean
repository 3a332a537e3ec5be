/- The contract of the program's areWrites. -/
import Derived.Test.YtoiblfjafjoaeabGreatTwo
import Derived.Test.YtoiblfjafjoaeabGreatLay
namespace Go.Proofs.YtoiblfjafjoaeabGreat
open Go.RowKit
set_option linter.unusedVariables false
theorem wrAt_last (l : List Ent) (k : Nat) : wrAt l k = (inB (l.getD k (0, 0)).1 0 31 && inB (l.getD k (0, 0)).2 0 1000000 && decide (lastOf l k < (l.getD k (0, 0)).1)) := by
  unfold wrAt
  cases k with
  | zero =>
    by_cases h : 0 ≤ (l.getD 0 (0, 0)).1
    · have e : decide (lastOf l 0 < (l.getD 0 (0, 0)).1) = true := by rw [decide_eq_true_eq]; show (-1 : Int) < _; omega
      rw [e]; rfl
    · rw [inB_no (by omega)]; simp
  | succ k => simp [lastOf]
end Go.Proofs.YtoiblfjafjoaeabGreat
