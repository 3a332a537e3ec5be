/- The plain functions of chapter 1: what SumOf and SumMore give, without any program. -/
import Derived.WalkKit
namespace Go.Proofs.Ytikcadapbeokoaa
def sumStep (s n : Int) : Int := (31 * s + n + 7) % 1000003
def okSummed (n : Int) : Bool := decide (0 ≤ n ∧ n ≤ 2000000)
def okTag (t : Int) : Bool := decide (0 ≤ t ∧ t ≤ 9)
def okSumB (s : Int) : Bool := decide (0 ≤ s ∧ s ≤ 1000002)
def sumMoreM (s n : Int) : Int := if okSumB s && okSummed n then sumStep s n else -1
def sumFold (s : Int) (l : List Int) : Int := l.foldl sumStep s
def sumOfM (t : Int) (l : List Int) : Int := if okTag t && l.all okSummed then sumFold (17 + t) l else -1
theorem sumStep_bd (s n : Int) : 0 ≤ sumStep s n ∧ sumStep s n ≤ 1000002 := by unfold sumStep; omega
theorem sumFold_bd (s : Int) (l : List Int) (h0 : 0 ≤ s) (h1 : s ≤ 1000002) : 0 ≤ sumFold s l ∧ sumFold s l ≤ 1000002 := by
  unfold sumFold
  induction l generalizing s with
  | nil => exact ⟨h0, h1⟩
  | cons a l ih => exact ih _ (sumStep_bd s a).1 (sumStep_bd s a).2
theorem sumFold_snoc (s : Int) (l : List Int) (n : Int) : sumFold s (l ++ [n]) = sumStep (sumFold s l) n := by
  simp [sumFold]
end Go.Proofs.Ytikcadapbeokoaa
