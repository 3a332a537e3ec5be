/- The contracts of spec.SumMore and impl.SumMore: both give sumMoreM, and leave the world alone. -/
import Derived.Test.YtpnahncmhldgdaaRows
import Derived.Test.YtpnahncmhldgdaaCore
import Derived.WalkKit
namespace Go.Proofs.Ytpnahncmhldgdaa
open Go.RowKit
theorem sumMoreM_yes (s n : Int) (h1 : 0 ≤ s) (h2 : s ≤ 1000002) (h3 : 0 ≤ n) (h4 : n ≤ 2000000) : sumMoreM s n = (31 * s + n + 7) % 1000003 := by
  simp [sumMoreM, okSumB, okSummed, sumStep, h1, h2, h3, h4]
theorem sumMoreM_no (s n : Int) (h : ¬ (0 ≤ s ∧ s ≤ 1000002 ∧ 0 ≤ n ∧ n ≤ 2000000)) : sumMoreM s n = -1 := by
  have e : ¬ ((okSumB s && okSummed n) = true) := by
    simp only [okSumB, okSummed, Bool.and_eq_true, decide_eq_true_eq]; omega
  unfold sumMoreM; rw [if_neg e]
theorem sumMore_impl (s n : Int) (w : World) :
    Calls Try.prog 27 #[.int .i64 s, .int .i64 n] w fun e w' => e = .returned (.int .i64 (sumMoreM s n)) ∧ w = w' := by
  by_cases h1 : 0 ≤ s
  · by_cases h2 : s ≤ 1000002
    · by_cases h3 : 0 ≤ n
      · by_cases h4 : n ≤ 2000000
        · rw [sumMoreM_yes s n h1 h2 h3 h4]
          go_enter Try.func27, Try.ntmps27
          go_wp2
          go_ret
          exact ⟨rfl, rfl⟩
        all_goals (rw [sumMoreM_no s n (by omega)]; go_enter Try.func27, Try.ntmps27; go_wp2; go_ret; exact ⟨rfl, rfl⟩)
      all_goals (rw [sumMoreM_no s n (by omega)]; go_enter Try.func27, Try.ntmps27; go_wp2; go_ret; exact ⟨rfl, rfl⟩)
    all_goals (rw [sumMoreM_no s n (by omega)]; go_enter Try.func27, Try.ntmps27; go_wp2; go_ret; exact ⟨rfl, rfl⟩)
  all_goals (rw [sumMoreM_no s n (by omega)]; go_enter Try.func27, Try.ntmps27; go_wp2; go_ret; exact ⟨rfl, rfl⟩)
end Go.Proofs.Ytpnahncmhldgdaa
