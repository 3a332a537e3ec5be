/- The contract of the laws' own alive. -/
import Derived.Test.YtpaeioabmmkheaaImplSum
namespace Go.Proofs.Ytpaeioabmmkheaa
open Go.RowKit
theorem rowI_empty (w : World) (a : Option Addr) : RowI w a 0 [] := ⟨rfl, by unfold maxLen; omega, fun h => absurd h (by omega), fun n hn => by cases hn⟩
theorem alive_any (w : World) : Calls Try.prog 17 #[] w (LawTrue w) := by
  go_enter Try.func17, Try.ntmps17
  go_wp2_with fail
  refine (sumOf_impl 0 _ 0 0 [] _ (rowI_empty _ _)).mono ?_; rintro e w' ⟨rfl, rfl⟩
  have e : sumOfM 0 [] = 17 := rfl
  rw [e]; clear e
  go_wp2
  go_ret
  exact ⟨rfl, (Below.refl _ _).alloc (Nat.le_refl _) _⟩
end Go.Proofs.Ytpaeioabmmkheaa
