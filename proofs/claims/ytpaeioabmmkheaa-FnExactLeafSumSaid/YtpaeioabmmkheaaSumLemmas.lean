/- Small laws on sums of lists of numbers. -/
import Derived.Test.YtpaeioabmmkheaaBase
import Derived.Test.YtpaeioabmmkheaaSumsMath
namespace Go.Proofs.Ytpaeioabmmkheaa
open Go.RowKit
theorem sumOfM_no (t : Int) (l : List Int) (h : ¬ (0 ≤ t ∧ t ≤ 9)) : sumOfM t l = -1 := by
  have : okTag t = false := by simp only [okTag, decide_eq_false_iff_not]; omega
  simp [sumOfM, this]
theorem sumOfM_yes (t : Int) (l : List Int) (h1 : 0 ≤ t) (h2 : t ≤ 9) (h : l.all okSummed = true) : sumOfM t l = sumFold (17 + t) l := by
  have : okTag t = true := by simp only [okTag, decide_eq_true_eq]; omega
  simp only [sumOfM, this, h]; rfl
theorem sumOfM_bad (t : Int) (l : List Int) (k : Nat) (hk : k < l.length) (h : ¬ (0 ≤ l.getD k 0 ∧ l.getD k 0 ≤ 2000000)) : sumOfM t l = -1 := by
  have : l.all okSummed = false := by
    rw [Bool.eq_false_iff]; intro hh
    have := (List.all_eq_true.1 hh) _ (getD_mem l k hk)
    simp only [okSummed, decide_eq_true_eq] at this; exact h this
  simp [sumOfM, this]
theorem all_snoc (l : List Int) (k : Nat) (hk : k < l.length) (h : (l.take k).all okSummed = true) (h1 : 0 ≤ l.getD k 0) (h2 : l.getD k 0 ≤ 2000000) : (l.take (k + 1)).all okSummed = true := by
  rw [take_snoc l k hk]; simp only [List.all_append, h, List.all_cons, List.all_nil, okSummed, Bool.true_and, Bool.and_true, decide_eq_true_eq]; omega
theorem all_of_bd (l : List Int) (h : ∀ k, k < l.length → 0 ≤ l.getD k 0 ∧ l.getD k 0 ≤ 2000000) : l.all okSummed = true := by
  rw [List.all_eq_true]; intro x hx
  obtain ⟨k, hk, rfl⟩ := List.getElem_of_mem hx
  have := h k hk
  rw [List.getD_eq_getElem?_getD, List.getElem?_eq_getElem hk] at this
  simp only [okSummed, decide_eq_true_eq]; exact this
theorem all_bd (l : List Int) (h : l.all okSummed = true) (k : Nat) (hk : k < l.length) : 0 ≤ l.getD k 0 ∧ l.getD k 0 ≤ 2000000 := by
  have := (List.all_eq_true.1 h) _ (getD_mem l k hk)
  simpa only [okSummed, decide_eq_true_eq] using this
def BdTo (l : List Int) (k : Nat) : Prop := ∀ j, j < k → 0 ≤ l.getD j 0 ∧ l.getD j 0 ≤ 2000000
end Go.Proofs.Ytpaeioabmmkheaa
