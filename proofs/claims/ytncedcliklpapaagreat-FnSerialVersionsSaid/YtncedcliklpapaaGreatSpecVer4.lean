/- The contracts of the model's l9Put, PutVersions. -/
import Derived.Test.YtncedcliklpapaaGreatSpecVer2
import Derived.Test.YtncedcliklpapaaGreatSpecF
import Derived.Test.YtncedcliklpapaaGreatEffA
import Derived.Test.YtncedcliklpapaaGreatLay
import Derived.RegionTactic
import Derived.Deep.RegionLaw
namespace Go.Proofs.YtncedcliklpapaaGreat
open Go.RowKit
set_option linter.unusedVariables false
set_option linter.unusedSimpArgs false
/-- The first m of an owned row, in the same block. -/
theorem Own.take {w : World} {B : Nat} {e : TypeId} {size n g cap : Nat} {xs : List Value} (h : Own w B e size (.slice (some ⟨g, 0, none⟩) n cap) n xs) {m : Nat} (hm : m ≤ n) : Own w B e size (.slice (some ⟨g, 0, none⟩) m cap) m (xs.take (m * size)) := by
  obtain ⟨⟨h1, h2⟩, h3⟩ := h
  have hmn : m * size ≤ n * size := Nat.mul_le_mul_right _ hm
  refine ⟨⟨by rw [List.length_take, h1]; exact Nat.min_eq_left hmn, .inr ?_⟩, by simp⟩
  rcases h2 with ⟨h2, -⟩ | ⟨g', cap', cur, h2, hB, hg, hc, hcm, hs, ht⟩
  · simp at h2
  · simp only [Value.slice.injEq, Option.some.injEq, Addr.mk.injEq, and_true] at h2
    obtain ⟨rfl, -, rfl⟩ := h2
    refine ⟨g, cap, cur, rfl, hB, hg, by omega, hcm, hs, ?_⟩
    rw [← ht, List.take_take, Nat.min_eq_left hmn]
theorem flatV_take (X : List Ver) (m : Nat) (h : m ≤ X.length) : (flatV X).take (m * 3) = flatV (X.take m) := by
  have e : flatV X = flatV (X.take m) ++ flatV (X.drop m) := by rw [← flatV_append, List.take_append_drop]
  have hl : (flatV (X.take m)).length = m * 3 := by rw [flatV_len, List.length_take, Nat.min_eq_left h]
  rw [e, ← hl]; exact List.take_left
/-- The first j all stand ahead of v. -/
def InsTo (X : List Ver) (v : Ver) (j : Nat) : Prop := ∀ i, i < j → vLt (X.getD i noV) v
theorem InsTo.zero (X : List Ver) (v : Ver) : InsTo X v 0 := fun i hi => absurd hi (Nat.not_lt_zero i)
theorem InsTo.next {X : List Ver} {v : Ver} {j : Nat} (h : InsTo X v j) (hj : vLt (X.getD j noV) v) : InsTo X v (j + 1) := by
  intro i hi
  by_cases e : i = j
  · rw [e]; exact hj
  · exact h i (by omega)
theorem InsTo.done {X : List Ver} {v : Ver} {j : Nat} (h : InsTo X v j) (hj : j ≤ X.length) (hn : j < X.length → ¬ vLt (X.getD j noV) v) : insV v X = X.take j ++ v :: X.drop j := insV_at v X j hj h hn
end Go.Proofs.YtncedcliklpapaaGreat
