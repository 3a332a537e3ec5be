/- The contract of the model's LastVersions. -/
import Derived.Test.YtaaffpolmecicaaSpecV
namespace Go.Proofs.Ytaaffpolmecicaa
open Go.RowKit
set_option linter.unusedVariables false
set_option linter.unusedSimpArgs false
theorem lastN_len (S : List Ent) (L : List Ver) : ∀ j, (lastN S L j).length ≤ j := by
  intro j
  induction j with
  | zero => simp [lastN]
  | succ j ih =>
    unfold lastN
    rw [List.length_append]
    split
    · simp; omega
    · simp; omega
theorem readL_wf {S : List Ent} {L : List Ver} {key by_ : Int} (hS : storeB S = true) (hL : versB L = true) : (Lit.int .i64 (readL S L key by_).1).wf = true ∧ (Lit.int .i64 (readL S L key by_).2).wf = true := by
  have := readL_bd hS ((versB_ok L).1 hL) key by_
  exact ⟨WalkArith.wf_i64 (by omega), WalkArith.wf_i64 (by omega)⟩
theorem lastN_wf {S : List Ent} {L : List Ver} (hS : storeB S = true) (hL : versB L = true) (j : Nat) (hj : j ≤ 32) : WfE (lastN S L j) := by
  intro e he
  obtain ⟨k, hk, rfl, h0⟩ := (mem_lastN j).1 he
  refine ⟨?_, (readL_wf hS hL).1⟩
  exact WalkArith.wf_i64 (by omega)
end Go.Proofs.Ytaaffpolmecicaa
