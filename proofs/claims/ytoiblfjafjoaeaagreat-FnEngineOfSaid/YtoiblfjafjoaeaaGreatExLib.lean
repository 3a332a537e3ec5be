/- What the walks of exact laws share (gen8/exact.py): rows that are owned, marks of actions. -/
import Derived.Test.YtoiblfjafjoaeaaGreatConvA
import Derived.Test.YtoiblfjafjoaeaaGreatConv

namespace Go.Proofs.YtoiblfjafjoaeaaGreat
open Go.RowKit
set_option linter.unusedVariables false
theorem rowA_owned {w : World} {B : Nat} {e : TypeId} {g n cap : Nat} {l : List Acn} (h : w.ownsRow B e 4 (.slice (some ⟨g, 0, none⟩) n cap) n (flatA l)) (hl : l.length = n) (hm : n ≤ 4000000) (hw : WfAs l) : RowA w (some ⟨g, 0, none⟩) n l := by
  subst hl
  obtain ⟨g', c', e', -, -, hr, -⟩ := rowA_of_own (⟨h, by simp⟩ : Own _ _ _ _ _ _ _) hm hw
  simp only [Value.slice.injEq, true_and, Option.some.injEq, Addr.mk.injEq, and_true] at e'
  obtain ⟨rfl, rfl⟩ := e'
  exact hr
theorem grownBy_transX {a b c : World} {row : Option Nat} (h : a.grownBy b row) (k : b.grownBy c row) : a.grownBy c row :=
  ⟨k.os.trans h.os, k.tape.trans h.tape, k.output.trans h.output, Nat.le_trans h.size k.size, fun p hp hn => (k.block p (Nat.lt_of_lt_of_le hp h.size) hn).trans (h.block p hp hn)⟩
/-- A new list of ints, of the call's own. -/
def NewIO (w : World) (l : List Int) (e : Ending) (w' : World) : Prop :=
  ∃ v, e = .returned v ∧ Own w' w.heap.size 3 1 v l.length (l.map (Value.int .i64)) ∧ (∀ x ∈ l, (Lit.int .i64 x).wf = true) ∧ Below w.heap.size w w'
end Go.Proofs.YtoiblfjafjoaeaaGreat
