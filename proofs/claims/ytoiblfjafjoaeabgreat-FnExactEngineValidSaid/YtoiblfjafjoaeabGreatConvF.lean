/- Texts of ours that stand together: ConvL, ConvL2, ConvL3 -/
import Derived.Test.YtoiblfjafjoaeabGreatConv
import Derived.Test.YtoiblfjafjoaeabGreatLayP
/- The contracts of the laws' own helpers over layers. -/
namespace Go.Proofs.YtoiblfjafjoaeabGreat
open Go.RowKit
set_option linter.unusedVariables false
/-- How many entries all layers have. -/
def sumW : List Lay → Nat
  | [] => 0
  | x :: r => x.2.length + sumW r
theorem sumW_append (l m : List Lay) : sumW (l ++ m) = sumW l + sumW m := by
  induction l with
  | nil => simp [sumW]
  | cons a r ih => simp only [List.cons_append, sumW, ih]; omega
theorem takeL_one (L : List Lay) (k : Nat) (h : k < L.length) : L.take (k + 1) = L.take k ++ [L.getD k (0, [])] := by
  rw [List.take_succ_eq_append_getElem h, List.getD_eq_getElem?_getD, List.getElem?_eq_getElem h]; rfl
theorem sumW_next (L : List Lay) (k : Nat) (h : k < L.length) : sumW (L.take (k + 1)) = sumW (L.take k) + (L.getD k (0, [])).2.length := by
  rw [takeL_one L k h, sumW_append]; simp [sumW]
theorem sumW_take (L : List Lay) (k : Nat) : sumW (L.take k) ≤ sumW L := by
  have h := sumW_append (L.take k) (L.drop k)
  rw [List.take_append_drop] at h; omega
theorem sumW_len (L : List Lay) (k : Nat) (h : k < L.length) : (L.getD k (0, [])).2.length ≤ sumW L := by
  have := sumW_next L k h; have := sumW_take L (k + 1); omega
/-- How much all layers weigh. -/
def wtL (L : List Lay) : Nat := L.length + sumW L
/-- What is left when all layers are weighed, or -1. -/
def szM (L : List Lay) (left : Int) : Int := if (wtL L : Int) ≤ left then left - wtL L else -1
theorem szM_yes {L : List Lay} {left : Int} (h : (wtL L : Int) ≤ left) : szM L left = left - wtL L := by unfold szM; rw [if_pos h]
theorem szM_no {L : List Lay} {left : Int} (h : left < (wtL L : Int)) : szM L left = -1 := by unfold szM; rw [if_neg (by omega)]
/-- An int, and nothing old has turned. -/
def IntW (n : Int) (w : World) (e : Ending) (w' : World) : Prop := e = .returned (.int .i64 n) ∧ Below w.heap.size w w'
end Go.Proofs.YtoiblfjafjoaeabGreat
/- The contracts of the laws' own helpers over layers: copies, comparisons. -/
namespace Go.Proofs.YtoiblfjafjoaeabGreat
open Go.RowKit
set_option linter.unusedVariables false
/-- A layer, its writes in new memory. -/
def GotLay (y : Int) (l : List Ent) (w : World) (e : Ending) (w' : World) : Prop :=
  ∃ g c, e = .returned (.agg #[.int .i64 y, .slice (some ⟨g, 0, none⟩) l.length c]) ∧ w'.ownsRow w.heap.size 109 2 (.slice (some ⟨g, 0, none⟩) l.length c) l.length (flatE l) ∧ WfE l ∧ Below w.heap.size w w'
end Go.Proofs.YtoiblfjafjoaeabGreat
/- The contracts of the laws' own helpers over layers: marks; sameLayers. -/
namespace Go.Proofs.YtoiblfjafjoaeabGreat
open Go.RowKit
set_option linter.unusedVariables false
/-- The marks from k on. -/
def marksL : Int → List Lay → List Lay
  | _, [] => []
  | k, x :: r => (k, marksE (k + 1) x.2.length) :: marksL (k + 1 + 2 * x.2.length) r
/-- How many marks there are ahead of the j-th layer. -/
def offL (L : List Lay) (j : Nat) : Nat := j + 2 * sumW (L.take j)
theorem marksL_append (k : Int) (l m : List Lay) : marksL k (l ++ m) = marksL k l ++ marksL (k + (l.length + 2 * sumW l : Nat)) m := by
  induction l generalizing k with
  | nil => simp [marksL, sumW]
  | cons a r ih =>
    simp only [List.cons_append, marksL, ih, sumW, List.length_cons]
    congr 3; omega
theorem marksL_len (k : Int) (L : List Lay) : (marksL k L).length = L.length := by
  induction L generalizing k with
  | nil => rfl
  | cons a r ih => simp [marksL, ih]
theorem marksL_next (k : Int) (L : List Lay) (j : Nat) (h : j < L.length) : marksL k (L.take (j + 1)) = marksL k (L.take j) ++ [(k + offL L j, marksE (k + offL L j + 1) (L.getD j (0, [])).2.length)] := by
  rw [takeL_one L j h, marksL_append]
  have e : (L.take j).length = j := by rw [List.length_take]; omega
  rw [e]; rfl
theorem offL_next (L : List Lay) (j : Nat) (h : j < L.length) : offL L (j + 1) = offL L j + 1 + 2 * (L.getD j (0, [])).2.length := by
  unfold offL; rw [sumW_next L j h]; omega
theorem marksL_get (k : Int) (L : List Lay) (j : Nat) (h : j < L.length) : (marksL k L).getD j (0, []) = (k + offL L j, marksE (k + offL L j + 1) (L.getD j (0, [])).2.length) := by
  have e : (marksL k (L.take j)).length = j := by rw [marksL_len, List.length_take]; omega
  have hs := marksL_append k (L.take (j + 1)) (L.drop (j + 1))
  rw [List.take_append_drop, marksL_next k L j h] at hs
  rw [hs, List.getD_eq_getElem?_getD, List.append_assoc, List.getElem?_append_right (by rw [e]; exact Nat.le_refl _), e, Nat.sub_self]
  rfl
/-- Marked up to j, then as before. -/
def markLTo (k : Int) (L : List Lay) (j : Nat) : List Lay := marksL k (L.take j) ++ L.drop j
theorem markLTo_len (k : Int) (L : List Lay) (j : Nat) (h : j ≤ L.length) : (markLTo k L j).length = L.length := by
  simp [markLTo, marksL_len]; omega
theorem markLTo_zero (k : Int) (L : List Lay) : markLTo k L 0 = L := by simp [markLTo, marksL]
theorem markLTo_all (k : Int) (L : List Lay) : markLTo k L L.length = marksL k L := by simp [markLTo]
theorem markLTo_get (k : Int) (L : List Lay) (j : Nat) (h : j < L.length) : (markLTo k L j).getD j (0, []) = L.getD j (0, []) := by
  have e : (marksL k (L.take j)).length = j := by rw [marksL_len, List.length_take]; omega
  unfold markLTo
  rw [List.getD_eq_getElem?_getD, List.getElem?_append_right (by rw [e]; exact Nat.le_refl _), e, Nat.sub_self, List.getElem?_drop, Nat.add_zero, List.getD_eq_getElem?_getD]
theorem markLTo_set (k : Int) (L : List Lay) (j : Nat) (h : j < L.length) : (markLTo k L j).set j (k + offL L j, marksE (k + offL L j + 1) (L.getD j (0, [])).2.length) = markLTo k L (j + 1) := by
  have e : (marksL k (L.take j)).length = j := by rw [marksL_len, List.length_take]; omega
  unfold markLTo
  rw [marksL_next k L j h, List.set_append_right _ _ (by rw [e]; exact Nat.le_refl _), e, Nat.sub_self, List.drop_eq_getElem_cons h, List.set_cons_zero, List.append_assoc]
  rfl
theorem set_twice (L : List Lay) (j : Nat) (x y : Lay) : (L.set j x).set j y = L.set j y := by simp
end Go.Proofs.YtoiblfjafjoaeabGreat
