/- Marks of slots: plain mathematics. No function of the program is named here. -/
import Derived.Test.YthigpbmeiblhdaaConvH
import Derived.Test.YthigpbmeiblhdaaConvX
namespace Go.Proofs.Ythigpbmeiblhdaa
set_option linter.unusedVariables false
/-- How many marks a slot takes. -/
def mkN (s : Slt) : Nat := 3 + s.from_.length + 2 * (s.res.rds.length + s.res.wrs.length)
/-- The marks of one slot. -/
def markOfS (k : Int) (s : Slt) : Slt := ⟨k, k + 1, marksI (k + 2) s.from_.length, ⟨mk3 (k + 2 + s.from_.length), marksE (k + 3 + s.from_.length) s.res.rds.length, marksE (k + 3 + s.from_.length + 2 * s.res.rds.length) s.res.wrs.length⟩⟩
/-- The marks from k on. -/
def marksSl : Int → List Slt → List Slt
  | _, [] => []
  | k, s :: r => markOfS k s :: marksSl (k + mkN s) r
def sumMk : List Slt → Nat
  | [] => 0
  | s :: r => mkN s + sumMk r
/-- How many marks there are ahead of the j-th slot. -/
def offSl (L : List Slt) (j : Nat) : Nat := sumMk (L.take j)
theorem sumMk_append (l m : List Slt) : sumMk (l ++ m) = sumMk l + sumMk m := by
  induction l with
  | nil => simp [sumMk]
  | cons a r ih => simp only [List.cons_append, sumMk, ih]; omega
theorem marksSl_append (k : Int) (l m : List Slt) : marksSl k (l ++ m) = marksSl k l ++ marksSl (k + (sumMk l : Nat)) m := by
  induction l generalizing k with
  | nil => simp [marksSl, sumMk]
  | cons a r ih =>
    simp only [List.cons_append, marksSl, ih, sumMk]
    congr 3; omega
theorem marksSl_len (k : Int) (L : List Slt) : (marksSl k L).length = L.length := by
  induction L generalizing k with
  | nil => rfl
  | cons a r ih => simp [marksSl, ih]
theorem marksSl_next (k : Int) (L : List Slt) (j : Nat) (h : j < L.length) : marksSl k (L.take (j + 1)) = marksSl k (L.take j) ++ [markOfS (k + offSl L j) (L.getD j noSlt)] := by
  rw [take_one L j h, marksSl_append]; rfl
theorem offSl_next (L : List Slt) (j : Nat) (h : j < L.length) : offSl L (j + 1) = offSl L j + mkN (L.getD j noSlt) := by
  unfold offSl; rw [take_one L j h, sumMk_append]; simp [sumMk]
theorem marksSl_get (k : Int) (L : List Slt) (j : Nat) (h : j < L.length) : (marksSl k L).getD j noSlt = markOfS (k + offSl L j) (L.getD j noSlt) := by
  have e : (marksSl k (L.take j)).length = j := by rw [marksSl_len, List.length_take]; omega
  have hs := marksSl_append k (L.take (j + 1)) (L.drop (j + 1))
  rw [List.take_append_drop, marksSl_next k L j h] at hs
  rw [hs, List.getD_eq_getElem?_getD, List.append_assoc, List.getElem?_append_right (by rw [e]; exact Nat.le_refl _), e, Nat.sub_self]
  rfl
/-- Marked up to j, then as before. -/
def markSlTo (k : Int) (L : List Slt) (j : Nat) : List Slt := marksSl k (L.take j) ++ L.drop j
theorem markSlTo_len (k : Int) (L : List Slt) (j : Nat) (h : j ≤ L.length) : (markSlTo k L j).length = L.length := by
  simp [markSlTo, marksSl_len]; omega
theorem markSlTo_zero (k : Int) (L : List Slt) : markSlTo k L 0 = L := by simp [markSlTo, marksSl]
theorem markSlTo_all (k : Int) (L : List Slt) : markSlTo k L L.length = marksSl k L := by simp [markSlTo]
theorem markSlTo_get (k : Int) (L : List Slt) (j : Nat) (h : j < L.length) : (markSlTo k L j).getD j noSlt = L.getD j noSlt := by
  have e : (marksSl k (L.take j)).length = j := by rw [marksSl_len, List.length_take]; omega
  unfold markSlTo
  rw [List.getD_eq_getElem?_getD, List.getElem?_append_right (by rw [e]; exact Nat.le_refl _), e, Nat.sub_self, List.getElem?_drop, Nat.add_zero, List.getD_eq_getElem?_getD]
theorem markSlTo_set (k : Int) (L : List Slt) (j : Nat) (h : j < L.length) : (markSlTo k L j).set j (markOfS (k + offSl L j) (L.getD j noSlt)) = markSlTo k L (j + 1) := by
  have e : (marksSl k (L.take j)).length = j := by rw [marksSl_len, List.length_take]; omega
  unfold markSlTo
  rw [marksSl_next k L j h, List.set_append_right _ _ (by rw [e]; exact Nat.le_refl _), e, Nat.sub_self, List.drop_eq_getElem_cons h, List.set_cons_zero, List.append_assoc]
  rfl
end Go.Proofs.Ythigpbmeiblhdaa
