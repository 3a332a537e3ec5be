/- The contracts of the laws' own helpers over actions: toAction, toActionS (a copy), eqAction, eqActionS, szActionS. -/
import Derived.Test.YtoiblfjafjoaeaaGreatActs
import Derived.StillTailTactics
namespace Go.Proofs.YtoiblfjafjoaeaaGreat
open Go.RowKit
set_option linter.unusedVariables false
theorem infoActC : (Tryz.prog.info? 72).map (fun i => (i.zero, i.size, i.bytes)) = some (some (.agg #[.int .i64 0, .int .i64 0, .int .i64 0, .int .i64 0]), 4, 32) := by kernel_rfl
/-- A struct of four ints, in new memory. -/
def GotAct (p q r t : Int) (w : World) (e : Ending) (w' : World) : Prop := e = .returned (.agg #[.int .i64 p, .int .i64 q, .int .i64 r, .int .i64 t]) ∧ Below w.heap.size w w'
/-- The first k actions of l, then zeros. -/
def fillA (l : List Acn) (k : Nat) : List Acn := l.take k ++ List.replicate (l.length - k) noA
theorem fillA_len (l : List Acn) (k : Nat) (h : k ≤ l.length) : (fillA l k).length = l.length := by simp [fillA]; omega
theorem fillA_all (l : List Acn) : fillA l l.length = l := by simp [fillA]
theorem takeA_snoc (l : List Acn) (k : Nat) (h : k < l.length) : l.take (k + 1) = l.take k ++ [l.getD k noA] := by
  rw [List.take_succ_eq_append_getElem h, List.getD_eq_getElem?_getD, List.getElem?_eq_getElem h]; rfl
theorem flatA_set (l : List Acn) (k : Nat) (x : Acn) : flatA (l.set k x) = ((((flatA l).set (k * 4) (.int .i64 x.kind)).set (k * 4 + 1) (.int .i64 x.src)).set (k * 4 + 2) (.int .i64 x.dst)).set (k * 4 + 3) (.int .i64 x.amt) := by
  induction l generalizing k with
  | nil => simp [flatA]
  | cons e r ih =>
    cases k with
    | zero => simp [flatA_cons]
    | succ k =>
      rw [show (k + 1) * 4 = k * 4 + 1 + 1 + 1 + 1 by omega, show k * 4 + 1 + 1 + 1 + 1 + 1 = (k * 4 + 1) + 1 + 1 + 1 + 1 by omega, show k * 4 + 1 + 1 + 1 + 1 + 2 = (k * 4 + 2) + 1 + 1 + 1 + 1 by omega, show k * 4 + 1 + 1 + 1 + 1 + 3 = (k * 4 + 3) + 1 + 1 + 1 + 1 by omega]
      simp only [List.set_cons_succ, flatA_cons, ih]
theorem fillA_set (l : List Acn) (k : Nat) (h : k < l.length) : (fillA l k).set k (l.getD k noA) = fillA l (k + 1) := by
  unfold fillA
  have e : l.length - k = (l.length - (k + 1)) + 1 := by omega
  rw [e, List.replicate_succ, List.set_append_right _ _ (by simp; omega), takeA_snoc l k h]
  simp [Nat.min_eq_left (Nat.le_of_lt h)]
theorem flatA_zeros (n : Nat) : flatA (List.replicate n noA) = List.replicate (n * 4) (.int .i64 0) := by
  induction n with
  | zero => rfl
  | succ n ih => rw [List.replicate_succ, show (n + 1) * 4 = n * 4 + 1 + 1 + 1 + 1 by omega, List.replicate_succ, List.replicate_succ, List.replicate_succ, List.replicate_succ]; simp [flatA_cons, noA] at ih ⊢; exact ih
theorem made_zeros4 (n : Nat) : (madeCells (Value.agg #[.int .i64 0, .int .i64 0, .int .i64 0, .int .i64 0]).cells (n * 4)).toList = List.replicate (n * 4) (.int .i64 0) := by
  unfold madeCells
  apply List.ext_getElem
  · simp [Value.cells]
  · intro i h1 h2
    simp [Value.cells] at h1 ⊢
    rcases (by omega : i % 4 = 0 ∨ i % 4 = 1 ∨ i % 4 = 2 ∨ i % 4 = 3) with h | h | h | h <;> simp [h]
/-- One owned struct stored. -/
theorem Own.store4 {w : World} {B : Nat} {e : TypeId} {g n cap : Nat} {l : List Acn} (h : Own w B e 4 (.slice (some ⟨g, 0, none⟩) n cap) n (flatA l)) (k : Nat) (x : Acn) :
    Own ((((w.setCell ⟨g, k * 4, none⟩ (.int .i64 x.kind)).setCell ⟨g, k * 4 + 1, none⟩ (.int .i64 x.src)).setCell ⟨g, k * 4 + 2, none⟩ (.int .i64 x.dst)).setCell ⟨g, k * 4 + 3, none⟩ (.int .i64 x.amt)) B e 4 (.slice (some ⟨g, 0, none⟩) n cap) n (flatA (l.set k x)) := by
  rw [flatA_set]
  exact ⟨((((h.1.stored (k * 4) _).1.stored (k * 4 + 1) _).1.stored (k * 4 + 2) _).1.stored (k * 4 + 3) _).1, h.2⟩
end Go.Proofs.YtoiblfjafjoaeaaGreat
