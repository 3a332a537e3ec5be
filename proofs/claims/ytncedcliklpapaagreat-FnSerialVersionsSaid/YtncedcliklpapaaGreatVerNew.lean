/- What the program's functions over versions answer: rows that may be nil. No function of the program is named here. -/
import Derived.Test.YtncedcliklpapaaGreatVerMath
namespace Go.Proofs.YtncedcliklpapaaGreat
open Go.RowKit
/-- New versions, or nil. -/
def NewVN (w : World) (e0 : TypeId) (l : List Ver) (e : Ending) (w' : World) : Prop :=
  ∃ v, e = .returned v ∧ w'.ownsRow w.heap.size e0 3 v l.length (flatV l) ∧ WfVs l ∧ Below w.heap.size w w'
/-- New versions, or nil, and a truth value. -/
def NewVNB (w : World) (e0 : TypeId) (p : List Ver × Bool) (e : Ending) (w' : World) : Prop :=
  ∃ v, e = .returned (.tuple #[v, .bool p.2]) ∧ w'.ownsRow w.heap.size e0 3 v p.1.length (flatV p.1) ∧ WfVs p.1 ∧ Below w.heap.size w w'
/-- New pairs, or nil. -/
def NewEN (w : World) (e0 : TypeId) (l : List Ent) (e : Ending) (w' : World) : Prop :=
  ∃ v, e = .returned v ∧ w'.ownsRow w.heap.size e0 2 v l.length (flatE l) ∧ WfE l ∧ Below w.heap.size w w'
theorem putVM_len (L : List Ver) (k : Int) (E : List Ent) : (putVM L k E).1.length ≤ 320 := by
  cases h1 : versB L with
  | false => rw [putVM_no (by rw [h1]; rfl)]; simp
  | true =>
    cases h2 : inB k 0 9 with
    | false => rw [putVM_no (by rw [h1, h2]; rfl)]; simp
    | true =>
      cases h3 : writesB E with
      | false => rw [putVM_no (by rw [h1, h2, h3]; rfl)]; simp
      | true => rw [putVM_yes h1 h2 h3]; exact vers_len (ok_putL ((versB_ok L).1 h1) h2 h3)
theorem dropVM_len (L : List Ver) (by_ : Int) : (dropVM L by_).length ≤ 320 := by
  unfold dropVM
  split
  · rename_i h
    exact Nat.le_trans (List.length_filter_le _ _) (vers_len ((versB_ok L).1 h))
  · simp
theorem lastVM_len (S : List Ent) (L : List Ver) : (lastVM S L).length ≤ 32 := by
  cases h : (storeB S && versB L) with
  | false => rw [lastVM_no h]; simp
  | true =>
    rw [Bool.and_eq_true] at h
    rw [lastVM_yes h.1 h.2]; exact last_len S L 32
end Go.Proofs.YtncedcliklpapaaGreat
