/- The plain functions of chapter 1: what SumOf and SumMore give, without any program. -/
import Derived.WalkKit
namespace Go.Proofs.Ytpaeioabmmkheaa
def sumStep (s n : Int) : Int := (31 * s + n + 7) % 1000003
def okSummed (n : Int) : Bool := decide (0 ≤ n ∧ n ≤ 2000000)
def okTag (t : Int) : Bool := decide (0 ≤ t ∧ t ≤ 9)
def okSumB (s : Int) : Bool := decide (0 ≤ s ∧ s ≤ 1000002)
def sumMoreM (s n : Int) : Int := if okSumB s && okSummed n then sumStep s n else -1
def sumFold (s : Int) (l : List Int) : Int := l.foldl sumStep s
def sumOfM (t : Int) (l : List Int) : Int := if okTag t && l.all okSummed then sumFold (17 + t) l else -1
theorem sumStep_bd (s n : Int) : 0 ≤ sumStep s n ∧ sumStep s n ≤ 1000002 := by unfold sumStep; omega
theorem sumFold_bd (s : Int) (l : List Int) (h0 : 0 ≤ s) (h1 : s ≤ 1000002) : 0 ≤ sumFold s l ∧ sumFold s l ≤ 1000002 := by
  unfold sumFold
  induction l generalizing s with
  | nil => exact ⟨h0, h1⟩
  | cons a l ih => exact ih _ (sumStep_bd s a).1 (sumStep_bd s a).2
theorem sumFold_snoc (s : Int) (l : List Int) (n : Int) : sumFold s (l ++ [n]) = sumStep (sumFold s l) n := by
  simp [sumFold]
theorem xor_one_nat (x : Nat) : (x ^^^ 1) = if x % 2 = 0 then x + 1 else x - 1 := by
  have h1 : (x ^^^ 1) / 2 = x / 2 := by rw [Nat.xor_div_two]; simp
  have h2 : (x ^^^ 1) % 2 = (x + 1) % 2 := by
    have := @Nat.testBit_xor x 1 0
    simp only [Nat.testBit_zero] at this
    have h3 : (x ^^^ 1) % 2 < 2 := Nat.mod_lt _ (by decide)
    have h4 : x % 2 < 2 := Nat.mod_lt _ (by decide)
    rcases Nat.mod_two_eq_zero_or_one x with h | h <;> rcases Nat.mod_two_eq_zero_or_one (x ^^^ 1) with h' | h' <;> simp [h, h'] at this <;> omega
  split <;> omega
/-- A number with its lowest digit turned is its neighbour. -/
theorem xor_one_i64 (x : Int) (h0 : 0 ≤ x) (h1 : x ≤ 1000000000) :
    0 ≤ Go.bits .xor .i64 x 1 ∧ Go.bits .xor .i64 x 1 ≤ 1000000001 ∧ (Go.bits .xor .i64 x 1 = x + 1 ∨ Go.bits .xor .i64 x 1 = x - 1) := by
  obtain ⟨a, rfl⟩ := Int.eq_ofNat_of_zero_le h0
  have hx := xor_one_nat a
  have h1' : (BitVec.ofInt 64 (a : Int)).toNat = a := by
    rw [BitVec.ofInt_natCast, BitVec.toNat_ofNat]; exact Nat.mod_eq_of_lt (by omega)
  have hb : a ^^^ 1 ≤ a + 1 := by split at hx <;> omega
  have e : Go.bits .xor .i64 (a : Int) 1 = ((a ^^^ 1 : Nat) : Int) := by
    show Go.IntKind.i64.wrap ((BitVec.ofInt 64 (a : Int) ^^^ BitVec.ofInt 64 1).toNat : Int) = _
    rw [BitVec.toNat_xor, h1', show (BitVec.ofInt 64 1).toNat = 1 from rfl]
    exact Go.IntWalk.i64_in _ (by omega)
  rw [e]
  split at hx <;> omega
theorem sumStep_inj (s s' n : Int) (h0 : 0 ≤ s) (h1 : s ≤ 1000002) (h2 : 0 ≤ s') (h3 : s' ≤ 1000002) (h : sumStep s n = sumStep s' n) : s = s' := by
  unfold sumStep at h; omega
theorem sumStep_next (s n n' : Int) (hd : n' = n + 1 ∨ n' = n - 1) : sumStep s n ≠ sumStep s n' := by
  unfold sumStep; omega
theorem sumFold_inj (l : List Int) : ∀ (s s' : Int), 0 ≤ s → s ≤ 1000002 → 0 ≤ s' → s' ≤ 1000002 → sumFold s l = sumFold s' l → s = s' := by
  induction l with
  | nil => intro s s' _ _ _ _ h; exact h
  | cons a l ih =>
    intro s s' h0 h1 h2 h3 h
    exact sumStep_inj s s' a h0 h1 h2 h3 (ih _ _ (sumStep_bd s a).1 (sumStep_bd s a).2 (sumStep_bd s' a).1 (sumStep_bd s' a).2 h)
theorem sumFold_append (s : Int) (l m : List Int) : sumFold s (l ++ m) = sumFold (sumFold s l) m := by simp [sumFold]
/-- With one number changed by 1 the sum differs. -/
theorem sumFold_set (s : Int) (l : List Int) (k : Nat) (n : Int) (hk : k < l.length) (h0 : 0 ≤ s) (h1 : s ≤ 1000002) (hd : n = l.getD k 0 + 1 ∨ n = l.getD k 0 - 1) :
    sumFold s (l.set k n) ≠ sumFold s l := by
  intro h
  have e1 : l = l.take k ++ l.getD k 0 :: l.drop (k + 1) := by
    rw [List.getD_eq_getElem?_getD, List.getElem?_eq_getElem hk]; simp
  have e2 : l.set k n = l.take k ++ n :: l.drop (k + 1) := by
    rw [List.set_eq_take_append_cons_drop, if_pos hk]
  rw [e2] at h
  generalize hx : l.getD k 0 = x at *
  have h' : sumFold s (l.take k ++ n :: l.drop (k + 1)) = sumFold s (l.take k ++ x :: l.drop (k + 1)) := by rw [h]; exact congrArg _ e1
  rw [sumFold_append, sumFold_append] at h'
  have hb := sumFold_bd s (l.take k) h0 h1
  have := sumFold_inj (l.drop (k + 1)) (sumStep (sumFold s (l.take k)) n) (sumStep (sumFold s (l.take k)) x) (sumStep_bd _ _).1 (sumStep_bd _ _).2 (sumStep_bd _ _).1 (sumStep_bd _ _).2 h'
  exact sumStep_next _ x n hd this.symm
end Go.Proofs.Ytpaeioabmmkheaa
