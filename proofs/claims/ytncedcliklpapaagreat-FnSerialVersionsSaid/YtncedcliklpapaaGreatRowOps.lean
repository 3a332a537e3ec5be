/- clear and copy over rows of elements of several cells; a row cut short; a struct of three ints stored in a row. No function of the program is named here. -/
import Derived.Test.YtncedcliklpapaaGreatKeyMem
import Derived.Laws.CopyRow
import Derived.Lib.AppendZeros
namespace Go.Proofs.YtncedcliklpapaaGreat
open Go.RowKit
set_option linter.unusedVariables false
/-- The cells of a row with vs from cell o on. -/
def splice (cur : Array Value) (o : Nat) (vs : List Value) : Array Value := (cur.toList.take o ++ vs ++ cur.toList.drop (o + vs.length)).toArray
theorem splice_size (cur : Array Value) (o : Nat) (vs : List Value) (h : o + vs.length ≤ cur.size) : (splice cur o vs).size = cur.size := by
  simp [splice]; omega
theorem splice_take (cur : Array Value) (o : Nat) (vs : List Value) (k : Nat) (hk : k ≤ o) (h : o ≤ cur.size) : (splice cur o vs).toList.take k = cur.toList.take k := by
  simp only [splice, List.append_assoc]
  rw [List.take_append_of_le_length (by simp; omega), List.take_take, Nat.min_eq_left hk]
/-- 'clear(s)' at a slice of n > 0 elements. -/
theorem run_clear_row {P : Program} (w : World) (t e ty : TypeId) (i0 : TypeInfo) (z : Value) (ht : P.underlying t = some (.slice e)) (hi : P.info? e = some i0) (hz : i0.zero = some z)
    (g o n c : Nat) (cur : Array Value) (T : TypeId) (hg : w.heap[g]? = some (.cells cur T (0, 0))) (hn : 0 < n) (hfit : o + n * z.cells.size ≤ cur.size) (h1 : ∀ v ∈ Builtin.zeroCells z.cells n, v.oneCell' = true) :
    (Builtin.clear_ #[t] ty #[.slice (some ⟨g, o, none⟩) n c]).run P w = .ok (.tuple #[]) (w.setRow g (splice cur o (Builtin.zeroCells z.cells n).toList)) := by
  have hst := run_storeCells_at P g o T (Builtin.zeroCells z.cells n).toList 0 cur w hg (by simp only [Array.length_toList, size_zeroCells]; omega) (fun v hv => h1 v (by simpa using hv))
  obtain ⟨m, rfl⟩ : ∃ m, n = m + 1 := ⟨n - 1, by omega⟩
  have hzv : ∀ W : World, (zeroValue e).run P W = .ok z W := fun W => by simp [zeroValue, typeInfo, hi, hz]
  simp only [Nat.add_zero] at hst
  simp [Builtin.clear_, run_underlying ht, hzv, hst, splice]
/-- 'copy(d, s)' into a row, elements of any number of cells. -/
theorem run_copy_rowS {P : Program} (w : World) (dT sT ty elem : TypeId) (size : Nat) (g o dLen dCap : Nat) (a : Addr) (sLen sCap : Nat) (cur : Array Value) (t : TypeId) (cs : List Value)
    (hu : P.underlying dT = some (.slice elem)) (hs : (P.info? elem).map (·.size) = some size)
    (hg : w.heap[g]? = some (.cells cur t (0, 0))) (m : Nat) (hm : Nat.min sLen dLen = m) (hn : cs.length = m * size)
    (hsrc : ∀ j v, cs[j]? = some v → w.cell? (a.add j) = some v) (hfit : o + cs.length ≤ cur.size) (h1 : ∀ v ∈ cs, v.oneCell' = true) :
    (Builtin.copy_ #[dT, sT] ty #[.slice (some ⟨g, o, none⟩) dLen dCap, .slice (some a) sLen sCap]).run P w =
      .ok (goInt m) (w.setRow g (splice cur o cs)) := by
  have hl := run_firstCells_some (P := P) w size m a sLen sCap cs hn hsrc
  have hst := run_storeCells_at P g o t cs 0 cur w hg (by simpa using hfit) h1
  simp only [Nat.add_zero] at hst
  cases hq : P.info? elem with
  | none => simp [hq] at hs
  | some i =>
    have hi : i.size = size := by simpa [hq] using hs
    simp [Builtin.copy_, run_underlying hu, Builtin.lenOf, sizeOf, typeInfo, hq, hi, hm, hl, hst, splice]
theorem setRow_grown (w : World) (g : Nat) (cs : Array Value) : w.grownBy (w.setRow g cs) (some g) := ⟨rfl, rfl, rfl, by simp, fun k _ hne => setRow_other w g k _ (fun e => hne (by rw [e]))⟩
/-- A row cut short. -/
theorem owns_cut {w : World} {B : Nat} {e : TypeId} {size g cap n m : Nat} {xs : List Value} (h : w.ownsRow B e size (.slice (some ⟨g, 0, none⟩) n cap) n xs) (hm : m ≤ n) : w.ownsRow B e size (.slice (some ⟨g, 0, none⟩) m cap) m (xs.take (m * size)) := by
  rcases h.2 with ⟨h', _⟩ | ⟨g', cap', cur, h', hb, hg, hnc, hcm, hcs, ht⟩
  · simp at h'
  · simp only [Value.slice.injEq, Option.some.injEq, Addr.mk.injEq, and_true, true_and] at h'
    obtain ⟨rfl, rfl⟩ := h'
    refine ⟨?_, .inr ⟨g, cap, cur, rfl, hb, hg, by omega, hcm, hcs, ?_⟩⟩
    · rw [List.length_take, h.1]; exact Nat.min_eq_left (Nat.mul_le_mul_right _ hm)
    · rw [← ht, List.take_take, Nat.min_eq_left (Nat.mul_le_mul_right _ hm)]
/-- The block of a row. -/
theorem owns_cur {w : World} {B : Nat} {e : TypeId} {size g cap n : Nat} {xs : List Value} (h : w.ownsRow B e size (.slice (some ⟨g, 0, none⟩) n cap) n xs) :
    ∃ cur, B ≤ g ∧ w.heap[g]? = some (.cells cur e (0, 0)) ∧ n ≤ cap ∧ cap ≤ maxLen ∧ cur.size = cap * size ∧ cur.toList.take (n * size) = xs := by
  rcases h.2 with ⟨h', _⟩ | ⟨g', cap', cur, h', hb, hg, hnc, hcm, hcs, ht⟩
  · simp at h'
  · simp only [Value.slice.injEq, Option.some.injEq, Addr.mk.injEq, and_true, true_and] at h'
    obtain ⟨rfl, rfl⟩ := h'
    exact ⟨cur, hb, hg, hnc, hcm, hcs, ht⟩
theorem flatV_setR (l : List Ver) : ∀ (i : Nat) (x : Ver), i < l.length → flatV (l.set i x) = (((flatV l).set (i * 3) (.int .i64 x.key)).set (i * 3 + 1) (.int .i64 x.by_)).set (i * 3 + 2) (.int .i64 x.val) := by
  induction l with
  | nil => intro i x h; cases h
  | cons y r ih =>
    intro i x h
    cases i with
    | zero => simp [flatV_cons]
    | succ i =>
      rw [List.set_cons_succ, flatV_cons, flatV_cons, ih i x (by simpa using h), show (i + 1) * 3 = i * 3 + 1 + 1 + 1 by omega, show i * 3 + 1 + 1 + 1 + 1 = (i * 3 + 1) + 1 + 1 + 1 by omega, show i * 3 + 1 + 1 + 1 + 2 = (i * 3 + 2) + 1 + 1 + 1 by omega]
      simp only [List.set_cons_succ]
theorem flatV_takeR (l : List Ver) : ∀ k, (flatV l).take (k * 3) = flatV (l.take k) := by
  induction l with
  | nil => intro k; simp [flatV]
  | cons y r ih =>
    intro k
    cases k with
    | zero => simp [flatV]
    | succ k =>
      rw [flatV_cons, List.take_succ_cons, flatV_cons, show (k + 1) * 3 = k * 3 + 1 + 1 + 1 by omega]
      simp only [List.take_succ_cons, ih k]
theorem flatV_dropR (l : List Ver) : ∀ k, (flatV l).drop (k * 3) = flatV (l.drop k) := by
  induction l with
  | nil => intro k; simp [flatV]
  | cons y r ih =>
    intro k
    cases k with
    | zero => simp [flatV]
    | succ k =>
      rw [flatV_cons, List.drop_succ_cons, show (k + 1) * 3 = k * 3 + 1 + 1 + 1 by omega]
      simp only [List.drop_succ_cons, ih k]
/-- A version is stored in a row. -/
theorem owns_setV {w : World} {B : Nat} {e : TypeId} {g cap n : Nat} {l : List Ver} (h : w.ownsRow B e 3 (.slice (some ⟨g, 0, none⟩) n cap) n (flatV l)) (hl : l.length = n) (i : Nat) (hi : i < n) (x : Ver) :
    (((w.setCell ⟨g, i * 3, none⟩ (.int .i64 x.key)).setCell ⟨g, i * 3 + 1, none⟩ (.int .i64 x.by_)).setCell ⟨g, i * 3 + 2, none⟩ (.int .i64 x.val)).ownsRow B e 3 (.slice (some ⟨g, 0, none⟩) n cap) n (flatV (l.set i x)) ∧
    w.grownBy (((w.setCell ⟨g, i * 3, none⟩ (.int .i64 x.key)).setCell ⟨g, i * 3 + 1, none⟩ (.int .i64 x.by_)).setCell ⟨g, i * 3 + 2, none⟩ (.int .i64 x.val)) (some g) := by
  rw [flatV_setR l i x (by omega)]
  obtain ⟨a1, b1⟩ := h.stored (i * 3) (.int .i64 x.key)
  obtain ⟨a2, b2⟩ := a1.stored (i * 3 + 1) (.int .i64 x.by_)
  obtain ⟨a3, b3⟩ := a2.stored (i * 3 + 2) (.int .i64 x.val)
  exact ⟨a3, (b1.trans b2).trans b3⟩
end Go.Proofs.YtncedcliklpapaaGreat
