/- The plain functions of chapter 2: stores as lists of pairs. -/
import Derived.WalkKit
namespace Go.Proofs.Ytpaeioabmmkheaa
/-- n lies in lo..hi. -/
def inB (n lo hi : Int) : Bool := decide (lo ≤ n ∧ n ≤ hi)
theorem inB_true {n lo hi : Int} (h : inB n lo hi = true) : lo ≤ n ∧ n ≤ hi := by simpa [inB] using h
theorem inB_false {n lo hi : Int} (h : inB n lo hi = false) : ¬ (lo ≤ n ∧ n ≤ hi) := by simpa only [inB, decide_eq_false_iff_not] using h
theorem inB_yes {n lo hi : Int} (h0 : lo ≤ n) (h1 : n ≤ hi) : inB n lo hi = true := by simp [inB, h0, h1]
theorem inB_no {n lo hi : Int} (h : ¬ (lo ≤ n ∧ n ≤ hi)) : inB n lo hi = false := by simpa only [inB, decide_eq_false_iff_not] using h
abbrev Ent := Int × Int
/-- The k-th entry fits, and its key is above that of the one before. -/
def okAt (l : List Ent) (k : Nat) : Bool :=
  inB (l.getD k (0, 0)).1 0 31 && inB (l.getD k (0, 0)).2 1 1000000 && (k == 0 || decide ((l.getD (k - 1) (0, 0)).1 < (l.getD k (0, 0)).1))
def storeB (l : List Ent) : Bool := (List.range l.length).all (okAt l)
theorem storeB_iff (l : List Ent) : storeB l = true ↔ ∀ k, k < l.length → okAt l k = true := by
  simp [storeB, List.all_eq_true]
theorem storeB_bad (l : List Ent) (k : Nat) (hk : k < l.length) (h : okAt l k = false) : storeB l = false := by
  rw [Bool.eq_false_iff]; intro hh; rw [(storeB_iff l).1 hh k hk] at h; cases h
def OkTo (l : List Ent) (k : Nat) : Prop := ∀ j, j < k → okAt l j = true
theorem OkTo.next {l : List Ent} {k : Nat} (h : OkTo l k) (hk : okAt l k = true) : OkTo l (k + 1) := by
  intro j hj
  by_cases e : j = k
  · rw [e]; exact hk
  · exact h j (by omega)
/-- The value of a key: that of its first entry, else 0. -/
def atM : List Ent → Int → Int
  | [], _ => 0
  | e :: r, key => if e.1 = key then e.2 else atM r key
def Absent (l : List Ent) (key : Int) (k : Nat) : Prop := ∀ j, j < k → (l.getD j (0, 0)).1 ≠ key
theorem Absent.zero (l : List Ent) (key : Int) : Absent l key 0 := fun j hj => absurd hj (Nat.not_lt_zero j)
theorem Absent.next {l : List Ent} {key : Int} {k : Nat} (h : Absent l key k) (hk : (l.getD k (0, 0)).1 ≠ key) : Absent l key (k + 1) := by
  intro j hj
  by_cases e : j = k
  · rw [e]; exact hk
  · exact h j (by omega)
theorem atM_hit : ∀ (l : List Ent) (key : Int) (k : Nat), k < l.length → Absent l key k → (l.getD k (0, 0)).1 = key → atM l key = (l.getD k (0, 0)).2 := by
  intro l; induction l with
  | nil => intro key k h; cases h
  | cons e r ih =>
    intro key k h ha he
    cases k with
    | zero => simp at he; simp [atM, he]
    | succ k =>
      have h0 : e.1 ≠ key := by simpa using ha 0 (by omega)
      simp only [atM, if_neg h0, List.getD_cons_succ] at he ⊢
      exact ih key k (by simpa using h) (fun j hj => by simpa using ha (j + 1) (by omega)) he
theorem atM_miss : ∀ (l : List Ent) (key : Int), Absent l key l.length → atM l key = 0 := by
  intro l; induction l with
  | nil => intro key _; rfl
  | cons e r ih =>
    intro key ha
    have h0 : e.1 ≠ key := by simpa using ha 0 (by simp)
    simp only [atM, if_neg h0]
    exact ih key (fun j hj => by simpa using ha (j + 1) (by simp; omega))
def valueM (l : List Ent) (key : Int) : Int := if storeB l && inB key 0 31 then atM l key else -1
/-- The sum of all values. -/
def sumV : List Ent → Int
  | [] => 0
  | e :: r => e.2 + sumV r
def totalM (l : List Ent) : Int := if storeB l then sumV l else -1
theorem sumV_append (l m : List Ent) : sumV (l ++ m) = sumV l + sumV m := by
  induction l with
  | nil => simp [sumV]
  | cons e r ih => simp only [List.cons_append, sumV, ih]; omega
theorem okAt_bd {l : List Ent} {k : Nat} (h : okAt l k = true) :
    0 ≤ (l.getD k (0, 0)).1 ∧ (l.getD k (0, 0)).1 ≤ 31 ∧ 1 ≤ (l.getD k (0, 0)).2 ∧ (l.getD k (0, 0)).2 ≤ 1000000 ∧ (0 < k → (l.getD (k - 1) (0, 0)).1 < (l.getD k (0, 0)).1) := by
  simp only [okAt, Bool.and_eq_true, Bool.or_eq_true, beq_iff_eq, decide_eq_true_eq] at h
  obtain ⟨⟨h1, h2⟩, h3⟩ := h
  have := inB_true h1; have := inB_true h2
  exact ⟨by omega, by omega, by omega, by omega, fun hk => by omega⟩
/-- Keys grow at least as fast as places: a valid store has at most 32 entries. -/
theorem store_key_ge {l : List Ent} (h : storeB l = true) (k : Nat) (hk : k < l.length) : (k : Int) ≤ (l.getD k (0, 0)).1 := by
  induction k with
  | zero => have := okAt_bd ((storeB_iff l).1 h 0 hk); omega
  | succ k ih =>
    have := okAt_bd ((storeB_iff l).1 h (k + 1) hk)
    have h2 := this.2.2.2.2 (by omega)
    have := ih (by omega)
    rw [Nat.add_sub_cancel] at h2
    omega
theorem store_len {l : List Ent} (h : storeB l = true) : l.length ≤ 32 := by
  rcases Nat.lt_or_ge 32 l.length with hl | hl
  · have h1 := store_key_ge h 32 hl
    have := okAt_bd ((storeB_iff l).1 h 32 hl)
    omega
  · exact hl
theorem takeE_snoc (l : List Ent) (k : Nat) (h : k < l.length) : l.take (k + 1) = l.take k ++ [l.getD k (0, 0)] := by
  rw [List.take_succ_eq_append_getElem h, List.getD_eq_getElem?_getD, List.getElem?_eq_getElem h]; rfl
theorem sumV_take {l : List Ent} (h : storeB l = true) (k : Nat) (hk : k ≤ l.length) : 0 ≤ sumV (l.take k) ∧ sumV (l.take k) ≤ 1000000 * k ∧ (k : Int) ≤ sumV (l.take k) := by
  induction k with
  | zero => simp [sumV]
  | succ k ih =>
    have := ih (by omega)
    have hb := okAt_bd ((storeB_iff l).1 h k (by omega))
    rw [takeE_snoc l k (by omega), sumV_append]
    simp only [sumV]
    omega
/-- One step of the model's Put: what has been gathered, and whether the new entry is placed. -/
def putStep (key val : Int) (st : List Ent × Bool) (e : Ent) : List Ent × Bool :=
  let st1 := if !st.2 && decide (key ≤ e.1) then (st.1 ++ [(key, val)], true) else st
  if e.1 = key then st1 else (st1.1 ++ [e], st1.2)
def putFold (key val : Int) (l : List Ent) : List Ent × Bool := l.foldl (putStep key val) ([], val == 0)
def putRaw (key val : Int) (l : List Ent) : List Ent := if (putFold key val l).2 then (putFold key val l).1 else (putFold key val l).1 ++ [(key, val)]
theorem putFold_snoc (key val : Int) (l : List Ent) (e : Ent) : putFold key val (l ++ [e]) = putStep key val (putFold key val l) e := by simp [putFold]
theorem putStep_len (key val : Int) (st : List Ent × Bool) (e : Ent) : (putStep key val st e).1.length ≤ st.1.length + 2 := by
  unfold putStep
  split <;> split <;> simp <;> omega
theorem putFold_len (key val : Int) (l : List Ent) : (putFold key val l).1.length ≤ 2 * l.length := by
  suffices h : ∀ (l : List Ent) (st : List Ent × Bool), (l.foldl (putStep key val) st).1.length ≤ st.1.length + 2 * l.length by
    have := h l ([], val == 0); simpa [putFold] using this
  intro l; induction l with
  | nil => intro st; simp
  | cons e r ih => intro st; have := ih (putStep key val st e); have := putStep_len key val st e; simp only [List.foldl_cons, List.length_cons]; omega
/-- What PutValue gives: the entries, and whether it was possible. -/
def putM (l : List Ent) (key val : Int) : List Ent × Bool :=
  if storeB l then (if inB key 0 31 && inB val 0 1000000 then (putRaw key val l, true) else (l, false)) else ([], false)
/-- The keys 0..31 whose values differ. -/
def changedM (a b : List Ent) : List Int :=
  if storeB a && storeB b then ((List.range 32).map (fun k : Nat => (k : Int))).filter (fun key => decide (atM a key ≠ atM b key)) else []
theorem putM_len (l : List Ent) (key val : Int) : (putM l key val).1.length ≤ l.length + 100 := by
  unfold putM
  split
  · rename_i hs
    have := store_len hs
    split
    · have := putFold_len key val l
      unfold putRaw
      split <;> simp <;> omega
    · simp
  · simp
end Go.Proofs.Ytpaeioabmmkheaa
