/- Actions: plain mathematics. No function of the program is named here. -/
import Derived.Test.YtkoolemlnmolfaaCore
namespace Go.Proofs.Ytkoolemlnmolfaa
/-- An action. -/
structure Acn where
  kind : Int
  src : Int
  dst : Int
  amt : Int
/-- The zero action. -/
def noA : Acn := ⟨0, 0, 0, 0⟩
/-- What a kind has no use for is 0; false for numbers that are no kind. -/
def restB (k d m : Int) : Bool :=
  if k = 1 ∨ k = 6 then decide (d = 0) else if k = 2 then true else if k = 3 ∨ k = 4 ∨ k = 5 then decide (m = 0) else false
/-- The action is valid. -/
def actB (x : Acn) : Bool := inB x.src 0 31 && inB x.dst 0 31 && inB x.amt 0 1000000 && restB x.kind x.dst x.amt
/-- The number is a kind. -/
def kindB (k : Int) : Bool := decide (1 ≤ k ∧ k ≤ 6)
theorem kind_cases (k : Int) : k = 1 ∨ k = 2 ∨ k = 3 ∨ k = 4 ∨ k = 5 ∨ k = 6 ∨ (k ≠ 1 ∧ k ≠ 2 ∧ k ≠ 3 ∧ k ≠ 4 ∧ k ≠ 5 ∧ k ≠ 6) := by omega
theorem restB_no {k d m : Int} (h : k ≠ 1 ∧ k ≠ 2 ∧ k ≠ 3 ∧ k ≠ 4 ∧ k ≠ 5 ∧ k ≠ 6) : restB k d m = false := by
  unfold restB
  rw [if_neg (by omega), if_neg (by omega), if_neg (by omega)]
theorem actB_src {k s d m : Int} (h : inB s 0 31 = false) : actB ⟨k, s, d, m⟩ = false := by simp [actB, h]
theorem actB_dst {k s d m : Int} (h : inB d 0 31 = false) : actB ⟨k, s, d, m⟩ = false := by simp [actB, h]
theorem actB_amt {k s d m : Int} (h : inB m 0 1000000 = false) : actB ⟨k, s, d, m⟩ = false := by simp [actB, h]
theorem actB_rest {k s d m : Int} (h0 : inB s 0 31 = true) (h1 : inB d 0 31 = true) (h2 : inB m 0 1000000 = true) : actB ⟨k, s, d, m⟩ = restB k d m := by simp [actB, h0, h1, h2]
theorem actB_kind {k s d m : Int} (h : k ≠ 1 ∧ k ≠ 2 ∧ k ≠ 3 ∧ k ≠ 4 ∧ k ≠ 5 ∧ k ≠ 6) : actB ⟨k, s, d, m⟩ = false := by simp [actB, restB_no h]
/-- Two keys, each once. -/
def onceM (a b : Int) : List Int := if a = b then [a] else [a, b]
/-- Two keys, ascending, each once. -/
def ascM (a b : Int) : List Int := onceM (min a b) (max a b)
/-- What is read by an action of a kind. -/
def readsK (k s d : Int) : List Int := if k = 1 then [] else if k = 3 ∨ k = 6 then [s] else onceM s d
/-- What may be written by an action of a kind. -/
def writesK (k s d : Int) : List Int := if k = 1 ∨ k = 6 then [s] else if k = 3 ∨ k = 5 then [d] else ascM s d
/-- The keys that are read. -/
def readsM (x : Acn) : List Int := if actB x then readsK x.kind x.src x.dst else []
/-- The keys that may be written. -/
def writesM (x : Acn) : List Int := if actB x then writesK x.kind x.src x.dst else []
/-- At most ten, all valid. -/
def actsB (l : List Acn) : Bool := decide (l.length ≤ 10) && l.all actB
theorem kind_of {x : Acn} (h : actB x = true) : 1 ≤ x.kind ∧ x.kind ≤ 6 := by
  rcases kind_cases x.kind with e | e | e | e | e | e | e
  · omega
  · omega
  · omega
  · omega
  · omega
  · omega
  · have : actB ⟨x.kind, x.src, x.dst, x.amt⟩ = false := actB_kind e
    rw [this] at h; cases h
theorem once_bd {a b : Int} {P : Int → Prop} (ha : P a) (hb : P b) : ∀ x ∈ onceM a b, P x := by
  unfold onceM; split <;> simp [ha, hb]
theorem once_len (a b : Int) : 1 ≤ (onceM a b).length ∧ (onceM a b).length ≤ 2 := by unfold onceM; split <;> simp
theorem actB_bd {x : Acn} (h : actB x = true) : (0 ≤ x.src ∧ x.src ≤ 31) ∧ (0 ≤ x.dst ∧ x.dst ≤ 31) ∧ 0 ≤ x.amt ∧ x.amt ≤ 1000000 := by
  simp only [actB, Bool.and_eq_true] at h
  exact ⟨inB_true h.1.1.1, inB_true h.1.1.2, inB_true h.1.2⟩
theorem readsM_bd (x : Acn) : ∀ n ∈ readsM x, 0 ≤ n ∧ n ≤ 31 := by
  unfold readsM
  split
  · rename_i h
    have := actB_bd h
    unfold readsK
    split
    · intro n hn; cases hn
    · split
      · intro n hn; simp at hn; subst hn; exact this.1
      · exact once_bd this.1 this.2.1
  · intro n hn; cases hn
theorem writesM_bd (x : Acn) : ∀ n ∈ writesM x, 0 ≤ n ∧ n ≤ 31 := by
  unfold writesM
  split
  · rename_i h
    have := actB_bd h
    unfold writesK
    split
    · intro n hn; simp at hn; subst hn; exact this.1
    · split
      · intro n hn; simp at hn; subst hn; exact this.2.1
      · exact once_bd (by omega) (by omega)
  · intro n hn; cases hn
theorem readsM_len (x : Acn) : (readsM x).length ≤ 2 := by
  unfold readsM
  split
  · unfold readsK
    split
    · simp
    · split
      · simp
      · exact (once_len _ _).2
  · simp
theorem writesM_len (x : Acn) : (writesM x).length ≤ 2 := by
  unfold writesM
  split
  · unfold writesK
    split
    · simp
    · split
      · simp
      · exact (once_len _ _).2
  · simp
theorem actsB_no {l : List Acn} (h : 10 < l.length) : actsB l = false := by
  unfold actsB
  have : decide (l.length ≤ 10) = false := by simp; omega
  rw [this]; rfl
theorem actsB_bad {l : List Acn} {x : Acn} (hx : x ∈ l) (h : actB x = false) : actsB l = false := by
  unfold actsB
  have : l.all actB = false := by
    rw [List.all_eq_false]; exact ⟨x, hx, by simp [h]⟩
  rw [this]; simp
theorem actsB_yes {l : List Acn} (h0 : l.length ≤ 10) (h : ∀ x ∈ l, actB x = true) : actsB l = true := by
  unfold actsB
  rw [Bool.and_eq_true, decide_eq_true_eq, List.all_eq_true]; exact ⟨h0, h⟩
theorem actsB_true {l : List Acn} (h : actsB l = true) : l.length ≤ 10 ∧ ∀ x ∈ l, actB x = true := by
  unfold actsB at h
  rw [Bool.and_eq_true, decide_eq_true_eq, List.all_eq_true] at h; exact h
theorem actsB_take {l : List Acn} (h : actsB l = true) (k : Nat) : actsB (l.take k) = true := by
  obtain ⟨h0, h1⟩ := actsB_true h
  exact actsB_yes (by rw [List.length_take]; omega) (fun x hx => h1 x (List.mem_of_mem_take hx))
theorem actsB_zero (l : List Acn) : actsB (l ++ [noA]) = false := actsB_bad (x := noA) (by simp) (by decide)
/-- The first k actions are valid. -/
def OkActs (l : List Acn) (k : Nat) : Prop := ∀ j, j < k → actB (l.getD j noA) = true
theorem OkActs.next {l : List Acn} {k : Nat} (h : OkActs l k) (hk : actB (l.getD k noA) = true) : OkActs l (k + 1) := by
  intro j hj
  rcases (by omega : j < k ∨ j = k) with h1 | rfl
  · exact h j h1
  · exact hk
theorem getD_memA (l : List Acn) (k : Nat) (h : k < l.length) : l.getD k noA ∈ l := by
  rw [List.getD_eq_getElem?_getD, List.getElem?_eq_getElem h]; exact List.getElem_mem h
theorem OkActs.all {l : List Acn} (h : OkActs l l.length) : ∀ x ∈ l, actB x = true := by
  intro x hx
  obtain ⟨j, hj, rfl⟩ := List.getElem_of_mem hx
  have := h j hj
  rwa [List.getD_eq_getElem?_getD, List.getElem?_eq_getElem hj] at this
end Go.Proofs.Ytkoolemlnmolfaa
