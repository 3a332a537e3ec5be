/- Texts of ours that stand together: ConfMath, ConfMath2, MaskMath, ConfMem, LevMath, LevMath2, LevMath3 -/
import Derived.Test.YtfhbolpchmdaoaaEff
import Derived.Laws.Bits64b
import Derived.IntWalk
import Derived.Test.YtfhbolpchmdaoaaLay
import Derived.Test.YtfhbolpchmdaoaaConv
import Derived.Deep.AppendLies
import Derived.Maps.AppendAt
/- Conflicts, levels, orders: plain mathematics. No function of the program is named here. -/
namespace Go.Proofs.Ytfhbolpchmdaoaa
/-- The two lists have a number in common. -/
def commonM (a b : List Int) : Bool := a.any (fun x => b.any (fun y => decide (x = y)))
theorem commonM_iff {a b : List Int} : commonM a b = true ↔ ∃ x, x ∈ a ∧ x ∈ b := by
  unfold commonM
  rw [List.any_eq_true]
  constructor
  · rintro ⟨x, hx, h⟩
    obtain ⟨y, hy, e⟩ := List.any_eq_true.1 h
    rw [decide_eq_true_eq] at e
    subst e
    exact ⟨x, hx, hy⟩
  · rintro ⟨x, hx, hy⟩
    exact ⟨x, hx, List.any_eq_true.2 ⟨x, hy, by simp⟩⟩
theorem commonM_yes {a b : List Int} {x : Int} (h : x ∈ a) (h2 : x ∈ b) : commonM a b = true := commonM_iff.2 ⟨x, h, h2⟩
theorem commonM_no {a b : List Int} (h : ∀ x ∈ a, x ∉ b) : commonM a b = false := by
  cases e : commonM a b with
  | false => rfl
  | true => obtain ⟨x, hx, hy⟩ := commonM_iff.1 e; exact absurd hy (h x hx)
theorem commonM_symm (a b : List Int) : commonM a b = commonM b a := by
  rw [Bool.eq_iff_iff, commonM_iff, commonM_iff]
  exact ⟨fun ⟨x, h1, h2⟩ => ⟨x, h2, h1⟩, fun ⟨x, h1, h2⟩ => ⟨x, h2, h1⟩⟩
/-- The two actions are in conflict. -/
def confM (x y : Acn) : Bool := commonM (writesM x) (writesM y) || commonM (writesM x) (readsM y) || commonM (readsM x) (writesM y)
theorem confM_symm (x y : Acn) : confM x y = confM y x := by
  unfold confM
  rw [commonM_symm (writesM x) (writesM y), commonM_symm (writesM x) (readsM y), commonM_symm (readsM x) (writesM y)]
  cases commonM (writesM y) (writesM x) <;> cases commonM (readsM y) (writesM x) <;> cases commonM (writesM y) (readsM x) <;> rfl
theorem confM_ww {x y : Acn} {k : Int} (h : k ∈ writesM x) (h2 : k ∈ writesM y) : confM x y = true := by simp [confM, commonM_yes h h2]
theorem confM_wr {x y : Acn} {k : Int} (h : k ∈ writesM x) (h2 : k ∈ readsM y) : confM x y = true := by simp [confM, commonM_yes h h2]
theorem confM_bad {x y : Acn} (h : actB x = false ∨ actB y = false) : confM x y = false := by
  have e : ∀ (l : List Int), commonM l [] = false := fun l => commonM_no (fun x _ => by simp)
  have e' : ∀ (l : List Int), commonM [] l = false := fun l => commonM_no (fun x h => by cases h)
  rcases h with h | h
  · simp [confM, readsM, writesM, h, e']
  · simp [confM, readsM, writesM, h, e]
theorem confM_self {x : Acn} : confM x x = actB x := by
  cases h : actB x with
  | false => exact confM_bad (.inl h)
  | true =>
    have := (writes_two h).1
    obtain ⟨k, hk⟩ := List.exists_mem_of_length_pos (by omega : 0 < (writesM x).length)
    exact confM_ww hk hk
/-- The first k of the list have none of the other's. -/
def NoCom (a b : List Int) (k : Nat) : Prop := ∀ i, i < k → a.getD i 0 ∉ b
def NoneIn (x : Int) (b : List Int) (j : Nat) : Prop := ∀ i, i < j → x ≠ b.getD i 0
theorem getD_memI (l : List Int) (k : Nat) (h : k < l.length) : l.getD k 0 ∈ l := by
  rw [List.getD_eq_getElem?_getD, List.getElem?_eq_getElem h]; exact List.getElem_mem h
theorem mem_getDI {l : List Int} {x : Int} (h : x ∈ l) : ∃ i, i < l.length ∧ l.getD i 0 = x := by
  obtain ⟨i, hi, rfl⟩ := List.getElem_of_mem h
  exact ⟨i, hi, by rw [List.getD_eq_getElem?_getD, List.getElem?_eq_getElem hi]; rfl⟩
theorem NoneIn.all {x : Int} {b : List Int} (h : NoneIn x b b.length) : x ∉ b := fun hx => by
  obtain ⟨i, hi, e⟩ := mem_getDI hx
  exact h i hi e.symm
theorem NoneIn.next {x : Int} {b : List Int} {j : Nat} (h : NoneIn x b j) (hj : x ≠ b.getD j 0) : NoneIn x b (j + 1) := by
  intro i hi
  rcases (by omega : i < j ∨ i = j) with h1 | rfl
  · exact h i h1
  · exact hj
theorem NoCom.next {a b : List Int} {k : Nat} (h : NoCom a b k) (hk : a.getD k 0 ∉ b) : NoCom a b (k + 1) := by
  intro i hi
  rcases (by omega : i < k ∨ i = k) with h1 | rfl
  · exact h i h1
  · exact hk
theorem NoCom.all {a b : List Int} (h : NoCom a b a.length) : commonM a b = false := commonM_no fun x hx => by
  obtain ⟨i, hi, e⟩ := mem_getDI hx
  rw [← e]; exact h i hi
/-! Levels. -/
/-- The level of the action k, seen from the first j: by the levels out. -/
def maxLv (L : List Acn) (out : List Int) (k : Nat) : Nat → Int
  | 0 => 0
  | j + 1 => if confM (L.getD j noA) (L.getD k noA) then max (maxLv L out k j) (out.getD j 0 + 1) else maxLv L out k j
/-- The levels of the first k actions. -/
def levN (L : List Acn) : Nat → List Int
  | 0 => []
  | k + 1 => levN L k ++ [maxLv L (levN L k) k k]
/-- What LevelsOf answers. -/
def levelsM (L : List Acn) : List Int := if actsB L then levN L L.length else []
theorem levN_len (L : List Acn) (k : Nat) : (levN L k).length = k := by
  induction k with
  | zero => rfl
  | succ k ih => simp [levN, ih]
theorem levelsM_len {L : List Acn} (h : actsB L = true) : (levelsM L).length = L.length := by rw [levelsM, if_pos h, levN_len]
theorem levelsM_no {L : List Acn} (h : actsB L = false) : levelsM L = [] := by simp [levelsM, h]
theorem getD_appI (l m : List Int) (k : Nat) (h : k < l.length) : (l ++ m).getD k 0 = l.getD k 0 := by
  rw [List.getD_eq_getElem?_getD, List.getD_eq_getElem?_getD, List.getElem?_append_left h]
theorem getD_lastI (l : List Int) (x : Int) : (l ++ [x]).getD l.length 0 = x := by
  rw [List.getD_eq_getElem?_getD, List.getElem?_append_right (Nat.le_refl _)]; simp
theorem levN_get (L : List Acn) (j : Nat) : ∀ k, j < k → (levN L k).getD j 0 = maxLv L (levN L j) j j := by
  intro k
  induction k with
  | zero => intro h; omega
  | succ k ih =>
    intro h
    rw [levN]
    rcases (by omega : j < k ∨ j = k) with h1 | rfl
    · rw [getD_appI _ _ _ (by rw [levN_len]; exact h1)]; exact ih h1
    · conv => lhs; rw [show j = (levN L j).length from (levN_len L j).symm]
      rw [levN_len]
      have := getD_lastI (levN L j) (maxLv L (levN L j) j j)
      rw [levN_len] at this; exact this
theorem maxLv_congr (L : List Acn) (o p : List Int) (k : Nat) : ∀ j, (∀ i, i < j → o.getD i 0 = p.getD i 0) → maxLv L o k j = maxLv L p k j := by
  intro j
  induction j with
  | zero => intro _; rfl
  | succ j ih =>
    intro h
    simp only [maxLv]
    rw [ih (fun i hi => h i (by omega)), h j (by omega)]
/-- The level of the action k of n. -/
theorem levN_at (L : List Acn) (n k : Nat) (h : k < n) : (levN L n).getD k 0 = maxLv L (levN L n) k k := by
  rw [levN_get L k n h]
  exact maxLv_congr _ _ _ _ _ fun i hi => by rw [levN_get L i k hi, levN_get L i n (by omega)]
theorem maxLv_bd (L : List Acn) (o : List Int) (k : Nat) : ∀ j, (∀ i, i < j → 0 ≤ o.getD i 0 ∧ o.getD i 0 ≤ i) → 0 ≤ maxLv L o k j ∧ maxLv L o k j ≤ j := by
  intro j
  induction j with
  | zero => intro _; exact ⟨Int.le_refl _, Int.le_refl _⟩
  | succ j ih =>
    intro h
    have h1 := ih fun i hi => h i (by omega)
    have h2 := h j (by omega)
    simp only [maxLv]
    split
    · omega
    · omega
theorem levN_bd (L : List Acn) (n : Nat) : ∀ k, k < n → 0 ≤ (levN L n).getD k 0 ∧ (levN L n).getD k 0 ≤ k := by
  intro k
  induction k using Nat.strongRecOn with
  | ind k ih =>
    intro h
    rw [levN_at L n k h]
    exact maxLv_bd L _ k k fun i hi => ih i hi (by omega)
theorem maxLv_ge (L : List Acn) (o : List Int) (k : Nat) : ∀ j i, i < j → confM (L.getD i noA) (L.getD k noA) = true → o.getD i 0 + 1 ≤ maxLv L o k j := by
  intro j
  induction j with
  | zero => intro i h; omega
  | succ j ih =>
    intro i h hc
    simp only [maxLv]
    rcases (by omega : i < j ∨ i = j) with h1 | rfl
    · have := ih i h1 hc
      split <;> omega
    · rw [if_pos hc]; omega
theorem maxLv_of (L : List Acn) (o : List Int) (k : Nat) : ∀ j, maxLv L o k j = 0 ∨ ∃ i, i < j ∧ confM (L.getD i noA) (L.getD k noA) = true ∧ maxLv L o k j = o.getD i 0 + 1 := by
  intro j
  induction j with
  | zero => exact .inl rfl
  | succ j ih =>
    simp only [maxLv]
    by_cases hc : confM (L.getD j noA) (L.getD k noA) = true
    · rw [if_pos hc]
      rcases (by omega : max (maxLv L o k j) (o.getD j 0 + 1) = maxLv L o k j ∨ max (maxLv L o k j) (o.getD j 0 + 1) = o.getD j 0 + 1) with e | e
      · rw [e]
        rcases ih with h | ⟨i, h1, h2, h3⟩
        · exact .inl h
        · exact .inr ⟨i, by omega, h2, h3⟩
      · exact .inr ⟨j, by omega, hc, e⟩
    · rw [if_neg hc]
      rcases ih with h | ⟨i, h1, h2, h3⟩
      · exact .inl h
      · exact .inr ⟨i, by omega, h2, h3⟩
theorem lev_up {L : List Acn} (hL : actsB L = true) {i k : Nat} (hk : k < L.length) (hi : i < k) (hc : confM (L.getD i noA) (L.getD k noA) = true) : (levelsM L).getD i 0 + 1 ≤ (levelsM L).getD k 0 := by
  rw [levelsM, if_pos hL]
  conv => rhs; rw [levN_at L _ k hk]
  exact maxLv_ge L _ k k i hi hc
theorem lev_of {L : List Acn} (hL : actsB L = true) {k : Nat} (hk : k < L.length) : (levelsM L).getD k 0 = 0 ∨ ∃ i, i < k ∧ confM (L.getD i noA) (L.getD k noA) = true ∧ (levelsM L).getD i 0 = (levelsM L).getD k 0 - 1 := by
  rw [levelsM, if_pos hL]
  have e := levN_at L L.length k hk
  rcases maxLv_of L (levN L L.length) k k with h | ⟨i, h1, h2, h3⟩
  · exact .inl (e.trans h)
  · exact .inr ⟨i, h1, h2, by omega⟩
theorem lev_bd {L : List Acn} (hL : actsB L = true) {k : Nat} (hk : k < L.length) : 0 ≤ (levelsM L).getD k 0 ∧ (levelsM L).getD k 0 ≤ k := by
  rw [levelsM, if_pos hL]; exact levN_bd L _ k hk
theorem levelsM_wf (L : List Acn) : ∀ x ∈ levelsM L, 0 ≤ x ∧ x ≤ 10 := by
  intro x hx
  cases hL : actsB L with
  | false => rw [levelsM_no hL] at hx; cases hx
  | true =>
    obtain ⟨i, hi, rfl⟩ := mem_getDI hx
    rw [levelsM_len hL] at hi
    have := lev_bd hL hi
    have := (actsB_true hL).1
    omega
/-! Orders. -/
/-- What is asked of the place k of an order: a number that was not there before, and none before it that is greater and in conflict. -/
def FitAt (L : List Acn) (O : List Int) (k : Nat) : Prop :=
  (0 ≤ O.getD k 0 ∧ O.getD k 0 < L.length) ∧ ∀ j, j < k → O.getD j 0 ≠ O.getD k 0 ∧ ¬ (O.getD k 0 < O.getD j 0 ∧ confM (L.getD (O.getD j 0).toNat noA) (L.getD (O.getD k 0).toNat noA) = true)
instance (L : List Acn) (O : List Int) (k : Nat) : Decidable (FitAt L O k) := by unfold FitAt; infer_instance
/-- The first k places. -/
def FitTo (L : List Acn) (O : List Int) (k : Nat) : Prop := ∀ i, i < k → FitAt L O i
instance (L : List Acn) (O : List Int) (k : Nat) : Decidable (FitTo L O k) := by unfold FitTo; infer_instance
/-- The order fits. -/
def fitsM (L : List Acn) (O : List Int) : Bool := actsB L && decide (O.length = L.length ∧ FitTo L O O.length)
theorem fitsM_true {L : List Acn} {O : List Int} (h : fitsM L O = true) : actsB L = true ∧ O.length = L.length ∧ FitTo L O L.length := by
  unfold fitsM at h
  rw [Bool.and_eq_true, decide_eq_true_eq] at h
  exact ⟨h.1, h.2.1, h.2.1 ▸ h.2.2⟩
theorem fitsM_yes {L : List Acn} {O : List Int} (h : actsB L = true) (h2 : O.length = L.length) (h3 : FitTo L O L.length) : fitsM L O = true := by
  unfold fitsM
  rw [Bool.and_eq_true, decide_eq_true_eq]
  exact ⟨h, h2, h2 ▸ h3⟩
theorem fitsM_acts {L : List Acn} {O : List Int} (h : actsB L = false) : fitsM L O = false := by simp [fitsM, h]
theorem fitsM_len {L : List Acn} {O : List Int} (h : O.length ≠ L.length) : fitsM L O = false := by simp [fitsM, h]
theorem fitsM_bad {L : List Acn} {O : List Int} {k : Nat} (hk : k < L.length) (h : ¬ FitAt L O k) : fitsM L O = false := by
  cases e : fitsM L O with
  | false => rfl
  | true => exact absurd ((fitsM_true e).2.2 k hk) h
theorem FitTo.next {L : List Acn} {O : List Int} {k : Nat} (h : FitTo L O k) (hk : FitAt L O k) : FitTo L O (k + 1) := by
  intro i hi
  rcases (by omega : i < k ∨ i = k) with h1 | rfl
  · exact h i h1
  · exact hk
/-- Numbers below n, all different, as many as n: each of them is there. -/
theorem pigeon : ∀ (n : Nat) (f : Nat → Nat), (∀ i, i < n → f i < n) → (∀ i j, i < j → j < n → f i ≠ f j) → ∀ m, m < n → ∃ i, i < n ∧ f i = m := by
  intro n
  induction n with
  | zero => intro f _ _ m h; omega
  | succ n ih =>
    intro f hf hd m hm
    by_cases hl : f n = m
    · exact ⟨n, by omega, hl⟩
    · -- the value n is moved to where f n was
      have h1 : ∀ i, i < n → (if f i = n then f n else f i) < n := by
        intro i hi
        split
        · rename_i e
          have := hd i n hi (by omega)
          have := hf n (by omega)
          omega
        · have := hf i (by omega); omega
      have h2 : ∀ i j, i < j → j < n → (if f i = n then f n else f i) ≠ (if f j = n then f n else f j) := by
        intro i j hij hj
        have := hd i j hij (by omega)
        have := hd i n (by omega) (by omega)
        have := hd j n (by omega) (by omega)
        split <;> split <;> omega
      by_cases hmn : m = n
      · -- n itself: someone below n has it, or f n has it
        subst hmn
        by_cases hex : ∃ i, i < m ∧ f i = m
        · obtain ⟨i, hi, e⟩ := hex; exact ⟨i, by omega, e⟩
        · have hne : ∀ i, i < m → f i ≠ m := fun i hi e => hex ⟨i, hi, e⟩
          have hfm : f m < m := by have := hf m (by omega); omega
          obtain ⟨i, hi, e⟩ := ih f (fun i hi => by have := hf i (by omega); have := hne i hi; omega) (fun i j hij hj => hd i j hij (by omega)) (f m) hfm
          exact absurd e (hd i m hi (by omega))
      · obtain ⟨i, hi, e⟩ := ih _ h1 h2 m (by omega)
        by_cases hfi : f i = n
        · simp only [hfi, if_true] at e; exact absurd e hl
        · simp only [hfi, if_false] at e; exact ⟨i, by omega, e⟩
/-- A fitting order has every number. -/
theorem fit_all {L : List Acn} {O : List Int} (h : FitTo L O L.length) (m : Nat) (hm : m < L.length) : ∃ i, i < L.length ∧ O.getD i 0 = m := by
  obtain ⟨i, hi, e⟩ := pigeon L.length (fun i => (O.getD i 0).toNat) (fun i hi => by have := (h i hi).1; omega)
    (fun i j hij hj => by have := ((h j hj).2 i hij).1; have := (h j hj).1; have := (h i (by omega)).1; omega) m hm
  exact ⟨i, hi, by have := (h i hi).1; omega⟩
/-- The number m is among the first k. -/
def AmongO (O : List Int) (k : Nat) (m : Nat) : Prop := ∃ j, j < k ∧ O.getD j 0 = m
theorem fit_before {L : List Acn} {O : List Int} (h : FitTo L O L.length) {k m : Nat} (hk : k < L.length) (hm : (m : Int) < O.getD k 0) (hc : confM (L.getD m noA) (L.getD (O.getD k 0).toNat noA) = true) : AmongO O k m := by
  have hO := (h k hk).1
  obtain ⟨i, hi, e⟩ := fit_all h m (by omega)
  rcases (by omega : i < k ∨ i = k ∨ k < i) with h1 | rfl | h1
  · exact ⟨i, h1, e⟩
  · omega
  · exact absurd ⟨by omega, by rw [e]; rw [confM_symm]; exact hc⟩ ((h i hi).2 k h1).2
/-- The program's way: every one in conflict with a lesser number was there before. -/
def FitBy (L : List Acn) (O : List Int) (k : Nat) : Prop :=
  (0 ≤ O.getD k 0 ∧ O.getD k 0 < L.length) ∧ (∀ j, j < k → O.getD j 0 ≠ O.getD k 0) ∧ ∀ m : Nat, (m : Int) < O.getD k 0 → confM (L.getD m noA) (L.getD (O.getD k 0).toNat noA) = true → AmongO O k m
theorem fitAt_of_by {L : List Acn} {O : List Int} {n : Nat} (h : ∀ k, k < n → FitBy L O k) : FitTo L O n := by
  intro k hk
  obtain ⟨h1, h2, h3⟩ := h k hk
  refine ⟨h1, fun j hj => ⟨h2 j hj, fun ⟨h4, h5⟩ => ?_⟩⟩
  obtain ⟨g1, g2, g3⟩ := h j (by omega)
  obtain ⟨i, hi, e⟩ := g3 (O.getD k 0).toNat (by omega) (by rw [confM_symm]; exact h5)
  exact h2 i (by omega) (by omega)
theorem by_of_fit {L : List Acn} {O : List Int} (h : FitTo L O L.length) {k : Nat} (hk : k < L.length) : FitBy L O k :=
  ⟨(h k hk).1, fun j hj => ((h k hk).2 j hj).1, fun _ hm hc => fit_before h hk hm hc⟩
theorem fitsM_byNo {L : List Acn} {O : List Int} {k : Nat} (hk : k < L.length) (h : ¬ FitBy L O k) : fitsM L O = false := by
  cases e : fitsM L O with
  | false => rfl
  | true => exact absurd (by_of_fit (fitsM_true e).2.2 hk) h
theorem fitsM_byYes {L : List Acn} {O : List Int} (h : actsB L = true) (h2 : O.length = L.length) (h3 : ∀ k, k < L.length → FitBy L O k) : fitsM L O = true := fitsM_yes h h2 (fitAt_of_by h3)
/-- The order of the numbers fits. -/
def plainM (n : Nat) : List Int := (List.range n).map (fun k : Nat => (k : Int))
theorem plainM_len (n : Nat) : (plainM n).length = n := by simp [plainM]
theorem plainM_get (n k : Nat) (h : k < n) : (plainM n).getD k 0 = k := by
  rw [List.getD_eq_getElem?_getD, plainM, List.getElem?_map, List.getElem?_range h]; rfl
theorem plain_fits {L : List Acn} (h : actsB L = true) : fitsM L (plainM L.length) = true := by
  refine fitsM_yes h (plainM_len _) fun k hk => ?_
  unfold FitAt
  rw [plainM_get _ _ hk]
  refine ⟨by omega, fun j hj => ?_⟩
  rw [plainM_get _ _ (by omega)]
  exact ⟨by omega, fun ⟨h1, _⟩ => by omega⟩
theorem twice_unfit {L : List Acn} {O : List Int} (h : O.getD 0 0 = O.getD 1 0) (h2 : 2 ≤ L.length) : fitsM L O = false := by
  refine fitsM_bad (k := 1) (by omega) fun hf => ?_
  exact (hf.2 0 (by omega)).1 h
end Go.Proofs.Ytfhbolpchmdaoaa
/- Runs in an order that fits: plain mathematics. No function of the program is named here. -/
namespace Go.Proofs.Ytfhbolpchmdaoaa
set_option linter.unusedVariables false
/-- The actions in an order. -/
def ordM (L : List Acn) (O : List Int) : List Acn := O.map (fun n => L.getD n.toNat noA)
theorem ordM_len (L : List Acn) (O : List Int) : (ordM L O).length = O.length := by simp [ordM]
theorem ordM_get (L : List Acn) (O : List Int) (k : Nat) (h : k < O.length) : (ordM L O).getD k noA = L.getD (O.getD k 0).toNat noA := by
  rw [List.getD_eq_getElem?_getD, ordM, List.getElem?_map, List.getElem?_eq_getElem h, List.getD_eq_getElem?_getD (l := O), List.getElem?_eq_getElem h]; rfl
/-- The first k effects, each at its number. -/
def posL (O : List Int) (E : List Eff) : Nat → List (Option Eff)
  | 0 => List.replicate O.length none
  | k + 1 => (posL O E k).set (O.getD k 0).toNat (some (E.getD k noEff))
theorem posL_len (O : List Int) (E : List Eff) (k : Nat) : (posL O E k).length = O.length := by
  induction k with
  | zero => simp [posL]
  | succ k ih => simp [posL, ih]
/-- The effects, each at its number. -/
def placeM (O : List Int) (E : List Eff) : List Eff := (posL O E O.length).map (fun x => x.getD noEff)
theorem placeM_len (O : List Int) (E : List Eff) : (placeM O E).length = O.length := by simp [placeM, posL_len]
/-- What RunOrder answers. -/
def runOrdM (S : List Ent) (L : List Acn) (O : List Int) : List Ent × List Eff :=
  if storeB S && fitsM L O then ((serL S (ordM L O)).1, placeM O (serL S (ordM L O)).2) else ([], [])
theorem runOrdM_yes {S : List Ent} {L : List Acn} {O : List Int} (h : storeB S = true) (h2 : fitsM L O = true) : runOrdM S L O = ((serL S (ordM L O)).1, placeM O (serL S (ordM L O)).2) := by simp [runOrdM, h, h2]
theorem runOrdM_no {S : List Ent} {L : List Acn} {O : List Int} (h : (storeB S && fitsM L O) = false) : runOrdM S L O = ([], []) := by simp [runOrdM, h]
theorem ord_valid {L : List Acn} {O : List Int} (h : fitsM L O = true) : actsB (ordM L O) = true := by
  obtain ⟨h1, h2, h3⟩ := fitsM_true h
  obtain ⟨g1, g2⟩ := actsB_true h1
  refine actsB_yes (by rw [ordM_len]; omega) fun x hx => ?_
  obtain ⟨i, hi, e⟩ := List.getElem_of_mem hx
  rw [ordM_len] at hi
  have := ordM_get L O i hi
  rw [List.getD_eq_getElem?_getD, List.getElem?_eq_getElem (by rw [ordM_len]; exact hi)] at this
  have hb := (h3 i (by omega)).1
  rw [← e]
  have e2 : (ordM L O)[i]'(by rw [ordM_len]; exact hi) = L.getD (O.getD i 0).toNat noA := this
  rw [e2]
  exact g2 _ (getD_memA L _ (by omega))
/-- What an action may not write stays. -/
theorem run_still {S : List Ent} {x : Acn} (hS : storeB S = true) {k : Int} (h : k ∉ writesM x) : atM (applyM S (runM S x).wrs) k = atM S k := by
  rw [applyM_yes hS (wr_run S x), atM_applyL ((writesB_ok _).1 (wr_run S x)).1, findM_none fun e he hk => h (by rw [← hk]; exact run_keys S x e he)]
  rfl
/-- What an action makes of a key, if it reads the same. -/
theorem run_same {S T : List Ent} {x : Acn} (hS : storeB S = true) (hT : storeB T = true) (hx : runM T x = runM S x) {k : Int} (h : atM T k = atM S k) : atM (applyM T (runM T x).wrs) k = atM (applyM S (runM S x).wrs) k := by
  rw [hx, applyM_yes hS (wr_run S x), applyM_yes hT (wr_run S x), atM_applyL ((writesB_ok _).1 (wr_run S x)).1, atM_applyL ((writesB_ok _).1 (wr_run S x)).1, h]
theorem ser_get (L : List Acn) : ∀ (S : List Ent) (k : Nat), k < L.length → (serL S L).2.getD k noEff = runM (serL S (L.take k)).1 (L.getD k noA) := by
  induction L with
  | nil => intro S k h; simp at h
  | cons a r ih =>
    intro S k h
    cases k with
    | zero => rfl
    | succ k =>
      have := ih (applyM S (runM S a).wrs) k (by simpa using h)
      simpa [serL] using this
/-- Between two places of a serial run at which nobody may write a key, it stays. -/
theorem ser_still {S : List Ent} {L : List Acn} (hS : storeB S = true) {k : Int} {a : Nat} : ∀ b, a ≤ b → b ≤ L.length → (∀ j, a ≤ j → j < b → k ∉ writesM (L.getD j noA)) → atM (serL S (L.take b)).1 k = atM (serL S (L.take a)).1 k := by
  intro b
  induction b with
  | zero => intro h _ _; obtain rfl : a = 0 := by omega
            rfl
  | succ b ih =>
    intro h hb hw
    rcases (by omega : a = b + 1 ∨ a ≤ b) with rfl | h1
    · rfl
    · rw [serL_next S L b (by omega)]
      exact (run_still (store_ser _ hS) (hw b h1 (by omega))).trans (ih h1 (by omega) fun j h2 h3 => hw j h2 (by omega))
/-- Behind k actions in an order: a key has the value of any place of the serial run that has just its writers behind it. -/
def InvO (S : List Ent) (L : List Acn) (O : List Int) (k : Nat) : Prop :=
  ∀ (x : Int) (m : Nat), m ≤ L.length → (∀ j, j < L.length → x ∈ writesM (L.getD j noA) → (AmongO O k j ↔ j < m)) → atM (serL S ((ordM L O).take k)).1 x = atM (serL S (L.take m)).1 x
theorem inv_start {S : List Ent} {L : List Acn} {O : List Int} (hS : storeB S = true) : InvO S L O 0 := by
  intro x m hm h
  refine (ser_still (a := 0) hS m (Nat.zero_le _) hm fun j _ hj hx => ?_).symm
  obtain ⟨i, hi, -⟩ := (h j (by omega) hx).2 hj
  omega
/-- Of the writers of a key that the action i uses, or of the readers of one that it may write, just those before it are behind it. -/
theorem among_iff {L : List Acn} {O : List Int} (h : FitTo L O L.length) {k : Nat} (hk : k < L.length) {j : Nat} (hj : j < L.length) (hc : confM (L.getD j noA) (L.getD (O.getD k 0).toNat noA) = true) : AmongO O k j ↔ j < (O.getD k 0).toNat := by
  have h0 := (h k hk).1
  constructor
  · rintro ⟨i, hi, e⟩
    have h1 := (h k hk).2 i hi
    rw [e] at h1
    have h2 : ¬ O.getD k 0 < (j : Int) := fun hlt => h1.2 ⟨hlt, by simpa using hc⟩
    have := h1.1
    omega
  · intro hlt
    exact fit_before h hk (by omega) hc
theorem among_self {L : List Acn} {O : List Int} (h : FitTo L O L.length) {k : Nat} (hk : k < L.length) : ¬ AmongO O k (O.getD k 0).toNat := by
  rintro ⟨i, hi, e⟩
  have := ((h k hk).2 i hi).1
  have := (h k hk).1
  omega
theorem inv_reads {S : List Ent} {L : List Acn} {O : List Int} (hS : storeB S = true) (hL : actsB L = true) (h : FitTo L O L.length) {k : Nat} (hk : k < L.length) (hi : InvO S L O k) :
    runM (serL S ((ordM L O).take k)).1 (L.getD (O.getD k 0).toNat noA) = runM (serL S (L.take (O.getD k 0).toNat)).1 (L.getD (O.getD k 0).toNat noA) := by
  have h0 := (h k hk).1
  refine run_other (store_ser _ hS) (store_ser _ hS) ((actsB_true hL).2 _ (getD_memA L _ (by omega))) fun x hx => ?_
  refine hi x _ (by omega) fun j hj hw => ?_
  exact among_iff h hk hj (confM_wr hw hx)
theorem inv_next {S : List Ent} {L : List Acn} {O : List Int} (hS : storeB S = true) (hL : actsB L = true) (hO : O.length = L.length) (h : FitTo L O L.length) {k : Nat} (hk : k < L.length) (hi : InvO S L O k) : InvO S L O (k + 1) := by
  have h0 := (h k hk).1
  have hr := inv_reads hS hL h hk hi
  intro x m hm hw
  have hstep := serL_next S (ordM L O) k (by rw [ordM_len]; omega)
  rw [ordM_get L O k (by omega)] at hstep
  rw [hstep]
  obtain ⟨i, hii⟩ : ∃ i, i = (O.getD k 0).toNat := ⟨_, rfl⟩
  rw [← hii] at hr ⊢
  have hin : i < L.length := by omega
  by_cases hx : x ∈ writesM (L.getD i noA)
  · -- the action may write the key
    have him : i < m := (hw i hin hx).1 ⟨k, by omega, by omega⟩
    have hT : atM (serL S ((ordM L O).take k)).1 x = atM (serL S (L.take i)).1 x := by
      refine hi x i (by omega) fun j hj hwj => ?_
      rw [hii]
      exact among_iff h hk hj (by rw [← hii]; exact confM_ww hwj hx)
    refine (run_same (store_ser _ hS) (store_ser _ hS) hr hT).trans ?_
    have e2 := serL_next S L i hin
    have e3 : atM (serL S (L.take m)).1 x = atM (serL S (L.take (i + 1))).1 x := by
      refine ser_still hS m him hm fun j h1 h2 hwj => ?_
      obtain ⟨p, hp, e⟩ := (hw j (by omega) hwj).2 h2
      have hpk : p ≠ k := fun e' => by subst e'; omega
      have : AmongO O k j := ⟨p, by omega, e⟩
      have := (among_iff h hk (by omega) (by rw [← hii]; exact confM_ww hwj hx)).1 this
      omega
    rw [e3, e2]
  · refine (run_still (store_ser _ hS) hx).trans (hi x m hm fun j hj hwj => ?_)
    rw [← hw j hj hwj]
    constructor
    · rintro ⟨p, hp, e⟩; exact ⟨p, by omega, e⟩
    · rintro ⟨p, hp, e⟩
      rcases (by omega : p < k ∨ p = k) with h1 | rfl
      · exact ⟨p, h1, e⟩
      · exfalso
        apply hx
        have : j = i := by omega
        rw [← this]; exact hwj
theorem inv_all {S : List Ent} {L : List Acn} {O : List Int} (hS : storeB S = true) (hL : actsB L = true) (hO : O.length = L.length) (h : FitTo L O L.length) : ∀ k, k ≤ L.length → InvO S L O k := by
  intro k
  induction k with
  | zero => intro _; exact inv_start hS
  | succ k ih => intro hk; exact inv_next hS hL hO h (by omega) (ih (by omega))
theorem pos_get {O : List Int} {E F : List Eff} {n : Nat} (hO : O.length = n) (hr : ∀ k, k < n → 0 ≤ O.getD k 0 ∧ O.getD k 0 < n) (hd : ∀ k j, j < k → k < n → O.getD j 0 ≠ O.getD k 0) (he : ∀ k, k < n → E.getD k noEff = F.getD (O.getD k 0).toNat noEff) :
    ∀ k, k ≤ n → ∀ m, m < n → AmongO O k m → (posL O E k)[m]? = some (some (F.getD m noEff)) := by
  intro k
  induction k with
  | zero => rintro _ m _ ⟨j, hj, -⟩; omega
  | succ k ih =>
    rintro hk m hm ⟨j, hj, e⟩
    rw [posL, List.getElem?_set]
    have hb := hr k (by omega)
    rcases (by omega : j = k ∨ j < k) with rfl | h1
    · have : (O.getD j 0).toNat = m := by omega
      rw [if_pos this, if_pos (by rw [posL_len]; omega), he j (by omega), this]
    · have h2 := hd k j h1 (by omega)
      rw [if_neg (by omega)]
      exact ih (by omega) m hm ⟨j, h1, e⟩
theorem place_all {L : List Acn} {O : List Int} {E F : List Eff} (hO : O.length = L.length) (h : FitTo L O L.length) (hF : F.length = L.length) (he : ∀ k, k < L.length → E.getD k noEff = F.getD (O.getD k 0).toNat noEff) : posL O E O.length = F.map some := by
  apply List.ext_getElem?
  intro m
  by_cases hm : m < L.length
  · obtain ⟨i, hi, e⟩ := fit_all h m hm
    rw [pos_get hO (fun k hk => (h k hk).1) (fun k j hj hk => ((h k hk).2 j hj).1) he O.length (by omega) m hm ⟨i, by omega, e⟩, List.getElem?_map, List.getElem?_eq_getElem (by omega), List.getD_eq_getElem?_getD, List.getElem?_eq_getElem (by omega)]
    rfl
  · rw [List.getElem?_eq_none (by rw [posL_len]; omega), List.getElem?_eq_none (by simp; omega)]
theorem map_some_get (F : List Eff) : (F.map some).map (fun x => x.getD noEff) = F := by rw [List.map_map]; exact List.map_id F
theorem pos_some {O : List Int} {E : List Eff} {n : Nat} (hO : O.length = n) (hr : ∀ k, k < n → 0 ≤ O.getD k 0 ∧ O.getD k 0 < n) :
    ∀ k, k ≤ n → ∀ m, m < n → AmongO O k m → ∃ e, (posL O E k)[m]? = some (some e) := by
  intro k
  induction k with
  | zero => rintro _ m _ ⟨j, hj, -⟩; omega
  | succ k ih =>
    rintro hk m hm ⟨j, hj, e⟩
    rw [posL, List.getElem?_set]
    have hb := hr k (by omega)
    split
    · rw [if_pos (by rw [posL_len]; omega)]; exact ⟨_, rfl⟩
    · rename_i hne
      have h1 : j ≠ k := fun e' => by subst e'; omega
      exact ih (by omega) m hm ⟨j, by omega, e⟩
theorem placeM_some {L : List Acn} {O : List Int} (E : List Eff) (hO : O.length = L.length) (h : FitTo L O L.length) : posL O E O.length = (placeM O E).map some := by
  apply List.ext_getElem?
  intro m
  by_cases hm : m < L.length
  · obtain ⟨i, hi, e⟩ := fit_all h m hm
    obtain ⟨x, hx⟩ := pos_some (E := E) hO (fun k hk => (h k hk).1) O.length (by omega) m hm ⟨i, by omega, e⟩
    simp [placeM, hx]
  · rw [List.getElem?_eq_none (by rw [posL_len]; omega), List.getElem?_eq_none (by simp [placeM, posL_len]; omega)]
/-- In every order that fits the store and the effects are those of the serial run. -/
theorem order_same {S : List Ent} {L : List Acn} {O : List Int} (hS : storeB S = true) (hf : fitsM L O = true) : runOrdM S L O = serL S L := by
  obtain ⟨hL, hO, h⟩ := fitsM_true hf
  rw [runOrdM_yes hS hf]
  have hI := inv_all hS hL hO h
  have e1 : (serL S (ordM L O)).1 = (serL S L).1 := by
    refine ok_ext _ _ ((storeB_ok _).1 (store_ser _ hS)) ((storeB_ok _).1 (store_ser _ hS)) fun x _ _ => ?_
    have := hI L.length (Nat.le_refl _) x L.length (Nat.le_refl _) fun j hj _ => ⟨fun _ => hj, fun _ => by obtain ⟨i, hi, e⟩ := fit_all h j hj; exact ⟨i, hi, e⟩⟩
    rw [List.take_of_length_le (by rw [ordM_len]; omega), List.take_of_length_le (Nat.le_refl _)] at this
    exact this
  have e2 : placeM O (serL S (ordM L O)).2 = (serL S L).2 := by
    unfold placeM
    rw [place_all hO h (F := (serL S L).2) (serL_len S L) fun k hk => ?_, map_some_get]
    have h0 := (h k hk).1
    rw [ser_get _ S k (by rw [ordM_len]; omega), ser_get L S _ (by omega), ordM_get L O k (by omega)]
    exact inv_reads hS hL h hk (hI k (by omega))
  rw [e1, e2]
theorem order_serM {S : List Ent} {L : List Acn} {O : List Int} (hS : storeB S = true) (hf : fitsM L O = true) : runOrdM S L O = serM S L := by
  rw [order_same hS hf, serM_yes hS (fitsM_true hf).1]
theorem runOrdM_lens (S : List Ent) (L : List Acn) (O : List Int) : (runOrdM S L O).1.length ≤ 32 ∧ (runOrdM S L O).2.length ≤ 10 := by
  cases h : (storeB S && fitsM L O) with
  | false => rw [runOrdM_no h]; exact ⟨by simp, by simp⟩
  | true =>
    rw [Bool.and_eq_true] at h
    rw [order_serM h.1 h.2]
    exact ⟨serM_store S L, serM_len S L⟩
end Go.Proofs.Ytfhbolpchmdaoaa
/- Sets of keys as bits: plain mathematics. No function of the program is named here. -/
namespace Go.Proofs.Ytfhbolpchmdaoaa
/-- The bits of the keys. -/
def maskM (l : List Int) : Nat := l.foldl (fun m x => m ||| 2 ^ x.toNat) 0
theorem maskM_snoc (l : List Int) (x : Int) : maskM (l ++ [x]) = maskM l ||| 2 ^ x.toNat := by simp [maskM]
theorem takeI_one (l : List Int) (k : Nat) (h : k < l.length) : l.take (k + 1) = l.take k ++ [l.getD k 0] := by
  rw [List.take_succ_eq_append_getElem h, List.getD_eq_getElem?_getD, List.getElem?_eq_getElem h]; rfl
theorem maskM_next (l : List Int) (k : Nat) (h : k < l.length) : maskM (l.take (k + 1)) = maskM (l.take k) ||| 2 ^ (l.getD k 0).toNat := by rw [takeI_one l k h, maskM_snoc]
theorem maskM_from (l : List Int) : ∀ (m i : Nat), (l.foldl (fun (m : Nat) (x : Int) => m ||| 2 ^ x.toNat) m).testBit i = (m.testBit i || l.any (fun x => decide (x.toNat = i))) := by
  induction l with
  | nil => intro m i; simp
  | cons a r ih =>
    intro m i
    rw [List.foldl_cons, ih, Nat.testBit_or, Nat.testBit_two_pow, List.any_cons, Bool.or_assoc]
theorem maskM_bit (l : List Int) (i : Nat) : (maskM l).testBit i = l.any (fun x => decide (x.toNat = i)) := by
  unfold maskM; rw [maskM_from]; simp
theorem pow_lt32 {x : Nat} (h : x ≤ 31) : 2 ^ x < 4294967296 := by
  have : 2 ^ x ≤ 2 ^ 31 := Nat.pow_le_pow_right (by omega) h
  omega
theorem maskM_lt (l : List Int) (h : ∀ x ∈ l, 0 ≤ x ∧ x ≤ 31) : maskM l < 4294967296 := by
  have : ∀ (l : List Int), (∀ x ∈ l, 0 ≤ x ∧ x ≤ 31) → ∀ m : Nat, m < 2 ^ 32 → l.foldl (fun (m : Nat) (x : Int) => m ||| 2 ^ x.toNat) m < 2 ^ 32 := by
    intro l
    induction l with
    | nil => intro _ m hm; exact hm
    | cons a r ih =>
      intro h m hm
      rw [List.foldl_cons]
      have := h a (by simp)
      exact ih (fun x hx => h x (List.mem_cons_of_mem _ hx)) _ (Nat.or_lt_two_pow hm (by have := pow_lt32 (x := a.toNat) (by omega); omega))
  exact this l h 0 (by omega)
/-- The two sets have a key in common. -/
theorem mask_common {a b : List Int} (ha : ∀ x ∈ a, 0 ≤ x) (hb : ∀ x ∈ b, 0 ≤ x) : decide (maskM a &&& maskM b ≠ 0) = commonM a b := by
  rw [Bool.eq_iff_iff, decide_eq_true_eq, commonM_iff]
  constructor
  · intro h
    obtain ⟨i, hi⟩ := Nat.exists_testBit_of_ne_zero h
    rw [Nat.testBit_and, Bool.and_eq_true, maskM_bit, maskM_bit, List.any_eq_true, List.any_eq_true] at hi
    obtain ⟨⟨x, hx, e1⟩, y, hy, e2⟩ := hi
    rw [decide_eq_true_eq] at e1 e2
    have := ha x hx
    have := hb y hy
    have e : x = y := by omega
    exact ⟨x, hx, by rw [e]; exact hy⟩
  · rintro ⟨x, hx, hy⟩ h
    have : (maskM a &&& maskM b).testBit x.toNat = true := by
      rw [Nat.testBit_and, maskM_bit, maskM_bit, Bool.and_eq_true, List.any_eq_true, List.any_eq_true]
      exact ⟨⟨x, hx, by simp⟩, x, hy, by simp⟩
    rw [h] at this
    simp at this
theorem mask_common2 {a b c : List Int} (ha : ∀ x ∈ a, 0 ≤ x) (hb : ∀ x ∈ b, 0 ≤ x) (hc : ∀ x ∈ c, 0 ≤ x) : decide (maskM a &&& (maskM b ||| maskM c) ≠ 0) = (commonM a c || commonM a b) := by
  rw [← mask_common ha hb, ← mask_common ha hc, Nat.and_or_distrib_left, Bool.eq_iff_iff]
  simp only [decide_eq_true_eq, Bool.or_eq_true]
  have : ∀ p q : Nat, (p ||| q ≠ 0) ↔ (q ≠ 0 ∨ p ≠ 0) := by
    intro p q
    rw [ne_eq, Nat.or_eq_zero_iff]; omega
  exact this _ _
theorem wrap_pow32 {x : Nat} (h : x ≤ 31) : IntKind.u32.wrap (2 ^ x) = ((2 ^ x : Nat) : Int) := by
  have h1 := pow_lt32 h
  have e : ((2 : Int) ^ x) = ((2 ^ x : Nat) : Int) := by rw [Int.natCast_pow]; rfl
  rw [e]
  exact (fun (t : Nat) (ht : t < 4294967296) => IntWalk.u32_in (t : Int) (by omega)) _ h1
theorem bits_or_u32 (a b : Nat) (ha : a < 4294967296) (hb : b < 4294967296) : bits .or .u32 (a : Int) (b : Int) = ((a ||| b : Nat) : Int) := by
  have hx : a ||| b < 2 ^ 32 := Nat.or_lt_two_pow (by omega) (by omega)
  have h1 : (BitVec.ofInt 32 (a : Int)).toNat = a := by
    rw [BitVec.ofInt_natCast, BitVec.toNat_ofNat]; exact Nat.mod_eq_of_lt (by omega)
  have h2 : (BitVec.ofInt 32 (b : Int)).toNat = b := by
    rw [BitVec.ofInt_natCast, BitVec.toNat_ofNat]; exact Nat.mod_eq_of_lt (by omega)
  show IntKind.u32.wrap ((BitVec.ofInt 32 (a : Int) ||| BitVec.ofInt 32 (b : Int)).toNat : Int) = _
  rw [BitVec.toNat_or, h1, h2]
  exact IntWalk.u32_in _ (by omega)
theorem bits_and_u32 (a b : Nat) (ha : a < 4294967296) (hb : b < 4294967296) : bits .and .u32 (a : Int) (b : Int) = ((a &&& b : Nat) : Int) := by
  have hx : a &&& b < 2 ^ 32 := Nat.and_lt_two_pow _ (by omega)
  have h1 : (BitVec.ofInt 32 (a : Int)).toNat = a := by
    rw [BitVec.ofInt_natCast, BitVec.toNat_ofNat]; exact Nat.mod_eq_of_lt (by omega)
  have h2 : (BitVec.ofInt 32 (b : Int)).toNat = b := by
    rw [BitVec.ofInt_natCast, BitVec.toNat_ofNat]; exact Nat.mod_eq_of_lt (by omega)
  show IntKind.u32.wrap ((BitVec.ofInt 32 (a : Int) &&& BitVec.ofInt 32 (b : Int)).toNat : Int) = _
  rw [BitVec.toNat_and, h1, h2]
  exact IntWalk.u32_in _ (by omega)
end Go.Proofs.Ytfhbolpchmdaoaa
/- Rows of rows of ints, and rows of two sets, in memory. No function of the program is named here. -/
namespace Go.Proofs.Ytfhbolpchmdaoaa
open Go.RowKit
set_option linter.unusedVariables false
/-- A slice, nil or over a row of its own, of ints. -/
def Cel.ints (e : TypeId) (l : List Int) : Cel :=
  ⟨fun w x => w.ownsRow 0 e 1 x l.length (l.map (Value.int .i64)) ∧ (∀ n ∈ l, (Lit.int .i64 n).wf = true) ∧ l.length ≤ 4000000, fun h hk => ⟨owns_keep h.1 hk, h.2⟩, fun h hb => (by rw [owns_blk h.1] at hb; exact (h.1.lt _ hb).2), fun h => owns_one h.1⟩
/-- Something over a block that is there. -/
def Cel.any : Cel :=
  ⟨fun w x => x.oneCell' = true ∧ ∀ b, blk x = some b → b < w.heap.size, fun ⟨h1, h2⟩ hk => ⟨h1, fun b hb => by
    have h3 := hk b hb
    rw [Array.getElem?_eq_getElem (h2 b hb)] at h3
    exact (Array.getElem?_eq_some_iff.1 h3).1⟩, fun h hb => h.2 _ hb, fun h => h.1⟩
/-- v owns rows of ints. -/
def OwnLL (w : World) (B T : Nat) (eR eI : TypeId) (v : Value) (LL : List (List Int)) : Prop := ∃ xs, Own2 w B T eR 1 v LL.length (LL.map (Cel.ints eI)) xs
theorem OwnLL.below {w w' : World} {B T : Nat} {eR eI : TypeId} {v : Value} {LL : List (List Int)} (h : OwnLL w B T eR eI v LL) (hb : Below w.heap.size w w') : OwnLL w' B T eR eI v LL := by
  obtain ⟨xs, h1⟩ := h; exact ⟨xs, h1.below hb⟩
theorem OwnLL.mono {w : World} {B T B' T' : Nat} {eR eI : TypeId} {v : Value} {LL : List (List Int)} (h : OwnLL w B T eR eI v LL) (hB : B' ≤ B) (hT : T ≤ T') : OwnLL w B' T' eR eI v LL := by
  obtain ⟨xs, h1⟩ := h; exact ⟨xs, h1.mono hB hT⟩
theorem OwnLL.turn {w w' : World} {B T B' T' : Nat} {eR eI : TypeId} {v : Value} {LL : List (List Int)} (h : OwnLL w B T eR eI v LL) (ht : Turn B' T' w w') (hd : T ≤ B' ∨ T' ≤ B ∨ w.heap.size ≤ B') : OwnLL w' B T eR eI v LL := by
  obtain ⟨xs, h1⟩ := h; exact ⟨xs, h1.turn ht hd⟩
theorem getDL (LL : List (List Int)) (k : Nat) (h : k < LL.length) : LL[k]? = some (LL.getD k []) := by
  rw [List.getD_eq_getElem?_getD, List.getElem?_eq_getElem h]; rfl
/-- The cell k: a row of ints. -/
theorem OwnLL.cell {w : World} {B T g n c : Nat} {eR eI : TypeId} {LL : List (List Int)} (h : OwnLL w B T eR eI (.slice (some ⟨g, 0, none⟩) n c) LL) (k : Nat) (hk : k < LL.length) :
    ∃ x, w.cell? ⟨g, k, none⟩ = some x ∧ w.ownsRow 0 eI 1 x (LL.getD k []).length ((LL.getD k []).map (Value.int .i64)) ∧ (∀ n ∈ LL.getD k [], (Lit.int .i64 n).wf = true) ∧ (LL.getD k []).length ≤ 4000000 ∧
      (∀ b, x.ownBlock = some b → B ≤ b ∧ b < T ∧ b ≠ g) ∧ w.frozen? ⟨g, k, none⟩ = false ∧ g < w.heap.size ∧ n = LL.length := by
  obtain ⟨xs, h1⟩ := h
  have hn : n = LL.length := by
    rcases slice_of_owns h1.1 with ⟨h2, _⟩ | ⟨g', cap', h2, _⟩
    · cases h2
    · simp at h2; exact h2.2.1
  subst hn
  have hc : (LL.map (Cel.ints eI))[k]? = some (Cel.ints eI (LL.getD k [])) := by rw [List.getElem?_map, getDL LL k hk]; rfl
  obtain ⟨x, hx, hcx, hox, hbx⟩ := h1.at hc
  have hbe := owns_blk hox.1
  refine ⟨x, hcx, hox.1, hox.2.1, hox.2.2, fun b hb => ?_, h1.1.frozenAt _, (h1.blk_lt _ List.mem_cons_self g rfl).2.2, rfl⟩
  have := hbx b (by rw [hbe]; exact hb)
  refine ⟨this.1, this.2, fun e => ?_⟩
  exact (apart_cons.1 h1.2.2.2.2).1 x (List.mem_of_getElem? hx) g rfl (by rw [hbe, hb, e])
/-- The row at k is written in its place or anew, and the slice of it stored. -/
theorem OwnLL.put {W w' : World} {B T g n c : Nat} {eR eI : TypeId} {LL : List (List Int)} {o : Obj} (h : OwnLL W B T eR eI (.slice (some ⟨g, 0, none⟩) n c) LL) (k : Nat) (hk : k < LL.length) {x v' : Value} (hx : W.cell? ⟨g, k, none⟩ = some x) (l : List Int)
    (hg : (W.alloc o).grownBy w' x.ownBlock) (ho : w'.ownsRow 0 eI 1 v' l.length (l.map (Value.int .i64))) (hw : ∀ n ∈ l, (Lit.int .i64 n).wf = true) (hl : l.length ≤ 4000000) (hat : v'.ownBlock = x.ownBlock ∨ v'.ownBlock = some (W.heap.size + 1)) (hB : B ≤ W.heap.size) (hT : T ≤ W.heap.size) :
    OwnLL (w'.setCell ⟨g, k, none⟩ v') B w'.heap.size eR eI (.slice (some ⟨g, 0, none⟩) n c) (LL.set k l) := by
  obtain ⟨xs, h1⟩ := h
  have hn : n = LL.length := by
    rcases slice_of_owns h1.1 with ⟨h2, _⟩ | ⟨g', cap', h2, _⟩
    · cases h2
    · simp at h2; exact h2.2.1
  subst hn
  have hc : (LL.map (Cel.ints eI))[k]? = some (Cel.ints eI (LL.getD k [])) := by rw [List.getElem?_map, getDL LL k hk]; rfl
  obtain ⟨x', hx', hcx, hox, hbx⟩ := h1.at hc
  obtain rfl : x' = x := by rw [hcx] at hx; exact Option.some.inj hx
  have hbe := owns_blk hox.1
  have hap := apart_cons.1 h1.2.2.2.2
  have hai := apart_iff.1 hap.2
  have hlt := h1.blk_lt
  have hgl := hlt _ List.mem_cons_self g rfl
  have hsz := hg.size
  have hsz' : (W.alloc o).heap.size = W.heap.size + 1 := by simp
  have h2 := (h1.alloc o).inner k Cel.any hx' hg (fun p hp => by rw [hbe]; exact hp) ⟨owns_one hox.1, fun b hb => by have := (hbx b hb).2; omega⟩
  have h3 := (h2.mono (Nat.le_refl B) (show T ≤ w'.heap.size by omega)).set (T' := w'.heap.size) k (Cel.ints eI l) v' ⟨ho, hw, hl⟩ (fun b hb => ?_) (fun e => ?_) (fun i y hi hy p hp hq => ?_) (Nat.le_refl _)
  · refine ⟨xs.set k v', ?_⟩
    rw [List.length_set, List.map_set]
    rw [List.set_set] at h3
    exact h3
  · rw [owns_blk ho] at hb
    have := (ho.lt b hb).2
    rcases hat with e | e
    · rw [e, ← hbe] at hb; have := hbx b hb; omega
    · rw [e] at hb; simp at hb; omega
  · rw [owns_blk ho] at e
    rcases hat with e' | e'
    · exact hap.1 x' (List.mem_of_getElem? hx') g rfl (by rw [hbe, ← e', e])
    · rw [e'] at e; simp at e; omega
  · rw [owns_blk ho] at hq
    rcases hat with e' | e'
    · exact hai i k y x' hi hy hx' p hp (by rw [hbe, ← e', hq])
    · rw [e'] at hq; simp at hq
      have := (hlt y (List.mem_cons_of_mem _ (List.mem_of_getElem? hy)) p hp).2.2
      omega
/-- Rows of ints that were just made: nil all. -/
theorem ownLL_made {w : World} {B T : Nat} {eR eI : TypeId} {n : Nat} {v : Value} (h : w.ownsRow B eR 1 v n (madeCells (Value.slice none 0 0).cells (n * 1)).toList) (hv : ∀ b, blk v = some b → b < T) : OwnLL w B T eR eI v (List.replicate n []) := by
  have hcl : (madeCells (Value.slice none 0 0).cells (n * 1)).toList = List.replicate n (.slice none 0 0) := by
    rw [Nat.mul_one]; exact (toList_madeCells_one _ _).trans rfl
  rw [hcl] at h
  refine ⟨List.replicate n (.slice none 0 0), ?_⟩
  rw [List.length_replicate]
  refine own2_plain h hv (by simp) fun i c x hc hx => ?_
  rw [List.map_replicate] at hc
  have e1 := (List.mem_replicate.1 (List.mem_of_getElem? hc)).2
  have e2 := (List.mem_replicate.1 (List.mem_of_getElem? hx)).2
  subst e1 e2
  exact ⟨⟨World.ownsRow_nil _ _ _ _, (fun n hn => by cases hn), Nat.zero_le _⟩, rfl⟩
/-! Those before an action that are in conflict with it. -/
/-- Of the first j. -/
def befM (L : List Acn) (k j : Nat) : List Int := ((List.range j).filter (fun e => confM (L.getD k noA) (L.getD e noA))).map (fun e : Nat => (e : Int))
theorem befM_next (L : List Acn) (k j : Nat) : befM L k (j + 1) = if confM (L.getD k noA) (L.getD j noA) then befM L k j ++ [(j : Int)] else befM L k j := by
  unfold befM
  rw [List.range_succ, List.filter_append, List.map_append]
  cases h : confM (L.getD k noA) (L.getD j noA) <;> simp only [List.filter_cons, List.filter_nil, h] <;> simp
theorem befM_len (L : List Acn) (k j : Nat) : (befM L k j).length ≤ j := by
  unfold befM; rw [List.length_map]; exact Nat.le_trans (List.length_filter_le _ _) (by simp)
theorem befM_mem {L : List Acn} {k j : Nat} {x : Int} : x ∈ befM L k j ↔ ∃ e : Nat, x = e ∧ e < j ∧ confM (L.getD k noA) (L.getD e noA) = true := by
  unfold befM
  constructor
  · intro h
    obtain ⟨e, he, rfl⟩ := List.mem_map.1 h
    obtain ⟨h1, h2⟩ := List.mem_filter.1 he
    exact ⟨e, rfl, List.mem_range.1 h1, h2⟩
  · rintro ⟨e, rfl, h1, h2⟩
    exact List.mem_map.2 ⟨e, List.mem_filter.2 ⟨List.mem_range.2 h1, h2⟩, rfl⟩
/-- The rows when k of n are whole and the next one goes up to j. -/
def befR (L : List Acn) (n k j : Nat) : List (List Int) := (List.range n).map (fun i => if i < k then befM L i i else if i = k then befM L k j else [])
theorem befR_len (L : List Acn) (n k j : Nat) : (befR L n k j).length = n := by simp [befR]
theorem befR_get (L : List Acn) (n k j i : Nat) (h : i < n) : (befR L n k j).getD i [] = if i < k then befM L i i else if i = k then befM L k j else [] := by
  rw [List.getD_eq_getElem?_getD, befR, List.getElem?_map, List.getElem?_range h]; rfl
theorem befR_zero (L : List Acn) (n : Nat) : befR L n 0 0 = List.replicate n [] := by
  refine List.ext_getElem? fun i => ?_
  by_cases h : i < n
  · rw [befR, List.getElem?_map, List.getElem?_range h, List.getElem?_replicate, if_pos h]
    by_cases e : i = 0
    · subst e; simp [befM]
    · simp [e]
  · rw [List.getElem?_eq_none (by rw [befR_len]; omega), List.getElem?_eq_none (by simp; omega)]
theorem befR_up (L : List Acn) (n k : Nat) : befR L n k k = befR L n (k + 1) 0 := by
  refine List.map_congr_left fun i hi => ?_
  by_cases h : i < k
  · rw [if_pos h, if_pos (by omega)]
  · rw [if_neg h]
    by_cases e : i = k
    · subst e; rw [if_pos rfl, if_pos (by omega)]
    · rw [if_neg e, if_neg (by omega)]
      by_cases e2 : i = k + 1
      · rw [if_pos e2]; simp [befM]
      · rw [if_neg e2]
theorem befR_set (L : List Acn) (n k j : Nat) (h : confM (L.getD k noA) (L.getD j noA) = true) : (befR L n k j).set k (befM L k j ++ [(j : Int)]) = befR L n k (j + 1) := by
  refine List.ext_getElem? fun i => ?_
  rw [List.getElem?_set]
  by_cases hn : i < n
  · by_cases e : k = i
    · subst e
      rw [if_pos rfl, if_pos (by rw [befR_len]; exact hn), befR, List.getElem?_map, List.getElem?_range hn]
      rw [befM_next, h]; simp
    · rw [if_neg e, befR, befR, List.getElem?_map, List.getElem?_map, List.getElem?_range hn]
      simp [show ¬ i = k from fun e' => e e'.symm]
  · rw [List.getElem?_eq_none (l := befR L n k j) (by rw [befR_len]; omega), List.getElem?_eq_none (l := befR L n k (j + 1)) (by rw [befR_len]; omega)]
    split
    · rw [if_neg (by rw [befR_len]; omega)]
    · rfl
theorem befR_same (L : List Acn) (n k j : Nat) (h : confM (L.getD k noA) (L.getD j noA) = false) : befR L n k (j + 1) = befR L n k j := by
  refine List.map_congr_left fun i _ => ?_
  rw [befM_next, h]; rfl
/-! Rows of two sets. -/
/-- The first k of n elements hold the keys of the actions. -/
def UsedAt (w : World) (g n : Nat) (L : List Acn) (k : Nat) : Prop :=
  ∀ i, i < n → ∃ x y : Nat, w.cell? ⟨g, i * 2, none⟩ = some (.int .u32 x) ∧ w.cell? ⟨g, i * 2 + 1, none⟩ = some (.int .u32 y) ∧ w.frozen? ⟨g, i * 2, none⟩ = false ∧ w.frozen? ⟨g, i * 2 + 1, none⟩ = false ∧
    (i < k → x = maskM (readsM (L.getD i noA)) ∧ y = maskM (writesM (L.getD i noA)))
theorem UsedAt.lt {w : World} {g n : Nat} {L : List Acn} {k : Nat} (h : UsedAt w g n L k) (hn : 0 < n) : g < w.heap.size := by
  obtain ⟨x, y, h1, -⟩ := h 0 hn
  exact World.block_lt_of_cell? w ⟨g, 0 * 2, none⟩ h1
theorem UsedAt.grown {w w' : World} {g n : Nat} {L : List Acn} {k : Nat} {row : Option Nat} (h : UsedAt w g n L k) (hg : w.grownBy w' row) (hne : some g ≠ row) : UsedAt w' g n L k := by
  intro i hi
  obtain ⟨x, y, h1, h2, h3, h4, h5⟩ := h i hi
  exact ⟨x, y, World.grownBy.cell hg h1 hne, World.grownBy.cell hg h2 hne, (hg.frozen_far ⟨g, i * 2, none⟩ (World.block_lt_of_cell? w ⟨g, i * 2, none⟩ h1) hne).trans h3, (hg.frozen_far ⟨g, i * 2 + 1, none⟩ (World.block_lt_of_cell? w ⟨g, i * 2 + 1, none⟩ h2) hne).trans h4, h5⟩
theorem UsedAt.below {w w' : World} {g n : Nat} {L : List Acn} {k : Nat} (h : UsedAt w g n L k) (hb : Below w.heap.size w w') : UsedAt w' g n L k := h.grown (Below.grownBy hb none) (by simp)
theorem UsedAt.store {w : World} {g n : Nat} {L : List Acn} {k : Nat} (h : UsedAt w g n L k) (hk : k < n) :
    UsedAt ((w.setCell ⟨g, k * 2, none⟩ (.int .u32 (maskM (readsM (L.getD k noA)) : Nat))).setCell ⟨g, k * 2 + 1, none⟩ (.int .u32 (maskM (writesM (L.getD k noA)) : Nat))) g n L (k + 1) := by
  intro i hi
  obtain ⟨x, y, h1, h2, h3, h4, h5⟩ := h i hi
  by_cases e : i = k
  · subst e
    refine ⟨_, _, ?_, ?_, by simp [go_sem, h3], by simp [go_sem, h4], fun _ => ⟨rfl, rfl⟩⟩
    · rw [World.cell?_setCell_other _ _ _ _ (by simp)]
      exact World.cell?_setCell_same _ _ _ h1
    · exact World.cell?_setCell_same _ _ _ ((World.cell?_setCell_other _ _ _ _ (by simp)).trans h2)
  · refine ⟨x, y, ?_, ?_, by simp [go_sem, h3], by simp [go_sem, h4], fun hlt => h5 (by omega)⟩
    · rw [World.cell?_setCell_other _ _ _ _ (fun q => by have q2 := congrArg Addr.off q; dsimp at q2; omega), World.cell?_setCell_other _ _ _ _ (fun q => by have q2 := congrArg Addr.off q; dsimp at q2; omega)]; exact h1
    · rw [World.cell?_setCell_other _ _ _ _ (fun q => by have q2 := congrArg Addr.off q; dsimp at q2; omega), World.cell?_setCell_other _ _ _ _ (fun q => by have q2 := congrArg Addr.off q; dsimp at q2; omega)]; exact h2
theorem usedAt_made {w : World} {B g n : Nat} {e : TypeId} {L : List Acn} (h : w.ownsRow B e 2 (.slice (some ⟨g, 0, none⟩) n n) n (madeCells (Value.agg #[.int .u32 0, .int .u32 0]).cells (n * 2)).toList) : UsedAt w g n L 0 := by
  intro i hi
  have hl := h.1
  have hg : ∀ j, j < n * 2 → w.cell? ⟨g, j, none⟩ = some (.int .u32 ((0 : Nat) : Int)) := by
    intro j hj
    rw [h.cellAt j (by omega)]
    obtain ⟨x, hx⟩ : ∃ x, (madeCells (Value.agg #[.int .u32 0, .int .u32 0]).cells (n * 2)).toList[j]? = some x := ⟨_, List.getElem?_eq_getElem (by omega)⟩
    rw [hx]
    rcases made2_get _ _ _ _ _ hx with ⟨-, rfl⟩ | ⟨-, rfl⟩ <;> rfl
  exact ⟨0, 0, hg _ (by omega), hg _ (by omega), h.frozenAt _, h.frozenAt _, fun h => absurd h (by omega)⟩
/-- The only cell of a literal of one cell. -/
theorem one_cell (w : World) (u : Value) (e : TypeId) : ∀ (j : Nat) (x : Value), [u][j]? = some x → (w.alloc (.cells #[u] e)).cell? ((⟨w.heap.size, 0, none⟩ : Addr).add j) = some x := by
  intro j x hx
  rw [show (⟨w.heap.size, 0, none⟩ : Addr).add j = ⟨w.heap.size, j, none⟩ by unfold Addr.add; split <;> simp_all]
  rw [cell_of_row (w.alloc (.cells #[u] e)) w.heap.size j #[u] e (0, 0) (heap_alloc_new w _)]
  simpa using hx
/-- An append of one element to a row, nil or owned, with the place of the new one. -/
theorem wpList_append_one_at {P : Program} {W : World} {ops : Array Oper} {rest : List Oper} {o : Oper} {a : Act} {Q : Exit → Act → World → Prop} (hgd : Region.wanted o (yielded ops a.tmps) = true) (s x : Operand) (t : TypeId)
    (ho : o.op = .call { callee := .builtin .append, args := #[s, x], argTypes := #[t, t] })
    (B : Nat) (e e' : TypeId) (z : Value) (size bytes : Nat) (ht : P.underlying t = some (.slice e)) (hinfo : (P.info? e).map (fun i => (i.zero, i.size, i.bytes)) = some (some z, size, bytes))
    (hzs : z.cells.size = size) (hsz : 0 < size)
    (v : Value) (n : Nat) (xs news : List Value) (hs : a.eval s = v) (hown : W.ownsRow B e size v n xs) (hx : a.eval x = .slice (some ⟨W.heap.size, 0, none⟩) 1 1)
    (hl : news.length = size) (h1 : ∀ u ∈ news, u.oneCell' = true)
    (hn : n ≤ 4000000) (hby : bytes ≤ 100000) (hbase : B ≤ W.heap.size)
    (h : ∀ v' w', w'.ownsRow B e size v' (n + 1) (xs ++ news) → (W.alloc (.cells news.toArray e')).grownBy w' v.ownBlock → (v'.ownBlock = v.ownBlock ∨ v'.ownBlock = some (W.heap.size + 1)) → wpList P ops Q rest (a.put o.dst v') w') :
    wpList P ops Q (o :: rest) a (W.alloc (.cells news.toArray e')) := by
  obtain ⟨i0, hi, hz0, hz1, hz2⟩ := info_parts hinfo
  have hcell : ∀ j u, news[j]? = some u → (W.alloc (.cells news.toArray e')).cell? ((⟨W.heap.size, 0, none⟩ : Addr).add j) = some u := by
    intro j u hu
    rw [show (⟨W.heap.size, 0, none⟩ : Addr).add j = ⟨W.heap.size, j, none⟩ by unfold Addr.add; split <;> simp_all]
    rw [cell_of_row (W.alloc (.cells news.toArray e')) W.heap.size j news.toArray e' (0, 0) (heap_alloc_new W _)]
    rw [List.getElem?_toArray]; exact hu
  have hbytes : (n + 1) * bytes ≤ 140737488355328 := by
    calc (n + 1) * bytes ≤ 4000001 * 100000 := Nat.mul_le_mul (by omega) hby
      _ ≤ 140737488355328 := by decide
  obtain ⟨v', w', hr, h2, h3, h4, h5⟩ := run_append_own_at (P := P) (W.alloc (.cells news.toArray e')) B t o.type e i0 z size bytes ht hi hz0 hz1 hz2 hzs hsz v n xs (hown.alloc _) ⟨W.heap.size, 0, none⟩ 1 1 news (by rw [hl, Nat.one_mul]) hcell h1 (by unfold maxLen; omega) hbytes (by simp; omega)
  refine BigFrame.wpList_want hgd fun K hK => ?_
  unfold Oper.wp execOp
  simp only [ho, resolve, invoke, builtin, Sem.run_bind, Sem.run_pure, Result.andThen_ok, List.map_toArray, List.map_cons, List.map_nil, hs, hx, hr]
  exact hK _ _ (h v' w' h2 h3 (by rw [show (W.alloc (.cells news.toArray e')).heap.size = W.heap.size + 1 by simp] at h5; exact h5))
end Go.Proofs.Ytfhbolpchmdaoaa
/- Levels as the program fills them in: plain mathematics and rows. No function of the program is named here. -/
namespace Go.Proofs.Ytfhbolpchmdaoaa
open Go.RowKit
set_option linter.unusedVariables false
/-- The greatest of 0 and what stands behind the levels of the first m of a list. -/
def maxB (out l : List Int) : Nat → Int
  | 0 => 0
  | m + 1 => max (maxB out l m) (out.getD (l.getD m 0).toNat 0 + 1)
theorem maxB_app (out l : List Int) (x : Int) : ∀ m, m ≤ l.length → maxB out (l ++ [x]) m = maxB out l m := by
  intro m
  induction m with
  | zero => intro _; rfl
  | succ m ih =>
    intro h
    simp only [maxB]
    rw [ih (by omega), getD_appI _ _ _ (by omega)]
theorem maxB_bef (L : List Acn) (out : List Int) (k : Nat) : ∀ j, maxB out (befM L k j) (befM L k j).length = maxLv L out k j := by
  intro j
  induction j with
  | zero => rfl
  | succ j ih =>
    rw [befM_next, maxLv, confM_symm (L.getD j noA)]
    by_cases h : confM (L.getD k noA) (L.getD j noA) = true
    · rw [if_pos h, if_pos h, List.length_append]
      show max (maxB out (befM L k j ++ [(j : Int)]) (befM L k j).length) (out.getD ((befM L k j ++ [(j : Int)]).getD (befM L k j).length 0).toNat 0 + 1) = _
      rw [maxB_app _ _ _ _ (Nat.le_refl _), getD_lastI, ih]; rfl
    · rw [if_neg h, if_neg h]; exact ih
theorem maxB_bd (out l : List Int) (B : Int) (h : ∀ i, out.getD i 0 ≤ B ∧ 0 ≤ out.getD i 0) (hB : 0 ≤ B) : ∀ m, 0 ≤ maxB out l m ∧ maxB out l m ≤ B + 1 := by
  intro m
  induction m with
  | zero => simp only [maxB]; omega
  | succ m ih =>
    have := h (l.getD m 0).toNat
    simp only [maxB]; omega
theorem levN_all (L : List Acn) (k : Nat) (hk : k ≤ 10) (i : Nat) : (levN L k).getD i 0 ≤ 10 ∧ 0 ≤ (levN L k).getD i 0 := by
  by_cases h : i < k
  · have := levN_bd L k i h; omega
  · rw [List.getD_eq_getElem?_getD, List.getElem?_eq_none (by rw [levN_len]; omega)]; simp
/-- The row of levels when k of n are whole and the next one is v. -/
def lvR (L : List Acn) (n k : Nat) (v : Int) : List Int := (List.range n).map (fun i => if i < k then (levN L k).getD i 0 else if i = k then v else 0)
theorem lvR_len (L : List Acn) (n k : Nat) (v : Int) : (lvR L n k v).length = n := by simp [lvR]
theorem lvR_get (L : List Acn) (n k : Nat) (v : Int) (i : Nat) (h : i < n) : (lvR L n k v).getD i 0 = if i < k then (levN L k).getD i 0 else if i = k then v else 0 := by
  rw [List.getD_eq_getElem?_getD, lvR, List.getElem?_map, List.getElem?_range h]; rfl
theorem lvR_zero (L : List Acn) (n : Nat) : lvR L n 0 0 = List.replicate n 0 := by
  refine List.ext_getElem? fun i => ?_
  by_cases h : i < n
  · rw [lvR, List.getElem?_map, List.getElem?_range h, List.getElem?_replicate, if_pos h]
    by_cases e : i = 0 <;> simp [e]
  · rw [List.getElem?_eq_none (by rw [lvR_len]; omega), List.getElem?_eq_none (by simp; omega)]
theorem lvR_set (L : List Acn) (n k : Nat) (v v' : Int) : (lvR L n k v).set k v' = lvR L n k v' := by
  refine List.ext_getElem? fun i => ?_
  rw [List.getElem?_set]
  by_cases hn : i < n
  · by_cases e : k = i
    · subst e
      rw [if_pos rfl, if_pos (by rw [lvR_len]; exact hn), lvR, List.getElem?_map, List.getElem?_range hn]
      simp
    · rw [if_neg e, lvR, lvR, List.getElem?_map, List.getElem?_map, List.getElem?_range hn]
      simp [show ¬ i = k from fun e' => e e'.symm]
  · rw [List.getElem?_eq_none (l := lvR L n k v) (by rw [lvR_len]; omega), List.getElem?_eq_none (l := lvR L n k v') (by rw [lvR_len]; omega)]
    split
    · rw [if_neg (by rw [lvR_len]; omega)]
    · rfl
theorem lvR_up (L : List Acn) (n k : Nat) : lvR L n k (maxLv L (levN L k) k k) = lvR L n (k + 1) 0 := by
  refine List.map_congr_left fun i hi => ?_
  by_cases h : i < k
  · rw [if_pos h, if_pos (by omega), levN_get L i k h, levN_get L i (k + 1) (by omega)]
  · rw [if_neg h]
    by_cases e : i = k
    · subst e; rw [if_pos rfl, if_pos (by omega), levN_get L i (i + 1) (by omega)]
    · rw [if_neg e, if_neg (by omega)]
      split <;> rfl
theorem lvR_all (L : List Acn) (n : Nat) : lvR L n n 0 = levN L n := by
  refine List.ext_getElem? fun i => ?_
  by_cases h : i < n
  · rw [lvR, List.getElem?_map, List.getElem?_range h]
    simp only [Option.map_some, if_pos h]
    rw [List.getD_eq_getElem?_getD, List.getElem?_eq_getElem (by rw [levN_len]; exact h)]; rfl
  · rw [List.getElem?_eq_none (by rw [lvR_len]; omega), List.getElem?_eq_none (by rw [levN_len]; omega)]
end Go.Proofs.Ytfhbolpchmdaoaa
/- The order by levels: plain mathematics. No function of the program is named here. -/
namespace Go.Proofs.Ytfhbolpchmdaoaa
/-- a comes before b: its level is lower, or the same and its number greater. -/
def keyLt (V : List Int) (a b : Int) : Prop := V.getD a.toNat 0 < V.getD b.toNat 0 ∨ (V.getD a.toNat 0 = V.getD b.toNat 0 ∧ b < a)
theorem keyLt_trans {V : List Int} {a b c : Int} (h : keyLt V a b) (h2 : keyLt V b c) : keyLt V a c := by
  unfold keyLt at *; omega
theorem keyLt_irrefl {V : List Int} {a : Int} (h : keyLt V a a) : False := by
  unfold keyLt at h; omega
theorem keyLt_total {V : List Int} {a b : Int} (h : ¬ keyLt V a b) (h2 : a ≠ b) : keyLt V b a := by
  unfold keyLt at *; omega
/-- What cmp.Compare answers. -/
def cmpZ (x y : Int) : Int := if x < y then -1 else if y < x then 1 else 0
/-- What the comparison of two numbers answers. -/
def cmpM (V : List Int) (a b : Int) : Int := if cmpZ (V.getD a.toNat 0) (V.getD b.toNat 0) ≠ 0 then cmpZ (V.getD a.toNat 0) (V.getD b.toNat 0) else cmpZ b a
theorem cmpM_lt {V : List Int} {a b : Int} : cmpM V a b < 0 ↔ keyLt V a b := by
  unfold cmpM cmpZ keyLt
  split <;> split <;> omega
theorem cmpZ_bd (x y : Int) : -1 ≤ cmpZ x y ∧ cmpZ x y ≤ 1 := by unfold cmpZ; split <;> (try split) <;> omega
theorem cmpM_bd (V : List Int) (a b : Int) : -1 ≤ cmpM V a b ∧ cmpM V a b ≤ 1 := by
  have := cmpZ_bd (V.getD a.toNat 0) (V.getD b.toNat 0)
  have := cmpZ_bd b a
  unfold cmpM; split <;> omega
/-- Those of a level, the greatest first, of the first r. -/
def downF (V : List Int) (l : Int) : Nat → List Int
  | 0 => []
  | r + 1 => (if V.getD r 0 = l then [(r : Int)] else []) ++ downF V l r
/-- Those of the first t levels. -/
def upF (V : List Int) : Nat → List Int
  | 0 => []
  | t + 1 => upF V t ++ downF V t V.length
/-- What LevelOrder answers. -/
def lvOrdM (V : List Int) : List Int := upF V V.length
theorem downF_mem {V : List Int} {l : Int} {x : Int} : ∀ r, x ∈ downF V l r ↔ ∃ m : Nat, x = m ∧ m < r ∧ V.getD m 0 = l := by
  intro r
  induction r with
  | zero => simp [downF]
  | succ r ih =>
    rw [downF, List.mem_append, ih]
    constructor
    · rintro (h | ⟨m, h1, h2, h3⟩)
      · split at h
        · rename_i he
          simp at h
          exact ⟨r, h, by omega, he⟩
        · cases h
      · exact ⟨m, h1, by omega, h3⟩
    · rintro ⟨m, h1, h2, h3⟩
      rcases (by omega : m = r ∨ m < r) with rfl | h
      · left; rw [if_pos h3]; simp [h1]
      · exact .inr ⟨m, h1, h, h3⟩
theorem upF_mem {V : List Int} {x : Int} : ∀ t, x ∈ upF V t ↔ ∃ m : Nat, x = m ∧ m < V.length ∧ 0 ≤ V.getD m 0 ∧ V.getD m 0 < t := by
  intro t
  induction t with
  | zero => simp only [upF]; constructor
            · intro h; cases h
            · rintro ⟨m, -, -, h1, h2⟩; omega
  | succ t ih =>
    rw [upF, List.mem_append, ih, downF_mem]
    constructor
    · rintro (⟨m, h1, h2, h3, h4⟩ | ⟨m, h1, h2, h3⟩)
      · exact ⟨m, h1, h2, h3, by omega⟩
      · exact ⟨m, h1, h2, by omega, by omega⟩
    · rintro ⟨m, h1, h2, h3, h4⟩
      rcases (by omega : V.getD m 0 = t ∨ V.getD m 0 < t) with h | h
      · exact .inr ⟨m, h1, h2, h⟩
      · exact .inl ⟨m, h1, h2, h3, h⟩
theorem downF_asc (V : List Int) (l : Int) : ∀ r, (downF V l r).Pairwise (keyLt V) := by
  intro r
  induction r with
  | zero => exact List.Pairwise.nil
  | succ r ih =>
    rw [downF, List.pairwise_append]
    refine ⟨by split <;> simp, ih, fun a ha b hb => ?_⟩
    split at ha
    · rename_i he
      simp at ha
      obtain ⟨m, h1, h2, h3⟩ := (downF_mem r).1 hb
      subst ha h1
      right
      refine ⟨?_, by omega⟩
      show V.getD (r : Int).toNat 0 = V.getD (m : Int).toNat 0
      rw [Int.toNat_natCast, Int.toNat_natCast, he, h3]
    · cases ha
theorem upF_asc (V : List Int) : ∀ t, (upF V t).Pairwise (keyLt V) := by
  intro t
  induction t with
  | zero => exact List.Pairwise.nil
  | succ t ih =>
    rw [upF, List.pairwise_append]
    refine ⟨ih, downF_asc V t _, fun a ha b hb => ?_⟩
    obtain ⟨m, h1, -, -, h4⟩ := (upF_mem t).1 ha
    obtain ⟨m', g1, -, g3⟩ := (downF_mem _).1 hb
    subst h1 g1
    left
    show V.getD (m : Int).toNat 0 < V.getD (m' : Int).toNat 0
    rw [Int.toNat_natCast, Int.toNat_natCast]; omega
theorem lvOrd_mem {V : List Int} (h : ∀ k, k < V.length → 0 ≤ V.getD k 0 ∧ V.getD k 0 ≤ k) {x : Int} : x ∈ lvOrdM V ↔ ∃ m : Nat, x = m ∧ m < V.length := by
  unfold lvOrdM
  rw [upF_mem]
  constructor
  · rintro ⟨m, h1, h2, -⟩; exact ⟨m, h1, h2⟩
  · rintro ⟨m, h1, h2⟩
    have := h m h2
    exact ⟨m, h1, h2, by omega, by omega⟩
theorem asc_nodup {V : List Int} {l : List Int} (h : l.Pairwise (keyLt V)) : l.Nodup := h.imp fun {a b} hk e => by subst e; exact keyLt_irrefl hk
theorem plain_mem {n : Nat} {x : Int} : x ∈ plainM n ↔ ∃ m : Nat, x = m ∧ m < n := by
  unfold plainM
  rw [List.mem_map]
  exact ⟨fun ⟨m, h1, h2⟩ => ⟨m, h2.symm, List.mem_range.1 h1⟩, fun ⟨m, h1, h2⟩ => ⟨m, List.mem_range.2 h2, h1.symm⟩⟩
theorem plain_nodup (n : Nat) : (plainM n).Nodup := by
  unfold plainM
  refine List.Pairwise.map (R := fun a b => a ≠ b) _ (fun a b h e => h (by omega)) ?_
  exact List.nodup_range
theorem lvOrd_perm {V : List Int} (h : ∀ k, k < V.length → 0 ≤ V.getD k 0 ∧ V.getD k 0 ≤ k) : (lvOrdM V).Perm (plainM V.length) :=
  (List.perm_ext_iff_of_nodup (asc_nodup (upF_asc V _)) (plain_nodup _)).2 fun _ => (lvOrd_mem h).trans plain_mem.symm
theorem lvOrd_len {V : List Int} (h : ∀ k, k < V.length → 0 ≤ V.getD k 0 ∧ V.getD k 0 ≤ k) : (lvOrdM V).length = V.length := by
  rw [(lvOrd_perm h).length_eq, plainM_len]
/-- What is sorted, and has every number once, is the order by levels. -/
theorem lvOrd_unique {V D : List Int} (h : ∀ k, k < V.length → 0 ≤ V.getD k 0 ∧ V.getD k 0 ≤ k) (hs : D.Pairwise (keyLt V)) (hm : ∀ x, x ∈ D ↔ ∃ m : Nat, x = m ∧ m < V.length) : D = lvOrdM V := by
  refine List.Perm.eq_of_pairwise (le := keyLt V) (fun a b _ _ h1 h2 => (keyLt_irrefl (keyLt_trans h1 h2)).elim) hs (upF_asc V _) ?_
  exact (List.perm_ext_iff_of_nodup (asc_nodup hs) (asc_nodup (upF_asc V _))).2 fun x => by rw [hm x]; exact (lvOrd_mem h).symm
theorem levels_bd (L : List Acn) : ∀ k, k < (levelsM L).length → 0 ≤ (levelsM L).getD k 0 ∧ (levelsM L).getD k 0 ≤ k := by
  intro k hk
  cases hL : actsB L with
  | false => rw [levelsM_no hL] at hk; simp at hk
  | true => exact lev_bd hL (by rw [levelsM_len hL] at hk; exact hk)
theorem lvOrdM_wf {L : List Acn} : ∀ x ∈ lvOrdM (levelsM L), 0 ≤ x ∧ x ≤ 9 := by
  intro x hx
  obtain ⟨m, h1, h2⟩ := (lvOrd_mem (levels_bd L)).1 hx
  have : (levelsM L).length ≤ 10 := by
    cases hL : actsB L with
    | false => rw [levelsM_no hL]; simp
    | true => rw [levelsM_len hL]; exact (actsB_true hL).1
  omega
/-! Sorting by insertion. -/
/-- Every number below n is there, once. -/
def Whole (D : List Int) (n : Nat) : Prop := D.length = n ∧ (∀ i, i < n → 0 ≤ D.getD i 0 ∧ D.getD i 0 < n) ∧ (∀ i k, i < n → k < n → D.getD i 0 = D.getD k 0 → i = k)
/-- The first i are in order. -/
def SortTo (V D : List Int) (i : Nat) : Prop := ∀ p q, p < q → q < i → keyLt V (D.getD p 0) (D.getD q 0)
/-- The first i + 1 are in order, but for what stands ahead of the one at j. -/
def SortBut (V D : List Int) (i j : Nat) : Prop := ∀ p q, p < q → q ≤ i → q ≠ j → keyLt V (D.getD p 0) (D.getD q 0)
theorem SortTo.but {V D : List Int} {i : Nat} (h : SortTo V D i) : SortBut V D i i := fun p q h1 h2 h3 => h p q h1 (by omega)
theorem SortBut.zero {V D : List Int} {i : Nat} (h : SortBut V D i 0) : SortTo V D (i + 1) := fun p q h1 h2 => h p q h1 (by omega) (by omega)
theorem SortBut.stop {V D : List Int} {i j : Nat} (h : SortBut V D i (j + 1)) (hj : j + 1 ≤ i) (hk : keyLt V (D.getD j 0) (D.getD (j + 1) 0)) : SortTo V D (i + 1) := by
  intro p q h1 h2
  by_cases e : q = j + 1
  · subst e
    rcases (by omega : p = j ∨ p < j) with rfl | h3
    · exact hk
    · exact keyLt_trans (h p j h3 (by omega) (by omega)) hk
  · exact h p q h1 (by omega) e
/-- Two neighbours change their places. -/
def swapD (D : List Int) (j : Nat) : List Int := (D.set (j + 1) (D.getD j 0)).set j (D.getD (j + 1) 0)
theorem swapD_len (D : List Int) (j : Nat) : (swapD D j).length = D.length := by simp [swapD]
theorem swapD_get (D : List Int) (j : Nat) (h : j + 1 < D.length) (p : Nat) : (swapD D j).getD p 0 = if p = j then D.getD (j + 1) 0 else if p = j + 1 then D.getD j 0 else D.getD p 0 := by
  unfold swapD
  rw [List.getD_eq_getElem?_getD, List.getElem?_set, List.getElem?_set, List.length_set]
  by_cases e : p = j
  · subst e; rw [if_pos rfl, if_pos (by omega), if_pos rfl]; rfl
  · rw [if_neg (fun e' => e e'.symm), if_neg e]
    by_cases e2 : p = j + 1
    · subst e2; rw [if_pos rfl, if_pos (by omega), if_pos rfl]; rfl
    · rw [if_neg (fun e' => e2 e'.symm), if_neg e2, List.getD_eq_getElem?_getD]
theorem swapD_whole {D : List Int} {n j : Nat} (h : Whole D n) (hj : j + 1 < n) : Whole (swapD D j) n := by
  obtain ⟨h1, h2, h3⟩ := h
  have hg := swapD_get D j (by omega)
  refine ⟨by rw [swapD_len]; exact h1, fun i hi => ?_, fun i k hi hk he => ?_⟩
  · rw [hg]
    split
    · exact h2 _ hj
    · split
      · exact h2 _ (by omega)
      · exact h2 _ hi
  · rw [hg, hg] at he
    have hs : ∀ i, i < n → (if i = j then j + 1 else if i = j + 1 then j else i) < n := fun i hi => by split <;> (try split) <;> omega
    have he' : D.getD (if i = j then j + 1 else if i = j + 1 then j else i) 0 = D.getD (if k = j then j + 1 else if k = j + 1 then j else k) 0 := by
      have e : ∀ i, (if i = j then D.getD (j + 1) 0 else if i = j + 1 then D.getD j 0 else D.getD i 0) = D.getD (if i = j then j + 1 else if i = j + 1 then j else i) 0 := fun i => by split <;> (try split) <;> rfl
      rw [← e i, ← e k]; exact he
    have := h3 _ _ (hs i hi) (hs k hk) he'
    split at this <;> split at this <;> (try split at this) <;> (try split at this) <;> omega
theorem swapD_but {V D : List Int} {n i j : Nat} (hl : D.length = n) (hi : i < n) (h : SortBut V D i (j + 1)) (hj : j + 1 ≤ i) (hk : keyLt V (D.getD (j + 1) 0) (D.getD j 0)) : SortBut V (swapD D j) i j := by
  have hg := swapD_get D j (by omega)
  intro p q h1 h2 h3
  rw [hg, hg]
  by_cases e : q = j + 1
  · subst e
    rw [if_neg (by omega : ¬ j + 1 = j), if_pos rfl]
    rcases (by omega : p = j ∨ p < j) with rfl | h4
    · rw [if_pos rfl]; exact hk
    · rw [if_neg (by omega), if_neg (by omega)]; exact h p j h4 (by omega) (by omega)
  · rw [if_neg h3, if_neg e]
    by_cases e1 : p = j
    · subst e1; rw [if_pos rfl]; exact h (p + 1) q (by omega) h2 e
    · rw [if_neg e1]
      by_cases e2 : p = j + 1
      · subst e2; rw [if_pos rfl]; exact h j q (by omega) h2 e
      · rw [if_neg e2]; exact h p q h1 h2 e
theorem whole_mem {D : List Int} {n : Nat} (h : Whole D n) : ∀ x, x ∈ D ↔ ∃ m : Nat, x = m ∧ m < n := by
  obtain ⟨h1, h2, h3⟩ := h
  intro x
  constructor
  · intro hx
    obtain ⟨i, hi, rfl⟩ := mem_getDI hx
    have := h2 i (by omega)
    exact ⟨(D.getD i 0).toNat, by omega, by omega⟩
  · rintro ⟨m, rfl, hm⟩
    obtain ⟨i, hi, e⟩ := pigeon n (fun i => (D.getD i 0).toNat) (fun i hi => by have := h2 i hi; omega) (fun i k hik hk e => by
      have := h3 i k (by omega) hk (by have := h2 i (by omega); have := h2 k hk; omega)
      omega) m hm
    have := h2 i hi
    rw [show (m : Int) = D.getD i 0 by omega]
    exact getD_memI D i (by omega)
theorem sorted_pairwise {V D : List Int} (h : SortTo V D D.length) : D.Pairwise (keyLt V) := by
  rw [List.pairwise_iff_getElem]
  intro i j hi hj hij
  have := h i j hij hj
  rw [List.getD_eq_getElem?_getD, List.getD_eq_getElem?_getD, List.getElem?_eq_getElem hi, List.getElem?_eq_getElem hj] at this
  exact this
theorem sorted_is {V D : List Int} (hV : ∀ k, k < V.length → 0 ≤ V.getD k 0 ∧ V.getD k 0 ≤ k) (hw : Whole D V.length) (hs : SortTo V D V.length) : D = lvOrdM V :=
  lvOrd_unique hV (sorted_pairwise (by rw [hw.1]; exact hs)) (whole_mem hw)
theorem plain_whole (n : Nat) : Whole (plainM n) n :=
  ⟨plainM_len n, fun i hi => by rw [plainM_get n i hi]; omega, fun i k hi hk e => by rw [plainM_get n i hi, plainM_get n k hk] at e; omega⟩
end Go.Proofs.Ytfhbolpchmdaoaa
/- What stage 8's laws say, as plain mathematics: two actions that are not in conflict, the order by levels fits. No function of the program is named here. -/
namespace Go.Proofs.Ytfhbolpchmdaoaa
set_option linter.unusedVariables false
/-- Two actions that are not in conflict lead, in both orders, to the same store and the same effects. -/
theorem ser_swap {S : List Ent} {a b : Acn} (hS : storeB S = true) (ha : actB a = true) (hb : actB b = true) (hc : confM a b = false) :
    ∃ T x y, serM S [a, b] = (T, [x, y]) ∧ serM S [b, a] = (T, [y, x]) := by
  have hab : actsB [a, b] = true := actsB_yes (by simp) fun z hz => by simp at hz; rcases hz with rfl | rfl <;> assumption
  have hba : actsB [b, a] = true := actsB_yes (by simp) fun z hz => by simp at hz; rcases hz with rfl | rfl <;> assumption
  have hf : fitsM [b, a] [1, 0] = true := by
    refine fitsM_yes hba rfl fun k hk => ?_
    have hk2 : k < 2 := hk
    rcases (by omega : k = 0 ∨ k = 1) with rfl | rfl
    · exact ⟨by constructor <;> simp, fun j hj => by omega⟩
    · refine ⟨by constructor <;> simp, fun j hj => ?_⟩
      obtain rfl : j = 0 := by omega
      refine ⟨by simp, fun ⟨h1, h2⟩ => ?_⟩
      have h3 : confM a b = true := by simpa using h2
      rw [hc] at h3; cases h3
  have h1 := order_serM hS hf
  have ho : ordM [b, a] [1, 0] = [a, b] := by simp [ordM]
  rw [runOrdM_yes hS hf, ho] at h1
  have hl : (serL S [a, b]).2.length = 2 := serL_len S [a, b]
  refine ⟨(serL S [a, b]).1, (serL S [a, b]).2.getD 0 noEff, (serL S [a, b]).2.getD 1 noEff, ?_, ?_⟩
  · rw [serM_yes hS hab]
    generalize (serL S [a, b]) = P at *
    obtain ⟨T, E⟩ := P
    rcases E with _ | ⟨x, _ | ⟨y, _ | ⟨z, r⟩⟩⟩ <;> simp_all
  · rw [← h1]
    generalize (serL S [a, b]) = P at *
    obtain ⟨T, E⟩ := P
    rcases E with _ | ⟨x, _ | ⟨y, _ | ⟨z, r⟩⟩⟩ <;> simp_all [placeM, posL]
/-- The order by levels fits. -/
theorem lvOrd_fits {L : List Acn} (h : actsB L = true) : fitsM L (lvOrdM (levelsM L)) = true := by
  have hV := levels_bd L
  have hl : (lvOrdM (levelsM L)).length = L.length := by rw [lvOrd_len hV, levelsM_len h]
  obtain ⟨O, hO⟩ : ∃ O, O = lvOrdM (levelsM L) := ⟨_, rfl⟩
  have hasc : O.Pairwise (keyLt (levelsM L)) := by rw [hO]; exact upF_asc _ _
  have hmem : ∀ x, x ∈ O ↔ ∃ m : Nat, x = m ∧ m < L.length := fun x => by rw [hO, lvOrd_mem hV, levelsM_len h]
  rw [← hO] at hl ⊢
  have hr : ∀ k, k < L.length → 0 ≤ O.getD k 0 ∧ O.getD k 0 < L.length := fun k hk => by
    obtain ⟨m, e, hm⟩ := (hmem _).1 (getD_memI O k (by omega)); omega
  refine fitsM_yes h hl fun k hk => ⟨hr k hk, fun j hj => ?_⟩
  have hlt : keyLt (levelsM L) (O.getD j 0) (O.getD k 0) := by
    have := List.pairwise_iff_getElem.1 hasc j k (by omega) (by omega) hj
    rw [List.getD_eq_getElem?_getD, List.getD_eq_getElem?_getD, List.getElem?_eq_getElem (by omega : j < O.length), List.getElem?_eq_getElem (by omega : k < O.length)]
    exact this
  refine ⟨fun e => by rw [e] at hlt; exact keyLt_irrefl hlt, fun ⟨h1, h2⟩ => ?_⟩
  have hj' := hr j (by omega)
  have := lev_up h (i := (O.getD k 0).toNat) (k := (O.getD j 0).toNat) (by omega) (by have := hr k hk; omega) (by rw [confM_symm]; exact h2)
  unfold keyLt at hlt
  omega
/-- The levels do not descend along it. -/
theorem lvOrd_up (V : List Int) (k : Nat) (h0 : 0 < k) (hk : k < (lvOrdM V).length) : V.getD ((lvOrdM V).getD (k - 1) 0).toNat 0 ≤ V.getD ((lvOrdM V).getD k 0).toNat 0 := by
  have hasc : (lvOrdM V).Pairwise (keyLt V) := upF_asc V _
  have := List.pairwise_iff_getElem.1 hasc (k - 1) k (by omega) hk (by omega)
  rw [List.getD_eq_getElem?_getD (l := lvOrdM V), List.getD_eq_getElem?_getD (l := lvOrdM V), List.getElem?_eq_getElem (by omega : k - 1 < (lvOrdM V).length), List.getElem?_eq_getElem hk]
  unfold keyLt at this
  show V.getD ((lvOrdM V)[k - 1]).toNat 0 ≤ V.getD ((lvOrdM V)[k]).toNat 0
  omega
end Go.Proofs.Ytfhbolpchmdaoaa
