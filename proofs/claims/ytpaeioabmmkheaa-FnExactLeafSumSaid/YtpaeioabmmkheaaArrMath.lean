/- Arrays of the values of all keys, as lists, and the entries out of them. No program here. -/
import Derived.Test.YtpaeioabmmkheaaStoreLaws
namespace Go.Proofs.Ytpaeioabmmkheaa
/-- The values of all keys. -/
def arrOf (l : List Ent) : List Int := (List.range 32).map (fun k : Nat => atM l (k : Int))
theorem arrOf_len (l : List Ent) : (arrOf l).length = 32 := by simp [arrOf]
theorem arrOf_get (l : List Ent) (k : Nat) (h : k < 32) : (arrOf l).getD k 0 = atM l k := by
  unfold arrOf
  rw [List.getD_eq_getElem?_getD, List.getElem?_map, List.getElem?_range h]; rfl
theorem arrOf_nil : arrOf [] = List.replicate 32 0 := rfl
theorem atM_append (l m : List Ent) (k : Int) : (∀ f ∈ l, f.1 ≠ k) → atM (l ++ m) k = atM m k := by
  induction l with
  | nil => intro _; rfl
  | cons e r ih => intro h; rw [List.cons_append, atM, if_neg (h e (by simp))]; exact ih (fun f hf => h f (List.mem_cons_of_mem _ hf))
theorem atM_snoc_other (l : List Ent) (e : Ent) (k : Int) (h : e.1 ≠ k) : atM (l ++ [e]) k = atM l k := by
  induction l with
  | nil => simp [atM, h]
  | cons a r ih => simp only [List.cons_append, atM, ih]
theorem arrOf_snoc {l : List Ent} {e : Ent} (ha : ∀ f ∈ l, f.1 ≠ e.1) (h0 : 0 ≤ e.1) : arrOf (l ++ [e]) = (arrOf l).set e.1.toNat e.2 := by
  apply List.ext_getElem?
  intro k
  by_cases hk : k < 32
  · rw [List.getElem?_set]
    have h1 : (arrOf (l ++ [e]))[k]? = some (atM (l ++ [e]) k) := by
      unfold arrOf; rw [List.getElem?_map, List.getElem?_range hk]; rfl
    have h2 : (arrOf l)[k]? = some (atM l k) := by
      unfold arrOf; rw [List.getElem?_map, List.getElem?_range hk]; rfl
    by_cases hke : e.1.toNat = k
    · have hk' : e.1 = (k : Int) := by omega
      rw [if_pos hke, if_pos (by rw [arrOf_len]; omega), h1, ← hk', atM_append l [e] e.1 ha]
      simp [atM]
    · rw [if_neg hke, h1, h2, atM_snoc_other l e k (by omega)]
  · rw [List.getElem?_eq_none (by rw [arrOf_len]; omega), List.getElem?_eq_none (by rw [List.length_set, arrOf_len]; omega)]
/-- The entries of the first j keys. -/
def entTo (A : List Int) (j : Nat) : List Ent := ((List.range j).map (fun k : Nat => ((k : Int), A.getD k 0))).filter (fun e => decide (e.2 ≠ 0))
theorem entTo_next (A : List Int) (j : Nat) : entTo A (j + 1) = if A.getD j 0 = 0 then entTo A j else entTo A j ++ [((j : Int), A.getD j 0)] := by
  unfold entTo
  rw [List.range_succ, List.map_append, List.filter_append]
  by_cases h : A.getD j 0 = 0 <;> simp only [List.map_cons, List.map_nil, List.filter_cons, List.filter_nil, h, ne_eq, not_true, not_false_iff, decide_true, decide_false, if_true, if_false, Bool.false_eq_true, List.append_nil]
theorem entTo_zero (A : List Int) : entTo A 0 = [] := rfl
theorem entTo_len (A : List Int) (j : Nat) : (entTo A j).length ≤ j := by
  unfold entTo; exact Nat.le_trans (List.length_filter_le _ _) (by simp)
theorem entTo_mem (A : List Int) (j : Nat) : ∀ e ∈ entTo A j, ∃ k : Nat, k < j ∧ e = ((k : Int), A.getD k 0) ∧ A.getD k 0 ≠ 0 := by
  intro e he
  have h := List.mem_filter.1 he
  obtain ⟨k, hk, rfl⟩ := List.mem_map.1 h.1
  exact ⟨k, List.mem_range.1 hk, rfl, by simpa using h.2⟩
theorem entTo_asc (A : List Int) (j : Nat) : Asc (entTo A j) := by
  induction j with
  | zero => exact List.Pairwise.nil
  | succ j ih =>
    rw [entTo_next]
    split
    · exact ih
    · refine List.pairwise_append.2 ⟨ih, List.pairwise_singleton _ _, fun e he f hf => ?_⟩
      obtain ⟨k, hk, rfl, _⟩ := entTo_mem A j e he
      simp at hf; subst hf
      show (k : Int) < (j : Int); omega
theorem atM_entTo (A : List Int) (j : Nat) (k : Nat) (hk : k < j) : atM (entTo A j) k = A.getD k 0 := by
  induction j with
  | zero => omega
  | succ j ih =>
    rw [entTo_next]
    by_cases hkj : k = j
    · subst hkj
      have hab : ∀ f ∈ entTo A k, f.1 ≠ (k : Int) := by
        intro f hf
        obtain ⟨i, hi, rfl, _⟩ := entTo_mem A k f hf
        show (i : Int) ≠ k; omega
      split
      · rename_i h; rw [h]; exact atM_none hab
      · rw [atM_append _ _ _ hab]; simp [atM]
    · split
      · exact ih (by omega)
      · rw [atM_snoc_other _ _ _ (by show (j : Int) ≠ k; omega)]; exact ih (by omega)
def BdA (A : List Int) : Prop := ∀ k, k < 32 → 0 ≤ A.getD k 0 ∧ A.getD k 0 ≤ 1000000
theorem bdA_arrOf {l : List Ent} (h : OkE l) : BdA (arrOf l) := fun k hk => by rw [arrOf_get l k hk]; exact atM_bd h k
theorem getD_set (A : List Int) (i k : Nat) (v : Int) (hi : i < A.length) : (A.set i v).getD k 0 = if k = i then v else A.getD k 0 := by
  rw [List.getD_eq_getElem?_getD, List.getElem?_set, List.getD_eq_getElem?_getD]
  by_cases h : i = k
  · subst h; simp [hi]
  · have : ¬ k = i := fun e => h e.symm
    simp [h, this]
theorem bdA_set {A : List Int} (h : BdA A) (hl : A.length = 32) {i : Nat} {v : Int} (hi : i < 32) (h0 : 0 ≤ v) (h1 : v ≤ 1000000) : BdA (A.set i v) := by
  intro k hk
  rw [getD_set A i k v (by omega)]
  split
  · exact ⟨h0, h1⟩
  · exact h k hk
theorem ok_entTo {A : List Int} (h : BdA A) : Ok (entTo A 32) := by
  refine ⟨entTo_asc A 32, fun e he => ?_⟩
  obtain ⟨k, hk, rfl, hne⟩ := entTo_mem A 32 e he
  have := h k hk
  refine ⟨?_, ?_, ?_, ?_⟩ <;> simp only <;> omega
/-- The entries of the values of a valid store are the store. -/
theorem ent_arr {l : List Ent} (h : Ok l) : entTo (arrOf l) 32 = l := by
  refine ok_ext _ _ (ok_entTo (bdA_arrOf h.2)) h fun k h0 h1 => ?_
  obtain ⟨n, rfl⟩ := Int.eq_ofNat_of_zero_le h0
  rw [atM_entTo _ _ _ (by omega), arrOf_get _ _ (by omega)]
/-- The entries with one value set are what Put gives. -/
theorem ent_set {l : List Ent} (h : Ok l) {key val : Int} (k0 : 0 ≤ key) (k1 : key ≤ 31) (v0 : 0 ≤ val) (v1 : val ≤ 1000000) : entTo ((arrOf l).set key.toNat val) 32 = putRaw key val l := by
  refine ok_ext _ _ (ok_entTo (bdA_set (bdA_arrOf h.2) (arrOf_len l) (by omega) v0 v1)) (ok_put h k0 k1 v0 v1) fun k h0 h1 => ?_
  obtain ⟨n, rfl⟩ := Int.eq_ofNat_of_zero_le h0
  rw [atM_entTo _ _ _ (by omega), atM_put, getD_set _ _ _ _ (by rw [arrOf_len]; omega), arrOf_get _ _ (by omega)]
  by_cases hc : (n : Int) = key
  · rw [if_pos hc, if_pos (by omega)]
  · rw [if_neg hc, if_neg (by omega)]
theorem sumV_entTo (A : List Int) (j : Nat) : sumV (entTo A (j + 1)) = sumV (entTo A j) + A.getD j 0 := by
  rw [entTo_next]
  split
  · rename_i h; rw [h]; omega
  · rw [sumV_append]; simp [sumV]
theorem sumV_entTo_bd {A : List Int} (h : BdA A) (j : Nat) (hj : j ≤ 32) : 0 ≤ sumV (entTo A j) ∧ sumV (entTo A j) ≤ 1000000 * j := by
  induction j with
  | zero => simp [entTo_zero, sumV]
  | succ j ih =>
    have := ih (by omega)
    have := h j (by omega)
    rw [sumV_entTo]; omega
/-- The values after the first j entries, of a valid store. -/
theorem arrOf_take {l : List Ent} (h : Ok l) (j : Nat) (hj : j < l.length) : arrOf (l.take (j + 1)) = (arrOf (l.take j)).set (l.getD j (0, 0)).1.toNat (l.getD j (0, 0)).2 := by
  have hm : l.getD j (0, 0) ∈ l := by rw [List.getD_eq_getElem?_getD, List.getElem?_eq_getElem hj]; exact List.getElem_mem hj
  rw [takeE_snoc l j hj]
  refine arrOf_snoc (fun f hf => ?_) (h.2 _ hm).1
  have hp := (ok_take h (j + 1)).1
  rw [takeE_snoc l j hj] at hp
  have := (List.pairwise_append.1 hp).2.2 f hf _ (List.mem_singleton.2 rfl)
  omega
end Go.Proofs.Ytpaeioabmmkheaa
