/- Laws of stores as lists: what Put does, that a valid store is known by its values, totals. No program here. -/
import Derived.Test.YtpaeioabmmkheaaStoreMath
namespace Go.Proofs.Ytpaeioabmmkheaa
def Asc (l : List Ent) : Prop := l.Pairwise (fun a b => a.1 < b.1)
def OkE (l : List Ent) : Prop := ∀ e ∈ l, 0 ≤ e.1 ∧ e.1 ≤ 31 ∧ 1 ≤ e.2 ∧ e.2 ≤ 1000000
def Ok (l : List Ent) : Prop := Asc l ∧ OkE l
theorem okAt_iff (l : List Ent) (k : Nat) : okAt l k = true ↔ ((0 ≤ (l.getD k (0, 0)).1 ∧ (l.getD k (0, 0)).1 ≤ 31) ∧ (1 ≤ (l.getD k (0, 0)).2 ∧ (l.getD k (0, 0)).2 ≤ 1000000)) ∧ (k = 0 ∨ (l.getD (k - 1) (0, 0)).1 < (l.getD k (0, 0)).1) := by
  simp only [okAt, inB, Bool.and_eq_true, Bool.or_eq_true, beq_iff_eq, decide_eq_true_eq]
theorem storeB_cons (e : Ent) (r : List Ent) : storeB (e :: r) = true ↔ (0 ≤ e.1 ∧ e.1 ≤ 31 ∧ 1 ≤ e.2 ∧ e.2 ≤ 1000000) ∧ (∀ f, r.head? = some f → e.1 < f.1) ∧ storeB r = true := by
  rw [storeB_iff, storeB_iff]
  constructor
  · intro h
    have h0 := (okAt_iff _ _).1 (h 0 (by simp))
    simp at h0
    refine ⟨by omega, ?_, ?_⟩
    · intro f hf
      cases r with
      | nil => cases hf
      | cons g s =>
        simp at hf; subst hf
        have := (okAt_iff _ _).1 (h 1 (by simp))
        simp at this; omega
    · intro k hk
      have := (okAt_iff _ _).1 (h (k + 1) (by simpa using hk))
      rw [okAt_iff]
      refine ⟨by simpa using this.1, ?_⟩
      cases k with
      | zero => exact .inl rfl
      | succ k => right; simpa using this.2
  · rintro ⟨h0, h1, h2⟩ k hk
    cases k with
    | zero => rw [okAt_iff]; simp; omega
    | succ k =>
      have hk' : k < r.length := by simpa using hk
      have := (okAt_iff _ _).1 (h2 k hk')
      rw [okAt_iff]
      refine ⟨by simpa using this.1, .inr ?_⟩
      cases k with
      | zero =>
        cases r with
        | nil => cases hk'
        | cons g s => simpa using h1 g rfl
      | succ k =>
        rcases this.2 with h | h
        · omega
        · simpa using h
theorem storeB_ok (l : List Ent) : storeB l = true ↔ Ok l := by
  induction l with
  | nil => simp [Ok, Asc, OkE, storeB]
  | cons e r ih =>
    rw [storeB_cons, ih]
    constructor
    · rintro ⟨h0, h1, ha, ho⟩
      refine ⟨List.pairwise_cons.2 ⟨fun f hf => ?_, ha⟩, fun f hf => ?_⟩
      · cases r with
        | nil => cases hf
        | cons g s =>
          have hg := h1 g rfl
          rcases List.mem_cons.1 hf with rfl | hf
          · exact hg
          · have := (List.pairwise_cons.1 ha).1 f hf; omega
      · rcases List.mem_cons.1 hf with rfl | hf
        · exact h0
        · exact ho f hf
    · rintro ⟨ha, ho⟩
      have := List.pairwise_cons.1 ha
      refine ⟨ho e (by simp), fun f hf => this.1 f (List.mem_of_mem_head? hf), this.2, fun f hf => ho f (List.mem_cons_of_mem _ hf)⟩
/-- Put, read from the front. -/
def pm (key val : Int) : List Ent → List Ent
  | [] => [(key, val)]
  | e :: r => if key ≤ e.1 then (key, val) :: (e :: r).filter (fun f => decide (f.1 ≠ key)) else e :: pm key val r
theorem fold_true (key val : Int) (l : List Ent) : ∀ out, l.foldl (putStep key val) (out, true) = (out ++ l.filter (fun f => decide (f.1 ≠ key)), true) := by
  induction l with
  | nil => intro out; simp
  | cons e r ih =>
    intro out
    by_cases he : e.1 = key
    · simp [putStep, he, ih]
    · simp [putStep, he, ih]
theorem fold_false (key val : Int) (l : List Ent) : ∀ out, (let st := l.foldl (putStep key val) (out, false); if st.2 then st.1 else st.1 ++ [(key, val)]) = out ++ pm key val l := by
  induction l with
  | nil => intro out; simp [pm]
  | cons e r ih =>
    intro out
    by_cases hle : key ≤ e.1
    · by_cases he : e.1 = key
      · simp [putStep, he, fold_true, pm]
      · simp [putStep, hle, he, fold_true, pm]
    · have he : e.1 ≠ key := by omega
      have := ih (out ++ [e])
      simp only [List.foldl_cons, putStep, hle, he, decide_false, Bool.not_false, Bool.and_false, if_false, Bool.false_eq_true] at this ⊢
      rw [this]
      simp [pm, hle]
theorem putRaw_eq (key val : Int) (l : List Ent) : putRaw key val l = if val = 0 then l.filter (fun f => decide (f.1 ≠ key)) else pm key val l := by
  unfold putRaw putFold
  by_cases hv : val = 0
  · have : (val == 0) = true := by simpa using hv
    rw [this, fold_true]; simp [hv]
  · have : (val == 0) = false := by simpa using hv
    rw [this, if_neg hv]
    have := fold_false key val l []
    simpa using this
theorem atM_filter (l : List Ent) (key k : Int) : atM (l.filter (fun f => decide (f.1 ≠ key))) k = if k = key then 0 else atM l k := by
  induction l with
  | nil => simp [atM]
  | cons e r ih =>
    by_cases he : e.1 = key
    · rw [List.filter_cons_of_neg (by simp [he]), ih]
      by_cases hk : k = key
      · simp [hk]
      · have : e.1 ≠ k := by omega
        simp [hk, atM, this]
    · rw [List.filter_cons_of_pos (by simp [he])]
      by_cases hek : e.1 = k
      · have : k ≠ key := by omega
        simp [atM, hek, this]
      · simp only [atM, if_neg hek, ih]
theorem atM_pm (key val k : Int) (l : List Ent) : atM (pm key val l) k = if k = key then val else atM l k := by
  induction l with
  | nil =>
    by_cases hk : k = key
    · simp [pm, atM, hk]
    · have : ¬ key = k := fun h => hk h.symm
      simp [pm, atM, hk, this]
  | cons e r ih =>
    by_cases hle : key ≤ e.1
    · simp only [pm, if_pos hle]
      by_cases hk : k = key
      · simp [atM, hk]
      · have : ¬ key = k := fun h => hk h.symm
        rw [atM, if_neg this, atM_filter, if_neg hk, if_neg hk]
    · simp only [pm, if_neg hle]
      by_cases hk : e.1 = k
      · have : k ≠ key := by omega
        simp [atM, hk, this]
      · rw [atM, if_neg hk, ih]
        by_cases hkk : k = key
        · simp [hkk]
        · rw [if_neg hkk, if_neg hkk, atM, if_neg hk]
theorem atM_put (key val k : Int) (l : List Ent) : atM (putRaw key val l) k = if k = key then val else atM l k := by
  rw [putRaw_eq]
  by_cases hv : val = 0
  · rw [if_pos hv, atM_filter, hv]
  · rw [if_neg hv, atM_pm]
theorem mem_pm (key val : Int) (l : List Ent) : ∀ f ∈ pm key val l, f = (key, val) ∨ f ∈ l := by
  induction l with
  | nil => intro f hf; simp [pm] at hf; exact .inl hf
  | cons e r ih =>
    intro f hf
    by_cases hle : key ≤ e.1
    · simp only [pm, if_pos hle, List.mem_cons] at hf
      rcases hf with h | h
      · exact .inl h
      · exact .inr (List.mem_filter.1 h).1
    · simp only [pm, if_neg hle, List.mem_cons] at hf
      rcases hf with h | h
      · exact .inr (by simp [h])
      · rcases ih f h with h | h
        · exact .inl h
        · exact .inr (List.mem_cons_of_mem _ h)
theorem asc_pm (key val : Int) (l : List Ent) (h : Asc l) : Asc (pm key val l) := by
  induction l with
  | nil => simp [pm, Asc]
  | cons e r ih =>
    have hc := List.pairwise_cons.1 h
    by_cases hle : key ≤ e.1
    · simp only [pm, if_pos hle]
      refine List.pairwise_cons.2 ⟨fun f hf => ?_, List.Pairwise.filter _ h⟩
      have hm := List.mem_filter.1 hf
      have hne : f.1 ≠ key := by simpa using hm.2
      rcases List.mem_cons.1 hm.1 with rfl | h'
      · show key < f.1; omega
      · have := hc.1 f h'; show key < f.1; omega
    · simp only [pm, if_neg hle]
      refine List.pairwise_cons.2 ⟨fun f hf => ?_, ih hc.2⟩
      rcases mem_pm key val r f hf with h' | h'
      · subst h'; show e.1 < key; omega
      · exact hc.1 f h'
theorem ok_put {l : List Ent} {key val : Int} (h : Ok l) (hk0 : 0 ≤ key) (hk1 : key ≤ 31) (hv0 : 0 ≤ val) (hv1 : val ≤ 1000000) : Ok (putRaw key val l) := by
  rw [putRaw_eq]
  by_cases hv : val = 0
  · rw [if_pos hv]
    exact ⟨List.Pairwise.filter _ h.1, fun f hf => h.2 f (List.mem_filter.1 hf).1⟩
  · rw [if_neg hv]
    refine ⟨asc_pm _ _ _ h.1, fun f hf => ?_⟩
    rcases mem_pm key val l f hf with h' | h'
    · subst h'; exact ⟨hk0, hk1, by show 1 ≤ val; omega, hv1⟩
    · exact h.2 f h'
theorem atM_mem {l : List Ent} (h : Asc l) : ∀ e ∈ l, atM l e.1 = e.2 := by
  induction l with
  | nil => intro e he; cases he
  | cons a r ih =>
    intro e he
    have hc := List.pairwise_cons.1 h
    rcases List.mem_cons.1 he with rfl | he
    · simp [atM]
    · have := hc.1 e he
      have hne : a.1 ≠ e.1 := by omega
      rw [atM, if_neg hne]; exact ih hc.2 e he
theorem atM_none {l : List Ent} {k : Int} (h : ∀ e ∈ l, e.1 ≠ k) : atM l k = 0 := by
  induction l with
  | nil => rfl
  | cons a r ih => rw [atM, if_neg (h a (by simp))]; exact ih (fun e he => h e (List.mem_cons_of_mem _ he))
theorem atM_bd {l : List Ent} (h : OkE l) (k : Int) : 0 ≤ atM l k ∧ atM l k ≤ 1000000 := by
  induction l with
  | nil => simp [atM]
  | cons a r ih =>
    have ha := h a (by simp)
    rw [atM]; split
    · omega
    · exact ih (fun e he => h e (List.mem_cons_of_mem _ he))
/-- A valid store is known by its values. -/
theorem ok_ext : ∀ (l m : List Ent), Ok l → Ok m → (∀ k, 0 ≤ k → k ≤ 31 → atM l k = atM m k) → l = m := by
  intro l
  induction l with
  | nil =>
    intro m _ hm h
    cases m with
    | nil => rfl
    | cons b s =>
      have hb := hm.2 b (by simp)
      have := h b.1 hb.1 hb.2.1
      rw [atM_mem hm.1 b (by simp)] at this
      simp [atM] at this; omega
  | cons a r ih =>
    intro m hl hm h
    have ha := hl.2 a (by simp)
    have hla := List.pairwise_cons.1 hl.1
    cases m with
    | nil =>
      have := h a.1 ha.1 ha.2.1
      rw [atM_mem hl.1 a (by simp)] at this
      simp [atM] at this; omega
    | cons b s =>
      have hb := hm.2 b (by simp)
      have hmb := List.pairwise_cons.1 hm.1
      have e1 : a.1 = b.1 := by
        rcases Int.lt_trichotomy a.1 b.1 with hlt | he | hlt
        · exfalso
          have := h a.1 ha.1 ha.2.1
          rw [atM_mem hl.1 a (by simp), atM_none (fun e he => by
            rcases List.mem_cons.1 he with rfl | he
            · omega
            · have := hmb.1 e he; omega)] at this
          omega
        · exact he
        · exfalso
          have := h b.1 hb.1 hb.2.1
          rw [atM_mem hm.1 b (by simp), atM_none (fun e he => by
            rcases List.mem_cons.1 he with rfl | he
            · omega
            · have := hla.1 e he; omega)] at this
          omega
      have e2 : a.2 = b.2 := by
        have := h a.1 ha.1 ha.2.1
        rw [atM_mem hl.1 a (by simp), e1, atM_mem hm.1 b (by simp)] at this
        exact this
      have e3 : r = s := by
        refine ih s ⟨hla.2, fun e he => hl.2 e (List.mem_cons_of_mem _ he)⟩ ⟨hmb.2, fun e he => hm.2 e (List.mem_cons_of_mem _ he)⟩ fun k hk0 hk1 => ?_
        by_cases hka : a.1 = k
        · rw [atM_none (fun e he => by have := hla.1 e he; omega), atM_none (fun e he => by have := hmb.1 e he; omega)]
        · have := h k hk0 hk1
          rw [atM, if_neg hka, atM, if_neg (by omega)] at this
          exact this
      rw [e3, Prod.ext e1 e2]
theorem sumV_filter {l : List Ent} (h : Asc l) (key : Int) : sumV (l.filter (fun f => decide (f.1 ≠ key))) = sumV l - atM l key := by
  induction l with
  | nil => simp [sumV, atM]
  | cons e r ih =>
    have hc := List.pairwise_cons.1 h
    by_cases he : e.1 = key
    · rw [List.filter_cons_of_neg (by simp [he]), ih hc.2, atM, if_pos he, sumV, atM_none (fun f hf => by have := hc.1 f hf; omega)]; omega
    · rw [List.filter_cons_of_pos (by simp [he]), sumV, ih hc.2, sumV, atM, if_neg he]; omega
theorem sumV_put {l : List Ent} (h : Asc l) (key val : Int) : sumV (putRaw key val l) = sumV l - atM l key + val := by
  rw [putRaw_eq]
  by_cases hv : val = 0
  · rw [if_pos hv, sumV_filter h, hv]; omega
  · rw [if_neg hv]
    clear hv
    induction l with
    | nil => simp [pm, sumV, atM]
    | cons e r ih =>
      have hc := List.pairwise_cons.1 h
      by_cases hle : key ≤ e.1
      · simp only [pm, if_pos hle]
        rw [sumV, sumV_filter h]; show val + _ = _; omega
      · simp only [pm, if_neg hle]
        rw [sumV, ih hc.2, sumV, atM, if_neg (by omega)]; omega
theorem put_back {l : List Ent} (h : Ok l) {key val : Int} (hk0 : 0 ≤ key) (hk1 : key ≤ 31) (hv0 : 0 ≤ val) (hv1 : val ≤ 1000000) : putRaw key (atM l key) (putRaw key val l) = l := by
  have hb := atM_bd h.2 key
  refine ok_ext _ _ (ok_put (ok_put h hk0 hk1 hv0 hv1) hk0 hk1 hb.1 hb.2) h fun k _ _ => ?_
  rw [atM_put, atM_put]
  by_cases e : k = key <;> simp [e]
theorem put_order {l : List Ent} (h : Ok l) {k1 v1 k2 v2 : Int} (a0 : 0 ≤ k1) (a1 : k1 ≤ 31) (a2 : 0 ≤ v1) (a3 : v1 ≤ 1000000) (b0 : 0 ≤ k2) (b1 : k2 ≤ 31) (b2 : 0 ≤ v2) (b3 : v2 ≤ 1000000) (hne : k1 ≠ k2) :
    putRaw k2 v2 (putRaw k1 v1 l) = putRaw k1 v1 (putRaw k2 v2 l) := by
  refine ok_ext _ _ (ok_put (ok_put h a0 a1 a2 a3) b0 b1 b2 b3) (ok_put (ok_put h b0 b1 b2 b3) a0 a1 a2 a3) fun k _ _ => ?_
  rw [atM_put, atM_put, atM_put, atM_put]
  by_cases e : k = k1
  · subst e; simp [hne]
  · simp [e]
theorem ok_take {l : List Ent} (h : Ok l) (k : Nat) : Ok (l.take k) := ⟨List.Pairwise.sublist (List.take_sublist k l) h.1, fun e he => h.2 e (List.mem_of_mem_take he)⟩
theorem store_take {l : List Ent} (h : storeB l = true) (k : Nat) : storeB (l.take k) = true := (storeB_ok _).2 (ok_take ((storeB_ok _).1 h) k)
theorem store_bad32 (l : List Ent) : storeB (l ++ [(32, 1)]) = false := by
  rw [Bool.eq_false_iff]; intro h
  have := ((storeB_ok _).1 h).2 (32, 1) (by simp)
  simp at this
end Go.Proofs.Ytpaeioabmmkheaa
