/- Serial runs: plain mathematics. No function of the program is named here. -/
import Derived.Test.YtpnahncmhldgdaaEffMath
namespace Go.Proofs.Ytpnahncmhldgdaa
/-- The store after actions, one after the other, and their effects. -/
def serL : List Ent → List Acn → List Ent × List Eff
  | S, [] => (S, [])
  | S, a :: L => ((serL (applyM S (runM S a).wrs) L).1, runM S a :: (serL (applyM S (runM S a).wrs) L).2)
/-- What RunSerial answers. -/
def serM (S : List Ent) (L : List Acn) : List Ent × List Eff := if storeB S && actsB L then serL S L else ([], [])
theorem serM_yes {S : List Ent} {L : List Acn} (h : storeB S = true) (h2 : actsB L = true) : serM S L = serL S L := by simp [serM, h, h2]
theorem serM_no {S : List Ent} {L : List Acn} (h : (storeB S && actsB L) = false) : serM S L = ([], []) := by simp [serM, h]
theorem serL_append (S : List Ent) (L M : List Acn) : serL S (L ++ M) = ((serL (serL S L).1 M).1, (serL S L).2 ++ (serL (serL S L).1 M).2) := by
  induction L generalizing S with
  | nil => rfl
  | cons a r ih => simp only [List.cons_append, serL, ih]
theorem serL_snoc (S : List Ent) (L : List Acn) (a : Acn) : serL S (L ++ [a]) = (applyM (serL S L).1 (runM (serL S L).1 a).wrs, (serL S L).2 ++ [runM (serL S L).1 a]) := by
  rw [serL_append]; rfl
theorem serL_len (S : List Ent) (L : List Acn) : (serL S L).2.length = L.length := by
  induction L generalizing S with
  | nil => rfl
  | cons a r ih => simp only [serL, List.length_cons, ih]
theorem store_run {S : List Ent} (a : Acn) (h : storeB S = true) : storeB (applyM S (runM S a).wrs) = true := by
  rw [applyM_yes h (wr_run S a)]; exact ok_applyM h (wr_run S a)
theorem store_ser {S : List Ent} (L : List Acn) (h : storeB S = true) : storeB (serL S L).1 = true := by
  induction L generalizing S with
  | nil => exact h
  | cons a r ih => exact ih (store_run a h)
theorem takeA_one (L : List Acn) (k : Nat) (h : k < L.length) : L.take (k + 1) = L.take k ++ [L.getD k noA] := by
  rw [List.take_succ_eq_append_getElem h, List.getD_eq_getElem?_getD, List.getElem?_eq_getElem h]; rfl
theorem serL_next (S : List Ent) (L : List Acn) (k : Nat) (h : k < L.length) :
    serL S (L.take (k + 1)) = (applyM (serL S (L.take k)).1 (runM (serL S (L.take k)).1 (L.getD k noA)).wrs, (serL S (L.take k)).2 ++ [runM (serL S (L.take k)).1 (L.getD k noA)]) := by
  rw [takeA_one L k h, serL_snoc]
theorem serL_eff (S : List Ent) (L : List Acn) : ∀ x ∈ (serL S L).2, x.rds.length ≤ 2 ∧ x.wrs.length ≤ 32 := by
  induction L generalizing S with
  | nil => intro x h; cases h
  | cons a r ih =>
    intro x h
    rcases List.mem_cons.1 h with rfl | h
    · exact ⟨runM_rlen S a, runM_wlen S a⟩
    · exact ih _ x h
theorem serM_eff (S : List Ent) (L : List Acn) : ∀ x ∈ (serM S L).2, x.rds.length ≤ 2 ∧ x.wrs.length ≤ 32 := by
  unfold serM; split
  · exact serL_eff S L
  · intro x h; cases h
theorem serM_len (S : List Ent) (L : List Acn) : (serM S L).2.length ≤ 10 := by
  unfold serM
  split
  · rename_i h
    rw [Bool.and_eq_true] at h
    rw [serL_len]; exact (actsB_true h.2).1
  · simp
theorem serM_store (S : List Ent) (L : List Acn) : (serM S L).1.length ≤ 32 := by
  unfold serM
  split
  · rename_i h
    rw [Bool.and_eq_true] at h
    exact store_len (store_ser L h.1)
  · simp
theorem actsB_drop {l : List Acn} (h : actsB l = true) (k : Nat) : actsB (l.drop k) = true := by
  obtain ⟨h0, h1⟩ := actsB_true h
  exact actsB_yes (by rw [List.length_drop]; omega) (fun x hx => h1 x (List.mem_of_mem_drop hx))
/-- Two parts, one after the other. -/
theorem ser_parts {S : List Ent} {L : List Acn} (h : storeB S = true) (h2 : actsB L = true) (k : Nat) :
    (serM (serM S (L.take k)).1 (L.drop k)).1 = (serM S L).1 ∧ (serM S (L.take k)).2 ++ (serM (serM S (L.take k)).1 (L.drop k)).2 = (serM S L).2 := by
  rw [serM_yes h (actsB_take h2 k), serM_yes (store_ser _ h) (actsB_drop h2 k), serM_yes h h2]
  have e := serL_append S (L.take k) (L.drop k)
  rw [List.take_append_drop] at e
  rw [e]; exact ⟨rfl, rfl⟩
/-- How many are done. -/
def doneN : List Eff → Nat
  | [] => 0
  | e :: r => (if e.done then 1 else 0) + doneN r
theorem doneN_append (L M : List Eff) : doneN (L ++ M) = doneN L + doneN M := by
  induction L with
  | nil => simp [doneN]
  | cons a r ih => simp only [List.cons_append, doneN, ih]; omega
theorem doneN_le (L : List Eff) : doneN L ≤ L.length := by
  induction L with
  | nil => simp [doneN]
  | cons a r ih => simp only [doneN, List.length_cons]; split <;> omega
theorem takeF_one (L : List Eff) (k : Nat) (h : k < L.length) : L.take (k + 1) = L.take k ++ [L.getD k noEff] := by
  rw [List.take_succ_eq_append_getElem h, List.getD_eq_getElem?_getD, List.getElem?_eq_getElem h]; rfl
theorem doneN_next (L : List Eff) (k : Nat) (h : k < L.length) : doneN (L.take (k + 1)) = doneN (L.take k) + (if (L.getD k noEff).done then 1 else 0) := by
  rw [takeF_one L k h, doneN_append]; simp [doneN]
theorem doneN_parts (L : List Eff) (k : Nat) : doneN (L.take k) + doneN (L.drop k) = doneN L := by
  rw [← doneN_append, List.take_append_drop]
/-- What EffectsSum answers. -/
def effsSumM (L : List Eff) : Int := if L.length ≤ 10 then sumOfM 4 (L.map effSumM) else -1
theorem effsSum_more {L : List Eff} (e : Eff) (h : 0 ≤ effsSumM L) (hl : L.length ≠ 10) : effsSumM (L ++ [e]) = sumMoreM (effsSumM L) (effSumM e) := by
  unfold effsSumM at h ⊢
  by_cases h0 : L.length ≤ 10
  · rw [if_pos h0] at h ⊢
    rw [if_pos (by simp; omega), List.map_append, List.map_cons, List.map_nil]
    rcases sumOfM_cases 4 (L.map effSumM) with h1 | ⟨h1, h2, h3, h4, h5⟩
    · omega
    · have hok : okSumB (sumOfM 4 (L.map effSumM)) = true := by simp [okSumB]; omega
      unfold sumMoreM
      rw [hok]
      unfold sumOfM
      rw [h3, h4]
      cases hq : okSummed (effSumM e) with
      | true => simp [h4, hq, sumFold_snoc]
      | false => simp [hq]
  · rw [if_neg h0] at h; omega
theorem effsSum_cases (L : List Eff) : effsSumM L = -1 ∨ (0 ≤ effsSumM L ∧ effsSumM L ≤ 1000002) := by
  unfold effsSumM
  split
  · rcases sumOfM_cases 4 (L.map effSumM) with h1 | ⟨h1, h2, -⟩
    · exact .inl h1
    · exact .inr ⟨h1, h2⟩
  · exact .inl rfl
/-- A swap. -/
theorem swap_step {S : List Ent} (hS : storeB S = true) {s d : Int} (h2 : actB ⟨4, s, d, 0⟩ = true) :
    (runM S ⟨4, s, d, 0⟩).done = true ∧ storeB (applyM S (runM S ⟨4, s, d, 0⟩).wrs) = true ∧ ∀ k, atM (applyM S (runM S ⟨4, s, d, 0⟩).wrs) k = if k = d then atM S s else if k = s then atM S d else atM S k := by
  have hO := (storeB_ok S).1 hS
  have hb := fun k => atM_bd hO.2 k
  obtain ⟨⟨s0, s1⟩, ⟨d0, d1⟩, -⟩ := actB_bd h2
  simp only at s0 s1 d0 d1
  refine ⟨by rw [runM_yes hS h2]; simp [effK, doneK], store_run _ hS, fun k => ?_⟩
  have hw : (runM S ⟨4, s, d, 0⟩).wrs = pm d (atM S s) [(s, atM S d)] := by rw [runM_yes hS h2]; simp [effK, doneK, outsK]
  rw [applyM_yes hS (wr_run _ _), hw, applyL_two hO s0 s1 d0 d1 (hb d).1 (hb d).2 (hb s).1 (hb s).2, atM_put, atM_put]
theorem swap_twice {S : List Ent} (hS : storeB S = true) {s d : Int} (h2 : actB ⟨4, s, d, 0⟩ = true) : (serM S [⟨4, s, d, 0⟩, ⟨4, s, d, 0⟩]).1 = S ∧ doneN (serM S [⟨4, s, d, 0⟩, ⟨4, s, d, 0⟩]).2 = 2 := by
  have ha : actsB [⟨4, s, d, 0⟩, ⟨4, s, d, 0⟩] = true := actsB_yes (by simp) (by intro x hx; simp at hx; subst hx; exact h2)
  obtain ⟨p1, p2, p3⟩ := swap_step hS h2
  obtain ⟨q1, q2, q3⟩ := swap_step p2 h2
  rw [serM_yes hS ha]
  refine ⟨?_, by simp [serL, doneN, p1, q1]⟩
  refine ok_ext _ _ ((storeB_ok _).1 q2) ((storeB_ok _).1 hS) fun k _ _ => ?_
  refine (q3 k).trans ?_
  rw [p3, p3, p3]
  by_cases hd : k = d
  · subst hd
    rw [if_pos rfl]
    by_cases hs : s = k
    · subst hs; rw [if_pos rfl]
    · rw [if_neg hs, if_pos rfl]
  · rw [if_neg hd]
    by_cases hs : k = s
    · subst hs; rw [if_pos rfl, if_pos rfl]
    · rw [if_neg hs, if_neg hd, if_neg hs]
/-- A move that is done. -/
theorem move_step {S : List Ent} (hS : storeB S = true) {s d m : Int} (h2 : actB ⟨2, s, d, m⟩ = true) (hd : (runM S ⟨2, s, d, m⟩).done = true) :
    m ≤ atM S s ∧ (s = d ∨ atM S d + m ≤ 1000000) ∧ storeB (applyM S (runM S ⟨2, s, d, m⟩).wrs) = true ∧ ∀ k, atM (applyM S (runM S ⟨2, s, d, m⟩).wrs) k = if s = d then atM S k else if k = d then atM S d + m else if k = s then atM S s - m else atM S k := by
  have hO := (storeB_ok S).1 hS
  have hb := fun k => atM_bd hO.2 k
  obtain ⟨⟨s0, s1⟩, ⟨d0, d1⟩, m0, m1⟩ := actB_bd h2
  simp only at s0 s1 d0 d1 m0 m1
  have hs := hb s
  have ht := hb d
  have hdd : doneK 2 s d m (atM S s) (atM S d) = true := by rw [runM_yes hS h2] at hd; exact hd
  have hw : (runM S ⟨2, s, d, m⟩).wrs = if s = d then [(s, atM S s)] else pm d (atM S d + m) [(s, atM S s - m)] := by rw [runM_yes hS h2]; simp only [effK, hdd, if_true]; simp [outsK]
  simp only [doneK, show ¬ (2 : Int) = 5 by omega, if_false, if_true, Bool.and_eq_true, Bool.or_eq_true, decide_eq_true_eq] at hdd
  refine ⟨hdd.1, hdd.2, store_run _ hS, fun k => ?_⟩
  rw [applyM_yes hS (wr_run _ _), hw]
  by_cases hsd : s = d
  · rw [if_pos hsd, if_pos hsd]
    show atM (putRaw s (atM S s) S) k = _
    rw [atM_put]
    by_cases hk : k = s
    · rw [if_pos hk, hk]
    · rw [if_neg hk]
  · rw [if_neg hsd, if_neg hsd, applyL_two hO s0 s1 d0 d1 (by omega) (by omega) (by omega) (by omega), atM_put, atM_put]
theorem move_done {S : List Ent} (hS : storeB S = true) {s d m : Int} (h2 : actB ⟨2, s, d, m⟩ = true) (h3 : m ≤ atM S s) (h4 : s = d ∨ atM S d + m ≤ 1000000) : (runM S ⟨2, s, d, m⟩).done = true := by
  rw [runM_yes hS h2]
  show doneK 2 s d m (atM S s) (atM S d) = true
  simp only [doneK, show ¬ (2 : Int) = 5 by omega, if_false, if_true, Bool.and_eq_true, Bool.or_eq_true, decide_eq_true_eq]
  exact ⟨h3, h4⟩
theorem back_valid {s d m : Int} (h2 : actB ⟨2, s, d, m⟩ = true) : actB ⟨2, d, s, m⟩ = true := by
  simp only [actB, Bool.and_eq_true] at h2 ⊢
  refine ⟨⟨⟨h2.1.1.2, h2.1.1.1⟩, h2.1.2⟩, by simp [restB]⟩
theorem move_back {S : List Ent} (hS : storeB S = true) {s d m : Int} (h2 : actB ⟨2, s, d, m⟩ = true) :
    ∃ x y, (serM S [⟨2, s, d, m⟩, ⟨2, d, s, m⟩]).2 = [x, y] ∧ (x.done = true → y.done = true ∧ (serM S [⟨2, s, d, m⟩, ⟨2, d, s, m⟩]).1 = S) := by
  have hb2 := back_valid h2
  have ha : actsB [⟨2, s, d, m⟩, ⟨2, d, s, m⟩] = true := actsB_yes (by simp) (by intro x hx; simp at hx; rcases hx with rfl | rfl <;> assumption)
  rw [serM_yes hS ha]
  refine ⟨_, _, rfl, fun hd => ?_⟩
  obtain ⟨p1, p2, p3, p4⟩ := move_step hS h2 hd
  have hO := (storeB_ok S).1 hS
  have hs := atM_bd hO.2 s
  have ht := atM_bd hO.2 d
  have hdone : (runM (applyM S (runM S ⟨2, s, d, m⟩).wrs) ⟨2, d, s, m⟩).done = true := by
    refine move_done p3 hb2 ?_ ?_
    · rw [p4]
      by_cases hsd : s = d
      · rw [if_pos hsd, ← hsd]; exact p1
      · rw [if_neg hsd, if_pos rfl]; omega
    · by_cases hsd : s = d
      · exact .inl hsd.symm
      · refine .inr ?_
        rw [p4, if_neg hsd, if_neg hsd, if_pos rfl]; omega
  obtain ⟨q1, q2, q3, q4⟩ := move_step p3 hb2 hdone
  refine ⟨hdone, ok_ext _ _ ((storeB_ok _).1 q3) ((storeB_ok _).1 hS) fun k _ _ => ?_⟩
  refine (q4 k).trans ?_
  by_cases hsd : s = d
  · rw [if_pos hsd.symm, p4, if_pos hsd]
  · rw [if_neg (fun h => hsd h.symm)]
    have eS : atM (applyM S (runM S ⟨2, s, d, m⟩).wrs) s = atM S s - m := by rw [p4, if_neg hsd, if_neg hsd, if_pos rfl]
    have eD : atM (applyM S (runM S ⟨2, s, d, m⟩).wrs) d = atM S d + m := by rw [p4, if_neg hsd, if_pos rfl]
    by_cases h1 : k = s
    · rw [if_pos h1, eS, h1]; omega
    · rw [if_neg h1]
      by_cases h5 : k = d
      · rw [if_pos h5, eD, h5]; omega
      · rw [if_neg h5, p4, if_neg hsd, if_neg h5, if_neg h1]
end Go.Proofs.Ytpnahncmhldgdaa
