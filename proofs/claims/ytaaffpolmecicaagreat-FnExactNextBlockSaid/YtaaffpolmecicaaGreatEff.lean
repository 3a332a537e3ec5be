/- Texts of ours that stand together: SerMath, SerMem, SerMem2 -/
import Derived.Test.YtaaffpolmecicaaGreatEffA
import Derived.Test.YtaaffpolmecicaaGreatLay
/- Serial runs: plain mathematics. No function of the program is named here. -/
namespace Go.Proofs.YtaaffpolmecicaaGreat
/-- The store after actions, one after the other, and their effects. -/
def serL : List Ent → List Acn → List Ent × List Eff
  | S, [] => (S, [])
  | S, a :: L => ((serL (applyM S (runM S a).wrs) L).1, runM S a :: (serL (applyM S (runM S a).wrs) L).2)
/-- What RunSerial answers. -/
def serM (S : List Ent) (L : List Acn) : List Ent × List Eff := if storeB S && actsB L then serL S L else ([], [])
theorem serM_yes {S : List Ent} {L : List Acn} (h : storeB S = true) (h2 : actsB L = true) : serM S L = serL S L := by simp [serM, h, h2]
theorem serM_no {S : List Ent} {L : List Acn} (h : (storeB S && actsB L) = false) : serM S L = ([], []) := by simp [serM, h]
theorem serL_append (S : List Ent) (L M : List Acn) : serL S (L ++ M) = ((serL (serL S L).1 M).1, (serL S L).2 ++ (serL (serL S L).1 M).2) := by
  induction L generalizing S with
  | nil => rfl
  | cons a r ih => simp only [List.cons_append, serL, ih]
theorem serL_snoc (S : List Ent) (L : List Acn) (a : Acn) : serL S (L ++ [a]) = (applyM (serL S L).1 (runM (serL S L).1 a).wrs, (serL S L).2 ++ [runM (serL S L).1 a]) := by
  rw [serL_append]; rfl
theorem serL_len (S : List Ent) (L : List Acn) : (serL S L).2.length = L.length := by
  induction L generalizing S with
  | nil => rfl
  | cons a r ih => simp only [serL, List.length_cons, ih]
theorem store_run {S : List Ent} (a : Acn) (h : storeB S = true) : storeB (applyM S (runM S a).wrs) = true := by
  rw [applyM_yes h (wr_run S a)]; exact ok_applyM h (wr_run S a)
theorem store_ser {S : List Ent} (L : List Acn) (h : storeB S = true) : storeB (serL S L).1 = true := by
  induction L generalizing S with
  | nil => exact h
  | cons a r ih => exact ih (store_run a h)
theorem takeA_one (L : List Acn) (k : Nat) (h : k < L.length) : L.take (k + 1) = L.take k ++ [L.getD k noA] := by
  rw [List.take_succ_eq_append_getElem h, List.getD_eq_getElem?_getD, List.getElem?_eq_getElem h]; rfl
theorem serL_next (S : List Ent) (L : List Acn) (k : Nat) (h : k < L.length) :
    serL S (L.take (k + 1)) = (applyM (serL S (L.take k)).1 (runM (serL S (L.take k)).1 (L.getD k noA)).wrs, (serL S (L.take k)).2 ++ [runM (serL S (L.take k)).1 (L.getD k noA)]) := by
  rw [takeA_one L k h, serL_snoc]
theorem serL_eff (S : List Ent) (L : List Acn) : ∀ x ∈ (serL S L).2, x.rds.length ≤ 2 ∧ x.wrs.length ≤ 32 := by
  induction L generalizing S with
  | nil => intro x h; cases h
  | cons a r ih =>
    intro x h
    rcases List.mem_cons.1 h with rfl | h
    · exact ⟨runM_rlen S a, runM_wlen S a⟩
    · exact ih _ x h
theorem serM_eff (S : List Ent) (L : List Acn) : ∀ x ∈ (serM S L).2, x.rds.length ≤ 2 ∧ x.wrs.length ≤ 32 := by
  unfold serM; split
  · exact serL_eff S L
  · intro x h; cases h
theorem serM_len (S : List Ent) (L : List Acn) : (serM S L).2.length ≤ 10 := by
  unfold serM
  split
  · rename_i h
    rw [Bool.and_eq_true] at h
    rw [serL_len]; exact (actsB_true h.2).1
  · simp
theorem serM_store (S : List Ent) (L : List Acn) : (serM S L).1.length ≤ 32 := by
  unfold serM
  split
  · rename_i h
    rw [Bool.and_eq_true] at h
    exact store_len (store_ser L h.1)
  · simp
theorem actsB_drop {l : List Acn} (h : actsB l = true) (k : Nat) : actsB (l.drop k) = true := by
  obtain ⟨h0, h1⟩ := actsB_true h
  exact actsB_yes (by rw [List.length_drop]; omega) (fun x hx => h1 x (List.mem_of_mem_drop hx))
/-- Two parts, one after the other. -/
theorem ser_parts {S : List Ent} {L : List Acn} (h : storeB S = true) (h2 : actsB L = true) (k : Nat) :
    (serM (serM S (L.take k)).1 (L.drop k)).1 = (serM S L).1 ∧ (serM S (L.take k)).2 ++ (serM (serM S (L.take k)).1 (L.drop k)).2 = (serM S L).2 := by
  rw [serM_yes h (actsB_take h2 k), serM_yes (store_ser _ h) (actsB_drop h2 k), serM_yes h h2]
  have e := serL_append S (L.take k) (L.drop k)
  rw [List.take_append_drop] at e
  rw [e]; exact ⟨rfl, rfl⟩
/-- How many are done. -/
def doneN : List Eff → Nat
  | [] => 0
  | e :: r => (if e.done then 1 else 0) + doneN r
theorem doneN_append (L M : List Eff) : doneN (L ++ M) = doneN L + doneN M := by
  induction L with
  | nil => simp [doneN]
  | cons a r ih => simp only [List.cons_append, doneN, ih]; omega
theorem doneN_le (L : List Eff) : doneN L ≤ L.length := by
  induction L with
  | nil => simp [doneN]
  | cons a r ih => simp only [doneN, List.length_cons]; split <;> omega
theorem takeF_one (L : List Eff) (k : Nat) (h : k < L.length) : L.take (k + 1) = L.take k ++ [L.getD k noEff] := by
  rw [List.take_succ_eq_append_getElem h, List.getD_eq_getElem?_getD, List.getElem?_eq_getElem h]; rfl
theorem doneN_next (L : List Eff) (k : Nat) (h : k < L.length) : doneN (L.take (k + 1)) = doneN (L.take k) + (if (L.getD k noEff).done then 1 else 0) := by
  rw [takeF_one L k h, doneN_append]; simp [doneN]
theorem doneN_parts (L : List Eff) (k : Nat) : doneN (L.take k) + doneN (L.drop k) = doneN L := by
  rw [← doneN_append, List.take_append_drop]
/-- What EffectsSum answers. -/
def effsSumM (L : List Eff) : Int := if L.length ≤ 10 then sumOfM 4 (L.map effSumM) else -1
theorem effsSum_more {L : List Eff} (e : Eff) (h : 0 ≤ effsSumM L) (hl : L.length ≠ 10) : effsSumM (L ++ [e]) = sumMoreM (effsSumM L) (effSumM e) := by
  unfold effsSumM at h ⊢
  by_cases h0 : L.length ≤ 10
  · rw [if_pos h0] at h ⊢
    rw [if_pos (by simp; omega), List.map_append, List.map_cons, List.map_nil]
    rcases sumOfM_cases 4 (L.map effSumM) with h1 | ⟨h1, h2, h3, h4, h5⟩
    · omega
    · have hok : okSumB (sumOfM 4 (L.map effSumM)) = true := by simp [okSumB]; omega
      unfold sumMoreM
      rw [hok]
      unfold sumOfM
      rw [h3, h4]
      cases hq : okSummed (effSumM e) with
      | true => simp [h4, hq, sumFold_snoc]
      | false => simp [hq]
  · rw [if_neg h0] at h; omega
theorem effsSum_cases (L : List Eff) : effsSumM L = -1 ∨ (0 ≤ effsSumM L ∧ effsSumM L ≤ 1000002) := by
  unfold effsSumM
  split
  · rcases sumOfM_cases 4 (L.map effSumM) with h1 | ⟨h1, h2, -⟩
    · exact .inl h1
    · exact .inr ⟨h1, h2⟩
  · exact .inl rfl
/-- A swap. -/
theorem swap_step {S : List Ent} (hS : storeB S = true) {s d : Int} (h2 : actB ⟨4, s, d, 0⟩ = true) :
    (runM S ⟨4, s, d, 0⟩).done = true ∧ storeB (applyM S (runM S ⟨4, s, d, 0⟩).wrs) = true ∧ ∀ k, atM (applyM S (runM S ⟨4, s, d, 0⟩).wrs) k = if k = d then atM S s else if k = s then atM S d else atM S k := by
  have hO := (storeB_ok S).1 hS
  have hb := fun k => atM_bd hO.2 k
  obtain ⟨⟨s0, s1⟩, ⟨d0, d1⟩, -⟩ := actB_bd h2
  simp only at s0 s1 d0 d1
  refine ⟨by rw [runM_yes hS h2]; simp [effK, doneK], store_run _ hS, fun k => ?_⟩
  have hw : (runM S ⟨4, s, d, 0⟩).wrs = pm d (atM S s) [(s, atM S d)] := by rw [runM_yes hS h2]; simp [effK, doneK, outsK]
  rw [applyM_yes hS (wr_run _ _), hw, applyL_two hO s0 s1 d0 d1 (hb d).1 (hb d).2 (hb s).1 (hb s).2, atM_put, atM_put]
theorem swap_twice {S : List Ent} (hS : storeB S = true) {s d : Int} (h2 : actB ⟨4, s, d, 0⟩ = true) : (serM S [⟨4, s, d, 0⟩, ⟨4, s, d, 0⟩]).1 = S ∧ doneN (serM S [⟨4, s, d, 0⟩, ⟨4, s, d, 0⟩]).2 = 2 := by
  have ha : actsB [⟨4, s, d, 0⟩, ⟨4, s, d, 0⟩] = true := actsB_yes (by simp) (by intro x hx; simp at hx; subst hx; exact h2)
  obtain ⟨p1, p2, p3⟩ := swap_step hS h2
  obtain ⟨q1, q2, q3⟩ := swap_step p2 h2
  rw [serM_yes hS ha]
  refine ⟨?_, by simp [serL, doneN, p1, q1]⟩
  refine ok_ext _ _ ((storeB_ok _).1 q2) ((storeB_ok _).1 hS) fun k _ _ => ?_
  refine (q3 k).trans ?_
  rw [p3, p3, p3]
  by_cases hd : k = d
  · subst hd
    rw [if_pos rfl]
    by_cases hs : s = k
    · subst hs; rw [if_pos rfl]
    · rw [if_neg hs, if_pos rfl]
  · rw [if_neg hd]
    by_cases hs : k = s
    · subst hs; rw [if_pos rfl, if_pos rfl]
    · rw [if_neg hs, if_neg hd, if_neg hs]
/-- A move that is done. -/
theorem move_step {S : List Ent} (hS : storeB S = true) {s d m : Int} (h2 : actB ⟨2, s, d, m⟩ = true) (hd : (runM S ⟨2, s, d, m⟩).done = true) :
    m ≤ atM S s ∧ (s = d ∨ atM S d + m ≤ 1000000) ∧ storeB (applyM S (runM S ⟨2, s, d, m⟩).wrs) = true ∧ ∀ k, atM (applyM S (runM S ⟨2, s, d, m⟩).wrs) k = if s = d then atM S k else if k = d then atM S d + m else if k = s then atM S s - m else atM S k := by
  have hO := (storeB_ok S).1 hS
  have hb := fun k => atM_bd hO.2 k
  obtain ⟨⟨s0, s1⟩, ⟨d0, d1⟩, m0, m1⟩ := actB_bd h2
  simp only at s0 s1 d0 d1 m0 m1
  have hs := hb s
  have ht := hb d
  have hdd : doneK 2 s d m (atM S s) (atM S d) = true := by rw [runM_yes hS h2] at hd; exact hd
  have hw : (runM S ⟨2, s, d, m⟩).wrs = if s = d then [(s, atM S s)] else pm d (atM S d + m) [(s, atM S s - m)] := by rw [runM_yes hS h2]; simp only [effK, hdd, if_true]; simp [outsK]
  simp only [doneK, show ¬ (2 : Int) = 5 by omega, if_false, if_true, Bool.and_eq_true, Bool.or_eq_true, decide_eq_true_eq] at hdd
  refine ⟨hdd.1, hdd.2, store_run _ hS, fun k => ?_⟩
  rw [applyM_yes hS (wr_run _ _), hw]
  by_cases hsd : s = d
  · rw [if_pos hsd, if_pos hsd]
    show atM (putRaw s (atM S s) S) k = _
    rw [atM_put]
    by_cases hk : k = s
    · rw [if_pos hk, hk]
    · rw [if_neg hk]
  · rw [if_neg hsd, if_neg hsd, applyL_two hO s0 s1 d0 d1 (by omega) (by omega) (by omega) (by omega), atM_put, atM_put]
theorem move_done {S : List Ent} (hS : storeB S = true) {s d m : Int} (h2 : actB ⟨2, s, d, m⟩ = true) (h3 : m ≤ atM S s) (h4 : s = d ∨ atM S d + m ≤ 1000000) : (runM S ⟨2, s, d, m⟩).done = true := by
  rw [runM_yes hS h2]
  show doneK 2 s d m (atM S s) (atM S d) = true
  simp only [doneK, show ¬ (2 : Int) = 5 by omega, if_false, if_true, Bool.and_eq_true, Bool.or_eq_true, decide_eq_true_eq]
  exact ⟨h3, h4⟩
theorem back_valid {s d m : Int} (h2 : actB ⟨2, s, d, m⟩ = true) : actB ⟨2, d, s, m⟩ = true := by
  simp only [actB, Bool.and_eq_true] at h2 ⊢
  refine ⟨⟨⟨h2.1.1.2, h2.1.1.1⟩, h2.1.2⟩, by simp [restB]⟩
theorem move_back {S : List Ent} (hS : storeB S = true) {s d m : Int} (h2 : actB ⟨2, s, d, m⟩ = true) :
    ∃ x y, (serM S [⟨2, s, d, m⟩, ⟨2, d, s, m⟩]).2 = [x, y] ∧ (x.done = true → y.done = true ∧ (serM S [⟨2, s, d, m⟩, ⟨2, d, s, m⟩]).1 = S) := by
  have hb2 := back_valid h2
  have ha : actsB [⟨2, s, d, m⟩, ⟨2, d, s, m⟩] = true := actsB_yes (by simp) (by intro x hx; simp at hx; rcases hx with rfl | rfl <;> assumption)
  rw [serM_yes hS ha]
  refine ⟨_, _, rfl, fun hd => ?_⟩
  obtain ⟨p1, p2, p3, p4⟩ := move_step hS h2 hd
  have hO := (storeB_ok S).1 hS
  have hs := atM_bd hO.2 s
  have ht := atM_bd hO.2 d
  have hdone : (runM (applyM S (runM S ⟨2, s, d, m⟩).wrs) ⟨2, d, s, m⟩).done = true := by
    refine move_done p3 hb2 ?_ ?_
    · rw [p4]
      by_cases hsd : s = d
      · rw [if_pos hsd, ← hsd]; exact p1
      · rw [if_neg hsd, if_pos rfl]; omega
    · by_cases hsd : s = d
      · exact .inl hsd.symm
      · refine .inr ?_
        rw [p4, if_neg hsd, if_neg hsd, if_pos rfl]; omega
  obtain ⟨q1, q2, q3, q4⟩ := move_step p3 hb2 hdone
  refine ⟨hdone, ok_ext _ _ ((storeB_ok _).1 q3) ((storeB_ok _).1 hS) fun k _ _ => ?_⟩
  refine (q4 k).trans ?_
  by_cases hsd : s = d
  · rw [if_pos hsd.symm, p4, if_pos hsd]
  · rw [if_neg (fun h => hsd h.symm)]
    have eS : atM (applyM S (runM S ⟨2, s, d, m⟩).wrs) s = atM S s - m := by rw [p4, if_neg hsd, if_neg hsd, if_pos rfl]
    have eD : atM (applyM S (runM S ⟨2, s, d, m⟩).wrs) d = atM S d + m := by rw [p4, if_neg hsd, if_pos rfl]
    by_cases h1 : k = s
    · rw [if_pos h1, eS, h1]; omega
    · rw [if_neg h1]
      by_cases h5 : k = d
      · rw [if_pos h5, eD, h5]; omega
      · rw [if_neg h5, p4, if_neg hsd, if_neg h5, if_neg h1]
end Go.Proofs.YtaaffpolmecicaaGreat
/- Rows of effects in memory. No function of the program is named here. -/
namespace Go.Proofs.YtaaffpolmecicaaGreat
open Go.RowKit
set_option linter.unusedVariables false
/-- The slice (a, n) reads as the effects L. -/
def RowFs (w : World) (a : Option Addr) (n : Nat) (L : List Eff) : Prop :=
  L.length = n ∧ n ≤ maxLen ∧ (0 < n → ∃ b off, a = some ⟨b, off, none⟩ ∧ ∀ i, i < n → w.cell? ⟨b, off + i * 3, none⟩ = some (.bool (L.getD i noEff).done) ∧
    (∃ x, w.cell? ⟨b, off + i * 3 + 1, none⟩ = some x ∧ SliE w x (L.getD i noEff).rds) ∧ ∃ y, w.cell? ⟨b, off + i * 3 + 2, none⟩ = some y ∧ SliE w y (L.getD i noEff).wrs)
theorem RowFs.below {w w' : World} {a : Option Addr} {n : Nat} {L : List Eff} (h : RowFs w a n L) (hb : Below w.heap.size w w') : RowFs w' a n L := by
  obtain ⟨h1, h2, h3⟩ := h
  refine ⟨h1, h2, fun hl => ?_⟩
  obtain ⟨b, off, he, hc⟩ := h3 hl
  refine ⟨b, off, he, fun i hi => ?_⟩
  obtain ⟨c0, ⟨x, c1, s1⟩, y, c2, s2⟩ := hc i hi
  have hlt : b < w.heap.size := World.block_lt_of_cell? w ⟨b, off + i * 3, none⟩ c0
  exact ⟨by rw [hb.cell (p := ⟨b, off + i * 3, none⟩) hlt]; exact c0, ⟨x, by rw [hb.cell (p := ⟨b, off + i * 3 + 1, none⟩) hlt]; exact c1, s1.below hb⟩, y, by rw [hb.cell (p := ⟨b, off + i * 3 + 2, none⟩) hlt]; exact c2, s2.below hb⟩
theorem rowFs_empty (w : World) (a : Option Addr) : RowFs w a 0 [] := ⟨rfl, by unfold maxLen; omega, fun h => absurd h (by omega)⟩
theorem getD_memF (L : List Eff) (k : Nat) (h : k < L.length) : L.getD k noEff ∈ L := by
  rw [List.getD_eq_getElem?_getD, List.getElem?_eq_getElem h]; exact List.getElem_mem h
/-- The first k effects. -/
theorem RowFs.take {w : World} {a : Option Addr} {n : Nat} {L : List Eff} (h : RowFs w a n L) (k : Nat) (hk : k ≤ n) : RowFs w a k (L.take k) := by
  obtain ⟨h1, h2, h3⟩ := h
  refine ⟨by rw [List.length_take]; omega, by omega, fun hl => ?_⟩
  obtain ⟨b, off, he, hc⟩ := h3 (by omega)
  refine ⟨b, off, he, fun i hi => ?_⟩
  have e : (L.take k).getD i noEff = L.getD i noEff := by
    rw [List.getD_eq_getElem?_getD, List.getD_eq_getElem?_getD, List.getElem?_take, if_pos hi]
  rw [e]; exact hc i (by omega)
/-- The effects from k on. -/
theorem RowFs.drop {w : World} {b off n : Nat} {L : List Eff} (h : RowFs w (some ⟨b, off, none⟩) n L) (k : Nat) (hk : k ≤ n) : RowFs w (some ⟨b, off + k * 3, none⟩) (n - k) (L.drop k) := by
  obtain ⟨h1, h2, h3⟩ := h
  refine ⟨by rw [List.length_drop]; omega, by omega, fun hl => ?_⟩
  obtain ⟨b', off', he, hc⟩ := h3 (by omega)
  obtain ⟨rfl, rfl⟩ : b = b' ∧ off = off' := by simpa using he
  refine ⟨b, off + k * 3, rfl, fun i hi => ?_⟩
  have e : (L.drop k).getD i noEff = L.getD (k + i) noEff := by
    rw [List.getD_eq_getElem?_getD, List.getD_eq_getElem?_getD, List.getElem?_drop]
  have := hc (k + i) (by omega)
  rw [e, show off + k * 3 + i * 3 = off + (k + i) * 3 by omega]; exact this
/-- The cells of an effect. -/
def effC (e : TypeId) (x : Eff) : List Cel := [.bool x.done, .ents e x.rds, .ents e x.wrs]
theorem effC_len (e : TypeId) (x : Eff) : (effC e x).length = 3 := rfl
theorem effC_get (e : TypeId) (L : List Eff) (i : Nat) (h : i < L.length) : (L.flatMap (effC e))[i * 3]? = some (.bool (L.getD i noEff).done) ∧ (L.flatMap (effC e))[i * 3 + 1]? = some (.ents e (L.getD i noEff).rds) ∧ (L.flatMap (effC e))[i * 3 + 2]? = some (.ents e (L.getD i noEff).wrs) := by
  have h0 := flatMap_get (effC e) 3 (effC_len e) L i 0 _ (getD_some L i noEff h) (by omega)
  have h1 := flatMap_get (effC e) 3 (effC_len e) L i 1 _ (getD_some L i noEff h) (by omega)
  have h2 := flatMap_get (effC e) 3 (effC_len e) L i 2 _ (getD_some L i noEff h) (by omega)
  rw [Nat.add_zero] at h0
  exact ⟨h0, h1, h2⟩
/-- v owns the effects L. -/
def OwnFs (w : World) (B T : Nat) (eX eE : TypeId) (v : Value) (L : List Eff) : Prop := L.length ≤ 4000000 ∧ ∃ xs, Own2 w B T eX 3 v L.length (L.flatMap (effC eE)) xs
theorem OwnFs.below {w w' : World} {B T : Nat} {eX eE : TypeId} {v : Value} {L : List Eff} (h : OwnFs w B T eX eE v L) (hb : Below w.heap.size w w') : OwnFs w' B T eX eE v L := by
  obtain ⟨h0, xs, h1⟩ := h; exact ⟨h0, xs, h1.below hb⟩
theorem OwnFs.mono {w : World} {B T B' T' : Nat} {eX eE : TypeId} {v : Value} {L : List Eff} (h : OwnFs w B T eX eE v L) (hB : B' ≤ B) (hT : T ≤ T') : OwnFs w B' T' eX eE v L := by
  obtain ⟨h0, xs, h1⟩ := h; exact ⟨h0, xs, h1.mono hB hT⟩
theorem OwnFs.turn {w w' : World} {B T B' T' : Nat} {eX eE : TypeId} {v : Value} {L : List Eff} (h : OwnFs w B T eX eE v L) (ht : Turn B' T' w w') (hd : T ≤ B' ∨ T' ≤ B ∨ w.heap.size ≤ B') : OwnFs w' B T eX eE v L := by
  obtain ⟨h0, xs, h1⟩ := h; exact ⟨h0, xs, h1.turn ht hd⟩
theorem ownFs_nil (w : World) (B T : Nat) (eX eE : TypeId) : OwnFs w B T eX eE (.slice none 0 0) [] := ⟨by simp, [], own2_nil _ _ _ _ _⟩
theorem ownFs_lit {w : World} {B T : Nat} (eX eE : TypeId) (hB : B ≤ w.heap.size) (hT : w.heap.size < T) : OwnFs (w.alloc (.cells #[] eX)) B T eX eE (.slice (some ⟨w.heap.size, 0, none⟩) 0 0) [] := ⟨by simp, [], own2_lit _ _ hB hT⟩
theorem OwnFs.lens {w : World} {B T : Nat} {eX eE : TypeId} {v : Value} {L : List Eff} (h : OwnFs w B T eX eE v L) : ∀ x ∈ L, x.rds.length ≤ 4000000 ∧ x.wrs.length ≤ 4000000 ∧ WfE x.rds ∧ WfE x.wrs := by
  intro y hy
  obtain ⟨h0, xs, h1⟩ := h
  obtain ⟨i, hi, rfl⟩ := List.getElem_of_mem hy
  obtain ⟨-, c1, c2⟩ := effC_get eE L i hi
  obtain ⟨x, hx⟩ := getElem?_both h1.2.2.1.symm c1
  obtain ⟨z, hz⟩ := getElem?_both h1.2.2.1.symm c2
  have q1 := (h1.2.2.2.1 _ _ x c1 hx).1
  have q2 := (h1.2.2.2.1 _ _ z c2 hz).1
  rw [List.getD_eq_getElem?_getD, List.getElem?_eq_getElem hi] at q1 q2
  exact ⟨q1.2.2, q2.2.2, q1.2.1, q2.2.1⟩
theorem rowFs_of_own {w : World} {B T : Nat} {eX eE : TypeId} {v : Value} {L : List Eff} (h : OwnFs w B T eX eE v L) : ∃ a cap, v = .slice a L.length cap ∧ RowFs w a L.length L ∧ (a = none → cap = 0) ∧ L.length ≤ cap := by
  obtain ⟨h0, xs, h1⟩ := h
  rcases slice_of_owns h1.1 with ⟨rfl, hn⟩ | ⟨g, cap, rfl, hB, hg, hnc, hcm⟩
  · obtain rfl : L = [] := List.eq_nil_of_length_eq_zero hn
    exact ⟨none, 0, rfl, rowFs_empty _ _, fun _ => rfl, Nat.le_refl _⟩
  · refine ⟨_, cap, rfl, ⟨rfl, by unfold maxLen; omega, fun _ => ⟨g, 0, rfl, fun i hi => ?_⟩⟩, fun h => (by cases h), hnc⟩
    obtain ⟨c0, c1, c2⟩ := effC_get eE L i hi
    obtain ⟨x, hx, hcx, hox, -⟩ := h1.at c0
    obtain ⟨y, hy, hcy, hoy, -⟩ := h1.at c1
    obtain ⟨z, hz, hcz, hoz, -⟩ := h1.at c2
    rw [Nat.zero_add]
    have hox' : x = .bool (L.getD i noEff).done := hox
    exact ⟨by rw [hcx, hox'], ⟨y, hcy, sliE_of_own hoy⟩, z, hcz, sliE_of_own hoz⟩
/-- The slice of owned effects. -/
theorem OwnFs.form {w : World} {B T : Nat} {eX eE : TypeId} {v : Value} {L : List Eff} (h : OwnFs w B T eX eE v L) : (v = .slice none 0 0 ∧ L = []) ∨ ∃ g cap, v = .slice (some ⟨g, 0, none⟩) L.length cap ∧ B ≤ g ∧ g < T ∧ g < w.heap.size := by
  obtain ⟨_, xs, h1⟩ := h
  rcases slice_of_owns h1.1 with ⟨h2, h3⟩ | ⟨g, cap, rfl, h2, h3, _⟩
  · exact .inl ⟨h2, List.eq_nil_of_length_eq_zero h3⟩
  · exact .inr ⟨g, cap, rfl, h2, h1.2.1 g rfl, h3⟩
/-- New effects. -/
def NewFs (w : World) (eX eE : TypeId) (L : List Eff) (e : Ending) (w' : World) : Prop :=
  ∃ v, e = .returned v ∧ OwnFs w' w.heap.size w'.heap.size eX eE v L ∧ Below w.heap.size w w'
/-- A store and effects, all of it owned in [B, T), the store's row apart from all that the effects have. -/
def OwnSF (w : World) (B T : Nat) (eX eE : TypeId) (v u : Value) (S : List Ent) (L : List Eff) : Prop :=
  w.ownsRow B eE 2 v S.length (flatE S) ∧ WfE S ∧ (∀ p, v.ownBlock = some p → p < T) ∧ L.length ≤ 4000000 ∧ ∃ xs, Own2 w B T eX 3 u L.length (L.flatMap (effC eE)) xs ∧ ∀ x ∈ u :: xs, ∀ p, v.ownBlock = some p → blk x ≠ some p
theorem OwnSF.effs {w : World} {B T : Nat} {eX eE : TypeId} {v u : Value} {S : List Ent} {L : List Eff} (h : OwnSF w B T eX eE v u S L) : OwnFs w B T eX eE u L := by
  obtain ⟨-, -, -, h4, xs, h5, -⟩ := h; exact ⟨h4, xs, h5⟩
theorem OwnSF.below {w w' : World} {B T : Nat} {eX eE : TypeId} {v u : Value} {S : List Ent} {L : List Eff} (h : OwnSF w B T eX eE v u S L) (hb : Below w.heap.size w w') : OwnSF w' B T eX eE v u S L := by
  obtain ⟨h1, h2, h3, h4, xs, h5, h6⟩ := h; exact ⟨owns_below h1 hb, h2, h3, h4, xs, h5.below hb, h6⟩
theorem OwnSF.mono {w : World} {B T B' T' : Nat} {eX eE : TypeId} {v u : Value} {S : List Ent} {L : List Eff} (h : OwnSF w B T eX eE v u S L) (hB : B' ≤ B) (hT : T ≤ T') : OwnSF w B' T' eX eE v u S L := by
  obtain ⟨h1, h2, h3, h4, xs, h5, h6⟩ := h; exact ⟨owns_mono h1 hB, h2, fun p hp => Nat.lt_of_lt_of_le (h3 p hp) hT, h4, xs, h5.mono hB hT, h6⟩
theorem OwnSF.row {w : World} {B T : Nat} {eX eE : TypeId} {v u : Value} {S : List Ent} {L : List Eff} (h : OwnSF w B T eX eE v u S L) (hl : S.length ≤ 4000000) : ∃ a c, v = .slice a S.length c ∧ RowE w a S.length S ∧ (a = none → c = 0) := by
  obtain ⟨h1, h2, -⟩ := h
  obtain ⟨a, c, e, r, z⟩ := rowE_of_owns h1 hl h2; exact ⟨a, c, e, r, z⟩
/-- Another store, new, in the place of the store. -/
theorem OwnSF.store {w w' : World} {B T T' : Nat} {eX eE : TypeId} {v u v' : Value} {S S' : List Ent} {L : List Eff} (h : OwnSF w B T eX eE v u S L) (hb : Below w.heap.size w w') {B' : Nat} (ho : w'.ownsRow B' eE 2 v' S'.length (flatE S')) (hw : WfE S')
    (hB : B ≤ B') (hT : T ≤ B') (hT' : w'.heap.size ≤ T') (hTT : T ≤ T') : OwnSF w' B T' eX eE v' u S' L := by
  obtain ⟨h1, h2, h3, h4, xs, h5, h6⟩ := h
  refine ⟨owns_mono ho hB, hw, fun p hp => Nat.lt_of_lt_of_le (ho.lt p hp).2 hT', h4, xs, (h5.below hb).mono (Nat.le_refl _) hTT, fun x hx p hp hq => ?_⟩
  have := (h5.blk_lt x hx p hq).2.1
  have := (ho.lt p hp).1
  omega
/-- A new store and new effects. -/
def NewSF (w : World) (eX eE : TypeId) (S : List Ent) (L : List Eff) (e : Ending) (w' : World) : Prop :=
  ∃ v u, e = .returned (.tuple #[v, u]) ∧ OwnSF w' w.heap.size w'.heap.size eX eE v u S L ∧ Below w.heap.size w w'
/-- The cells of an effect that is to be appended. -/
theorem effNew {w : World} {B : Nat} {eE : TypeId} {x : Eff} {a b : Value} (h : OwnF w B eE (.agg #[.bool x.done, a, b]) x) (h1 : x.rds.length ≤ 4000000) (h2 : x.wrs.length ≤ 4000000) :
    (∀ (i : Nat) (c : Cel) (y : Value), (effC eE x)[i]? = some c → ([.bool x.done, a, b] : List Value)[i]? = some y → c.own w y ∧ ∀ p, blk y = some p → B ≤ p) ∧ Apart [.bool x.done, a, b] := by
  obtain ⟨va, vb, e0, g1, g2, g3, g4, g5⟩ := h
  simp only [Value.agg.injEq, Array.mk.injEq, List.cons.injEq, and_true, true_and] at e0
  obtain ⟨rfl, rfl⟩ := e0
  have k1 := owns_blk g1
  have k2 := owns_blk g2
  refine ⟨fun i c y hc hy => ?_, ?_⟩
  · match i, hc, hy with
    | 0, hc, hy =>
      simp [effC] at hc hy
      subst hc hy
      exact ⟨rfl, fun p hp => by cases hp⟩
    | 1, hc, hy =>
      simp [effC] at hc hy
      subst hc hy
      exact ⟨ents_own g1 g3 h1, fun p hp => (g1.lt p (by rw [← k1]; exact hp)).1⟩
    | 2, hc, hy =>
      simp [effC] at hc hy
      subst hc hy
      exact ⟨ents_own g2 g4 h2, fun p hp => (g2.lt p (by rw [← k2]; exact hp)).1⟩
    | (n + 3), hc, hy => simp [effC] at hc
  · refine apart_cons.2 ⟨fun x hx p hp => (by cases hp), apart_cons.2 ⟨fun y hy p hp hq => ?_, by simp [Apart]⟩⟩
    simp at hy; subst hy
    rw [k1] at hp; rw [k2] at hq
    exact g5 p hp hq
theorem flatMap_snoc {α β : Type} (f : α → List β) (L : List α) (x : α) : (L ++ [x]).flatMap f = L.flatMap f ++ f x := by simp
/-- An append of one element, as in wp_append_el, with all that is known of it. -/
theorem wp_append_el2 {P : Program} {W : World} {o : Oper} {a : Act} {K : Act → World → Prop} {Q : Exit → Act → World → Prop} (s x : Operand) (t : TypeId)
    (ho : o.op = .call { callee := .builtin .append, args := #[s, x], argTypes := #[t, t] })
    (B T : Nat) (e e' : TypeId) (z : Value) (size bytes : Nat) (ht : P.underlying t = some (.slice e)) (hinfo : (P.info? e).map (fun i => (i.zero, i.size, i.bytes)) = some (some z, size, bytes))
    (hzs : z.cells.size = size) (hsz : 0 < size) (v : Value) (n : Nat) (cs : List Cel) (xs : List Value) (cs' : List Cel) (news : List Value) (hs : a.eval s = v) (hown : Own2 W B T e size v n cs xs)
    (hx : a.eval x = .slice (some ⟨W.heap.size, 0, none⟩) 1 1) (hl : news.length = size) (hlc : cs'.length = size)
    (hnw : ∀ (i : Nat) (c : Cel) (y : Value), cs'[i]? = some c → news[i]? = some y → c.own W y ∧ ∀ b, blk y = some b → T ≤ b) (ha : Apart news)
    (hn : n ≤ 4000000) (hby : bytes ≤ 100000) (hbase : B ≤ W.heap.size) (hBT : B ≤ T) (hT : T ≤ W.heap.size)
    (h : ∀ v' w', Own2 w' B w'.heap.size e size v' (n + 1) (cs ++ cs') (xs ++ news) → v' ≠ .slice none 0 0 → Below B W w' → W.heap.size < w'.heap.size → (W.alloc (.cells news.toArray e')).grownBy w' v.ownBlock → (v'.ownBlock = v.ownBlock ∨ v'.ownBlock = some (W.heap.size + 1)) → K (a.put o.dst v') w') : Oper.wp P o a (W.alloc (.cells news.toArray e')) K Q := by
  obtain ⟨i0, hi, hz0, hz1, hz2⟩ := info_parts hinfo
  have hcell : ∀ j u, news[j]? = some u → (W.alloc (.cells news.toArray e')).cell? ((⟨W.heap.size, 0, none⟩ : Addr).add j) = some u := by
    intro j u hu
    rw [show (⟨W.heap.size, 0, none⟩ : Addr).add j = ⟨W.heap.size, j, none⟩ by unfold Addr.add; split <;> simp_all]
    rw [cell_of_row (W.alloc (.cells news.toArray e')) W.heap.size j news.toArray e' (0, 0) (heap_alloc_new W _)]
    rw [List.getElem?_toArray]; exact hu
  have hone : ∀ u ∈ news, u.oneCell' = true := fun u hu => by
    obtain ⟨i, hi⟩ := List.getElem?_of_mem hu
    obtain ⟨c, hc⟩ := getElem?_both (hl.trans hlc.symm) hi
    exact c.one (hnw i c u hc hi).1
  have hbytes : (n + 1) * bytes ≤ 140737488355328 := by
    calc (n + 1) * bytes ≤ 4000001 * 100000 := Nat.mul_le_mul (by omega) hby
      _ ≤ 140737488355328 := by decide
  have hownW := hown.alloc (.cells news.toArray e')
  obtain ⟨v', w', hr, h2, h3, h4, h5⟩ := run_append_own_at (P := P) (W.alloc (.cells news.toArray e')) B t o.type e i0 z size bytes ht hi hz0 hz1 hz2 hzs hsz v n xs hownW.1 ⟨W.heap.size, 0, none⟩ 1 1 news (by rw [hl, Nat.one_mul]) hcell hone (by unfold maxLen; omega) hbytes (by simp; omega)
  have hsz' : (W.alloc (.cells news.toArray e')).heap.size = W.heap.size + 1 := by simp
  have hsn : Own2 w' B (w'.heap.size + 1) e size v' (n + 1) (cs ++ cs') (xs ++ news) := by
    refine hownW.snoc h2 h3 h5 (hl.trans hlc.symm) (fun i c y hc hy => ⟨c.keep (hnw i c y hc hy).1 (fun b hb => ?_), fun b hb => ?_⟩) ha (fun y hy z hz p hp hq => ?_) ?_ ?_
    · exact Below.heap_alloc W _ b (c.lt (hnw i c y hc hy).1 hb)
    · have := (hnw i c y hc hy).2 b hb
      have := c.lt (hnw i c y hc hy).1 hb
      have := h3.size
      omega
    · obtain ⟨i, hi⟩ := List.getElem?_of_mem hz
      obtain ⟨c, hc⟩ := getElem?_both (hl.trans hlc.symm) hi
      have := (hnw i c z hc hi).2 p hq
      have := hown.blk_lt y hy p hp
      omega
    · have := h3.size; omega
    · have := h3.size; omega
  have hfin : Own2 w' B w'.heap.size e size v' (n + 1) (cs ++ cs') (xs ++ news) := by
    have hlt := hsn.blk_lt
    obtain ⟨g1, g2, g3, g4, g5⟩ := hsn
    exact ⟨g1, fun b hb => (hlt v' List.mem_cons_self b hb).2.2, g3, fun i c y hc hy => ⟨(g4 i c y hc hy).1, fun b hb => ⟨((g4 i c y hc hy).2 b hb).1, (hlt y (List.mem_cons_of_mem _ (List.mem_of_getElem? hy)) b hb).2.2⟩⟩, g5⟩
  unfold Oper.wp execOp
  simp only [ho, resolve, invoke, builtin, Sem.run_bind, Sem.run_pure, Result.andThen_ok, List.map_toArray, List.map_cons, List.map_nil, hs, hx, hr]
  refine h v' w' hfin (fun e => by have := (h4.1 e).2; omega) ?_ (by have := h3.size; omega) h3 (by rw [hsz'] at h5; exact h5)
  exact ((Below.refl _ _).alloc hbase _).grown h3 (by simp; omega) (fun k hk => (hownW.1.lt k hk).1)
theorem wpList_append_el2 {P : Program} {W : World} {ops : Array Oper} {rest : List Oper} {o : Oper} {a : Act} {Q : Exit → Act → World → Prop} (hgd : Region.wanted o (yielded ops a.tmps) = true) (s x : Operand) (t : TypeId)
    (ho : o.op = .call { callee := .builtin .append, args := #[s, x], argTypes := #[t, t] })
    (B T : Nat) (e e' : TypeId) (z : Value) (size bytes : Nat) (ht : P.underlying t = some (.slice e)) (hinfo : (P.info? e).map (fun i => (i.zero, i.size, i.bytes)) = some (some z, size, bytes))
    (hzs : z.cells.size = size) (hsz : 0 < size) (v : Value) (n : Nat) (cs : List Cel) (xs : List Value) (cs' : List Cel) (news : List Value) (hs : a.eval s = v) (hown : Own2 W B T e size v n cs xs)
    (hx : a.eval x = .slice (some ⟨W.heap.size, 0, none⟩) 1 1) (hl : news.length = size) (hlc : cs'.length = size)
    (hnw : ∀ (i : Nat) (c : Cel) (y : Value), cs'[i]? = some c → news[i]? = some y → c.own W y ∧ ∀ b, blk y = some b → T ≤ b) (ha : Apart news)
    (hn : n ≤ 4000000) (hby : bytes ≤ 100000) (hbase : B ≤ W.heap.size) (hBT : B ≤ T) (hT : T ≤ W.heap.size)
    (h : ∀ v' w', Own2 w' B w'.heap.size e size v' (n + 1) (cs ++ cs') (xs ++ news) → v' ≠ .slice none 0 0 → Below B W w' → W.heap.size < w'.heap.size → (W.alloc (.cells news.toArray e')).grownBy w' v.ownBlock → (v'.ownBlock = v.ownBlock ∨ v'.ownBlock = some (W.heap.size + 1)) → wpList P ops Q rest (a.put o.dst v') w') :
    wpList P ops Q (o :: rest) a (W.alloc (.cells news.toArray e')) :=
  BigFrame.wpList_want hgd fun _ hK => wp_append_el2 s x t ho B T e e' z size bytes ht hinfo hzs hsz v n cs xs cs' news hs hown hx hl hlc hnw ha hn hby hbase hBT hT fun v' w' h1 h2 h3 h4 h5 h6 => hK _ _ (h v' w' h1 h2 h3 h4 h5 h6)
/-- One effect more, whose rows are new and apart from the store: behind the append. -/
theorem OwnSF.snoc {W w' : World} {B T : Nat} {eX eE : TypeId} {v u u' : Value} {S : List Ent} {L : List Eff} {x : Eff} {a b : Value} {xs : List Value} {o : Obj} (h1 : W.ownsRow B eE 2 v S.length (flatE S)) (h2 : WfE S) (h4 : L.length ≤ 3999999)
    (h6 : ∀ y ∈ u :: (xs ++ [.bool x.done, a, b]), ∀ p, v.ownBlock = some p → blk y ≠ some p) (hub : blk u = u.ownBlock)
    (ho : Own2 w' B w'.heap.size eX 3 u' (L.length + 1) (L.flatMap (effC eE) ++ effC eE x) (xs ++ [.bool x.done, a, b])) (hg : (W.alloc o).grownBy w' u.ownBlock) (hat : u'.ownBlock = u.ownBlock ∨ u'.ownBlock = some (W.heap.size + 1)) :
    OwnSF w' B w'.heap.size eX eE v u' S (L ++ [x]) := by
  have hk : w'.ownsRow B eE 2 v S.length (flatE S) := (h1.alloc o).kept hg (by
    rcases hq : v.ownBlock with _ | q
    · exact .inl rfl
    · refine .inr (fun e => ?_)
      exact h6 u List.mem_cons_self q hq (by rw [hub]; exact e.symm))
  refine ⟨hk, h2, fun p hp => (hk.lt p hp).2, by simp; omega, xs ++ [.bool x.done, a, b], by rw [flatMap_snoc, List.length_append]; exact ho, fun y hy p hp hq => ?_⟩
  rcases List.mem_cons.1 hy with rfl | hy
  · rw [owns_blk ho.1] at hq
    rcases hat with e | e
    · rw [e, ← hub] at hq; exact h6 u List.mem_cons_self p hp hq
    · rw [e] at hq
      have := (h1.lt p hp).2
      simp at hq; omega
  · exact h6 y (List.mem_cons_of_mem _ hy) p hp hq
/-- A round of a serial run ahead of the append: the old effects, the new one's cells, and that none of it is in the new store's block. -/
theorem ser_ready {wr w2 w4 : World} {B C : Nat} {eX eE : TypeId} {v u v' a b : Value} {S S' : List Ent} {L : List Eff} {x : Eff} (h : OwnSF wr B wr.heap.size eX eE v u S L) (hF : OwnF w2 wr.heap.size eE (.agg #[.bool x.done, a, b]) x) (h1 : x.rds.length ≤ 4000000) (h2 : x.wrs.length ≤ 4000000)
    (hb2 : Below wr.heap.size wr w2) (hb4 : Below w2.heap.size w2 w4) (ho : w4.ownsRow C eE 2 v' S'.length (flatE S')) (hC : w2.heap.size ≤ C) :
    ∃ xs, Own2 w4 B wr.heap.size eX 3 u L.length (L.flatMap (effC eE)) xs ∧ blk u = u.ownBlock ∧ (∀ y ∈ u :: (xs ++ [.bool x.done, a, b]), ∀ p, v'.ownBlock = some p → blk y ≠ some p) ∧
      (∀ (i : Nat) (c : Cel) (y : Value), (effC eE x)[i]? = some c → ([.bool x.done, a, b] : List Value)[i]? = some y → c.own w4 y ∧ ∀ p, blk y = some p → wr.heap.size ≤ p) ∧ Apart [.bool x.done, a, b] := by
  obtain ⟨-, -, -, -, xs, h5, -⟩ := h
  have hb24 := hb2.trans (hb4.mono hb2.size)
  have h54 := h5.below hb24
  obtain ⟨hn, hap⟩ := effNew (hF.below hb4) h1 h2
  have hlt := h5.blk_lt
  have hs2 := hb2.size
  obtain ⟨va, vb, e0, g1, g2, g3, g4, g5⟩ := hF
  simp only [Value.agg.injEq, Array.mk.injEq, List.cons.injEq, and_true, true_and] at e0
  obtain ⟨rfl, rfl⟩ := e0
  refine ⟨xs, h54, owns_blk h5.1, fun y hy p hp hq => ?_, hn, hap⟩
  have hpC := (ho.lt p hp).1
  rcases List.mem_cons.1 hy with rfl | hy
  · have := (hlt y List.mem_cons_self p hq).2.2; omega
  · rcases List.mem_append.1 hy with hy | hy
    · have := (hlt y (List.mem_cons_of_mem _ hy) p hq).2.2; omega
    · simp at hy
      rcases hy with rfl | rfl | rfl
      · cases hq
      · rw [owns_blk g1] at hq; have := (g1.lt p hq).2; omega
      · rw [owns_blk g2] at hq; have := (g2.lt p hq).2; omega
end Go.Proofs.YtaaffpolmecicaaGreat
/- Stores into rows of effects: filled one by one, marked in place. -/
namespace Go.Proofs.YtaaffpolmecicaaGreat
open Go.RowKit
set_option linter.unusedVariables false
theorem flatMap_set3 {α β : Type} (f : α → List β) (hf : ∀ x, (f x).length = 3) : ∀ (L : List α) (i : Nat) (y : α) (c0 c1 c2 : β), i < L.length → f y = [c0, c1, c2] → (L.set i y).flatMap f = (((L.flatMap f).set (i * 3) c0).set (i * 3 + 1) c1).set (i * 3 + 2) c2 := by
  intro L
  induction L with
  | nil => intro i y c0 c1 c2 h; cases h
  | cons a r ih =>
    intro i y c0 c1 c2 h he
    rw [List.flatMap_cons]
    obtain ⟨p, q, t, hpq⟩ : ∃ p q t, f a = [p, q, t] := by
      have := hf a
      match f a, this with
      | [p, q, t], _ => exact ⟨p, q, t, rfl⟩
    rw [hpq]
    cases i with
    | zero => simp [he]
    | succ i =>
      rw [List.set_cons_succ, List.flatMap_cons, ih i y c0 c1 c2 (by simpa using h) he, hpq, show (i + 1) * 3 = i * 3 + 1 + 1 + 1 by omega]
      simp
theorem made3_get (p q r : Value) (n i : Nat) (x : Value) (h : (madeCells (Value.agg #[p, q, r]).cells (n * 3)).toList[i]? = some x) : (i % 3 = 0 ∧ x = p) ∨ (i % 3 = 1 ∧ x = q) ∨ (i % 3 = 2 ∧ x = r) := by
  obtain ⟨hi, rfl⟩ := List.getElem?_eq_some_iff.1 h
  simp [Value.cells, madeCells] at hi ⊢
  rcases (by omega : i % 3 = 0 ∨ i % 3 = 1 ∨ i % 3 = 2) with h | h | h <;> simp [h]
theorem rep3_get {α : Type} (f : α → List Cel) (a : α) (c0 c1 c2 : Cel) (hf : f a = [c0, c1, c2]) : ∀ (n i : Nat) (c : Cel), ((List.replicate n a).flatMap f)[i]? = some c → (i % 3 = 0 ∧ c = c0) ∨ (i % 3 = 1 ∧ c = c1) ∨ (i % 3 = 2 ∧ c = c2) := by
  intro n
  induction n with
  | zero => intro i c h; simp at h
  | succ n ih =>
    intro i c h
    rw [List.replicate_succ, List.flatMap_cons, hf] at h
    match i, h with
    | 0, h => simp at h; exact .inl ⟨rfl, h.symm⟩
    | 1, h => simp at h; exact .inr (.inl ⟨rfl, h.symm⟩)
    | 2, h => simp at h; exact .inr (.inr ⟨rfl, h.symm⟩)
    | i + 3, h =>
      rcases ih i c (by simpa using h) with ⟨h1, h2⟩ | ⟨h1, h2⟩ | ⟨h1, h2⟩
      · exact .inl ⟨by omega, h2⟩
      · exact .inr (.inl ⟨by omega, h2⟩)
      · exact .inr (.inr ⟨by omega, h2⟩)
/-- What has just been made: n elements of three cells that lead nowhere. -/
theorem own2_made3 {α : Type} {w : World} {B T : Nat} {e : TypeId} {n : Nat} {v : Value} (p q r : Value) (c0 c1 c2 : Cel) (f : α → List Cel) (a : α) (hf : f a = [c0, c1, c2])
    (h : w.ownsRow B e 3 v n (madeCells (Value.agg #[p, q, r]).cells (n * 3)).toList) (hv : ∀ b, blk v = some b → b < T) (hp : c0.own w p) (hq : c1.own w q) (hr : c2.own w r) (hbp : blk p = none) (hbq : blk q = none) (hbr : blk r = none) (hff : ∀ x, (f x).length = 3) :
    Own2 w B T e 3 v n ((List.replicate n a).flatMap f) (madeCells (Value.agg #[p, q, r]).cells (n * 3)).toList := by
  refine own2_plain h hv (by rw [flatMap_len f 3 hff, List.length_replicate]; exact h.1) fun i c x hc hx => ?_
  rcases made3_get p q r n i x hx with ⟨h1, rfl⟩ | ⟨h1, rfl⟩ | ⟨h1, rfl⟩ <;> rcases rep3_get f a c0 c1 c2 hf n i c hc with ⟨h2, rfl⟩ | ⟨h2, rfl⟩ | ⟨h2, rfl⟩
  · exact ⟨hp, hbp⟩
  · omega
  · omega
  · omega
  · exact ⟨hq, hbq⟩
  · omega
  · omega
  · omega
  · exact ⟨hr, hbr⟩
/-- An element of three cells is written; the second and the third lead to what is new, and apart. -/
theorem Own2.store3 {w : World} {B T T' : Nat} {e : TypeId} {n g cap : Nat} {cs : List Cel} {xs : List Value} (h : Own2 w B T e 3 (.slice (some ⟨g, 0, none⟩) n cap) n cs xs) (k : Nat) (c0 c1 c2 : Cel) (x y z : Value)
    (hx : ∀ w, c0.own w x) (hxb : blk x = none) (hy : c1.own w y) (hyb : ∀ b, blk y = some b → T ≤ b ∧ b < T') (hz : c2.own w z) (hzb : ∀ b, blk z = some b → T ≤ b ∧ b < T') (hap : ∀ p, blk y = some p → blk z ≠ some p) (hT : T ≤ T') (hB : B ≤ T) :
    Own2 (((w.setCell ⟨g, k * 3, none⟩ x).setCell ⟨g, k * 3 + 1, none⟩ y).setCell ⟨g, k * 3 + 2, none⟩ z) B T' e 3 (.slice (some ⟨g, 0, none⟩) n cap) n (((cs.set (k * 3) c0).set (k * 3 + 1) c1).set (k * 3 + 2) c2) (((xs.set (k * 3) x).set (k * 3 + 1) y).set (k * 3 + 2) z) := by
  have hg := h.2.1 g rfl
  have hlt := h.blk_lt
  have h1 := h.setNew (T' := T) (k * 3) c0 x (hx w) (fun b hb => by rw [hxb] at hb; cases hb) (Nat.le_refl _) hB
  have h2 := h1.setNew (k * 3 + 1) c1 y (c1.keep hy (fun b hb => heap_setCell_other w ⟨g, k * 3, none⟩ b x (by have := hyb b hb; simp; omega))) hyb hT hB
  refine h2.set (k * 3 + 2) c2 z ?_ (fun b hb => by have := hzb b hb; omega) (fun hb => by have := hzb g hb; omega) (fun i u hi hu p hp hq => ?_) (Nat.le_refl _)
  · refine c2.keep hz (fun b hb => ?_)
    have := hzb b hb
    exact (heap_setCell_other _ ⟨g, k * 3 + 1, none⟩ b y (by simp; omega)).trans (heap_setCell_other w ⟨g, k * 3, none⟩ b x (by simp; omega))
  · have hq' := hzb p hq
    rw [List.getElem?_set] at hu
    split at hu
    · split at hu
      · cases hu; exact hap p hp hq
      · cases hu
    · rw [List.getElem?_set] at hu
      split at hu
      · split at hu
        · cases hu; rw [hxb] at hp; cases hp
        · cases hu
      · have := hlt u (List.mem_cons_of_mem _ (List.mem_of_getElem? hu)) p hp; omega
/-- The cells of an effect, or of none yet. -/
def oeC (e : TypeId) : Option Eff → List Cel
  | some x => [.bool x.done, .ents e x.rds, .ents e x.wrs]
  | none => [.bool false, .ents e [], .ents e []]
theorem oeC_len (e : TypeId) (x : Option Eff) : (oeC e x).length = 3 := by cases x <;> rfl
theorem oeC_all (e : TypeId) (L : List Eff) : (L.map some).flatMap (oeC e) = L.flatMap (effC e) := by
  induction L with
  | nil => rfl
  | cons a r ih => rw [List.map_cons, List.flatMap_cons, List.flatMap_cons, ih]; rfl
theorem oeC_none (e : TypeId) (n : Nat) : (List.replicate n (none : Option Eff)).flatMap (oeC e) = (List.replicate n noEff).flatMap (effC e) := by
  induction n with
  | zero => rfl
  | succ n ih => rw [List.replicate_succ, List.replicate_succ, List.flatMap_cons, List.flatMap_cons, ih]; rfl
/-- The first k effects; the others not yet. -/
def FillF (w : World) (B g n : Nat) (eX eE : TypeId) (L : List Eff) (k : Nat) : Prop := ∃ xs, Own2 w B w.heap.size eX 3 (.slice (some ⟨g, 0, none⟩) n n) n ((fillO L k).flatMap (oeC eE)) xs
theorem FillF.store {w : World} {B g n : Nat} {eX eE : TypeId} {L : List Eff} {k T : Nat} {xs : List Value} (h : Own2 w B T eX 3 (.slice (some ⟨g, 0, none⟩) n n) n ((fillO L k).flatMap (oeC eE)) xs) (hk : k < L.length) (a b : Value)
    (hF : OwnF w T eE (.agg #[.bool (L.getD k noEff).done, a, b]) (L.getD k noEff)) (hl1 : (L.getD k noEff).rds.length ≤ 4000000) (hl2 : (L.getD k noEff).wrs.length ≤ 4000000) (hB : B ≤ T) (hTw : T ≤ w.heap.size) :
    FillF (((w.setCell ⟨g, k * 3, none⟩ (.bool (L.getD k noEff).done)).setCell ⟨g, k * 3 + 1, none⟩ a).setCell ⟨g, k * 3 + 2, none⟩ b) B g n eX eE L (k + 1) := by
  obtain ⟨va, vb, e0, g1, g2, g3, g4, g5⟩ := hF
  simp only [Value.agg.injEq, Array.mk.injEq, List.cons.injEq, and_true, true_and] at e0
  obtain ⟨rfl, rfl⟩ := e0
  have k1 := owns_blk g1
  have k2 := owns_blk g2
  have h1 := h.store3 (T' := w.heap.size) k (.bool (L.getD k noEff).done) (.ents eE (L.getD k noEff).rds) (.ents eE (L.getD k noEff).wrs) (.bool (L.getD k noEff).done) a b (fun _ => rfl) rfl (ents_own g1 g3 hl1) (fun p hp => by rw [k1] at hp; exact g1.lt p hp) (ents_own g2 g4 hl2) (fun p hp => by rw [k2] at hp; exact g2.lt p hp)
    (fun p hp => by rw [k1] at hp; rw [k2]; exact g5 p hp) hTw hB
  rw [← flatMap_set3 (oeC eE) (oeC_len eE) (fillO L k) k (some (L.getD k noEff)) _ _ _ (by rw [fillO_len L k (by omega)]; exact hk) rfl, fillO_set L k noEff hk] at h1
  exact ⟨_, h1.mono (Nat.le_refl _) (by simp [World.setCell])⟩
/-- The cells of the effect that is filled next. -/
theorem FillF.next {w : World} {B T g n : Nat} {eX eE : TypeId} {L : List Eff} {k : Nat} {xs : List Value} (h : Own2 w B T eX 3 (.slice (some ⟨g, 0, none⟩) n n) n ((fillO L k).flatMap (oeC eE)) xs) (hk : k < L.length) :
    w.cell? ⟨g, k * 3, none⟩ = some (.bool false) ∧ (∃ x, w.cell? ⟨g, k * 3 + 1, none⟩ = some x) ∧ (∃ x, w.cell? ⟨g, k * 3 + 2, none⟩ = some x) ∧ w.frozen? ⟨g, k * 3, none⟩ = false ∧ w.frozen? ⟨g, k * 3 + 1, none⟩ = false ∧ w.frozen? ⟨g, k * 3 + 2, none⟩ = false := by
  have hfg := fillO_get L k hk
  obtain ⟨x0, -, hcx0, hox0, -⟩ := h.at (k := k * 3) (c := .bool false) (by have := flatMap_get (oeC eE) 3 (oeC_len eE) (fillO L k) k 0 none hfg (by omega); rw [Nat.add_zero] at this; exact this)
  obtain ⟨x1, -, hcx1, -, -⟩ := h.at (k := k * 3 + 1) (c := .ents eE []) (flatMap_get (oeC eE) 3 (oeC_len eE) (fillO L k) k 1 none hfg (by omega))
  obtain ⟨x2, -, hcx2, -, -⟩ := h.at (k := k * 3 + 2) (c := .ents eE []) (flatMap_get (oeC eE) 3 (oeC_len eE) (fillO L k) k 2 none hfg (by omega))
  have hb : x0 = .bool false := hox0
  subst hb
  exact ⟨hcx0, ⟨x1, hcx1⟩, ⟨x2, hcx2⟩, h.1.frozenAt _, h.1.frozenAt _, h.1.frozenAt _⟩
/-- Where an owned effect lies. -/
theorem OwnFs.cell {w : World} {B T g n cap : Nat} {L : List Eff} {eX eE : TypeId} (h : OwnFs w B T eX eE (.slice (some ⟨g, 0, none⟩) n cap) L) (j : Nat) (hj : j < L.length) :
    n = L.length ∧ ∃ x y z, w.cell? ⟨g, j * 3, none⟩ = some x ∧ w.cell? ⟨g, j * 3 + 1, none⟩ = some y ∧ w.cell? ⟨g, j * 3 + 2, none⟩ = some z ∧ w.frozen? ⟨g, j * 3, none⟩ = false ∧ g < w.heap.size ∧ B ≤ g ∧ g < T := by
  obtain ⟨h0, xs, h1⟩ := h
  have hn : n = L.length := by
    rcases slice_of_owns h1.1 with ⟨h2, _⟩ | ⟨g', cap', h2, _⟩
    · cases h2
    · simp at h2; exact h2.2.1
  subst hn
  obtain ⟨c0, c1, c2⟩ := effC_get eE L j hj
  obtain ⟨x, -, hx, -, -⟩ := h1.at c0
  obtain ⟨y, -, hy, -, -⟩ := h1.at c1
  obtain ⟨z, -, hz, -, -⟩ := h1.at c2
  have := h1.blk_lt _ List.mem_cons_self g rfl
  exact ⟨rfl, x, y, z, hx, hy, hz, h1.1.frozenAt _, this.2.2, this.1, this.2.1⟩
/-- Whether an effect is done is written. -/
theorem OwnFs.setBool {w : World} {B T g n cap : Nat} {L : List Eff} {eX eE : TypeId} (h : OwnFs w B T eX eE (.slice (some ⟨g, 0, none⟩) n cap) L) (j : Nat) (hj : j < L.length) (d : Bool) :
    OwnFs (w.setCell ⟨g, j * 3, none⟩ (.bool d)) B T eX eE (.slice (some ⟨g, 0, none⟩) n cap) (L.set j ⟨d, (L.getD j noEff).rds, (L.getD j noEff).wrs⟩) := by
  have hn : n = L.length := (h.cell j hj).1
  subst hn
  obtain ⟨h0, xs, h1⟩ := h
  have h2 := h1.set (T' := T) (j * 3) (.bool d) (.bool d) rfl (fun b hb => by cases hb) (by simp [blk]) (fun i x _ _ p _ hp => by cases hp) (Nat.le_refl _)
  have h3 := flatMap_set (effC eE) 3 (effC_len _) L j 0 (L.getD j noEff) ⟨d, (L.getD j noEff).rds, (L.getD j noEff).wrs⟩ (.bool d) (getD_some L j noEff hj) (by omega) rfl
  rw [Nat.add_zero] at h3
  rw [← h3] at h2
  exact ⟨by rw [List.length_set]; exact h0, xs.set (j * 3) (.bool d), by rw [List.length_set]; exact h2⟩
/-- The reads of an effect, and what becomes of all when they are written in their place. -/
theorem OwnFs.rdsAt {w : World} {B T g n cap : Nat} {L : List Eff} {eX eE : TypeId} (h : OwnFs w B T eX eE (.slice (some ⟨g, 0, none⟩) n cap) L) (j : Nat) (hj : j < L.length) :
    ∃ x, w.cell? ⟨g, j * 3 + 1, none⟩ = some x ∧ w.ownsRow 0 eE 2 x (L.getD j noEff).rds.length (flatE (L.getD j noEff).rds) ∧ (∀ b, x.ownBlock = some b → B ≤ b ∧ b < T) ∧ x.ownBlock ≠ some g ∧
      ∀ w' l, w'.ownsRow 0 eE 2 x l.length (flatE l) → WfE l → l.length ≤ 4000000 → w.grownBy w' x.ownBlock → OwnFs w' B T eX eE (.slice (some ⟨g, 0, none⟩) n cap) (L.set j ⟨(L.getD j noEff).done, l, (L.getD j noEff).wrs⟩) := by
  obtain ⟨h0, xs, h1⟩ := h
  have hn : n = L.length := by
    rcases slice_of_owns h1.1 with ⟨h2, _⟩ | ⟨g', cap', h2, _⟩
    · cases h2
    · simp at h2; exact h2.2.1
  subst hn
  obtain ⟨x, hx, hcx, hox, hbx⟩ := h1.at (effC_get eE L j hj).2.1
  have hbe := owns_blk hox.1
  refine ⟨x, hcx, hox.1, fun b hb => hbx b (by rw [hbe]; exact hb), fun e => ?_, fun w' l hl hw hll hg => ?_⟩
  · exact (apart_cons.1 h1.2.2.2.2).1 x (List.mem_of_getElem? hx) g rfl (by rw [hbe]; exact e)
  · have h2 := h1.inner (j * 3 + 1) (.ents eE l) hx hg (fun p hp => by rw [hbe]; exact hp) ⟨hl, hw, hll⟩
    rw [← flatMap_set (effC eE) 3 (effC_len _) L j 1 (L.getD j noEff) ⟨(L.getD j noEff).done, l, (L.getD j noEff).wrs⟩ _ (getD_some L j noEff hj) (by omega) rfl] at h2
    exact ⟨by rw [List.length_set]; exact h0, xs, by rw [List.length_set]; exact h2⟩
/-- The writes of an effect, the same way. -/
theorem OwnFs.wrsAt {w : World} {B T g n cap : Nat} {L : List Eff} {eX eE : TypeId} (h : OwnFs w B T eX eE (.slice (some ⟨g, 0, none⟩) n cap) L) (j : Nat) (hj : j < L.length) :
    ∃ x, w.cell? ⟨g, j * 3 + 2, none⟩ = some x ∧ w.ownsRow 0 eE 2 x (L.getD j noEff).wrs.length (flatE (L.getD j noEff).wrs) ∧ (∀ b, x.ownBlock = some b → B ≤ b ∧ b < T) ∧ x.ownBlock ≠ some g ∧
      ∀ w' l, w'.ownsRow 0 eE 2 x l.length (flatE l) → WfE l → l.length ≤ 4000000 → w.grownBy w' x.ownBlock → OwnFs w' B T eX eE (.slice (some ⟨g, 0, none⟩) n cap) (L.set j ⟨(L.getD j noEff).done, (L.getD j noEff).rds, l⟩) := by
  obtain ⟨h0, xs, h1⟩ := h
  have hn : n = L.length := by
    rcases slice_of_owns h1.1 with ⟨h2, _⟩ | ⟨g', cap', h2, _⟩
    · cases h2
    · simp at h2; exact h2.2.1
  subst hn
  obtain ⟨x, hx, hcx, hox, hbx⟩ := h1.at (effC_get eE L j hj).2.2
  have hbe := owns_blk hox.1
  refine ⟨x, hcx, hox.1, fun b hb => hbx b (by rw [hbe]; exact hb), fun e => ?_, fun w' l hl hw hll hg => ?_⟩
  · exact (apart_cons.1 h1.2.2.2.2).1 x (List.mem_of_getElem? hx) g rfl (by rw [hbe]; exact e)
  · have h2 := h1.inner (j * 3 + 2) (.ents eE l) hx hg (fun p hp => by rw [hbe]; exact hp) ⟨hl, hw, hll⟩
    rw [← flatMap_set (effC eE) 3 (effC_len _) L j 2 (L.getD j noEff) ⟨(L.getD j noEff).done, (L.getD j noEff).rds, l⟩ _ (getD_some L j noEff hj) (by omega) rfl] at h2
    exact ⟨by rw [List.length_set]; exact h0, xs, by rw [List.length_set]; exact h2⟩
end Go.Proofs.YtaaffpolmecicaaGreat
