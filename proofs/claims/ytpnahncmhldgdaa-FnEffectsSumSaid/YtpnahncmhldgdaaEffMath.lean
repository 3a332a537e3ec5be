/- Effects: plain mathematics. No function of the program is named here. -/
import Derived.Test.YtpnahncmhldgdaaActs
import Derived.Test.YtpnahncmhldgdaaLay
import Derived.Test.YtpnahncmhldgdaaCore
namespace Go.Proofs.Ytpnahncmhldgdaa
/-- An effect. -/
structure Eff where
  done : Bool
  rds : List Ent
  wrs : List Ent
/-- The zero effect. -/
def noEff : Eff := ⟨false, [], []⟩
/-- What an action of a kind writes if it is done: f and t are the values of its keys. -/
def outsK (k s d m f t : Int) : List Ent :=
  if k = 1 then [(s, m)] else if k = 6 then [(s, max 0 (f - m))] else if k = 3 then [(d, f)] else if k = 5 then [(d, f + t)] else
  if k = 4 then pm d f [(s, t)] else if s = d then [(s, f)] else pm d (t + m) [(s, f - m)]
/-- Whether it is done. -/
def doneK (k s d m f t : Int) : Bool :=
  if k = 5 then decide (f + t ≤ 1000000) else if k = 2 then (decide (m ≤ f) && (decide (s = d) || decide (t + m ≤ 1000000))) else true
/-- What it reads. -/
def rdsK (k s d f t : Int) : List Ent := (readsK k s d).map (fun key => (key, if key = s then f else t))
def effK (k s d m f t : Int) : Eff := ⟨doneK k s d m f t, rdsK k s d f t, if doneK k s d m f t then outsK k s d m f t else []⟩
/-- What RunAction answers. -/
def runM (S : List Ent) (x : Acn) : Eff := if storeB S && actB x then effK x.kind x.src x.dst x.amt (atM S x.src) (atM S x.dst) else noEff
theorem runM_yes {S : List Ent} {x : Acn} (h : storeB S = true) (h2 : actB x = true) : runM S x = effK x.kind x.src x.dst x.amt (atM S x.src) (atM S x.dst) := by simp [runM, h, h2]
theorem runM_no {S : List Ent} {x : Acn} (h : (storeB S && actB x) = false) : runM S x = noEff := by simp [runM, h]
/-- All writes put into a store, one after the other. -/
def applyL (S : List Ent) (W : List Ent) : List Ent := W.foldl (fun l e => putRaw e.1 e.2 l) S
/-- What ApplyEffect answers. -/
def applyM (S : List Ent) (W : List Ent) : List Ent := if storeB S && writesB W then applyL S W else []
theorem applyM_yes {S W : List Ent} (h : storeB S = true) (h2 : writesB W = true) : applyM S W = applyL S W := by simp [applyM, h, h2]
theorem applyM_no {S W : List Ent} (h : (storeB S && writesB W) = false) : applyM S W = [] := by simp [applyM, h]
theorem applyL_snoc (S W : List Ent) (e : Ent) : applyL S (W ++ [e]) = putRaw e.1 e.2 (applyL S W) := by simp [applyL]
theorem ok_applyL {S W : List Ent} (hS : Ok S) (hW : WrE W) : Ok (applyL S W) := by
  unfold applyL
  induction W generalizing S with
  | nil => exact hS
  | cons e r ih =>
    have := hW e (by simp)
    exact ih (ok_put hS this.1 this.2.1 this.2.2.1 this.2.2.2) (fun f hf => hW f (List.mem_cons_of_mem _ hf))
/-- What a key has when all is put. -/
theorem atM_applyL {S W : List Ent} (hW : Asc W) (k : Int) : atM (applyL S W) k = (findM W k).getD (atM S k) := by
  unfold applyL
  induction W generalizing S with
  | nil => rfl
  | cons e r ih =>
    have hc := List.pairwise_cons.1 hW
    rw [List.foldl_cons, ih hc.2, atM_put]
    by_cases hk : e.1 = k
    · have hn : findM r k = none := findM_none (fun f hf => by have := hc.1 f hf; omega)
      rw [hn, if_pos hk.symm, findM, if_pos hk]; rfl
    · rw [if_neg (fun h => hk h.symm), findM, if_neg hk]
/-- The values of all keys, with one put. -/
theorem arrOf_put {l : List Ent} {key val : Int} (k0 : 0 ≤ key) (k1 : key ≤ 31) : arrOf (putRaw key val l) = (arrOf l).set key.toNat val := by
  apply List.ext_getElem?
  intro k
  by_cases hk : k < 32
  · rw [List.getElem?_set]
    have h1 : (arrOf (putRaw key val l))[k]? = some (atM (putRaw key val l) k) := by
      unfold arrOf; rw [List.getElem?_map, List.getElem?_range hk]; rfl
    have h2 : (arrOf l)[k]? = some (atM l k) := by
      unfold arrOf; rw [List.getElem?_map, List.getElem?_range hk]; rfl
    rw [h1, h2, atM_put]
    by_cases hke : key.toNat = k
    · rw [if_pos hke, if_pos (show key.toNat < (arrOf l).length by rw [arrOf_len]; omega), if_pos (show (k : Int) = key by omega)]
    · rw [if_neg hke, if_neg (show ¬ (k : Int) = key by omega)]
  · rw [List.getElem?_eq_none (by rw [arrOf_len]; omega), List.getElem?_eq_none (by rw [List.length_set, arrOf_len]; omega)]
theorem writesB_take {l : List Ent} (h : writesB l = true) (k : Nat) : writesB (l.take k) = true := (writesB_ok _).2 (wr_take ((writesB_ok _).1 h) k)
theorem applyL_take (S W : List Ent) (k : Nat) (hk : k < W.length) : applyL S (W.take (k + 1)) = putRaw (W.getD k (0, 0)).1 (W.getD k (0, 0)).2 (applyL S (W.take k)) := by
  rw [takeE_snoc W k hk, applyL_snoc]
theorem wrE_mem {W : List Ent} (h : writesB W = true) (k : Nat) (hk : k < W.length) : (0 ≤ (W.getD k (0, 0)).1 ∧ (W.getD k (0, 0)).1 ≤ 31) ∧ 0 ≤ (W.getD k (0, 0)).2 ∧ (W.getD k (0, 0)).2 ≤ 1000000 := ((wrAt_iff _ _).1 ((writesB_iff W).1 h k hk)).1
theorem ok_applyM {S W : List Ent} (hS : storeB S = true) (hW : writesB W = true) : storeB (applyL S W) = true :=
  (storeB_ok _).2 (ok_applyL ((storeB_ok _).1 hS) ((writesB_ok _).1 hW).2)
/-- A write has its value when all is put. -/
theorem applied_at {S W : List Ent} (hW : writesB W = true) (k : Nat) (hk : k < W.length) : atM (applyL S W) (W.getD k (0, 0)).1 = (W.getD k (0, 0)).2 := by
  have hw := (writesB_ok _).1 hW
  have hm : W.getD k (0, 0) ∈ W := by rw [List.getD_eq_getElem?_getD, List.getElem?_eq_getElem hk]; exact List.getElem_mem hk
  rw [atM_applyL hw.1, findM_of_mem hw.1 _ hm]; rfl
/-- Putting all again changes nothing. -/
theorem applied_again {S W : List Ent} (hS : storeB S = true) (hW : writesB W = true) : applyL (applyL S W) W = applyL S W := by
  have hw := (writesB_ok _).1 hW
  have ho := ok_applyL ((storeB_ok _).1 hS) hw.2
  refine ok_ext _ _ (ok_applyL ho hw.2) ho fun k _ _ => ?_
  rw [atM_applyL hw.1, atM_applyL hw.1]
  cases findM W k <;> rfl
/-- Ascending numbers, all among ascending numbers: there are not more. -/
theorem asc_len : ∀ (b a : List Int), a.Pairwise (· < ·) → b.Pairwise (· < ·) → (∀ x ∈ a, x ∈ b) → a.length ≤ b.length := by
  intro b
  induction b with
  | nil =>
    intro a _ _ h
    cases a with
    | nil => exact Nat.le_refl _
    | cons x r => exact absurd (h x (by simp)) (by simp)
  | cons y r ih =>
    intro a ha hb h
    cases a with
    | nil => exact Nat.zero_le _
    | cons x t =>
      have hca := List.pairwise_cons.1 ha
      have hcb := List.pairwise_cons.1 hb
      have : t.length ≤ r.length := ih t hca.2 hcb.2 (fun z hz => by
        rcases List.mem_cons.1 (h z (List.mem_cons_of_mem _ hz)) with rfl | hz'
        · have h1 := hca.1 z hz
          rcases List.mem_cons.1 (h x (by simp)) with rfl | hx
          · omega
          · have := hcb.1 x hx; omega
        · exact hz')
      simpa using this
theorem changed_asc (a b : List Ent) : (changedM a b).Pairwise (· < ·) := by
  unfold changedM
  split
  · refine List.Pairwise.sublist List.filter_sublist (List.pairwise_map.2 ?_)
    exact List.Pairwise.imp (fun h => by omega) List.pairwise_lt_range
  · exact List.Pairwise.nil
/-- There are not more changed keys than writes. -/
theorem changed_le {S W : List Ent} (hS : storeB S = true) (hW : writesB W = true) : (changedM S (applyL S W)).length ≤ W.length := by
  have hw := (writesB_ok _).1 hW
  have h := asc_len (W.map (·.1)) (changedM S (applyL S W)) (changed_asc _ _) (List.pairwise_map.2 (show W.Pairwise (fun a b => a.1 < b.1) from hw.1)) (fun x hx => by
    unfold changedM at hx
    rw [hS, ok_applyM hS hW] at hx
    simp only [Bool.and_self, if_true] at hx
    have hne := (List.mem_filter.1 hx).2
    simp only [decide_eq_true_eq, ne_eq] at hne
    rw [atM_applyL hw.1] at hne
    cases hf : findM W x with
    | none => rw [hf] at hne; exact absurd rfl hne
    | some v => exact List.mem_map.2 ⟨(x, v), findM_mem hf, rfl⟩)
  simpa using h
/-- What an action writes can be written. -/
theorem wr_one {s v : Int} (h0 : 0 ≤ s) (h1 : s ≤ 31) (h2 : 0 ≤ v) (h3 : v ≤ 1000000) : Wr [(s, v)] :=
  ⟨List.pairwise_singleton _ _, fun e he => by simp at he; subst he; exact ⟨h0, h1, h2, h3⟩⟩
theorem wr_outs {k s d m f t : Int} (ha : actB ⟨k, s, d, m⟩ = true) (hf0 : 0 ≤ f) (hf1 : f ≤ 1000000) (ht0 : 0 ≤ t) (ht1 : t ≤ 1000000) (hd : doneK k s d m f t = true) : Wr (outsK k s d m f t) := by
  obtain ⟨⟨s0, s1⟩, ⟨d0, d1⟩, m0, m1⟩ := actB_bd ha
  simp only at s0 s1 d0 d1 m0 m1
  unfold outsK
  unfold doneK at hd
  split
  · exact wr_one s0 s1 m0 m1
  split
  · exact wr_one s0 s1 (by omega) (by omega)
  split
  · exact wr_one d0 d1 hf0 hf1
  split
  · rename_i h5
    rw [if_pos h5, decide_eq_true_eq] at hd
    exact wr_one d0 d1 (by omega) hd
  split
  · exact wr_pm (wr_one s0 s1 ht0 ht1) d0 d1 hf0 hf1
  split
  · exact wr_one s0 s1 hf0 hf1
  · rename_i h1 h6 h3 h5 h4 hsd
    have hk := kind_of ha
    simp only at hk
    rw [if_neg h5, if_pos (by omega)] at hd
    simp only [Bool.and_eq_true, Bool.or_eq_true, decide_eq_true_eq] at hd
    exact wr_pm (wr_one s0 s1 (by omega) (by omega)) d0 d1 (by omega) (by omega)
theorem wr_run (S : List Ent) (x : Acn) : writesB (runM S x).wrs = true := by
  rw [writesB_ok]
  cases h : storeB S && actB x with
  | false => rw [runM_no h]; exact ⟨List.Pairwise.nil, fun e he => by cases he⟩
  | true =>
    rw [Bool.and_eq_true] at h
    rw [runM_yes h.1 h.2]
    have hb := fun k => atM_bd ((storeB_ok S).1 h.1).2 k
    unfold effK
    simp only
    split
    · rename_i hd
      exact wr_outs h.2 (hb _).1 (hb _).2 (hb _).1 (hb _).2 hd
    · exact ⟨List.Pairwise.nil, fun e he => by cases he⟩
theorem runM_wlen (S : List Ent) (x : Acn) : (runM S x).wrs.length ≤ 32 := wr_len (wr_run S x)
theorem runM_rlen (S : List Ent) (x : Acn) : (runM S x).rds.length ≤ 2 := by
  cases h : storeB S && actB x with
  | false => rw [runM_no h]; simp [noEff]
  | true =>
    rw [Bool.and_eq_true] at h
    rw [runM_yes h.1 h.2]
    have := readsM_len x
    rw [readsM, if_pos h.2] at this
    simpa [effK, rdsK] using this
theorem runM_reads {S : List Ent} {x : Acn} (h : storeB S = true) (h2 : actB x = true) : (runM S x).rds.length = (readsM x).length := by
  rw [runM_yes h h2, readsM, if_pos h2]; simp [effK, rdsK]
/-- What is read is what the store has. -/
theorem runM_read {S : List Ent} {x : Acn} (h : storeB S = true) (h2 : actB x = true) (e : Ent) (he : e ∈ (runM S x).rds) : (0 ≤ e.1 ∧ e.1 ≤ 31) ∧ atM S e.1 = e.2 := by
  rw [runM_yes h h2] at he
  obtain ⟨key, hk, rfl⟩ := List.mem_map.1 (show e ∈ (readsK x.kind x.src x.dst).map _ from he)
  have hm : key ∈ readsM x := by rw [readsM, if_pos h2]; exact hk
  have hsd : key = x.src ∨ key = x.dst := by
    unfold readsK at hk
    split at hk
    · cases hk
    · split at hk
      · simp at hk; exact .inl hk
      · unfold onceM at hk; split at hk
        · simp at hk; exact .inl hk
        · simpa using hk
  refine ⟨readsM_bd x key hm, ?_⟩
  simp only
  split
  · rename_i hks; rw [hks]
  · rename_i hks
    rcases hsd with h | h
    · exact absurd h hks
    · rw [h]
theorem runM_wf (S : List Ent) (x : Acn) (hS : ∀ k, 0 ≤ atM S k ∧ atM S k ≤ 1000000) : ∀ e ∈ (runM S x).rds, (0 ≤ e.1 ∧ e.1 ≤ 31) ∧ 0 ≤ e.2 ∧ e.2 ≤ 1000000 := by
  intro e he
  cases h : storeB S && actB x with
  | false => rw [runM_no h] at he; cases he
  | true =>
    rw [Bool.and_eq_true] at h
    obtain ⟨h1, h2⟩ := runM_read h.1 h.2 e he
    exact ⟨h1, by rw [← h2]; exact hS _⟩
/-- The keys that are written are among those that may be. -/
theorem pm_keys (key val : Int) (l : List Ent) : ∀ f ∈ pm key val l, f.1 = key ∨ ∃ g ∈ l, g.1 = f.1 := by
  intro f hf
  rcases mem_pm key val l f hf with rfl | h
  · exact .inl rfl
  · exact .inr ⟨f, h, rfl⟩
theorem outs_keys {k s d m f t : Int} (hk : 1 ≤ k ∧ k ≤ 6) : ∀ e ∈ outsK k s d m f t, e.1 ∈ writesK k s d := by
  intro e he
  unfold outsK at he
  unfold writesK
  have hasc : ∀ x, (x = s ∨ x = d) → x ∈ ascM s d := by
    intro x hx
    unfold ascM onceM
    split <;> simp <;> omega
  rcases (by omega : k = 1 ∨ k = 6 ∨ k = 3 ∨ k = 5 ∨ k = 4 ∨ k = 2) with rfl | rfl | rfl | rfl | rfl | rfl
  · simp at he ⊢; rw [he]
  · simp at he ⊢; rw [he]
  · simp at he ⊢; rw [he]
  · simp at he ⊢; rw [he]
  · simp only [if_pos, show ¬ (4 : Int) = 1 by omega, show ¬ (4 : Int) = 6 by omega, show ¬ (4 : Int) = 3 by omega, show ¬ (4 : Int) = 5 by omega, if_false, or_false] at he ⊢
    refine hasc _ ?_
    rcases pm_keys d f _ e he with h | ⟨g, hg, h⟩
    · exact .inr h
    · simp at hg; subst hg; exact .inl h.symm
  · simp only [show ¬ (2 : Int) = 1 by omega, show ¬ (2 : Int) = 6 by omega, show ¬ (2 : Int) = 3 by omega, show ¬ (2 : Int) = 5 by omega, show ¬ (2 : Int) = 4 by omega, if_false, or_false] at he ⊢
    refine hasc _ ?_
    split at he
    · simp at he; rw [he]; exact .inl rfl
    · rcases pm_keys d (t + m) _ e he with h | ⟨g, hg, h⟩
      · exact .inr h
      · simp at hg; subst hg; exact .inl h.symm
theorem run_keys (S : List Ent) (x : Acn) : ∀ e ∈ (runM S x).wrs, e.1 ∈ writesM x := by
  intro e he
  cases h : storeB S && actB x with
  | false => rw [runM_no h] at he; cases he
  | true =>
    rw [Bool.and_eq_true] at h
    rw [runM_yes h.1 h.2] at he
    rw [writesM, if_pos h.2]
    unfold effK at he
    simp only at he
    split at he
    · exact outs_keys (kind_of h.2) e he
    · cases he
theorem once_asc {a b : Int} (h : a ≤ b) : (onceM a b).length = 1 ∨ (onceM a b).getD 0 0 < (onceM a b).getD 1 0 := by
  unfold onceM
  split
  · exact .inl rfl
  · right; show a < b; omega
theorem writes_two {x : Acn} (h : actB x = true) : 1 ≤ (writesM x).length ∧ ((writesM x).length = 1 ∨ (writesM x).getD 0 0 < (writesM x).getD 1 0) := by
  rw [writesM, if_pos h]
  unfold writesK
  split
  · exact ⟨Nat.le_refl _, .inl rfl⟩
  · split
    · exact ⟨Nat.le_refl _, .inl rfl⟩
    · exact ⟨(once_len _ _).1, once_asc (by omega)⟩
/-- With another value for a key that is not read the effect is the same. -/
theorem run_other {S T : List Ent} {x : Acn} (hS : storeB S = true) (hT : storeB T = true) (h2 : actB x = true) (h : ∀ k ∈ readsM x, atM T k = atM S k) : runM T x = runM S x := by
  rw [runM_yes hS h2, runM_yes hT h2]
  rw [readsM, if_pos h2] at h
  have hk := kind_of h2
  have hon : ∀ y, (y = x.src ∨ y = x.dst) → y ∈ onceM x.src x.dst := by
    intro y hy; unfold onceM; split <;> simp <;> omega
  obtain ⟨k, s, d, m⟩ := x
  simp only at h hk hon ⊢
  rcases (by omega : k = 1 ∨ k = 6 ∨ k = 3 ∨ k = 5 ∨ k = 4 ∨ k = 2) with rfl | rfl | rfl | rfl | rfl | rfl
  · simp [effK, doneK, rdsK, readsK, outsK]
  · have e := h s (by simp [readsK])
    rw [e]; simp [effK, doneK, rdsK, readsK, outsK]
  · have e := h s (by simp [readsK])
    rw [e]; simp [effK, doneK, rdsK, readsK, outsK]
  · rw [h s (by simp only [readsK]; exact hon s (.inl rfl)), h d (by simp only [readsK]; exact hon d (.inr rfl))]
  · rw [h s (by simp only [readsK]; exact hon s (.inl rfl)), h d (by simp only [readsK]; exact hon d (.inr rfl))]
  · rw [h s (by simp only [readsK]; exact hon s (.inl rfl)), h d (by simp only [readsK]; exact hon d (.inr rfl))]
/-- What is not done writes nothing. -/
theorem run_undone {S : List Ent} {x : Acn} (h : (runM S x).done = false) : (runM S x).wrs = [] := by
  cases hh : storeB S && actB x with
  | false => rw [runM_no hh]; rfl
  | true =>
    rw [Bool.and_eq_true] at hh
    rw [runM_yes hh.1 hh.2] at h ⊢
    have h : doneK x.kind x.src x.dst x.amt (atM S x.src) (atM S x.dst) = false := h
    simp [effK, h]
/-- The writes of two keys. -/
theorem applyL_two {S : List Ent} (hS : Ok S) {s d u v : Int} (s0 : 0 ≤ s) (s1 : s ≤ 31) (d0 : 0 ≤ d) (d1 : d ≤ 31) (u0 : 0 ≤ u) (u1 : u ≤ 1000000) (v0 : 0 ≤ v) (v1 : v ≤ 1000000) :
    applyL S (pm d v [(s, u)]) = putRaw d v (putRaw s u S) := by
  have hp := wr_pm (wr_one s0 s1 u0 u1) d0 d1 v0 v1
  refine ok_ext _ _ (ok_applyL hS hp.2) (ok_put (ok_put hS s0 s1 u0 u1) d0 d1 v0 v1) fun k _ _ => ?_
  rw [atM_applyL hp.1, atM_put, atM_put, findM_pm _ _ _ _ (List.pairwise_singleton _ _)]
  by_cases hk : k = d
  · rw [if_pos hk, if_pos hk]; rfl
  · rw [if_neg hk, if_neg hk]
    by_cases hs : k = s
    · rw [if_pos hs, findM, if_pos hs.symm]; rfl
    · rw [if_neg hs, findM, if_neg (fun h => hs h.symm)]; rfl
/-- Moves and swaps, and what is not done, keep the total. -/
theorem run_total {S : List Ent} {x : Acn} (hS : storeB S = true) (h2 : actB x = true) (h : x.kind = 2 ∨ x.kind = 4 ∨ (runM S x).done = false) : sumV (applyL S (runM S x).wrs) = sumV S := by
  cases hd : (runM S x).done with
  | false => rw [run_undone hd]; rfl
  | true =>
    rw [hd] at h
    have hO := (storeB_ok S).1 hS
    have hb := fun k => atM_bd hO.2 k
    obtain ⟨⟨s0, s1⟩, ⟨d0, d1⟩, m0, m1⟩ := actB_bd h2
    rw [runM_yes hS h2] at hd ⊢
    obtain ⟨k, s, d, m⟩ := x
    simp only at h s0 s1 d0 d1 m0 m1 hd ⊢
    have hdd : doneK k s d m (atM S s) (atM S d) = true := hd
    have hs := hb s
    have ht := hb d
    have hw : (effK k s d m (atM S s) (atM S d)).wrs = outsK k s d m (atM S s) (atM S d) := by simp [effK, hdd]
    rw [hw]
    rcases h with rfl | rfl | h
    · have hu : outsK 2 s d m (atM S s) (atM S d) = if s = d then [(s, atM S s)] else pm d (atM S d + m) [(s, atM S s - m)] := by simp [outsK]
      rw [hu]
      by_cases hsd : s = d
      · rw [if_pos hsd]
        show sumV (putRaw s (atM S s) S) = _
        rw [sumV_put hO.1]; omega
      · rw [if_neg hsd]
        simp only [doneK, show ¬ (2 : Int) = 5 by omega, if_false, if_true, Bool.and_eq_true, Bool.or_eq_true, decide_eq_true_eq] at hdd
        rw [applyL_two hO s0 s1 d0 d1 (by omega) (by omega) (by omega) (by omega)]
        rw [sumV_put (ok_put hO s0 s1 (by omega) (by omega)).1, sumV_put hO.1, atM_put, if_neg (fun h => hsd h.symm)]
        omega
    · have hu : outsK 4 s d m (atM S s) (atM S d) = pm d (atM S s) [(s, atM S d)] := by simp [outsK]
      rw [hu, applyL_two hO s0 s1 d0 d1 ht.1 ht.2 hs.1 hs.2, sumV_put (ok_put hO s0 s1 ht.1 ht.2).1, sumV_put hO.1, atM_put]
      by_cases hsd : d = s
      · rw [if_pos hsd, hsd]; omega
      · rw [if_neg hsd]; omega
    · cases h
/-- The numbers of a list of pairs. -/
def numsE : List Ent → List Int
  | [] => []
  | e :: r => e.1 :: e.2 :: numsE r
theorem numsE_append (l m : List Ent) : numsE (l ++ m) = numsE l ++ numsE m := by
  induction l with
  | nil => rfl
  | cons e r ih => simp [numsE, ih]
theorem numsE_len (l : List Ent) : (numsE l).length = l.length * 2 := by
  induction l with
  | nil => rfl
  | cons e r ih => simp [numsE, ih]; omega
theorem numsE_mem (l : List Ent) : ∀ n ∈ numsE l, ∃ e ∈ l, n = e.1 ∨ n = e.2 := by
  induction l with
  | nil => intro n hn; cases hn
  | cons e r ih =>
    intro n hn
    simp only [numsE, List.mem_cons] at hn
    rcases hn with rfl | rfl | hn
    · exact ⟨e, by simp, .inl rfl⟩
    · exact ⟨e, by simp, .inr rfl⟩
    · obtain ⟨f, hf, h⟩ := ih n hn
      exact ⟨f, List.mem_cons_of_mem _ hf, h⟩
/-- 1 if it is done. -/
def bitB (b : Bool) : Int := if b then 1 else 0
/-- What is summed up of an effect. -/
def numsM (x : Eff) : List Int := bitB x.done :: (x.rds.length : Int) :: numsE (x.rds ++ x.wrs)
/-- What EffectSum answers. -/
def effSumM (x : Eff) : Int := sumOfM 3 (numsM x)
theorem sumOfM_cases (t : Int) (l : List Int) : sumOfM t l = -1 ∨ (0 ≤ sumOfM t l ∧ sumOfM t l ≤ 1000002 ∧ okTag t = true ∧ l.all okSummed = true ∧ sumOfM t l = sumFold (17 + t) l) := by
  unfold sumOfM
  cases h : okTag t && l.all okSummed with
  | false => exact .inl rfl
  | true =>
    rw [Bool.and_eq_true] at h
    have ht : 0 ≤ t ∧ t ≤ 9 := by simpa [okTag] using h.1
    have := sumFold_bd (17 + t) l (by omega) (by omega)
    exact .inr ⟨this.1, this.2, h.1, h.2, rfl⟩
/-- An effect that is done has another sum than the same one that is not. -/
theorem effSum_flip {x : Eff} (h : 0 ≤ effSumM x) : effSumM ⟨!x.done, x.rds, x.wrs⟩ ≠ effSumM x := by
  rcases sumOfM_cases 3 (numsM x) with h1 | ⟨-, -, h2, h3, h4⟩
  · unfold effSumM at h; omega
  · intro he
    unfold effSumM at he
    rw [h4] at he
    have hall : (numsM ⟨!x.done, x.rds, x.wrs⟩).all okSummed = true := by
      rw [List.all_eq_true] at h3 ⊢
      intro n hn
      simp only [numsM, List.mem_cons] at hn
      rcases hn with rfl | hn
      · cases x.done <;> decide
      · exact h3 n (by simp only [numsM, List.mem_cons]; exact .inr hn)
    have h5 : sumOfM 3 (numsM ⟨!x.done, x.rds, x.wrs⟩) = sumFold (17 + 3) (numsM ⟨!x.done, x.rds, x.wrs⟩) := by
      unfold sumOfM; rw [hall]; rfl
    rw [h5] at he
    have hset : numsM ⟨!x.done, x.rds, x.wrs⟩ = (numsM x).set 0 (bitB (!x.done)) := rfl
    rw [hset] at he
    refine sumFold_set (17 + 3) (numsM x) 0 _ (by simp [numsM]) (by omega) (by omega) ?_ he
    show bitB (!x.done) = bitB x.done + 1 ∨ bitB (!x.done) = bitB x.done - 1
    cases x.done <;> simp [bitB]
/-- All writes put into one layer over a store show the store with the writes. -/
theorem layer_shows {S W : List Ent} (hS : storeB S = true) (hW : writesB W = true) : layerStoreM S [(-1, W)] 0 = applyL S W := by
  have hL : layersB [((-1 : Int), W)] = true := by
    refine layersB_yes _ (fun j hj => ?_) (by simp)
    have : j = 0 := by simpa using hj
    subst this
    simp [layAt, hW, inB]
  have hw := (writesB_ok _).1 hW
  have hO := (storeB_ok S).1 hS
  have hi : inB 0 (-1) ((([((-1 : Int), W)] : List Lay).length : Int) - 1) = true := by simp [inB]
  unfold layerStoreM
  rw [hS, hL, hi]
  show entTo (readArr S [(-1, W)] 0) 32 = _
  refine ok_ext _ _ (ok_entTo (bdA_read hS hL (by simp))) (ok_applyL hO hw.2) fun k k0 k1 => ?_
  obtain ⟨n, rfl⟩ := Int.eq_ofNat_of_zero_le k0
  rw [atM_entTo _ _ _ (by omega), readArr_get _ _ _ _ (by omega), atM_applyL hw.1]
  unfold readM
  cases hf : findM W n with
  | some v => rw [seen_hit (by omega) (by simpa using hf)]
  | none =>
    rw [seen_miss hL (by omega) (by simp) (by simpa using hf)]
    rw [show (([((-1 : Int), W)] : List Lay).getD (0 : Int).toNat (0, [])).1 = -1 from rfl, seen_neg _ _ _ (by omega)]
/-- The writes are put one after the other: what comes of the first ones. -/
theorem pm_snoc {l : List Ent} {e : Ent} (h : ∀ f ∈ l, f.1 < e.1) : pm e.1 e.2 l = l ++ [e] := by
  induction l with
  | nil => rfl
  | cons a r ih =>
    have := h a (by simp)
    rw [pm, if_neg (by omega), ih (fun f hf => h f (List.mem_cons_of_mem _ hf))]; rfl
theorem write_next {W : List Ent} (hW : writesB W = true) (k : Nat) (hk : k < W.length) : layerWriteM [(-1, W.take k)] 0 (W.getD k (0, 0)).1 (W.getD k (0, 0)).2 = ([(-1, W.take (k + 1))], true) := by
  have hb := wrE_mem hW k hk
  have hw := (writesB_ok _).1 hW
  have hL : layersB [((-1 : Int), W.take k)] = true := by
    refine layersB_yes _ (fun j hj => ?_) (by simp)
    have : j = 0 := by simpa using hj
    subst this
    simp [layAt, writesB_take hW k, inB]
  have hi : inB 0 0 ((([((-1 : Int), W.take k)] : List Lay).length : Int) - 1) = true := by simp [inB]
  unfold layerWriteM
  rw [hL, hi, inB_yes hb.1.1 hb.1.2, inB_yes hb.2.1 hb.2.2]
  have hp : pm (W.getD k (0, 0)).1 (W.getD k (0, 0)).2 (W.take k) = W.take (k + 1) := by
    rw [takeE_snoc W k hk]
    refine pm_snoc (fun f hf => ?_)
    have hpw := (wr_take hw (k + 1)).1
    rw [takeE_snoc W k hk] at hpw
    exact (List.pairwise_append.1 hpw).2.2 f hf _ (List.mem_singleton.2 rfl)
  show (writeL [(-1, W.take k)] 0 _ _, true) = _
  rw [show writeL [((-1 : Int), W.take k)] 0 (W.getD k (0, 0)).1 (W.getD k (0, 0)).2 = [(-1, pm (W.getD k (0, 0)).1 (W.getD k (0, 0)).2 (W.take k))] from rfl, hp]
end Go.Proofs.Ytpnahncmhldgdaa
