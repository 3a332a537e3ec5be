/- Texts of ours that stand together: EffMath, EffMem, SerMath, SerMem, SerMem2 -/
import Derived.Test.YtfhbolpchmdaoaaActs
import Derived.Test.YtfhbolpchmdaoaaLay
import Derived.Test.YtfhbolpchmdaoaaCore
import Derived.Maps.AppendAt
/- Effects: plain mathematics. No function of the program is named here. -/
namespace Go.Proofs.Ytfhbolpchmdaoaa
/-- An effect. -/
structure Eff where
  done : Bool
  rds : List Ent
  wrs : List Ent
/-- The zero effect. -/
def noEff : Eff := ⟨false, [], []⟩
/-- What an action of a kind writes if it is done: f and t are the values of its keys. -/
def outsK (k s d m f t : Int) : List Ent :=
  if k = 1 then [(s, m)] else if k = 6 then [(s, max 0 (f - m))] else if k = 3 then [(d, f)] else if k = 5 then [(d, f + t)] else
  if k = 4 then pm d f [(s, t)] else if s = d then [(s, f)] else pm d (t + m) [(s, f - m)]
/-- Whether it is done. -/
def doneK (k s d m f t : Int) : Bool :=
  if k = 5 then decide (f + t ≤ 1000000) else if k = 2 then (decide (m ≤ f) && (decide (s = d) || decide (t + m ≤ 1000000))) else true
/-- What it reads. -/
def rdsK (k s d f t : Int) : List Ent := (readsK k s d).map (fun key => (key, if key = s then f else t))
def effK (k s d m f t : Int) : Eff := ⟨doneK k s d m f t, rdsK k s d f t, if doneK k s d m f t then outsK k s d m f t else []⟩
/-- What RunAction answers. -/
def runM (S : List Ent) (x : Acn) : Eff := if storeB S && actB x then effK x.kind x.src x.dst x.amt (atM S x.src) (atM S x.dst) else noEff
theorem runM_yes {S : List Ent} {x : Acn} (h : storeB S = true) (h2 : actB x = true) : runM S x = effK x.kind x.src x.dst x.amt (atM S x.src) (atM S x.dst) := by simp [runM, h, h2]
theorem runM_no {S : List Ent} {x : Acn} (h : (storeB S && actB x) = false) : runM S x = noEff := by simp [runM, h]
/-- All writes put into a store, one after the other. -/
def applyL (S : List Ent) (W : List Ent) : List Ent := W.foldl (fun l e => putRaw e.1 e.2 l) S
/-- What ApplyEffect answers. -/
def applyM (S : List Ent) (W : List Ent) : List Ent := if storeB S && writesB W then applyL S W else []
theorem applyM_yes {S W : List Ent} (h : storeB S = true) (h2 : writesB W = true) : applyM S W = applyL S W := by simp [applyM, h, h2]
theorem applyM_no {S W : List Ent} (h : (storeB S && writesB W) = false) : applyM S W = [] := by simp [applyM, h]
theorem applyL_snoc (S W : List Ent) (e : Ent) : applyL S (W ++ [e]) = putRaw e.1 e.2 (applyL S W) := by simp [applyL]
theorem ok_applyL {S W : List Ent} (hS : Ok S) (hW : WrE W) : Ok (applyL S W) := by
  unfold applyL
  induction W generalizing S with
  | nil => exact hS
  | cons e r ih =>
    have := hW e (by simp)
    exact ih (ok_put hS this.1 this.2.1 this.2.2.1 this.2.2.2) (fun f hf => hW f (List.mem_cons_of_mem _ hf))
/-- What a key has when all is put. -/
theorem atM_applyL {S W : List Ent} (hW : Asc W) (k : Int) : atM (applyL S W) k = (findM W k).getD (atM S k) := by
  unfold applyL
  induction W generalizing S with
  | nil => rfl
  | cons e r ih =>
    have hc := List.pairwise_cons.1 hW
    rw [List.foldl_cons, ih hc.2, atM_put]
    by_cases hk : e.1 = k
    · have hn : findM r k = none := findM_none (fun f hf => by have := hc.1 f hf; omega)
      rw [hn, if_pos hk.symm, findM, if_pos hk]; rfl
    · rw [if_neg (fun h => hk h.symm), findM, if_neg hk]
/-- The values of all keys, with one put. -/
theorem arrOf_put {l : List Ent} {key val : Int} (k0 : 0 ≤ key) (k1 : key ≤ 31) : arrOf (putRaw key val l) = (arrOf l).set key.toNat val := by
  apply List.ext_getElem?
  intro k
  by_cases hk : k < 32
  · rw [List.getElem?_set]
    have h1 : (arrOf (putRaw key val l))[k]? = some (atM (putRaw key val l) k) := by
      unfold arrOf; rw [List.getElem?_map, List.getElem?_range hk]; rfl
    have h2 : (arrOf l)[k]? = some (atM l k) := by
      unfold arrOf; rw [List.getElem?_map, List.getElem?_range hk]; rfl
    rw [h1, h2, atM_put]
    by_cases hke : key.toNat = k
    · rw [if_pos hke, if_pos (show key.toNat < (arrOf l).length by rw [arrOf_len]; omega), if_pos (show (k : Int) = key by omega)]
    · rw [if_neg hke, if_neg (show ¬ (k : Int) = key by omega)]
  · rw [List.getElem?_eq_none (by rw [arrOf_len]; omega), List.getElem?_eq_none (by rw [List.length_set, arrOf_len]; omega)]
theorem writesB_take {l : List Ent} (h : writesB l = true) (k : Nat) : writesB (l.take k) = true := (writesB_ok _).2 (wr_take ((writesB_ok _).1 h) k)
theorem applyL_take (S W : List Ent) (k : Nat) (hk : k < W.length) : applyL S (W.take (k + 1)) = putRaw (W.getD k (0, 0)).1 (W.getD k (0, 0)).2 (applyL S (W.take k)) := by
  rw [takeE_snoc W k hk, applyL_snoc]
theorem wrE_mem {W : List Ent} (h : writesB W = true) (k : Nat) (hk : k < W.length) : (0 ≤ (W.getD k (0, 0)).1 ∧ (W.getD k (0, 0)).1 ≤ 31) ∧ 0 ≤ (W.getD k (0, 0)).2 ∧ (W.getD k (0, 0)).2 ≤ 1000000 := ((wrAt_iff _ _).1 ((writesB_iff W).1 h k hk)).1
theorem ok_applyM {S W : List Ent} (hS : storeB S = true) (hW : writesB W = true) : storeB (applyL S W) = true :=
  (storeB_ok _).2 (ok_applyL ((storeB_ok _).1 hS) ((writesB_ok _).1 hW).2)
/-- A write has its value when all is put. -/
theorem applied_at {S W : List Ent} (hW : writesB W = true) (k : Nat) (hk : k < W.length) : atM (applyL S W) (W.getD k (0, 0)).1 = (W.getD k (0, 0)).2 := by
  have hw := (writesB_ok _).1 hW
  have hm : W.getD k (0, 0) ∈ W := by rw [List.getD_eq_getElem?_getD, List.getElem?_eq_getElem hk]; exact List.getElem_mem hk
  rw [atM_applyL hw.1, findM_of_mem hw.1 _ hm]; rfl
/-- Putting all again changes nothing. -/
theorem applied_again {S W : List Ent} (hS : storeB S = true) (hW : writesB W = true) : applyL (applyL S W) W = applyL S W := by
  have hw := (writesB_ok _).1 hW
  have ho := ok_applyL ((storeB_ok _).1 hS) hw.2
  refine ok_ext _ _ (ok_applyL ho hw.2) ho fun k _ _ => ?_
  rw [atM_applyL hw.1, atM_applyL hw.1]
  cases findM W k <;> rfl
/-- Ascending numbers, all among ascending numbers: there are not more. -/
theorem asc_len : ∀ (b a : List Int), a.Pairwise (· < ·) → b.Pairwise (· < ·) → (∀ x ∈ a, x ∈ b) → a.length ≤ b.length := by
  intro b
  induction b with
  | nil =>
    intro a _ _ h
    cases a with
    | nil => exact Nat.le_refl _
    | cons x r => exact absurd (h x (by simp)) (by simp)
  | cons y r ih =>
    intro a ha hb h
    cases a with
    | nil => exact Nat.zero_le _
    | cons x t =>
      have hca := List.pairwise_cons.1 ha
      have hcb := List.pairwise_cons.1 hb
      have : t.length ≤ r.length := ih t hca.2 hcb.2 (fun z hz => by
        rcases List.mem_cons.1 (h z (List.mem_cons_of_mem _ hz)) with rfl | hz'
        · have h1 := hca.1 z hz
          rcases List.mem_cons.1 (h x (by simp)) with rfl | hx
          · omega
          · have := hcb.1 x hx; omega
        · exact hz')
      simpa using this
theorem changed_asc (a b : List Ent) : (changedM a b).Pairwise (· < ·) := by
  unfold changedM
  split
  · refine List.Pairwise.sublist List.filter_sublist (List.pairwise_map.2 ?_)
    exact List.Pairwise.imp (fun h => by omega) List.pairwise_lt_range
  · exact List.Pairwise.nil
/-- There are not more changed keys than writes. -/
theorem changed_le {S W : List Ent} (hS : storeB S = true) (hW : writesB W = true) : (changedM S (applyL S W)).length ≤ W.length := by
  have hw := (writesB_ok _).1 hW
  have h := asc_len (W.map (·.1)) (changedM S (applyL S W)) (changed_asc _ _) (List.pairwise_map.2 (show W.Pairwise (fun a b => a.1 < b.1) from hw.1)) (fun x hx => by
    unfold changedM at hx
    rw [hS, ok_applyM hS hW] at hx
    simp only [Bool.and_self, if_true] at hx
    have hne := (List.mem_filter.1 hx).2
    simp only [decide_eq_true_eq, ne_eq] at hne
    rw [atM_applyL hw.1] at hne
    cases hf : findM W x with
    | none => rw [hf] at hne; exact absurd rfl hne
    | some v => exact List.mem_map.2 ⟨(x, v), findM_mem hf, rfl⟩)
  simpa using h
/-- What an action writes can be written. -/
theorem wr_one {s v : Int} (h0 : 0 ≤ s) (h1 : s ≤ 31) (h2 : 0 ≤ v) (h3 : v ≤ 1000000) : Wr [(s, v)] :=
  ⟨List.pairwise_singleton _ _, fun e he => by simp at he; subst he; exact ⟨h0, h1, h2, h3⟩⟩
theorem wr_outs {k s d m f t : Int} (ha : actB ⟨k, s, d, m⟩ = true) (hf0 : 0 ≤ f) (hf1 : f ≤ 1000000) (ht0 : 0 ≤ t) (ht1 : t ≤ 1000000) (hd : doneK k s d m f t = true) : Wr (outsK k s d m f t) := by
  obtain ⟨⟨s0, s1⟩, ⟨d0, d1⟩, m0, m1⟩ := actB_bd ha
  simp only at s0 s1 d0 d1 m0 m1
  unfold outsK
  unfold doneK at hd
  split
  · exact wr_one s0 s1 m0 m1
  split
  · exact wr_one s0 s1 (by omega) (by omega)
  split
  · exact wr_one d0 d1 hf0 hf1
  split
  · rename_i h5
    rw [if_pos h5, decide_eq_true_eq] at hd
    exact wr_one d0 d1 (by omega) hd
  split
  · exact wr_pm (wr_one s0 s1 ht0 ht1) d0 d1 hf0 hf1
  split
  · exact wr_one s0 s1 hf0 hf1
  · rename_i h1 h6 h3 h5 h4 hsd
    have hk := kind_of ha
    simp only at hk
    rw [if_neg h5, if_pos (by omega)] at hd
    simp only [Bool.and_eq_true, Bool.or_eq_true, decide_eq_true_eq] at hd
    exact wr_pm (wr_one s0 s1 (by omega) (by omega)) d0 d1 (by omega) (by omega)
theorem wr_run (S : List Ent) (x : Acn) : writesB (runM S x).wrs = true := by
  rw [writesB_ok]
  cases h : storeB S && actB x with
  | false => rw [runM_no h]; exact ⟨List.Pairwise.nil, fun e he => by cases he⟩
  | true =>
    rw [Bool.and_eq_true] at h
    rw [runM_yes h.1 h.2]
    have hb := fun k => atM_bd ((storeB_ok S).1 h.1).2 k
    unfold effK
    simp only
    split
    · rename_i hd
      exact wr_outs h.2 (hb _).1 (hb _).2 (hb _).1 (hb _).2 hd
    · exact ⟨List.Pairwise.nil, fun e he => by cases he⟩
theorem runM_wlen (S : List Ent) (x : Acn) : (runM S x).wrs.length ≤ 32 := wr_len (wr_run S x)
theorem runM_rlen (S : List Ent) (x : Acn) : (runM S x).rds.length ≤ 2 := by
  cases h : storeB S && actB x with
  | false => rw [runM_no h]; simp [noEff]
  | true =>
    rw [Bool.and_eq_true] at h
    rw [runM_yes h.1 h.2]
    have := readsM_len x
    rw [readsM, if_pos h.2] at this
    simpa [effK, rdsK] using this
theorem runM_reads {S : List Ent} {x : Acn} (h : storeB S = true) (h2 : actB x = true) : (runM S x).rds.length = (readsM x).length := by
  rw [runM_yes h h2, readsM, if_pos h2]; simp [effK, rdsK]
/-- What is read is what the store has. -/
theorem runM_read {S : List Ent} {x : Acn} (h : storeB S = true) (h2 : actB x = true) (e : Ent) (he : e ∈ (runM S x).rds) : (0 ≤ e.1 ∧ e.1 ≤ 31) ∧ atM S e.1 = e.2 := by
  rw [runM_yes h h2] at he
  obtain ⟨key, hk, rfl⟩ := List.mem_map.1 (show e ∈ (readsK x.kind x.src x.dst).map _ from he)
  have hm : key ∈ readsM x := by rw [readsM, if_pos h2]; exact hk
  have hsd : key = x.src ∨ key = x.dst := by
    unfold readsK at hk
    split at hk
    · cases hk
    · split at hk
      · simp at hk; exact .inl hk
      · unfold onceM at hk; split at hk
        · simp at hk; exact .inl hk
        · simpa using hk
  refine ⟨readsM_bd x key hm, ?_⟩
  simp only
  split
  · rename_i hks; rw [hks]
  · rename_i hks
    rcases hsd with h | h
    · exact absurd h hks
    · rw [h]
theorem runM_wf (S : List Ent) (x : Acn) (hS : ∀ k, 0 ≤ atM S k ∧ atM S k ≤ 1000000) : ∀ e ∈ (runM S x).rds, (0 ≤ e.1 ∧ e.1 ≤ 31) ∧ 0 ≤ e.2 ∧ e.2 ≤ 1000000 := by
  intro e he
  cases h : storeB S && actB x with
  | false => rw [runM_no h] at he; cases he
  | true =>
    rw [Bool.and_eq_true] at h
    obtain ⟨h1, h2⟩ := runM_read h.1 h.2 e he
    exact ⟨h1, by rw [← h2]; exact hS _⟩
/-- The keys that are written are among those that may be. -/
theorem pm_keys (key val : Int) (l : List Ent) : ∀ f ∈ pm key val l, f.1 = key ∨ ∃ g ∈ l, g.1 = f.1 := by
  intro f hf
  rcases mem_pm key val l f hf with rfl | h
  · exact .inl rfl
  · exact .inr ⟨f, h, rfl⟩
theorem outs_keys {k s d m f t : Int} (hk : 1 ≤ k ∧ k ≤ 6) : ∀ e ∈ outsK k s d m f t, e.1 ∈ writesK k s d := by
  intro e he
  unfold outsK at he
  unfold writesK
  have hasc : ∀ x, (x = s ∨ x = d) → x ∈ ascM s d := by
    intro x hx
    unfold ascM onceM
    split <;> simp <;> omega
  rcases (by omega : k = 1 ∨ k = 6 ∨ k = 3 ∨ k = 5 ∨ k = 4 ∨ k = 2) with rfl | rfl | rfl | rfl | rfl | rfl
  · simp at he ⊢; rw [he]
  · simp at he ⊢; rw [he]
  · simp at he ⊢; rw [he]
  · simp at he ⊢; rw [he]
  · simp only [if_pos, show ¬ (4 : Int) = 1 by omega, show ¬ (4 : Int) = 6 by omega, show ¬ (4 : Int) = 3 by omega, show ¬ (4 : Int) = 5 by omega, if_false, or_false] at he ⊢
    refine hasc _ ?_
    rcases pm_keys d f _ e he with h | ⟨g, hg, h⟩
    · exact .inr h
    · simp at hg; subst hg; exact .inl h.symm
  · simp only [show ¬ (2 : Int) = 1 by omega, show ¬ (2 : Int) = 6 by omega, show ¬ (2 : Int) = 3 by omega, show ¬ (2 : Int) = 5 by omega, show ¬ (2 : Int) = 4 by omega, if_false, or_false] at he ⊢
    refine hasc _ ?_
    split at he
    · simp at he; rw [he]; exact .inl rfl
    · rcases pm_keys d (t + m) _ e he with h | ⟨g, hg, h⟩
      · exact .inr h
      · simp at hg; subst hg; exact .inl h.symm
theorem run_keys (S : List Ent) (x : Acn) : ∀ e ∈ (runM S x).wrs, e.1 ∈ writesM x := by
  intro e he
  cases h : storeB S && actB x with
  | false => rw [runM_no h] at he; cases he
  | true =>
    rw [Bool.and_eq_true] at h
    rw [runM_yes h.1 h.2] at he
    rw [writesM, if_pos h.2]
    unfold effK at he
    simp only at he
    split at he
    · exact outs_keys (kind_of h.2) e he
    · cases he
theorem once_asc {a b : Int} (h : a ≤ b) : (onceM a b).length = 1 ∨ (onceM a b).getD 0 0 < (onceM a b).getD 1 0 := by
  unfold onceM
  split
  · exact .inl rfl
  · right; show a < b; omega
theorem writes_two {x : Acn} (h : actB x = true) : 1 ≤ (writesM x).length ∧ ((writesM x).length = 1 ∨ (writesM x).getD 0 0 < (writesM x).getD 1 0) := by
  rw [writesM, if_pos h]
  unfold writesK
  split
  · exact ⟨Nat.le_refl _, .inl rfl⟩
  · split
    · exact ⟨Nat.le_refl _, .inl rfl⟩
    · exact ⟨(once_len _ _).1, once_asc (by omega)⟩
/-- With another value for a key that is not read the effect is the same. -/
theorem run_other {S T : List Ent} {x : Acn} (hS : storeB S = true) (hT : storeB T = true) (h2 : actB x = true) (h : ∀ k ∈ readsM x, atM T k = atM S k) : runM T x = runM S x := by
  rw [runM_yes hS h2, runM_yes hT h2]
  rw [readsM, if_pos h2] at h
  have hk := kind_of h2
  have hon : ∀ y, (y = x.src ∨ y = x.dst) → y ∈ onceM x.src x.dst := by
    intro y hy; unfold onceM; split <;> simp <;> omega
  obtain ⟨k, s, d, m⟩ := x
  simp only at h hk hon ⊢
  rcases (by omega : k = 1 ∨ k = 6 ∨ k = 3 ∨ k = 5 ∨ k = 4 ∨ k = 2) with rfl | rfl | rfl | rfl | rfl | rfl
  · simp [effK, doneK, rdsK, readsK, outsK]
  · have e := h s (by simp [readsK])
    rw [e]; simp [effK, doneK, rdsK, readsK, outsK]
  · have e := h s (by simp [readsK])
    rw [e]; simp [effK, doneK, rdsK, readsK, outsK]
  · rw [h s (by simp only [readsK]; exact hon s (.inl rfl)), h d (by simp only [readsK]; exact hon d (.inr rfl))]
  · rw [h s (by simp only [readsK]; exact hon s (.inl rfl)), h d (by simp only [readsK]; exact hon d (.inr rfl))]
  · rw [h s (by simp only [readsK]; exact hon s (.inl rfl)), h d (by simp only [readsK]; exact hon d (.inr rfl))]
/-- What is not done writes nothing. -/
theorem run_undone {S : List Ent} {x : Acn} (h : (runM S x).done = false) : (runM S x).wrs = [] := by
  cases hh : storeB S && actB x with
  | false => rw [runM_no hh]; rfl
  | true =>
    rw [Bool.and_eq_true] at hh
    rw [runM_yes hh.1 hh.2] at h ⊢
    have h : doneK x.kind x.src x.dst x.amt (atM S x.src) (atM S x.dst) = false := h
    simp [effK, h]
/-- The writes of two keys. -/
theorem applyL_two {S : List Ent} (hS : Ok S) {s d u v : Int} (s0 : 0 ≤ s) (s1 : s ≤ 31) (d0 : 0 ≤ d) (d1 : d ≤ 31) (u0 : 0 ≤ u) (u1 : u ≤ 1000000) (v0 : 0 ≤ v) (v1 : v ≤ 1000000) :
    applyL S (pm d v [(s, u)]) = putRaw d v (putRaw s u S) := by
  have hp := wr_pm (wr_one s0 s1 u0 u1) d0 d1 v0 v1
  refine ok_ext _ _ (ok_applyL hS hp.2) (ok_put (ok_put hS s0 s1 u0 u1) d0 d1 v0 v1) fun k _ _ => ?_
  rw [atM_applyL hp.1, atM_put, atM_put, findM_pm _ _ _ _ (List.pairwise_singleton _ _)]
  by_cases hk : k = d
  · rw [if_pos hk, if_pos hk]; rfl
  · rw [if_neg hk, if_neg hk]
    by_cases hs : k = s
    · rw [if_pos hs, findM, if_pos hs.symm]; rfl
    · rw [if_neg hs, findM, if_neg (fun h => hs h.symm)]; rfl
/-- Moves and swaps, and what is not done, keep the total. -/
theorem run_total {S : List Ent} {x : Acn} (hS : storeB S = true) (h2 : actB x = true) (h : x.kind = 2 ∨ x.kind = 4 ∨ (runM S x).done = false) : sumV (applyL S (runM S x).wrs) = sumV S := by
  cases hd : (runM S x).done with
  | false => rw [run_undone hd]; rfl
  | true =>
    rw [hd] at h
    have hO := (storeB_ok S).1 hS
    have hb := fun k => atM_bd hO.2 k
    obtain ⟨⟨s0, s1⟩, ⟨d0, d1⟩, m0, m1⟩ := actB_bd h2
    rw [runM_yes hS h2] at hd ⊢
    obtain ⟨k, s, d, m⟩ := x
    simp only at h s0 s1 d0 d1 m0 m1 hd ⊢
    have hdd : doneK k s d m (atM S s) (atM S d) = true := hd
    have hs := hb s
    have ht := hb d
    have hw : (effK k s d m (atM S s) (atM S d)).wrs = outsK k s d m (atM S s) (atM S d) := by simp [effK, hdd]
    rw [hw]
    rcases h with rfl | rfl | h
    · have hu : outsK 2 s d m (atM S s) (atM S d) = if s = d then [(s, atM S s)] else pm d (atM S d + m) [(s, atM S s - m)] := by simp [outsK]
      rw [hu]
      by_cases hsd : s = d
      · rw [if_pos hsd]
        show sumV (putRaw s (atM S s) S) = _
        rw [sumV_put hO.1]; omega
      · rw [if_neg hsd]
        simp only [doneK, show ¬ (2 : Int) = 5 by omega, if_false, if_true, Bool.and_eq_true, Bool.or_eq_true, decide_eq_true_eq] at hdd
        rw [applyL_two hO s0 s1 d0 d1 (by omega) (by omega) (by omega) (by omega)]
        rw [sumV_put (ok_put hO s0 s1 (by omega) (by omega)).1, sumV_put hO.1, atM_put, if_neg (fun h => hsd h.symm)]
        omega
    · have hu : outsK 4 s d m (atM S s) (atM S d) = pm d (atM S s) [(s, atM S d)] := by simp [outsK]
      rw [hu, applyL_two hO s0 s1 d0 d1 ht.1 ht.2 hs.1 hs.2, sumV_put (ok_put hO s0 s1 ht.1 ht.2).1, sumV_put hO.1, atM_put]
      by_cases hsd : d = s
      · rw [if_pos hsd, hsd]; omega
      · rw [if_neg hsd]; omega
    · cases h
/-- The numbers of a list of pairs. -/
def numsE : List Ent → List Int
  | [] => []
  | e :: r => e.1 :: e.2 :: numsE r
theorem numsE_append (l m : List Ent) : numsE (l ++ m) = numsE l ++ numsE m := by
  induction l with
  | nil => rfl
  | cons e r ih => simp [numsE, ih]
theorem numsE_len (l : List Ent) : (numsE l).length = l.length * 2 := by
  induction l with
  | nil => rfl
  | cons e r ih => simp [numsE, ih]; omega
theorem numsE_mem (l : List Ent) : ∀ n ∈ numsE l, ∃ e ∈ l, n = e.1 ∨ n = e.2 := by
  induction l with
  | nil => intro n hn; cases hn
  | cons e r ih =>
    intro n hn
    simp only [numsE, List.mem_cons] at hn
    rcases hn with rfl | rfl | hn
    · exact ⟨e, by simp, .inl rfl⟩
    · exact ⟨e, by simp, .inr rfl⟩
    · obtain ⟨f, hf, h⟩ := ih n hn
      exact ⟨f, List.mem_cons_of_mem _ hf, h⟩
/-- 1 if it is done. -/
def bitB (b : Bool) : Int := if b then 1 else 0
/-- What is summed up of an effect. -/
def numsM (x : Eff) : List Int := bitB x.done :: (x.rds.length : Int) :: numsE (x.rds ++ x.wrs)
/-- What EffectSum answers. -/
def effSumM (x : Eff) : Int := sumOfM 3 (numsM x)
theorem sumOfM_cases (t : Int) (l : List Int) : sumOfM t l = -1 ∨ (0 ≤ sumOfM t l ∧ sumOfM t l ≤ 1000002 ∧ okTag t = true ∧ l.all okSummed = true ∧ sumOfM t l = sumFold (17 + t) l) := by
  unfold sumOfM
  cases h : okTag t && l.all okSummed with
  | false => exact .inl rfl
  | true =>
    rw [Bool.and_eq_true] at h
    have ht : 0 ≤ t ∧ t ≤ 9 := by simpa [okTag] using h.1
    have := sumFold_bd (17 + t) l (by omega) (by omega)
    exact .inr ⟨this.1, this.2, h.1, h.2, rfl⟩
/-- An effect that is done has another sum than the same one that is not. -/
theorem effSum_flip {x : Eff} (h : 0 ≤ effSumM x) : effSumM ⟨!x.done, x.rds, x.wrs⟩ ≠ effSumM x := by
  rcases sumOfM_cases 3 (numsM x) with h1 | ⟨-, -, h2, h3, h4⟩
  · unfold effSumM at h; omega
  · intro he
    unfold effSumM at he
    rw [h4] at he
    have hall : (numsM ⟨!x.done, x.rds, x.wrs⟩).all okSummed = true := by
      rw [List.all_eq_true] at h3 ⊢
      intro n hn
      simp only [numsM, List.mem_cons] at hn
      rcases hn with rfl | hn
      · cases x.done <;> decide
      · exact h3 n (by simp only [numsM, List.mem_cons]; exact .inr hn)
    have h5 : sumOfM 3 (numsM ⟨!x.done, x.rds, x.wrs⟩) = sumFold (17 + 3) (numsM ⟨!x.done, x.rds, x.wrs⟩) := by
      unfold sumOfM; rw [hall]; rfl
    rw [h5] at he
    have hset : numsM ⟨!x.done, x.rds, x.wrs⟩ = (numsM x).set 0 (bitB (!x.done)) := rfl
    rw [hset] at he
    refine sumFold_set (17 + 3) (numsM x) 0 _ (by simp [numsM]) (by omega) (by omega) ?_ he
    show bitB (!x.done) = bitB x.done + 1 ∨ bitB (!x.done) = bitB x.done - 1
    cases x.done <;> simp [bitB]
/-- All writes put into one layer over a store show the store with the writes. -/
theorem layer_shows {S W : List Ent} (hS : storeB S = true) (hW : writesB W = true) : layerStoreM S [(-1, W)] 0 = applyL S W := by
  have hL : layersB [((-1 : Int), W)] = true := by
    refine layersB_yes _ (fun j hj => ?_) (by simp)
    have : j = 0 := by simpa using hj
    subst this
    simp [layAt, hW, inB]
  have hw := (writesB_ok _).1 hW
  have hO := (storeB_ok S).1 hS
  have hi : inB 0 (-1) ((([((-1 : Int), W)] : List Lay).length : Int) - 1) = true := by simp [inB]
  unfold layerStoreM
  rw [hS, hL, hi]
  show entTo (readArr S [(-1, W)] 0) 32 = _
  refine ok_ext _ _ (ok_entTo (bdA_read hS hL (by simp))) (ok_applyL hO hw.2) fun k k0 k1 => ?_
  obtain ⟨n, rfl⟩ := Int.eq_ofNat_of_zero_le k0
  rw [atM_entTo _ _ _ (by omega), readArr_get _ _ _ _ (by omega), atM_applyL hw.1]
  unfold readM
  cases hf : findM W n with
  | some v => rw [seen_hit (by omega) (by simpa using hf)]
  | none =>
    rw [seen_miss hL (by omega) (by simp) (by simpa using hf)]
    rw [show (([((-1 : Int), W)] : List Lay).getD (0 : Int).toNat (0, [])).1 = -1 from rfl, seen_neg _ _ _ (by omega)]
/-- The writes are put one after the other: what comes of the first ones. -/
theorem pm_snoc {l : List Ent} {e : Ent} (h : ∀ f ∈ l, f.1 < e.1) : pm e.1 e.2 l = l ++ [e] := by
  induction l with
  | nil => rfl
  | cons a r ih =>
    have := h a (by simp)
    rw [pm, if_neg (by omega), ih (fun f hf => h f (List.mem_cons_of_mem _ hf))]; rfl
theorem write_next {W : List Ent} (hW : writesB W = true) (k : Nat) (hk : k < W.length) : layerWriteM [(-1, W.take k)] 0 (W.getD k (0, 0)).1 (W.getD k (0, 0)).2 = ([(-1, W.take (k + 1))], true) := by
  have hb := wrE_mem hW k hk
  have hw := (writesB_ok _).1 hW
  have hL : layersB [((-1 : Int), W.take k)] = true := by
    refine layersB_yes _ (fun j hj => ?_) (by simp)
    have : j = 0 := by simpa using hj
    subst this
    simp [layAt, writesB_take hW k, inB]
  have hi : inB 0 0 ((([((-1 : Int), W.take k)] : List Lay).length : Int) - 1) = true := by simp [inB]
  unfold layerWriteM
  rw [hL, hi, inB_yes hb.1.1 hb.1.2, inB_yes hb.2.1 hb.2.2]
  have hp : pm (W.getD k (0, 0)).1 (W.getD k (0, 0)).2 (W.take k) = W.take (k + 1) := by
    rw [takeE_snoc W k hk]
    refine pm_snoc (fun f hf => ?_)
    have hpw := (wr_take hw (k + 1)).1
    rw [takeE_snoc W k hk] at hpw
    exact (List.pairwise_append.1 hpw).2.2 f hf _ (List.mem_singleton.2 rfl)
  show (writeL [(-1, W.take k)] 0 _ _, true) = _
  rw [show writeL [((-1 : Int), W.take k)] 0 (W.getD k (0, 0)).1 (W.getD k (0, 0)).2 = [(-1, pm (W.getD k (0, 0)).1 (W.getD k (0, 0)).2 (W.take k))] from rfl, hp]
end Go.Proofs.Ytfhbolpchmdaoaa
/- Effects in memory: a value of three cells, two of them rows. No function of the program is named here. -/
namespace Go.Proofs.Ytfhbolpchmdaoaa
open Go.RowKit
set_option linter.unusedVariables false
/-- v is the effect x; its rows are owned from block B on, each of its own. -/
def OwnF (w : World) (B : Nat) (e : TypeId) (v : Value) (x : Eff) : Prop :=
  ∃ a b, v = .agg #[.bool x.done, a, b] ∧ w.ownsRow B e 2 a x.rds.length (flatE x.rds) ∧ w.ownsRow B e 2 b x.wrs.length (flatE x.wrs) ∧ WfE x.rds ∧ WfE x.wrs ∧ ∀ p, a.ownBlock = some p → b.ownBlock ≠ some p
/-- The three cells read as the effect x. -/
def RowF (w : World) (a : Option Addr) (n : Nat) (b : Option Addr) (m : Nat) (x : Eff) : Prop := RowE w a n x.rds ∧ RowE w b m x.wrs
theorem RowF.below {w w' : World} {a b : Option Addr} {n m : Nat} {x : Eff} (h : RowF w a n b m x) (hb : Below w.heap.size w w') : RowF w' a n b m x := ⟨h.1.below hb, h.2.below hb⟩
/-- A new effect. -/
def NewF (w : World) (e0 : TypeId) (x : Eff) (e : Ending) (w' : World) : Prop := ∃ v, e = .returned v ∧ OwnF w' w.heap.size e0 v x ∧ Below w.heap.size w w'
theorem OwnF.mono {w : World} {B B' : Nat} {e : TypeId} {v : Value} {x : Eff} (h : OwnF w B e v x) (hB : B' ≤ B) : OwnF w B' e v x := by
  obtain ⟨a, b, h1, h2, h3, h4, h5, h6⟩ := h; exact ⟨a, b, h1, owns_mono h2 hB, owns_mono h3 hB, h4, h5, h6⟩
theorem OwnF.below {w w' : World} {B : Nat} {e : TypeId} {v : Value} {x : Eff} (h : OwnF w B e v x) (hb : Below w.heap.size w w') : OwnF w' B e v x := by
  obtain ⟨a, b, h1, h2, h3, h4, h5, h6⟩ := h; exact ⟨a, b, h1, owns_below h2 hb, owns_below h3 hb, h4, h5, h6⟩
theorem NewF.after {w w0 : World} {e0 : TypeId} {x : Eff} {e : Ending} {w' : World} (h : NewF w0 e0 x e w') (hb : Below w.heap.size w w0) : NewF w e0 x e w' := by
  obtain ⟨v, h1, h2, h3⟩ := h
  exact ⟨v, h1, h2.mono hb.size, hb.trans (h3.mono hb.size)⟩
/-- The cells of an owned effect, and that they read as it. -/
theorem OwnF.rows {w : World} {B : Nat} {e : TypeId} {v : Value} {x : Eff} (h : OwnF w B e v x) (h1 : x.rds.length ≤ 4000000) (h2 : x.wrs.length ≤ 4000000) :
    ∃ a c b d, v = .agg #[.bool x.done, .slice a x.rds.length c, .slice b x.wrs.length d] ∧ RowF w a x.rds.length b x.wrs.length x ∧
      w.ownsRow B e 2 (.slice a x.rds.length c) x.rds.length (flatE x.rds) ∧ w.ownsRow B e 2 (.slice b x.wrs.length d) x.wrs.length (flatE x.wrs) ∧
      (∀ p, Value.ownBlock (.slice a x.rds.length c) = some p → Value.ownBlock (.slice b x.wrs.length d) ≠ some p) ∧ (a = none → c = 0) ∧ (b = none → d = 0) := by
  obtain ⟨va, vb, e0, g1, g2, g3, g4, g5⟩ := h
  obtain ⟨a, c, rfl, hr, hz⟩ := rowE_of_owns g1 h1 g3
  obtain ⟨b, d, rfl, hs, hz'⟩ := rowE_of_owns g2 h2 g4
  exact ⟨a, c, b, d, e0, ⟨hr, hs⟩, g1, g2, g5, hz, hz'⟩
/-- Both rows are new. -/
theorem ownF_mk {w : World} {B : Nat} {e : TypeId} {a b : Value} (x : Eff) (h1 : w.ownsRow B e 2 a x.rds.length (flatE x.rds)) (h2 : w.ownsRow B e 2 b x.wrs.length (flatE x.wrs)) (h3 : WfE x.rds) (h4 : WfE x.wrs)
    (h5 : ∀ p, a.ownBlock = some p → b.ownBlock ≠ some p) : OwnF w B e (.agg #[.bool x.done, a, b]) x := ⟨a, b, rfl, h1, h2, h3, h4, h5⟩
theorem ownF_zero (w : World) (B : Nat) (e : TypeId) : OwnF w B e (.agg #[.bool false, .slice none 0 0, .slice none 0 0]) noEff :=
  ⟨_, _, rfl, World.ownsRow_nil _ _ _ _, World.ownsRow_nil _ _ _ _, fun x hx => (by cases hx), fun x hx => (by cases hx), fun p hp => (by cases hp)⟩
/-- 'xs = append(xs, ys...)': xs and ys whatever, the nil slice too. -/
theorem wpList_append_rows' {P : Program} {W : World} {ops : Array Oper} {rest : List Oper} {o : Oper} {a : Act} {Q : Exit → Act → World → Prop} (hgd : Region.wanted o (yielded ops a.tmps) = true) (s x : Operand) (t : TypeId)
    (ho : o.op = .call { callee := .builtin .append, args := #[s, x], argTypes := #[t, t] })
    (B : Nat) (e : TypeId) (z : Value) (size bytes : Nat) (ht : P.underlying t = some (.slice e)) (hinfo : (P.info? e).map (fun i => (i.zero, i.size, i.bytes)) = some (some z, size, bytes))
    (hzs : z.cells.size = size) (hsz : 0 < size)
    (v : Value) (n : Nat) (xs news : List Value) (hs : a.eval s = v) (hown : W.ownsRow B e size v n xs) (ad : Option Addr) (m c : Nat) (hx : a.eval x = .slice ad m c)
    (hnil : ad = none → m = 0 ∧ c = 0)
    (hl : news.length = m * size) (hnews : ∀ ad', ad = some ad' → ∀ j u, news[j]? = some u → W.cell? (ad'.add j) = some u) (h1 : ∀ u ∈ news, u.oneCell' = true)
    (hn : n + m ≤ 4000000) (hby : bytes ≤ 100000) (hbase : B ≤ W.heap.size)
    (h : ∀ v' w', w'.ownsRow B e size v' (n + m) (xs ++ news) → W.grownBy w' v.ownBlock → wpList P ops Q rest (a.put o.dst v') w') :
    wpList P ops Q (o :: rest) a W := by
  obtain ⟨i0, hi, hz0, hz1, hz2⟩ := info_parts hinfo
  cases ad with
  | none =>
    obtain ⟨rfl, rfl⟩ := hnil rfl
    have hnn : news = [] := List.eq_nil_of_length_eq_zero (by omega)
    refine wpList_append_none_wanted hgd s x t ho B e i0 size ht hi v n xs hs hown hx ?_
    refine h v W ?_ (World.grownBy.refl W _)
    rw [hnn, List.append_nil, Nat.add_zero]; exact hown
  | some ad =>
    refine wpList_append_wanted (P := P) W hgd s x t ho B e i0 z size bytes ht hi hz0 hz1 hz2 hzs hsz v n xs hs hown ad m c news hx hl (hnews ad rfl) h1 (by unfold maxLen; omega) ?_ hbase ?_
    · calc (n + m) * bytes ≤ 4000000 * 100000 := Nat.mul_le_mul hn hby
        _ ≤ 140737488355328 := by decide
    · intro v' w' h2 h3 h4
      exact h v' w' h2 h3
/-- 'xs = append(xs, x)' in a region that draws its order, x ONE element that has just been laid in a block of its own. -/
theorem step_app1 {P : Program} {W : World} {ops : Array Oper} {o : Oper} {a : Act} {K : Act → World → Prop} {Q : Exit → Act → World → Prop} {E : Prop} (hgd : o.guard = none) (s x : Operand) (t : TypeId)
    (ho : o.op = .call { callee := .builtin .append, args := #[s, x], argTypes := #[t, t] })
    (B : Nat) (e e' : TypeId) (z : Value) (size bytes : Nat) (ht : P.underlying t = some (.slice e)) (hinfo : (P.info? e).map (fun i => (i.zero, i.size, i.bytes)) = some (some z, size, bytes))
    (hzs : z.cells.size = size) (hsz : 0 < size)
    (v : Value) (n : Nat) (xs news : List Value) (hs : a.eval s = v) (hown : W.ownsRow B e size v n xs) (hx : a.eval x = .slice (some ⟨W.heap.size, 0, none⟩) 1 1)
    (hl : news.length = size) (h1 : ∀ u ∈ news, u.oneCell' = true)
    (hn : n ≤ 4000000) (hby : bytes ≤ 100000) (hbase : B ≤ W.heap.size)
    (h : ∀ v' w', w'.ownsRow B e size v' (n + 1) (xs ++ news) → v' ≠ .slice none 0 0 → (W.alloc (.cells news.toArray e')).grownBy w' v.ownBlock → (v'.ownBlock = v.ownBlock ∨ v'.ownBlock = some (W.heap.size + 1)) → K (a.put o.dst v') w') :
    if Region.wanted o (yielded ops a.tmps) = true then Oper.wp P o a (W.alloc (.cells news.toArray e')) K Q else E := by
  have hw : Region.wanted o (yielded ops a.tmps) = true := by simp [Region.wanted, hgd]
  rw [if_pos hw]
  obtain ⟨i0, hi, hz0, hz1, hz2⟩ := info_parts hinfo
  have hcell : ∀ j u, news[j]? = some u → (W.alloc (.cells news.toArray e')).cell? ((⟨W.heap.size, 0, none⟩ : Addr).add j) = some u := by
    intro j u hu
    rw [show (⟨W.heap.size, 0, none⟩ : Addr).add j = ⟨W.heap.size, j, none⟩ by unfold Addr.add; split <;> simp_all]
    rw [cell_of_row (W.alloc (.cells news.toArray e')) W.heap.size j news.toArray e' (0, 0) (heap_alloc_new W _)]
    rw [List.getElem?_toArray]; exact hu
  have hbytes : (n + 1) * bytes ≤ 140737488355328 := by
    calc (n + 1) * bytes ≤ 4000001 * 100000 := Nat.mul_le_mul (by omega) hby
      _ ≤ 140737488355328 := by decide
  obtain ⟨v', w', hr, h2, h3, h4, h5⟩ := run_append_own_at (P := P) (W.alloc (.cells news.toArray e')) B t o.type e i0 z size bytes ht hi hz0 hz1 hz2 hzs hsz v n xs (hown.alloc _) ⟨W.heap.size, 0, none⟩ 1 1 news (by rw [hl, Nat.one_mul]) hcell h1 (by unfold maxLen; omega) hbytes (by simp; omega)
  unfold Oper.wp execOp
  simp only [ho, resolve, invoke, builtin, Sem.run_bind, Sem.run_pure, Result.andThen_ok, List.map_toArray, List.map_cons, List.map_nil, hs, hx, hr]
  refine h v' w' h2 (fun e => by have := (h4.1 e).2; omega) h3 ?_
  rw [show (W.alloc (.cells news.toArray e')).heap.size = W.heap.size + 1 by simp] at h5
  exact h5
theorem grown_undrew {W w' : World} {o : Obj} {row : Option Nat} (h : (W.drew.alloc o).grownBy w' row) : (W.alloc o).grownBy w' row := ⟨h.os, h.tape, h.output, h.size, h.block⟩
/-- The same, where an order has been drawn behind the literal. -/
theorem step_app1d {P : Program} {W : World} {ops : Array Oper} {o : Oper} {a : Act} {K : Act → World → Prop} {Q : Exit → Act → World → Prop} {E : Prop} (hgd : o.guard = none) (s x : Operand) (t : TypeId)
    (ho : o.op = .call { callee := .builtin .append, args := #[s, x], argTypes := #[t, t] })
    (B : Nat) (e e' : TypeId) (z : Value) (size bytes : Nat) (ht : P.underlying t = some (.slice e)) (hinfo : (P.info? e).map (fun i => (i.zero, i.size, i.bytes)) = some (some z, size, bytes))
    (hzs : z.cells.size = size) (hsz : 0 < size)
    (v : Value) (n : Nat) (xs news : List Value) (hs : a.eval s = v) (hown : W.ownsRow B e size v n xs) (hx : a.eval x = .slice (some ⟨W.heap.size, 0, none⟩) 1 1)
    (hl : news.length = size) (h1 : ∀ u ∈ news, u.oneCell' = true)
    (hn : n ≤ 4000000) (hby : bytes ≤ 100000) (hbase : B ≤ W.heap.size)
    (h : ∀ v' w', w'.ownsRow B e size v' (n + 1) (xs ++ news) → v' ≠ .slice none 0 0 → (W.alloc (.cells news.toArray e')).grownBy w' v.ownBlock → (v'.ownBlock = v.ownBlock ∨ v'.ownBlock = some (W.heap.size + 1)) → K (a.put o.dst v') w') :
    if Region.wanted o (yielded ops a.tmps) = true then Oper.wp P o a (W.alloc (.cells news.toArray e')).drew K Q else E :=
  step_app1 (W := W.drew) hgd s x t ho B e e' z size bytes ht hinfo hzs hsz v n xs news hs hown hx hl h1 hn hby hbase
    (fun v' w' g1 g2 g3 g4 => h v' w' g1 g2 (grown_undrew g3) g4)
theorem set_grown (w : World) (g o : Nat) (v : Value) : w.grownBy (w.setCell ⟨g, o, none⟩ v) (some g) :=
  ⟨rfl, rfl, rfl, by simp [World.setCell], fun k _ hk => Below.heap_setCell _ _ _ _ (fun e => hk (by simp [e]))⟩
theorem owns_set {w : World} {B : Nat} {e : TypeId} {size n : Nat} {v : Value} {xs : List Value} (h : w.ownsRow B e size v n xs) {g : Nat} (hne : v.ownBlock ≠ some g) (o : Nat) (u : Value) : (w.setCell ⟨g, o, none⟩ u).ownsRow B e size v n xs :=
  h.kept (set_grown w g o u) (.inr hne)
/-- Three cells of a block that is no row's are written: an effect's answer. -/
theorem ownF_set3 {w : World} {B : Nat} {e : TypeId} {v : Value} {x : Eff} (h : OwnF w B e v x) {Z : Nat} (hz : ∀ a b, v = .agg #[.bool x.done, a, b] → a.ownBlock ≠ some Z ∧ b.ownBlock ≠ some Z) (o1 o2 o3 : Nat) (p q r : Value) :
    OwnF (((w.setCell ⟨Z, o1, none⟩ p).setCell ⟨Z, o2, none⟩ q).setCell ⟨Z, o3, none⟩ r) B e v x := by
  obtain ⟨a, b, h1, h2, h3, h4, h5, h6⟩ := h
  obtain ⟨n1, n2⟩ := hz a b h1
  exact ⟨a, b, h1, owns_set (owns_set (owns_set h2 n1 o1 p) n1 o2 q) n1 o3 r, owns_set (owns_set (owns_set h3 n2 o1 p) n2 o2 q) n2 o3 r, h4, h5, h6⟩
theorem below_set3 {B : Nat} {a w : World} (h : Below B a w) {Z : Nat} (hz : B ≤ Z) (o1 o2 o3 : Nat) (p q r : Value) : Below B a (((w.setCell ⟨Z, o1, none⟩ p).setCell ⟨Z, o2, none⟩ q).setCell ⟨Z, o3, none⟩ r) :=
  ((h.setCell hz p).setCell hz q).setCell hz r
/-- The block Z holds the zero effect, and may be written. -/
def ZAt (w : World) (Z : Nat) : Prop :=
  (w.cell? ⟨Z, 0, none⟩ = some (.bool false) ∧ w.cell? ⟨Z, 1, none⟩ = some (.slice none 0 0) ∧ w.cell? ⟨Z, 2, none⟩ = some (.slice none 0 0)) ∧ (w.frozen? ⟨Z, 0, none⟩ = false ∧ w.frozen? ⟨Z, 1, none⟩ = false ∧ w.frozen? ⟨Z, 2, none⟩ = false) ∧ Z < w.heap.size
theorem zAt_new (w : World) (T : TypeId) : ZAt (w.alloc (.cells #[.bool false, .slice none 0 0, .slice none 0 0] T)) w.heap.size := by simp [ZAt, go_sem]
theorem ZAt.grown {w w' : World} {Z : Nat} {row : Option Nat} (h : ZAt w Z) (hg : w.grownBy w' row) (hne : some Z ≠ row) : ZAt w' Z := by
  obtain ⟨⟨h1, h2, h3⟩, ⟨h4, h5, h6⟩, h7⟩ := h
  have hf : ∀ o, w'.frozen? ⟨Z, o, none⟩ = w.frozen? ⟨Z, o, none⟩ := fun o => World.frozen?_of_block (hg.block Z h7 hne)
  exact ⟨⟨hg.cell h1 hne, hg.cell h2 hne, hg.cell h3 hne⟩, ⟨(hf 0).trans h4, (hf 1).trans h5, (hf 2).trans h6⟩, Nat.lt_of_lt_of_le h7 hg.size⟩
theorem ZAt.below {w w' : World} {Z B : Nat} (h : ZAt w Z) (hb : Below B w w') (hB : Z < B) : ZAt w' Z := by
  obtain ⟨⟨h1, h2, h3⟩, ⟨h4, h5, h6⟩, h7⟩ := h
  have hf : ∀ o, w'.frozen? ⟨Z, o, none⟩ = w.frozen? ⟨Z, o, none⟩ := fun o => World.frozen?_of_block (hb.block Z hB)
  have hc : ∀ o, w'.cell? ⟨Z, o, none⟩ = w.cell? ⟨Z, o, none⟩ := fun o => World.cell?_of_block (hb.block Z hB)
  exact ⟨⟨(hc 0).trans h1, (hc 1).trans h2, (hc 2).trans h3⟩, ⟨(hf 0).trans h4, (hf 1).trans h5, (hf 2).trans h6⟩, Nat.lt_of_lt_of_le h7 hb.size⟩
/-- An owned effect is no part of a block below. -/
theorem OwnF.apart {w : World} {B : Nat} {e : TypeId} {v : Value} {x : Eff} (h : OwnF w B e v x) {Z : Nat} (hZ : Z < B) : ∀ a b, v = .agg #[.bool x.done, a, b] → a.ownBlock ≠ some Z ∧ b.ownBlock ≠ some Z := by
  obtain ⟨va, vb, h1, h2, h3, -⟩ := h
  intro a b e
  rw [h1] at e
  simp only [Value.agg.injEq, Array.mk.injEq, List.cons.injEq, and_true, true_and] at e
  obtain ⟨rfl, rfl⟩ := e
  exact ⟨fun e => by have := (h2.lt _ e).1; omega, fun e => by have := (h3.lt _ e).1; omega⟩
/-- A list with x, if it isn't there. -/
def addR (R : List Ent) (x : Ent) : List Ent := if x ∈ R then R else R ++ [x]
theorem addR_in {R : List Ent} {x : Ent} (h : x ∈ R) : addR R x = R := by simp [addR, h]
theorem addR_out {R : List Ent} {x : Ent} (h : x ∉ R) : addR R x = R ++ [x] := by simp [addR, h]
theorem addR_two (s d f t : Int) : addR (addR [] (s, f)) (d, if d = s then f else t) = (onceM s d).map (fun key => (key, if key = s then f else t)) := by
  rw [addR_out (R := []) (by simp), List.nil_append]
  unfold onceM
  by_cases h : s = d
  · subst h
    rw [if_pos rfl, addR_in (by simp)]; simp
  · have h2 : ¬ d = s := fun e => h e.symm
    rw [if_neg h, if_neg h2, addR_out (by simp [h2])]; simp [h2]
theorem addR_len (R : List Ent) (x : Ent) : (addR R x).length ≤ R.length + 1 := by unfold addR; split <;> simp
/-- The cells of a view: the values of all keys, what was read, and the map of what was written. -/
def VCells (w : World) (G : Nat) (A : List Int) (v : Value) (m : Nat) : Prop :=
  (∀ k, k < 32 → w.cell? ⟨G, k, none⟩ = some (.int .i64 (A.getD k 0))) ∧ w.cell? ⟨G, 32, none⟩ = some v ∧ w.cell? ⟨G, 33, none⟩ = some (.int .i64 (-1)) ∧ w.cell? ⟨G, 34, none⟩ = some (.map (some m)) ∧ w.frozen? ⟨G, 32, none⟩ = false
theorem VCells.lt {w : World} {G : Nat} {A : List Int} {v : Value} {m : Nat} (h : VCells w G A v m) : G < w.heap.size := World.block_lt_of_cell? w ⟨G, 33, none⟩ h.2.2.1
theorem VCells.grown {w w' : World} {G : Nat} {A : List Int} {v : Value} {m : Nat} {row : Option Nat} (h : VCells w G A v m) (hg : w.grownBy w' row) (hne : some G ≠ row) : VCells w' G A v m := by
  have hlt := h.lt
  obtain ⟨h1, h2, h3, h4, h5⟩ := h
  exact ⟨fun k hk => hg.cell (h1 k hk) hne, hg.cell h2 hne, hg.cell h3 hne, hg.cell h4 hne, (World.frozen?_of_block (hg.block G hlt hne)).trans h5⟩
theorem VCells.set {w : World} {G : Nat} {A : List Int} {v : Value} {m : Nat} (h : VCells w G A v m) (v' : Value) : VCells (w.setCell ⟨G, 32, none⟩ v') G A v' m := by
  obtain ⟨h1, h2, h3, h4, h5⟩ := h
  refine ⟨fun k hk => by simp [go_sem, h1 k hk], ?_, ?_, ?_, ?_⟩
  · simp [go_sem, h2]
  · simp [go_sem, h3]
  · simp [go_sem, h4]
  · simp [go_sem, h5]
end Go.Proofs.Ytfhbolpchmdaoaa
/- Serial runs: plain mathematics. No function of the program is named here. -/
namespace Go.Proofs.Ytfhbolpchmdaoaa
/-- The store after actions, one after the other, and their effects. -/
def serL : List Ent → List Acn → List Ent × List Eff
  | S, [] => (S, [])
  | S, a :: L => ((serL (applyM S (runM S a).wrs) L).1, runM S a :: (serL (applyM S (runM S a).wrs) L).2)
/-- What RunSerial answers. -/
def serM (S : List Ent) (L : List Acn) : List Ent × List Eff := if storeB S && actsB L then serL S L else ([], [])
theorem serM_yes {S : List Ent} {L : List Acn} (h : storeB S = true) (h2 : actsB L = true) : serM S L = serL S L := by simp [serM, h, h2]
theorem serM_no {S : List Ent} {L : List Acn} (h : (storeB S && actsB L) = false) : serM S L = ([], []) := by simp [serM, h]
theorem serL_append (S : List Ent) (L M : List Acn) : serL S (L ++ M) = ((serL (serL S L).1 M).1, (serL S L).2 ++ (serL (serL S L).1 M).2) := by
  induction L generalizing S with
  | nil => rfl
  | cons a r ih => simp only [List.cons_append, serL, ih]
theorem serL_snoc (S : List Ent) (L : List Acn) (a : Acn) : serL S (L ++ [a]) = (applyM (serL S L).1 (runM (serL S L).1 a).wrs, (serL S L).2 ++ [runM (serL S L).1 a]) := by
  rw [serL_append]; rfl
theorem serL_len (S : List Ent) (L : List Acn) : (serL S L).2.length = L.length := by
  induction L generalizing S with
  | nil => rfl
  | cons a r ih => simp only [serL, List.length_cons, ih]
theorem store_run {S : List Ent} (a : Acn) (h : storeB S = true) : storeB (applyM S (runM S a).wrs) = true := by
  rw [applyM_yes h (wr_run S a)]; exact ok_applyM h (wr_run S a)
theorem store_ser {S : List Ent} (L : List Acn) (h : storeB S = true) : storeB (serL S L).1 = true := by
  induction L generalizing S with
  | nil => exact h
  | cons a r ih => exact ih (store_run a h)
theorem takeA_one (L : List Acn) (k : Nat) (h : k < L.length) : L.take (k + 1) = L.take k ++ [L.getD k noA] := by
  rw [List.take_succ_eq_append_getElem h, List.getD_eq_getElem?_getD, List.getElem?_eq_getElem h]; rfl
theorem serL_next (S : List Ent) (L : List Acn) (k : Nat) (h : k < L.length) :
    serL S (L.take (k + 1)) = (applyM (serL S (L.take k)).1 (runM (serL S (L.take k)).1 (L.getD k noA)).wrs, (serL S (L.take k)).2 ++ [runM (serL S (L.take k)).1 (L.getD k noA)]) := by
  rw [takeA_one L k h, serL_snoc]
theorem serL_eff (S : List Ent) (L : List Acn) : ∀ x ∈ (serL S L).2, x.rds.length ≤ 2 ∧ x.wrs.length ≤ 32 := by
  induction L generalizing S with
  | nil => intro x h; cases h
  | cons a r ih =>
    intro x h
    rcases List.mem_cons.1 h with rfl | h
    · exact ⟨runM_rlen S a, runM_wlen S a⟩
    · exact ih _ x h
theorem serM_eff (S : List Ent) (L : List Acn) : ∀ x ∈ (serM S L).2, x.rds.length ≤ 2 ∧ x.wrs.length ≤ 32 := by
  unfold serM; split
  · exact serL_eff S L
  · intro x h; cases h
theorem serM_len (S : List Ent) (L : List Acn) : (serM S L).2.length ≤ 10 := by
  unfold serM
  split
  · rename_i h
    rw [Bool.and_eq_true] at h
    rw [serL_len]; exact (actsB_true h.2).1
  · simp
theorem serM_store (S : List Ent) (L : List Acn) : (serM S L).1.length ≤ 32 := by
  unfold serM
  split
  · rename_i h
    rw [Bool.and_eq_true] at h
    exact store_len (store_ser L h.1)
  · simp
theorem actsB_drop {l : List Acn} (h : actsB l = true) (k : Nat) : actsB (l.drop k) = true := by
  obtain ⟨h0, h1⟩ := actsB_true h
  exact actsB_yes (by rw [List.length_drop]; omega) (fun x hx => h1 x (List.mem_of_mem_drop hx))
/-- Two parts, one after the other. -/
theorem ser_parts {S : List Ent} {L : List Acn} (h : storeB S = true) (h2 : actsB L = true) (k : Nat) :
    (serM (serM S (L.take k)).1 (L.drop k)).1 = (serM S L).1 ∧ (serM S (L.take k)).2 ++ (serM (serM S (L.take k)).1 (L.drop k)).2 = (serM S L).2 := by
  rw [serM_yes h (actsB_take h2 k), serM_yes (store_ser _ h) (actsB_drop h2 k), serM_yes h h2]
  have e := serL_append S (L.take k) (L.drop k)
  rw [List.take_append_drop] at e
  rw [e]; exact ⟨rfl, rfl⟩
/-- How many are done. -/
def doneN : List Eff → Nat
  | [] => 0
  | e :: r => (if e.done then 1 else 0) + doneN r
theorem doneN_append (L M : List Eff) : doneN (L ++ M) = doneN L + doneN M := by
  induction L with
  | nil => simp [doneN]
  | cons a r ih => simp only [List.cons_append, doneN, ih]; omega
theorem doneN_le (L : List Eff) : doneN L ≤ L.length := by
  induction L with
  | nil => simp [doneN]
  | cons a r ih => simp only [doneN, List.length_cons]; split <;> omega
theorem takeF_one (L : List Eff) (k : Nat) (h : k < L.length) : L.take (k + 1) = L.take k ++ [L.getD k noEff] := by
  rw [List.take_succ_eq_append_getElem h, List.getD_eq_getElem?_getD, List.getElem?_eq_getElem h]; rfl
theorem doneN_next (L : List Eff) (k : Nat) (h : k < L.length) : doneN (L.take (k + 1)) = doneN (L.take k) + (if (L.getD k noEff).done then 1 else 0) := by
  rw [takeF_one L k h, doneN_append]; simp [doneN]
theorem doneN_parts (L : List Eff) (k : Nat) : doneN (L.take k) + doneN (L.drop k) = doneN L := by
  rw [← doneN_append, List.take_append_drop]
/-- What EffectsSum answers. -/
def effsSumM (L : List Eff) : Int := if L.length ≤ 10 then sumOfM 4 (L.map effSumM) else -1
theorem effsSum_more {L : List Eff} (e : Eff) (h : 0 ≤ effsSumM L) (hl : L.length ≠ 10) : effsSumM (L ++ [e]) = sumMoreM (effsSumM L) (effSumM e) := by
  unfold effsSumM at h ⊢
  by_cases h0 : L.length ≤ 10
  · rw [if_pos h0] at h ⊢
    rw [if_pos (by simp; omega), List.map_append, List.map_cons, List.map_nil]
    rcases sumOfM_cases 4 (L.map effSumM) with h1 | ⟨h1, h2, h3, h4, h5⟩
    · omega
    · have hok : okSumB (sumOfM 4 (L.map effSumM)) = true := by simp [okSumB]; omega
      unfold sumMoreM
      rw [hok]
      unfold sumOfM
      rw [h3, h4]
      cases hq : okSummed (effSumM e) with
      | true => simp [h4, hq, sumFold_snoc]
      | false => simp [hq]
  · rw [if_neg h0] at h; omega
theorem effsSum_cases (L : List Eff) : effsSumM L = -1 ∨ (0 ≤ effsSumM L ∧ effsSumM L ≤ 1000002) := by
  unfold effsSumM
  split
  · rcases sumOfM_cases 4 (L.map effSumM) with h1 | ⟨h1, h2, -⟩
    · exact .inl h1
    · exact .inr ⟨h1, h2⟩
  · exact .inl rfl
/-- A swap. -/
theorem swap_step {S : List Ent} (hS : storeB S = true) {s d : Int} (h2 : actB ⟨4, s, d, 0⟩ = true) :
    (runM S ⟨4, s, d, 0⟩).done = true ∧ storeB (applyM S (runM S ⟨4, s, d, 0⟩).wrs) = true ∧ ∀ k, atM (applyM S (runM S ⟨4, s, d, 0⟩).wrs) k = if k = d then atM S s else if k = s then atM S d else atM S k := by
  have hO := (storeB_ok S).1 hS
  have hb := fun k => atM_bd hO.2 k
  obtain ⟨⟨s0, s1⟩, ⟨d0, d1⟩, -⟩ := actB_bd h2
  simp only at s0 s1 d0 d1
  refine ⟨by rw [runM_yes hS h2]; simp [effK, doneK], store_run _ hS, fun k => ?_⟩
  have hw : (runM S ⟨4, s, d, 0⟩).wrs = pm d (atM S s) [(s, atM S d)] := by rw [runM_yes hS h2]; simp [effK, doneK, outsK]
  rw [applyM_yes hS (wr_run _ _), hw, applyL_two hO s0 s1 d0 d1 (hb d).1 (hb d).2 (hb s).1 (hb s).2, atM_put, atM_put]
theorem swap_twice {S : List Ent} (hS : storeB S = true) {s d : Int} (h2 : actB ⟨4, s, d, 0⟩ = true) : (serM S [⟨4, s, d, 0⟩, ⟨4, s, d, 0⟩]).1 = S ∧ doneN (serM S [⟨4, s, d, 0⟩, ⟨4, s, d, 0⟩]).2 = 2 := by
  have ha : actsB [⟨4, s, d, 0⟩, ⟨4, s, d, 0⟩] = true := actsB_yes (by simp) (by intro x hx; simp at hx; subst hx; exact h2)
  obtain ⟨p1, p2, p3⟩ := swap_step hS h2
  obtain ⟨q1, q2, q3⟩ := swap_step p2 h2
  rw [serM_yes hS ha]
  refine ⟨?_, by simp [serL, doneN, p1, q1]⟩
  refine ok_ext _ _ ((storeB_ok _).1 q2) ((storeB_ok _).1 hS) fun k _ _ => ?_
  refine (q3 k).trans ?_
  rw [p3, p3, p3]
  by_cases hd : k = d
  · subst hd
    rw [if_pos rfl]
    by_cases hs : s = k
    · subst hs; rw [if_pos rfl]
    · rw [if_neg hs, if_pos rfl]
  · rw [if_neg hd]
    by_cases hs : k = s
    · subst hs; rw [if_pos rfl, if_pos rfl]
    · rw [if_neg hs, if_neg hd, if_neg hs]
/-- A move that is done. -/
theorem move_step {S : List Ent} (hS : storeB S = true) {s d m : Int} (h2 : actB ⟨2, s, d, m⟩ = true) (hd : (runM S ⟨2, s, d, m⟩).done = true) :
    m ≤ atM S s ∧ (s = d ∨ atM S d + m ≤ 1000000) ∧ storeB (applyM S (runM S ⟨2, s, d, m⟩).wrs) = true ∧ ∀ k, atM (applyM S (runM S ⟨2, s, d, m⟩).wrs) k = if s = d then atM S k else if k = d then atM S d + m else if k = s then atM S s - m else atM S k := by
  have hO := (storeB_ok S).1 hS
  have hb := fun k => atM_bd hO.2 k
  obtain ⟨⟨s0, s1⟩, ⟨d0, d1⟩, m0, m1⟩ := actB_bd h2
  simp only at s0 s1 d0 d1 m0 m1
  have hs := hb s
  have ht := hb d
  have hdd : doneK 2 s d m (atM S s) (atM S d) = true := by rw [runM_yes hS h2] at hd; exact hd
  have hw : (runM S ⟨2, s, d, m⟩).wrs = if s = d then [(s, atM S s)] else pm d (atM S d + m) [(s, atM S s - m)] := by rw [runM_yes hS h2]; simp only [effK, hdd, if_true]; simp [outsK]
  simp only [doneK, show ¬ (2 : Int) = 5 by omega, if_false, if_true, Bool.and_eq_true, Bool.or_eq_true, decide_eq_true_eq] at hdd
  refine ⟨hdd.1, hdd.2, store_run _ hS, fun k => ?_⟩
  rw [applyM_yes hS (wr_run _ _), hw]
  by_cases hsd : s = d
  · rw [if_pos hsd, if_pos hsd]
    show atM (putRaw s (atM S s) S) k = _
    rw [atM_put]
    by_cases hk : k = s
    · rw [if_pos hk, hk]
    · rw [if_neg hk]
  · rw [if_neg hsd, if_neg hsd, applyL_two hO s0 s1 d0 d1 (by omega) (by omega) (by omega) (by omega), atM_put, atM_put]
theorem move_done {S : List Ent} (hS : storeB S = true) {s d m : Int} (h2 : actB ⟨2, s, d, m⟩ = true) (h3 : m ≤ atM S s) (h4 : s = d ∨ atM S d + m ≤ 1000000) : (runM S ⟨2, s, d, m⟩).done = true := by
  rw [runM_yes hS h2]
  show doneK 2 s d m (atM S s) (atM S d) = true
  simp only [doneK, show ¬ (2 : Int) = 5 by omega, if_false, if_true, Bool.and_eq_true, Bool.or_eq_true, decide_eq_true_eq]
  exact ⟨h3, h4⟩
theorem back_valid {s d m : Int} (h2 : actB ⟨2, s, d, m⟩ = true) : actB ⟨2, d, s, m⟩ = true := by
  simp only [actB, Bool.and_eq_true] at h2 ⊢
  refine ⟨⟨⟨h2.1.1.2, h2.1.1.1⟩, h2.1.2⟩, by simp [restB]⟩
theorem move_back {S : List Ent} (hS : storeB S = true) {s d m : Int} (h2 : actB ⟨2, s, d, m⟩ = true) :
    ∃ x y, (serM S [⟨2, s, d, m⟩, ⟨2, d, s, m⟩]).2 = [x, y] ∧ (x.done = true → y.done = true ∧ (serM S [⟨2, s, d, m⟩, ⟨2, d, s, m⟩]).1 = S) := by
  have hb2 := back_valid h2
  have ha : actsB [⟨2, s, d, m⟩, ⟨2, d, s, m⟩] = true := actsB_yes (by simp) (by intro x hx; simp at hx; rcases hx with rfl | rfl <;> assumption)
  rw [serM_yes hS ha]
  refine ⟨_, _, rfl, fun hd => ?_⟩
  obtain ⟨p1, p2, p3, p4⟩ := move_step hS h2 hd
  have hO := (storeB_ok S).1 hS
  have hs := atM_bd hO.2 s
  have ht := atM_bd hO.2 d
  have hdone : (runM (applyM S (runM S ⟨2, s, d, m⟩).wrs) ⟨2, d, s, m⟩).done = true := by
    refine move_done p3 hb2 ?_ ?_
    · rw [p4]
      by_cases hsd : s = d
      · rw [if_pos hsd, ← hsd]; exact p1
      · rw [if_neg hsd, if_pos rfl]; omega
    · by_cases hsd : s = d
      · exact .inl hsd.symm
      · refine .inr ?_
        rw [p4, if_neg hsd, if_neg hsd, if_pos rfl]; omega
  obtain ⟨q1, q2, q3, q4⟩ := move_step p3 hb2 hdone
  refine ⟨hdone, ok_ext _ _ ((storeB_ok _).1 q3) ((storeB_ok _).1 hS) fun k _ _ => ?_⟩
  refine (q4 k).trans ?_
  by_cases hsd : s = d
  · rw [if_pos hsd.symm, p4, if_pos hsd]
  · rw [if_neg (fun h => hsd h.symm)]
    have eS : atM (applyM S (runM S ⟨2, s, d, m⟩).wrs) s = atM S s - m := by rw [p4, if_neg hsd, if_neg hsd, if_pos rfl]
    have eD : atM (applyM S (runM S ⟨2, s, d, m⟩).wrs) d = atM S d + m := by rw [p4, if_neg hsd, if_pos rfl]
    by_cases h1 : k = s
    · rw [if_pos h1, eS, h1]; omega
    · rw [if_neg h1]
      by_cases h5 : k = d
      · rw [if_pos h5, eD, h5]; omega
      · rw [if_neg h5, p4, if_neg hsd, if_neg h5, if_neg h1]
end Go.Proofs.Ytfhbolpchmdaoaa
/- Rows of effects in memory. No function of the program is named here. -/
namespace Go.Proofs.Ytfhbolpchmdaoaa
open Go.RowKit
set_option linter.unusedVariables false
/-- The slice (a, n) reads as the effects L. -/
def RowFs (w : World) (a : Option Addr) (n : Nat) (L : List Eff) : Prop :=
  L.length = n ∧ n ≤ maxLen ∧ (0 < n → ∃ b off, a = some ⟨b, off, none⟩ ∧ ∀ i, i < n → w.cell? ⟨b, off + i * 3, none⟩ = some (.bool (L.getD i noEff).done) ∧
    (∃ x, w.cell? ⟨b, off + i * 3 + 1, none⟩ = some x ∧ SliE w x (L.getD i noEff).rds) ∧ ∃ y, w.cell? ⟨b, off + i * 3 + 2, none⟩ = some y ∧ SliE w y (L.getD i noEff).wrs)
theorem RowFs.below {w w' : World} {a : Option Addr} {n : Nat} {L : List Eff} (h : RowFs w a n L) (hb : Below w.heap.size w w') : RowFs w' a n L := by
  obtain ⟨h1, h2, h3⟩ := h
  refine ⟨h1, h2, fun hl => ?_⟩
  obtain ⟨b, off, he, hc⟩ := h3 hl
  refine ⟨b, off, he, fun i hi => ?_⟩
  obtain ⟨c0, ⟨x, c1, s1⟩, y, c2, s2⟩ := hc i hi
  have hlt : b < w.heap.size := World.block_lt_of_cell? w ⟨b, off + i * 3, none⟩ c0
  exact ⟨by rw [hb.cell (p := ⟨b, off + i * 3, none⟩) hlt]; exact c0, ⟨x, by rw [hb.cell (p := ⟨b, off + i * 3 + 1, none⟩) hlt]; exact c1, s1.below hb⟩, y, by rw [hb.cell (p := ⟨b, off + i * 3 + 2, none⟩) hlt]; exact c2, s2.below hb⟩
theorem rowFs_empty (w : World) (a : Option Addr) : RowFs w a 0 [] := ⟨rfl, by unfold maxLen; omega, fun h => absurd h (by omega)⟩
theorem getD_memF (L : List Eff) (k : Nat) (h : k < L.length) : L.getD k noEff ∈ L := by
  rw [List.getD_eq_getElem?_getD, List.getElem?_eq_getElem h]; exact List.getElem_mem h
/-- The first k effects. -/
theorem RowFs.take {w : World} {a : Option Addr} {n : Nat} {L : List Eff} (h : RowFs w a n L) (k : Nat) (hk : k ≤ n) : RowFs w a k (L.take k) := by
  obtain ⟨h1, h2, h3⟩ := h
  refine ⟨by rw [List.length_take]; omega, by omega, fun hl => ?_⟩
  obtain ⟨b, off, he, hc⟩ := h3 (by omega)
  refine ⟨b, off, he, fun i hi => ?_⟩
  have e : (L.take k).getD i noEff = L.getD i noEff := by
    rw [List.getD_eq_getElem?_getD, List.getD_eq_getElem?_getD, List.getElem?_take, if_pos hi]
  rw [e]; exact hc i (by omega)
/-- The effects from k on. -/
theorem RowFs.drop {w : World} {b off n : Nat} {L : List Eff} (h : RowFs w (some ⟨b, off, none⟩) n L) (k : Nat) (hk : k ≤ n) : RowFs w (some ⟨b, off + k * 3, none⟩) (n - k) (L.drop k) := by
  obtain ⟨h1, h2, h3⟩ := h
  refine ⟨by rw [List.length_drop]; omega, by omega, fun hl => ?_⟩
  obtain ⟨b', off', he, hc⟩ := h3 (by omega)
  obtain ⟨rfl, rfl⟩ : b = b' ∧ off = off' := by simpa using he
  refine ⟨b, off + k * 3, rfl, fun i hi => ?_⟩
  have e : (L.drop k).getD i noEff = L.getD (k + i) noEff := by
    rw [List.getD_eq_getElem?_getD, List.getD_eq_getElem?_getD, List.getElem?_drop]
  have := hc (k + i) (by omega)
  rw [e, show off + k * 3 + i * 3 = off + (k + i) * 3 by omega]; exact this
/-- The cells of an effect. -/
def effC (e : TypeId) (x : Eff) : List Cel := [.bool x.done, .ents e x.rds, .ents e x.wrs]
theorem effC_len (e : TypeId) (x : Eff) : (effC e x).length = 3 := rfl
theorem effC_get (e : TypeId) (L : List Eff) (i : Nat) (h : i < L.length) : (L.flatMap (effC e))[i * 3]? = some (.bool (L.getD i noEff).done) ∧ (L.flatMap (effC e))[i * 3 + 1]? = some (.ents e (L.getD i noEff).rds) ∧ (L.flatMap (effC e))[i * 3 + 2]? = some (.ents e (L.getD i noEff).wrs) := by
  have h0 := flatMap_get (effC e) 3 (effC_len e) L i 0 _ (getD_some L i noEff h) (by omega)
  have h1 := flatMap_get (effC e) 3 (effC_len e) L i 1 _ (getD_some L i noEff h) (by omega)
  have h2 := flatMap_get (effC e) 3 (effC_len e) L i 2 _ (getD_some L i noEff h) (by omega)
  rw [Nat.add_zero] at h0
  exact ⟨h0, h1, h2⟩
/-- v owns the effects L. -/
def OwnFs (w : World) (B T : Nat) (eX eE : TypeId) (v : Value) (L : List Eff) : Prop := L.length ≤ 4000000 ∧ ∃ xs, Own2 w B T eX 3 v L.length (L.flatMap (effC eE)) xs
theorem OwnFs.below {w w' : World} {B T : Nat} {eX eE : TypeId} {v : Value} {L : List Eff} (h : OwnFs w B T eX eE v L) (hb : Below w.heap.size w w') : OwnFs w' B T eX eE v L := by
  obtain ⟨h0, xs, h1⟩ := h; exact ⟨h0, xs, h1.below hb⟩
theorem OwnFs.mono {w : World} {B T B' T' : Nat} {eX eE : TypeId} {v : Value} {L : List Eff} (h : OwnFs w B T eX eE v L) (hB : B' ≤ B) (hT : T ≤ T') : OwnFs w B' T' eX eE v L := by
  obtain ⟨h0, xs, h1⟩ := h; exact ⟨h0, xs, h1.mono hB hT⟩
theorem OwnFs.turn {w w' : World} {B T B' T' : Nat} {eX eE : TypeId} {v : Value} {L : List Eff} (h : OwnFs w B T eX eE v L) (ht : Turn B' T' w w') (hd : T ≤ B' ∨ T' ≤ B ∨ w.heap.size ≤ B') : OwnFs w' B T eX eE v L := by
  obtain ⟨h0, xs, h1⟩ := h; exact ⟨h0, xs, h1.turn ht hd⟩
theorem ownFs_nil (w : World) (B T : Nat) (eX eE : TypeId) : OwnFs w B T eX eE (.slice none 0 0) [] := ⟨by simp, [], own2_nil _ _ _ _ _⟩
theorem ownFs_lit {w : World} {B T : Nat} (eX eE : TypeId) (hB : B ≤ w.heap.size) (hT : w.heap.size < T) : OwnFs (w.alloc (.cells #[] eX)) B T eX eE (.slice (some ⟨w.heap.size, 0, none⟩) 0 0) [] := ⟨by simp, [], own2_lit _ _ hB hT⟩
theorem OwnFs.lens {w : World} {B T : Nat} {eX eE : TypeId} {v : Value} {L : List Eff} (h : OwnFs w B T eX eE v L) : ∀ x ∈ L, x.rds.length ≤ 4000000 ∧ x.wrs.length ≤ 4000000 ∧ WfE x.rds ∧ WfE x.wrs := by
  intro y hy
  obtain ⟨h0, xs, h1⟩ := h
  obtain ⟨i, hi, rfl⟩ := List.getElem_of_mem hy
  obtain ⟨-, c1, c2⟩ := effC_get eE L i hi
  obtain ⟨x, hx⟩ := getElem?_both h1.2.2.1.symm c1
  obtain ⟨z, hz⟩ := getElem?_both h1.2.2.1.symm c2
  have q1 := (h1.2.2.2.1 _ _ x c1 hx).1
  have q2 := (h1.2.2.2.1 _ _ z c2 hz).1
  rw [List.getD_eq_getElem?_getD, List.getElem?_eq_getElem hi] at q1 q2
  exact ⟨q1.2.2, q2.2.2, q1.2.1, q2.2.1⟩
theorem rowFs_of_own {w : World} {B T : Nat} {eX eE : TypeId} {v : Value} {L : List Eff} (h : OwnFs w B T eX eE v L) : ∃ a cap, v = .slice a L.length cap ∧ RowFs w a L.length L ∧ (a = none → cap = 0) ∧ L.length ≤ cap := by
  obtain ⟨h0, xs, h1⟩ := h
  rcases slice_of_owns h1.1 with ⟨rfl, hn⟩ | ⟨g, cap, rfl, hB, hg, hnc, hcm⟩
  · obtain rfl : L = [] := List.eq_nil_of_length_eq_zero hn
    exact ⟨none, 0, rfl, rowFs_empty _ _, fun _ => rfl, Nat.le_refl _⟩
  · refine ⟨_, cap, rfl, ⟨rfl, by unfold maxLen; omega, fun _ => ⟨g, 0, rfl, fun i hi => ?_⟩⟩, fun h => (by cases h), hnc⟩
    obtain ⟨c0, c1, c2⟩ := effC_get eE L i hi
    obtain ⟨x, hx, hcx, hox, -⟩ := h1.at c0
    obtain ⟨y, hy, hcy, hoy, -⟩ := h1.at c1
    obtain ⟨z, hz, hcz, hoz, -⟩ := h1.at c2
    rw [Nat.zero_add]
    have hox' : x = .bool (L.getD i noEff).done := hox
    exact ⟨by rw [hcx, hox'], ⟨y, hcy, sliE_of_own hoy⟩, z, hcz, sliE_of_own hoz⟩
/-- The slice of owned effects. -/
theorem OwnFs.form {w : World} {B T : Nat} {eX eE : TypeId} {v : Value} {L : List Eff} (h : OwnFs w B T eX eE v L) : (v = .slice none 0 0 ∧ L = []) ∨ ∃ g cap, v = .slice (some ⟨g, 0, none⟩) L.length cap ∧ B ≤ g ∧ g < T ∧ g < w.heap.size := by
  obtain ⟨_, xs, h1⟩ := h
  rcases slice_of_owns h1.1 with ⟨h2, h3⟩ | ⟨g, cap, rfl, h2, h3, _⟩
  · exact .inl ⟨h2, List.eq_nil_of_length_eq_zero h3⟩
  · exact .inr ⟨g, cap, rfl, h2, h1.2.1 g rfl, h3⟩
/-- New effects. -/
def NewFs (w : World) (eX eE : TypeId) (L : List Eff) (e : Ending) (w' : World) : Prop :=
  ∃ v, e = .returned v ∧ OwnFs w' w.heap.size w'.heap.size eX eE v L ∧ Below w.heap.size w w'
/-- A store and effects, all of it owned in [B, T), the store's row apart from all that the effects have. -/
def OwnSF (w : World) (B T : Nat) (eX eE : TypeId) (v u : Value) (S : List Ent) (L : List Eff) : Prop :=
  w.ownsRow B eE 2 v S.length (flatE S) ∧ WfE S ∧ (∀ p, v.ownBlock = some p → p < T) ∧ L.length ≤ 4000000 ∧ ∃ xs, Own2 w B T eX 3 u L.length (L.flatMap (effC eE)) xs ∧ ∀ x ∈ u :: xs, ∀ p, v.ownBlock = some p → blk x ≠ some p
theorem OwnSF.effs {w : World} {B T : Nat} {eX eE : TypeId} {v u : Value} {S : List Ent} {L : List Eff} (h : OwnSF w B T eX eE v u S L) : OwnFs w B T eX eE u L := by
  obtain ⟨-, -, -, h4, xs, h5, -⟩ := h; exact ⟨h4, xs, h5⟩
theorem OwnSF.below {w w' : World} {B T : Nat} {eX eE : TypeId} {v u : Value} {S : List Ent} {L : List Eff} (h : OwnSF w B T eX eE v u S L) (hb : Below w.heap.size w w') : OwnSF w' B T eX eE v u S L := by
  obtain ⟨h1, h2, h3, h4, xs, h5, h6⟩ := h; exact ⟨owns_below h1 hb, h2, h3, h4, xs, h5.below hb, h6⟩
theorem OwnSF.mono {w : World} {B T B' T' : Nat} {eX eE : TypeId} {v u : Value} {S : List Ent} {L : List Eff} (h : OwnSF w B T eX eE v u S L) (hB : B' ≤ B) (hT : T ≤ T') : OwnSF w B' T' eX eE v u S L := by
  obtain ⟨h1, h2, h3, h4, xs, h5, h6⟩ := h; exact ⟨owns_mono h1 hB, h2, fun p hp => Nat.lt_of_lt_of_le (h3 p hp) hT, h4, xs, h5.mono hB hT, h6⟩
theorem OwnSF.row {w : World} {B T : Nat} {eX eE : TypeId} {v u : Value} {S : List Ent} {L : List Eff} (h : OwnSF w B T eX eE v u S L) (hl : S.length ≤ 4000000) : ∃ a c, v = .slice a S.length c ∧ RowE w a S.length S ∧ (a = none → c = 0) := by
  obtain ⟨h1, h2, -⟩ := h
  obtain ⟨a, c, e, r, z⟩ := rowE_of_owns h1 hl h2; exact ⟨a, c, e, r, z⟩
/-- Another store, new, in the place of the store. -/
theorem OwnSF.store {w w' : World} {B T T' : Nat} {eX eE : TypeId} {v u v' : Value} {S S' : List Ent} {L : List Eff} (h : OwnSF w B T eX eE v u S L) (hb : Below w.heap.size w w') {B' : Nat} (ho : w'.ownsRow B' eE 2 v' S'.length (flatE S')) (hw : WfE S')
    (hB : B ≤ B') (hT : T ≤ B') (hT' : w'.heap.size ≤ T') (hTT : T ≤ T') : OwnSF w' B T' eX eE v' u S' L := by
  obtain ⟨h1, h2, h3, h4, xs, h5, h6⟩ := h
  refine ⟨owns_mono ho hB, hw, fun p hp => Nat.lt_of_lt_of_le (ho.lt p hp).2 hT', h4, xs, (h5.below hb).mono (Nat.le_refl _) hTT, fun x hx p hp hq => ?_⟩
  have := (h5.blk_lt x hx p hq).2.1
  have := (ho.lt p hp).1
  omega
/-- A new store and new effects. -/
def NewSF (w : World) (eX eE : TypeId) (S : List Ent) (L : List Eff) (e : Ending) (w' : World) : Prop :=
  ∃ v u, e = .returned (.tuple #[v, u]) ∧ OwnSF w' w.heap.size w'.heap.size eX eE v u S L ∧ Below w.heap.size w w'
/-- The cells of an effect that is to be appended. -/
theorem effNew {w : World} {B : Nat} {eE : TypeId} {x : Eff} {a b : Value} (h : OwnF w B eE (.agg #[.bool x.done, a, b]) x) (h1 : x.rds.length ≤ 4000000) (h2 : x.wrs.length ≤ 4000000) :
    (∀ (i : Nat) (c : Cel) (y : Value), (effC eE x)[i]? = some c → ([.bool x.done, a, b] : List Value)[i]? = some y → c.own w y ∧ ∀ p, blk y = some p → B ≤ p) ∧ Apart [.bool x.done, a, b] := by
  obtain ⟨va, vb, e0, g1, g2, g3, g4, g5⟩ := h
  simp only [Value.agg.injEq, Array.mk.injEq, List.cons.injEq, and_true, true_and] at e0
  obtain ⟨rfl, rfl⟩ := e0
  have k1 := owns_blk g1
  have k2 := owns_blk g2
  refine ⟨fun i c y hc hy => ?_, ?_⟩
  · match i, hc, hy with
    | 0, hc, hy =>
      simp [effC] at hc hy
      subst hc hy
      exact ⟨rfl, fun p hp => by cases hp⟩
    | 1, hc, hy =>
      simp [effC] at hc hy
      subst hc hy
      exact ⟨ents_own g1 g3 h1, fun p hp => (g1.lt p (by rw [← k1]; exact hp)).1⟩
    | 2, hc, hy =>
      simp [effC] at hc hy
      subst hc hy
      exact ⟨ents_own g2 g4 h2, fun p hp => (g2.lt p (by rw [← k2]; exact hp)).1⟩
    | (n + 3), hc, hy => simp [effC] at hc
  · refine apart_cons.2 ⟨fun x hx p hp => (by cases hp), apart_cons.2 ⟨fun y hy p hp hq => ?_, by simp [Apart]⟩⟩
    simp at hy; subst hy
    rw [k1] at hp; rw [k2] at hq
    exact g5 p hp hq
theorem flatMap_snoc {α β : Type} (f : α → List β) (L : List α) (x : α) : (L ++ [x]).flatMap f = L.flatMap f ++ f x := by simp
/-- An append of one element, as in wp_append_el, with all that is known of it. -/
theorem wp_append_el2 {P : Program} {W : World} {o : Oper} {a : Act} {K : Act → World → Prop} {Q : Exit → Act → World → Prop} (s x : Operand) (t : TypeId)
    (ho : o.op = .call { callee := .builtin .append, args := #[s, x], argTypes := #[t, t] })
    (B T : Nat) (e e' : TypeId) (z : Value) (size bytes : Nat) (ht : P.underlying t = some (.slice e)) (hinfo : (P.info? e).map (fun i => (i.zero, i.size, i.bytes)) = some (some z, size, bytes))
    (hzs : z.cells.size = size) (hsz : 0 < size) (v : Value) (n : Nat) (cs : List Cel) (xs : List Value) (cs' : List Cel) (news : List Value) (hs : a.eval s = v) (hown : Own2 W B T e size v n cs xs)
    (hx : a.eval x = .slice (some ⟨W.heap.size, 0, none⟩) 1 1) (hl : news.length = size) (hlc : cs'.length = size)
    (hnw : ∀ (i : Nat) (c : Cel) (y : Value), cs'[i]? = some c → news[i]? = some y → c.own W y ∧ ∀ b, blk y = some b → T ≤ b) (ha : Apart news)
    (hn : n ≤ 4000000) (hby : bytes ≤ 100000) (hbase : B ≤ W.heap.size) (hBT : B ≤ T) (hT : T ≤ W.heap.size)
    (h : ∀ v' w', Own2 w' B w'.heap.size e size v' (n + 1) (cs ++ cs') (xs ++ news) → v' ≠ .slice none 0 0 → Below B W w' → W.heap.size < w'.heap.size → (W.alloc (.cells news.toArray e')).grownBy w' v.ownBlock → (v'.ownBlock = v.ownBlock ∨ v'.ownBlock = some (W.heap.size + 1)) → K (a.put o.dst v') w') : Oper.wp P o a (W.alloc (.cells news.toArray e')) K Q := by
  obtain ⟨i0, hi, hz0, hz1, hz2⟩ := info_parts hinfo
  have hcell : ∀ j u, news[j]? = some u → (W.alloc (.cells news.toArray e')).cell? ((⟨W.heap.size, 0, none⟩ : Addr).add j) = some u := by
    intro j u hu
    rw [show (⟨W.heap.size, 0, none⟩ : Addr).add j = ⟨W.heap.size, j, none⟩ by unfold Addr.add; split <;> simp_all]
    rw [cell_of_row (W.alloc (.cells news.toArray e')) W.heap.size j news.toArray e' (0, 0) (heap_alloc_new W _)]
    rw [List.getElem?_toArray]; exact hu
  have hone : ∀ u ∈ news, u.oneCell' = true := fun u hu => by
    obtain ⟨i, hi⟩ := List.getElem?_of_mem hu
    obtain ⟨c, hc⟩ := getElem?_both (hl.trans hlc.symm) hi
    exact c.one (hnw i c u hc hi).1
  have hbytes : (n + 1) * bytes ≤ 140737488355328 := by
    calc (n + 1) * bytes ≤ 4000001 * 100000 := Nat.mul_le_mul (by omega) hby
      _ ≤ 140737488355328 := by decide
  have hownW := hown.alloc (.cells news.toArray e')
  obtain ⟨v', w', hr, h2, h3, h4, h5⟩ := run_append_own_at (P := P) (W.alloc (.cells news.toArray e')) B t o.type e i0 z size bytes ht hi hz0 hz1 hz2 hzs hsz v n xs hownW.1 ⟨W.heap.size, 0, none⟩ 1 1 news (by rw [hl, Nat.one_mul]) hcell hone (by unfold maxLen; omega) hbytes (by simp; omega)
  have hsz' : (W.alloc (.cells news.toArray e')).heap.size = W.heap.size + 1 := by simp
  have hsn : Own2 w' B (w'.heap.size + 1) e size v' (n + 1) (cs ++ cs') (xs ++ news) := by
    refine hownW.snoc h2 h3 h5 (hl.trans hlc.symm) (fun i c y hc hy => ⟨c.keep (hnw i c y hc hy).1 (fun b hb => ?_), fun b hb => ?_⟩) ha (fun y hy z hz p hp hq => ?_) ?_ ?_
    · exact Below.heap_alloc W _ b (c.lt (hnw i c y hc hy).1 hb)
    · have := (hnw i c y hc hy).2 b hb
      have := c.lt (hnw i c y hc hy).1 hb
      have := h3.size
      omega
    · obtain ⟨i, hi⟩ := List.getElem?_of_mem hz
      obtain ⟨c, hc⟩ := getElem?_both (hl.trans hlc.symm) hi
      have := (hnw i c z hc hi).2 p hq
      have := hown.blk_lt y hy p hp
      omega
    · have := h3.size; omega
    · have := h3.size; omega
  have hfin : Own2 w' B w'.heap.size e size v' (n + 1) (cs ++ cs') (xs ++ news) := by
    have hlt := hsn.blk_lt
    obtain ⟨g1, g2, g3, g4, g5⟩ := hsn
    exact ⟨g1, fun b hb => (hlt v' List.mem_cons_self b hb).2.2, g3, fun i c y hc hy => ⟨(g4 i c y hc hy).1, fun b hb => ⟨((g4 i c y hc hy).2 b hb).1, (hlt y (List.mem_cons_of_mem _ (List.mem_of_getElem? hy)) b hb).2.2⟩⟩, g5⟩
  unfold Oper.wp execOp
  simp only [ho, resolve, invoke, builtin, Sem.run_bind, Sem.run_pure, Result.andThen_ok, List.map_toArray, List.map_cons, List.map_nil, hs, hx, hr]
  refine h v' w' hfin (fun e => by have := (h4.1 e).2; omega) ?_ (by have := h3.size; omega) h3 (by rw [hsz'] at h5; exact h5)
  exact ((Below.refl _ _).alloc hbase _).grown h3 (by simp; omega) (fun k hk => (hownW.1.lt k hk).1)
theorem wpList_append_el2 {P : Program} {W : World} {ops : Array Oper} {rest : List Oper} {o : Oper} {a : Act} {Q : Exit → Act → World → Prop} (hgd : Region.wanted o (yielded ops a.tmps) = true) (s x : Operand) (t : TypeId)
    (ho : o.op = .call { callee := .builtin .append, args := #[s, x], argTypes := #[t, t] })
    (B T : Nat) (e e' : TypeId) (z : Value) (size bytes : Nat) (ht : P.underlying t = some (.slice e)) (hinfo : (P.info? e).map (fun i => (i.zero, i.size, i.bytes)) = some (some z, size, bytes))
    (hzs : z.cells.size = size) (hsz : 0 < size) (v : Value) (n : Nat) (cs : List Cel) (xs : List Value) (cs' : List Cel) (news : List Value) (hs : a.eval s = v) (hown : Own2 W B T e size v n cs xs)
    (hx : a.eval x = .slice (some ⟨W.heap.size, 0, none⟩) 1 1) (hl : news.length = size) (hlc : cs'.length = size)
    (hnw : ∀ (i : Nat) (c : Cel) (y : Value), cs'[i]? = some c → news[i]? = some y → c.own W y ∧ ∀ b, blk y = some b → T ≤ b) (ha : Apart news)
    (hn : n ≤ 4000000) (hby : bytes ≤ 100000) (hbase : B ≤ W.heap.size) (hBT : B ≤ T) (hT : T ≤ W.heap.size)
    (h : ∀ v' w', Own2 w' B w'.heap.size e size v' (n + 1) (cs ++ cs') (xs ++ news) → v' ≠ .slice none 0 0 → Below B W w' → W.heap.size < w'.heap.size → (W.alloc (.cells news.toArray e')).grownBy w' v.ownBlock → (v'.ownBlock = v.ownBlock ∨ v'.ownBlock = some (W.heap.size + 1)) → wpList P ops Q rest (a.put o.dst v') w') :
    wpList P ops Q (o :: rest) a (W.alloc (.cells news.toArray e')) :=
  BigFrame.wpList_want hgd fun _ hK => wp_append_el2 s x t ho B T e e' z size bytes ht hinfo hzs hsz v n cs xs cs' news hs hown hx hl hlc hnw ha hn hby hbase hBT hT fun v' w' h1 h2 h3 h4 h5 h6 => hK _ _ (h v' w' h1 h2 h3 h4 h5 h6)
/-- One effect more, whose rows are new and apart from the store: behind the append. -/
theorem OwnSF.snoc {W w' : World} {B T : Nat} {eX eE : TypeId} {v u u' : Value} {S : List Ent} {L : List Eff} {x : Eff} {a b : Value} {xs : List Value} {o : Obj} (h1 : W.ownsRow B eE 2 v S.length (flatE S)) (h2 : WfE S) (h4 : L.length ≤ 3999999)
    (h6 : ∀ y ∈ u :: (xs ++ [.bool x.done, a, b]), ∀ p, v.ownBlock = some p → blk y ≠ some p) (hub : blk u = u.ownBlock)
    (ho : Own2 w' B w'.heap.size eX 3 u' (L.length + 1) (L.flatMap (effC eE) ++ effC eE x) (xs ++ [.bool x.done, a, b])) (hg : (W.alloc o).grownBy w' u.ownBlock) (hat : u'.ownBlock = u.ownBlock ∨ u'.ownBlock = some (W.heap.size + 1)) :
    OwnSF w' B w'.heap.size eX eE v u' S (L ++ [x]) := by
  have hk : w'.ownsRow B eE 2 v S.length (flatE S) := (h1.alloc o).kept hg (by
    rcases hq : v.ownBlock with _ | q
    · exact .inl rfl
    · refine .inr (fun e => ?_)
      exact h6 u List.mem_cons_self q hq (by rw [hub]; exact e.symm))
  refine ⟨hk, h2, fun p hp => (hk.lt p hp).2, by simp; omega, xs ++ [.bool x.done, a, b], by rw [flatMap_snoc, List.length_append]; exact ho, fun y hy p hp hq => ?_⟩
  rcases List.mem_cons.1 hy with rfl | hy
  · rw [owns_blk ho.1] at hq
    rcases hat with e | e
    · rw [e, ← hub] at hq; exact h6 u List.mem_cons_self p hp hq
    · rw [e] at hq
      have := (h1.lt p hp).2
      simp at hq; omega
  · exact h6 y (List.mem_cons_of_mem _ hy) p hp hq
/-- A round of a serial run ahead of the append: the old effects, the new one's cells, and that none of it is in the new store's block. -/
theorem ser_ready {wr w2 w4 : World} {B C : Nat} {eX eE : TypeId} {v u v' a b : Value} {S S' : List Ent} {L : List Eff} {x : Eff} (h : OwnSF wr B wr.heap.size eX eE v u S L) (hF : OwnF w2 wr.heap.size eE (.agg #[.bool x.done, a, b]) x) (h1 : x.rds.length ≤ 4000000) (h2 : x.wrs.length ≤ 4000000)
    (hb2 : Below wr.heap.size wr w2) (hb4 : Below w2.heap.size w2 w4) (ho : w4.ownsRow C eE 2 v' S'.length (flatE S')) (hC : w2.heap.size ≤ C) :
    ∃ xs, Own2 w4 B wr.heap.size eX 3 u L.length (L.flatMap (effC eE)) xs ∧ blk u = u.ownBlock ∧ (∀ y ∈ u :: (xs ++ [.bool x.done, a, b]), ∀ p, v'.ownBlock = some p → blk y ≠ some p) ∧
      (∀ (i : Nat) (c : Cel) (y : Value), (effC eE x)[i]? = some c → ([.bool x.done, a, b] : List Value)[i]? = some y → c.own w4 y ∧ ∀ p, blk y = some p → wr.heap.size ≤ p) ∧ Apart [.bool x.done, a, b] := by
  obtain ⟨-, -, -, -, xs, h5, -⟩ := h
  have hb24 := hb2.trans (hb4.mono hb2.size)
  have h54 := h5.below hb24
  obtain ⟨hn, hap⟩ := effNew (hF.below hb4) h1 h2
  have hlt := h5.blk_lt
  have hs2 := hb2.size
  obtain ⟨va, vb, e0, g1, g2, g3, g4, g5⟩ := hF
  simp only [Value.agg.injEq, Array.mk.injEq, List.cons.injEq, and_true, true_and] at e0
  obtain ⟨rfl, rfl⟩ := e0
  refine ⟨xs, h54, owns_blk h5.1, fun y hy p hp hq => ?_, hn, hap⟩
  have hpC := (ho.lt p hp).1
  rcases List.mem_cons.1 hy with rfl | hy
  · have := (hlt y List.mem_cons_self p hq).2.2; omega
  · rcases List.mem_append.1 hy with hy | hy
    · have := (hlt y (List.mem_cons_of_mem _ hy) p hq).2.2; omega
    · simp at hy
      rcases hy with rfl | rfl | rfl
      · cases hq
      · rw [owns_blk g1] at hq; have := (g1.lt p hq).2; omega
      · rw [owns_blk g2] at hq; have := (g2.lt p hq).2; omega
end Go.Proofs.Ytfhbolpchmdaoaa
/- Stores into rows of effects: filled one by one, marked in place. -/
namespace Go.Proofs.Ytfhbolpchmdaoaa
open Go.RowKit
set_option linter.unusedVariables false
theorem flatMap_set3 {α β : Type} (f : α → List β) (hf : ∀ x, (f x).length = 3) : ∀ (L : List α) (i : Nat) (y : α) (c0 c1 c2 : β), i < L.length → f y = [c0, c1, c2] → (L.set i y).flatMap f = (((L.flatMap f).set (i * 3) c0).set (i * 3 + 1) c1).set (i * 3 + 2) c2 := by
  intro L
  induction L with
  | nil => intro i y c0 c1 c2 h; cases h
  | cons a r ih =>
    intro i y c0 c1 c2 h he
    rw [List.flatMap_cons]
    obtain ⟨p, q, t, hpq⟩ : ∃ p q t, f a = [p, q, t] := by
      have := hf a
      match f a, this with
      | [p, q, t], _ => exact ⟨p, q, t, rfl⟩
    rw [hpq]
    cases i with
    | zero => simp [he]
    | succ i =>
      rw [List.set_cons_succ, List.flatMap_cons, ih i y c0 c1 c2 (by simpa using h) he, hpq, show (i + 1) * 3 = i * 3 + 1 + 1 + 1 by omega]
      simp
theorem made3_get (p q r : Value) (n i : Nat) (x : Value) (h : (madeCells (Value.agg #[p, q, r]).cells (n * 3)).toList[i]? = some x) : (i % 3 = 0 ∧ x = p) ∨ (i % 3 = 1 ∧ x = q) ∨ (i % 3 = 2 ∧ x = r) := by
  obtain ⟨hi, rfl⟩ := List.getElem?_eq_some_iff.1 h
  simp [Value.cells, madeCells] at hi ⊢
  rcases (by omega : i % 3 = 0 ∨ i % 3 = 1 ∨ i % 3 = 2) with h | h | h <;> simp [h]
theorem rep3_get {α : Type} (f : α → List Cel) (a : α) (c0 c1 c2 : Cel) (hf : f a = [c0, c1, c2]) : ∀ (n i : Nat) (c : Cel), ((List.replicate n a).flatMap f)[i]? = some c → (i % 3 = 0 ∧ c = c0) ∨ (i % 3 = 1 ∧ c = c1) ∨ (i % 3 = 2 ∧ c = c2) := by
  intro n
  induction n with
  | zero => intro i c h; simp at h
  | succ n ih =>
    intro i c h
    rw [List.replicate_succ, List.flatMap_cons, hf] at h
    match i, h with
    | 0, h => simp at h; exact .inl ⟨rfl, h.symm⟩
    | 1, h => simp at h; exact .inr (.inl ⟨rfl, h.symm⟩)
    | 2, h => simp at h; exact .inr (.inr ⟨rfl, h.symm⟩)
    | i + 3, h =>
      rcases ih i c (by simpa using h) with ⟨h1, h2⟩ | ⟨h1, h2⟩ | ⟨h1, h2⟩
      · exact .inl ⟨by omega, h2⟩
      · exact .inr (.inl ⟨by omega, h2⟩)
      · exact .inr (.inr ⟨by omega, h2⟩)
/-- What has just been made: n elements of three cells that lead nowhere. -/
theorem own2_made3 {α : Type} {w : World} {B T : Nat} {e : TypeId} {n : Nat} {v : Value} (p q r : Value) (c0 c1 c2 : Cel) (f : α → List Cel) (a : α) (hf : f a = [c0, c1, c2])
    (h : w.ownsRow B e 3 v n (madeCells (Value.agg #[p, q, r]).cells (n * 3)).toList) (hv : ∀ b, blk v = some b → b < T) (hp : c0.own w p) (hq : c1.own w q) (hr : c2.own w r) (hbp : blk p = none) (hbq : blk q = none) (hbr : blk r = none) (hff : ∀ x, (f x).length = 3) :
    Own2 w B T e 3 v n ((List.replicate n a).flatMap f) (madeCells (Value.agg #[p, q, r]).cells (n * 3)).toList := by
  refine own2_plain h hv (by rw [flatMap_len f 3 hff, List.length_replicate]; exact h.1) fun i c x hc hx => ?_
  rcases made3_get p q r n i x hx with ⟨h1, rfl⟩ | ⟨h1, rfl⟩ | ⟨h1, rfl⟩ <;> rcases rep3_get f a c0 c1 c2 hf n i c hc with ⟨h2, rfl⟩ | ⟨h2, rfl⟩ | ⟨h2, rfl⟩
  · exact ⟨hp, hbp⟩
  · omega
  · omega
  · omega
  · exact ⟨hq, hbq⟩
  · omega
  · omega
  · omega
  · exact ⟨hr, hbr⟩
/-- An element of three cells is written; the second and the third lead to what is new, and apart. -/
theorem Own2.store3 {w : World} {B T T' : Nat} {e : TypeId} {n g cap : Nat} {cs : List Cel} {xs : List Value} (h : Own2 w B T e 3 (.slice (some ⟨g, 0, none⟩) n cap) n cs xs) (k : Nat) (c0 c1 c2 : Cel) (x y z : Value)
    (hx : ∀ w, c0.own w x) (hxb : blk x = none) (hy : c1.own w y) (hyb : ∀ b, blk y = some b → T ≤ b ∧ b < T') (hz : c2.own w z) (hzb : ∀ b, blk z = some b → T ≤ b ∧ b < T') (hap : ∀ p, blk y = some p → blk z ≠ some p) (hT : T ≤ T') (hB : B ≤ T) :
    Own2 (((w.setCell ⟨g, k * 3, none⟩ x).setCell ⟨g, k * 3 + 1, none⟩ y).setCell ⟨g, k * 3 + 2, none⟩ z) B T' e 3 (.slice (some ⟨g, 0, none⟩) n cap) n (((cs.set (k * 3) c0).set (k * 3 + 1) c1).set (k * 3 + 2) c2) (((xs.set (k * 3) x).set (k * 3 + 1) y).set (k * 3 + 2) z) := by
  have hg := h.2.1 g rfl
  have hlt := h.blk_lt
  have h1 := h.setNew (T' := T) (k * 3) c0 x (hx w) (fun b hb => by rw [hxb] at hb; cases hb) (Nat.le_refl _) hB
  have h2 := h1.setNew (k * 3 + 1) c1 y (c1.keep hy (fun b hb => heap_setCell_other w ⟨g, k * 3, none⟩ b x (by have := hyb b hb; simp; omega))) hyb hT hB
  refine h2.set (k * 3 + 2) c2 z ?_ (fun b hb => by have := hzb b hb; omega) (fun hb => by have := hzb g hb; omega) (fun i u hi hu p hp hq => ?_) (Nat.le_refl _)
  · refine c2.keep hz (fun b hb => ?_)
    have := hzb b hb
    exact (heap_setCell_other _ ⟨g, k * 3 + 1, none⟩ b y (by simp; omega)).trans (heap_setCell_other w ⟨g, k * 3, none⟩ b x (by simp; omega))
  · have hq' := hzb p hq
    rw [List.getElem?_set] at hu
    split at hu
    · split at hu
      · cases hu; exact hap p hp hq
      · cases hu
    · rw [List.getElem?_set] at hu
      split at hu
      · split at hu
        · cases hu; rw [hxb] at hp; cases hp
        · cases hu
      · have := hlt u (List.mem_cons_of_mem _ (List.mem_of_getElem? hu)) p hp; omega
/-- The cells of an effect, or of none yet. -/
def oeC (e : TypeId) : Option Eff → List Cel
  | some x => [.bool x.done, .ents e x.rds, .ents e x.wrs]
  | none => [.bool false, .ents e [], .ents e []]
theorem oeC_len (e : TypeId) (x : Option Eff) : (oeC e x).length = 3 := by cases x <;> rfl
theorem oeC_all (e : TypeId) (L : List Eff) : (L.map some).flatMap (oeC e) = L.flatMap (effC e) := by
  induction L with
  | nil => rfl
  | cons a r ih => rw [List.map_cons, List.flatMap_cons, List.flatMap_cons, ih]; rfl
theorem oeC_none (e : TypeId) (n : Nat) : (List.replicate n (none : Option Eff)).flatMap (oeC e) = (List.replicate n noEff).flatMap (effC e) := by
  induction n with
  | zero => rfl
  | succ n ih => rw [List.replicate_succ, List.replicate_succ, List.flatMap_cons, List.flatMap_cons, ih]; rfl
/-- The first k effects; the others not yet. -/
def FillF (w : World) (B g n : Nat) (eX eE : TypeId) (L : List Eff) (k : Nat) : Prop := ∃ xs, Own2 w B w.heap.size eX 3 (.slice (some ⟨g, 0, none⟩) n n) n ((fillO L k).flatMap (oeC eE)) xs
theorem FillF.store {w : World} {B g n : Nat} {eX eE : TypeId} {L : List Eff} {k T : Nat} {xs : List Value} (h : Own2 w B T eX 3 (.slice (some ⟨g, 0, none⟩) n n) n ((fillO L k).flatMap (oeC eE)) xs) (hk : k < L.length) (a b : Value)
    (hF : OwnF w T eE (.agg #[.bool (L.getD k noEff).done, a, b]) (L.getD k noEff)) (hl1 : (L.getD k noEff).rds.length ≤ 4000000) (hl2 : (L.getD k noEff).wrs.length ≤ 4000000) (hB : B ≤ T) (hTw : T ≤ w.heap.size) :
    FillF (((w.setCell ⟨g, k * 3, none⟩ (.bool (L.getD k noEff).done)).setCell ⟨g, k * 3 + 1, none⟩ a).setCell ⟨g, k * 3 + 2, none⟩ b) B g n eX eE L (k + 1) := by
  obtain ⟨va, vb, e0, g1, g2, g3, g4, g5⟩ := hF
  simp only [Value.agg.injEq, Array.mk.injEq, List.cons.injEq, and_true, true_and] at e0
  obtain ⟨rfl, rfl⟩ := e0
  have k1 := owns_blk g1
  have k2 := owns_blk g2
  have h1 := h.store3 (T' := w.heap.size) k (.bool (L.getD k noEff).done) (.ents eE (L.getD k noEff).rds) (.ents eE (L.getD k noEff).wrs) (.bool (L.getD k noEff).done) a b (fun _ => rfl) rfl (ents_own g1 g3 hl1) (fun p hp => by rw [k1] at hp; exact g1.lt p hp) (ents_own g2 g4 hl2) (fun p hp => by rw [k2] at hp; exact g2.lt p hp)
    (fun p hp => by rw [k1] at hp; rw [k2]; exact g5 p hp) hTw hB
  rw [← flatMap_set3 (oeC eE) (oeC_len eE) (fillO L k) k (some (L.getD k noEff)) _ _ _ (by rw [fillO_len L k (by omega)]; exact hk) rfl, fillO_set L k noEff hk] at h1
  exact ⟨_, h1.mono (Nat.le_refl _) (by simp [World.setCell])⟩
/-- The cells of the effect that is filled next. -/
theorem FillF.next {w : World} {B T g n : Nat} {eX eE : TypeId} {L : List Eff} {k : Nat} {xs : List Value} (h : Own2 w B T eX 3 (.slice (some ⟨g, 0, none⟩) n n) n ((fillO L k).flatMap (oeC eE)) xs) (hk : k < L.length) :
    w.cell? ⟨g, k * 3, none⟩ = some (.bool false) ∧ (∃ x, w.cell? ⟨g, k * 3 + 1, none⟩ = some x) ∧ (∃ x, w.cell? ⟨g, k * 3 + 2, none⟩ = some x) ∧ w.frozen? ⟨g, k * 3, none⟩ = false ∧ w.frozen? ⟨g, k * 3 + 1, none⟩ = false ∧ w.frozen? ⟨g, k * 3 + 2, none⟩ = false := by
  have hfg := fillO_get L k hk
  obtain ⟨x0, -, hcx0, hox0, -⟩ := h.at (k := k * 3) (c := .bool false) (by have := flatMap_get (oeC eE) 3 (oeC_len eE) (fillO L k) k 0 none hfg (by omega); rw [Nat.add_zero] at this; exact this)
  obtain ⟨x1, -, hcx1, -, -⟩ := h.at (k := k * 3 + 1) (c := .ents eE []) (flatMap_get (oeC eE) 3 (oeC_len eE) (fillO L k) k 1 none hfg (by omega))
  obtain ⟨x2, -, hcx2, -, -⟩ := h.at (k := k * 3 + 2) (c := .ents eE []) (flatMap_get (oeC eE) 3 (oeC_len eE) (fillO L k) k 2 none hfg (by omega))
  have hb : x0 = .bool false := hox0
  subst hb
  exact ⟨hcx0, ⟨x1, hcx1⟩, ⟨x2, hcx2⟩, h.1.frozenAt _, h.1.frozenAt _, h.1.frozenAt _⟩
/-- Where an owned effect lies. -/
theorem OwnFs.cell {w : World} {B T g n cap : Nat} {L : List Eff} {eX eE : TypeId} (h : OwnFs w B T eX eE (.slice (some ⟨g, 0, none⟩) n cap) L) (j : Nat) (hj : j < L.length) :
    n = L.length ∧ ∃ x y z, w.cell? ⟨g, j * 3, none⟩ = some x ∧ w.cell? ⟨g, j * 3 + 1, none⟩ = some y ∧ w.cell? ⟨g, j * 3 + 2, none⟩ = some z ∧ w.frozen? ⟨g, j * 3, none⟩ = false ∧ g < w.heap.size ∧ B ≤ g ∧ g < T := by
  obtain ⟨h0, xs, h1⟩ := h
  have hn : n = L.length := by
    rcases slice_of_owns h1.1 with ⟨h2, _⟩ | ⟨g', cap', h2, _⟩
    · cases h2
    · simp at h2; exact h2.2.1
  subst hn
  obtain ⟨c0, c1, c2⟩ := effC_get eE L j hj
  obtain ⟨x, -, hx, -, -⟩ := h1.at c0
  obtain ⟨y, -, hy, -, -⟩ := h1.at c1
  obtain ⟨z, -, hz, -, -⟩ := h1.at c2
  have := h1.blk_lt _ List.mem_cons_self g rfl
  exact ⟨rfl, x, y, z, hx, hy, hz, h1.1.frozenAt _, this.2.2, this.1, this.2.1⟩
/-- Whether an effect is done is written. -/
theorem OwnFs.setBool {w : World} {B T g n cap : Nat} {L : List Eff} {eX eE : TypeId} (h : OwnFs w B T eX eE (.slice (some ⟨g, 0, none⟩) n cap) L) (j : Nat) (hj : j < L.length) (d : Bool) :
    OwnFs (w.setCell ⟨g, j * 3, none⟩ (.bool d)) B T eX eE (.slice (some ⟨g, 0, none⟩) n cap) (L.set j ⟨d, (L.getD j noEff).rds, (L.getD j noEff).wrs⟩) := by
  have hn : n = L.length := (h.cell j hj).1
  subst hn
  obtain ⟨h0, xs, h1⟩ := h
  have h2 := h1.set (T' := T) (j * 3) (.bool d) (.bool d) rfl (fun b hb => by cases hb) (by simp [blk]) (fun i x _ _ p _ hp => by cases hp) (Nat.le_refl _)
  have h3 := flatMap_set (effC eE) 3 (effC_len _) L j 0 (L.getD j noEff) ⟨d, (L.getD j noEff).rds, (L.getD j noEff).wrs⟩ (.bool d) (getD_some L j noEff hj) (by omega) rfl
  rw [Nat.add_zero] at h3
  rw [← h3] at h2
  exact ⟨by rw [List.length_set]; exact h0, xs.set (j * 3) (.bool d), by rw [List.length_set]; exact h2⟩
/-- The reads of an effect, and what becomes of all when they are written in their place. -/
theorem OwnFs.rdsAt {w : World} {B T g n cap : Nat} {L : List Eff} {eX eE : TypeId} (h : OwnFs w B T eX eE (.slice (some ⟨g, 0, none⟩) n cap) L) (j : Nat) (hj : j < L.length) :
    ∃ x, w.cell? ⟨g, j * 3 + 1, none⟩ = some x ∧ w.ownsRow 0 eE 2 x (L.getD j noEff).rds.length (flatE (L.getD j noEff).rds) ∧ (∀ b, x.ownBlock = some b → B ≤ b ∧ b < T) ∧ x.ownBlock ≠ some g ∧
      ∀ w' l, w'.ownsRow 0 eE 2 x l.length (flatE l) → WfE l → l.length ≤ 4000000 → w.grownBy w' x.ownBlock → OwnFs w' B T eX eE (.slice (some ⟨g, 0, none⟩) n cap) (L.set j ⟨(L.getD j noEff).done, l, (L.getD j noEff).wrs⟩) := by
  obtain ⟨h0, xs, h1⟩ := h
  have hn : n = L.length := by
    rcases slice_of_owns h1.1 with ⟨h2, _⟩ | ⟨g', cap', h2, _⟩
    · cases h2
    · simp at h2; exact h2.2.1
  subst hn
  obtain ⟨x, hx, hcx, hox, hbx⟩ := h1.at (effC_get eE L j hj).2.1
  have hbe := owns_blk hox.1
  refine ⟨x, hcx, hox.1, fun b hb => hbx b (by rw [hbe]; exact hb), fun e => ?_, fun w' l hl hw hll hg => ?_⟩
  · exact (apart_cons.1 h1.2.2.2.2).1 x (List.mem_of_getElem? hx) g rfl (by rw [hbe]; exact e)
  · have h2 := h1.inner (j * 3 + 1) (.ents eE l) hx hg (fun p hp => by rw [hbe]; exact hp) ⟨hl, hw, hll⟩
    rw [← flatMap_set (effC eE) 3 (effC_len _) L j 1 (L.getD j noEff) ⟨(L.getD j noEff).done, l, (L.getD j noEff).wrs⟩ _ (getD_some L j noEff hj) (by omega) rfl] at h2
    exact ⟨by rw [List.length_set]; exact h0, xs, by rw [List.length_set]; exact h2⟩
/-- The writes of an effect, the same way. -/
theorem OwnFs.wrsAt {w : World} {B T g n cap : Nat} {L : List Eff} {eX eE : TypeId} (h : OwnFs w B T eX eE (.slice (some ⟨g, 0, none⟩) n cap) L) (j : Nat) (hj : j < L.length) :
    ∃ x, w.cell? ⟨g, j * 3 + 2, none⟩ = some x ∧ w.ownsRow 0 eE 2 x (L.getD j noEff).wrs.length (flatE (L.getD j noEff).wrs) ∧ (∀ b, x.ownBlock = some b → B ≤ b ∧ b < T) ∧ x.ownBlock ≠ some g ∧
      ∀ w' l, w'.ownsRow 0 eE 2 x l.length (flatE l) → WfE l → l.length ≤ 4000000 → w.grownBy w' x.ownBlock → OwnFs w' B T eX eE (.slice (some ⟨g, 0, none⟩) n cap) (L.set j ⟨(L.getD j noEff).done, (L.getD j noEff).rds, l⟩) := by
  obtain ⟨h0, xs, h1⟩ := h
  have hn : n = L.length := by
    rcases slice_of_owns h1.1 with ⟨h2, _⟩ | ⟨g', cap', h2, _⟩
    · cases h2
    · simp at h2; exact h2.2.1
  subst hn
  obtain ⟨x, hx, hcx, hox, hbx⟩ := h1.at (effC_get eE L j hj).2.2
  have hbe := owns_blk hox.1
  refine ⟨x, hcx, hox.1, fun b hb => hbx b (by rw [hbe]; exact hb), fun e => ?_, fun w' l hl hw hll hg => ?_⟩
  · exact (apart_cons.1 h1.2.2.2.2).1 x (List.mem_of_getElem? hx) g rfl (by rw [hbe]; exact e)
  · have h2 := h1.inner (j * 3 + 2) (.ents eE l) hx hg (fun p hp => by rw [hbe]; exact hp) ⟨hl, hw, hll⟩
    rw [← flatMap_set (effC eE) 3 (effC_len _) L j 2 (L.getD j noEff) ⟨(L.getD j noEff).done, (L.getD j noEff).rds, l⟩ _ (getD_some L j noEff hj) (by omega) rfl] at h2
    exact ⟨by rw [List.length_set]; exact h0, xs, by rw [List.length_set]; exact h2⟩
end Go.Proofs.Ytfhbolpchmdaoaa
