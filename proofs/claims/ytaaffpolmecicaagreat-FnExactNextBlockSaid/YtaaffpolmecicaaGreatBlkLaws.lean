/- Blocks: the mathematics of their laws. No function of the program is named here. -/
import Derived.Test.YtaaffpolmecicaaGreatBlkMath
namespace Go.Proofs.YtaaffpolmecicaaGreat
set_option linter.unusedVariables false
theorem sumOfM_nn {t : Int} {l : List Int} (h0 : 0 ≤ t) (h1 : t ≤ 9) (h : ∀ n ∈ l, 0 ≤ n ∧ n ≤ 2000000) : 0 ≤ sumOfM t l ∧ sumOfM t l ≤ 1000002 := by
  rw [sumOfM_yes t l h0 h1 (by rw [List.all_eq_true]; intro n hn; have := h n hn; simp [okSummed, this.1, this.2])]
  exact sumFold_bd _ _ (by omega) (by omega)
theorem effSum_run {S : List Ent} (a : Acn) (h : storeB S = true) : 0 ≤ effSumM (runM S a) ∧ effSumM (runM S a) ≤ 1000002 := by
  refine sumOfM_nn (by decide) (by decide) (fun n hn => ?_)
  have hr := runM_rlen S a
  simp only [numsM, List.mem_cons] at hn
  rcases hn with rfl | rfl | hn
  · unfold bitB; split <;> omega
  · omega
  · obtain ⟨e, he, hx⟩ := numsE_mem _ n hn
    rcases List.mem_append.1 he with he | he
    · have := runM_wf S a (fun k => atM_bd ((storeB_ok _).1 h).2 k) e he
      rcases hx with rfl | rfl <;> omega
    · obtain ⟨k, hk, rfl⟩ := List.getElem_of_mem he
      have := wrE_mem (wr_run S a) k hk
      rw [List.getD_eq_getElem?_getD, List.getElem?_eq_getElem hk] at this
      simp only [Option.getD_some] at this
      rcases hx with rfl | rfl <;> omega
theorem serL_sums {S : List Ent} (L : List Acn) (h : storeB S = true) : ∀ n ∈ (serL S L).2.map effSumM, 0 ≤ n ∧ n ≤ 2000000 := by
  induction L generalizing S with
  | nil => intro n hn; cases hn
  | cons a r ih =>
    intro n hn
    simp only [serL, List.map_cons, List.mem_cons] at hn
    rcases hn with rfl | hn
    · have := effSum_run a h; omega
    · exact ih (store_run a h) n hn
theorem effsSum_ser {S : List Ent} {L : List Acn} (h : storeB S = true) (h2 : actsB L = true) : 0 ≤ effsSumM (serM S L).2 ∧ effsSumM (serM S L).2 ≤ 1000002 := by
  have hl := serM_len S L
  unfold effsSumM
  rw [if_pos hl, serM_yes h h2]
  exact sumOfM_nn (by decide) (by decide) (serL_sums L h)
theorem rootM_ser {S : List Ent} {L : List Acn} (h : storeB S = true) (h2 : actsB L = true) : 0 ≤ rootM (serM S L).1 ∧ rootM (serM S L).1 ≤ 1000002 := by
  rw [serM_yes h h2]
  have h3 := store_ser L h
  have h4 := rootM_bd (serL S L).1
  refine ⟨?_, h4.2⟩
  unfold rootM; rw [if_pos h3]
  exact (nodeM_bd h3 5 0 (fun e => by cases e)).1
/-- A block with what its actions lead to is valid, if the rest of it is. -/
theorem blkRun_ok {b : Blk} {S : List Ent} (h : storeB S = true) (h1 : 0 ≤ b.bef ∧ b.bef ≤ 1000002) (h4 : 0 ≤ b.hgt ∧ b.hgt ≤ 100) (h5 : 0 ≤ b.view ∧ b.view ≤ 1000) (h6 : actsB b.acts = true) : blkB (blkRun b S) = true :=
  blkB_yes h1 (rootM_ser h h6) (effsSum_ser h h6) h4 h5 h6
theorem blkRun_right {b : Blk} {S : List Ent} (h : storeB S = true) (h2 : blkB (blkRun b S) = true) : rightB (blkRun b S) S = true := by
  simp only [rightB, h, h2, Bool.true_and, Bool.and_eq_true, decide_eq_true_eq]; exact ⟨rfl, rfl⟩
theorem firstM_ok {S : List Ent} (h : storeB S = true) : blkB (firstM S) = true := by
  unfold firstM; rw [if_pos h]
  exact blkRun_ok h (by decide) (by decide) (by decide) rfl
theorem firstM_right {S : List Ent} (h : storeB S = true) : rightB (firstM S) S = true := by
  have h2 := firstM_ok h
  unfold firstM at h2 ⊢; rw [if_pos h] at h2 ⊢
  exact blkRun_right h h2
theorem nextB_true {b : Blk} {S : List Ent} {view : Int} {L : List Acn} (h : nextB b S view L = true) : blkB b = true ∧ b.hgt ≠ 100 ∧ b.view + 1 ≤ view ∧ view ≤ 1000 ∧ storeB S = true ∧ actsB L = true := by
  simp only [nextB, befB, Bool.and_eq_true, decide_eq_true_eq] at h
  obtain ⟨⟨⟨⟨h1, h2⟩, h3⟩, h4⟩, h5⟩ := h
  exact ⟨h1, h2, (inB_true h3).1, (inB_true h3).2, h4, h5⟩
theorem nextK_ok {b : Blk} {S : List Ent} {view : Int} {L : List Acn} (h : nextB b S view L = true) : blkB (nextK b S view L) = true := by
  obtain ⟨h1, h2, h3, h4, h5, h6⟩ := nextB_true h
  obtain ⟨-, -, -, h7, h8, -⟩ := blkB_true h1
  exact blkRun_ok h5 (blkSumM_nn h1) (by show 0 ≤ b.hgt + 1 ∧ b.hgt + 1 ≤ 100; omega) (by show 0 ≤ view ∧ view ≤ 1000; omega) h6
theorem nextK_right {b : Blk} {S : List Ent} {view : Int} {L : List Acn} (h : nextB b S view L = true) : rightB (nextK b S view L) S = true :=
  blkRun_right (nextB_true h).2.2.2.2.1 (nextK_ok h)
/-- With another root a right block is not right. -/
theorem right_root {b : Blk} {S : List Ent} (h : rightB b S = true) (r : Int) (hr : r ≠ b.root) : rightB ⟨b.bef, b.hgt, b.view, b.acts, r, b.effs⟩ S = false := by
  simp only [rightB, Bool.and_eq_true, decide_eq_true_eq] at h
  have : ¬ rootM (serM S b.acts).1 = r := fun e => hr (by rw [← e, h.1.2])
  simp [rightB, this]
theorem right_true {b : Blk} {S : List Ent} (h : rightB b S = true) : blkB b = true ∧ storeB S = true ∧ rootM (serM S b.acts).1 = b.root ∧ effsSumM (serM S b.acts).2 = b.effs := by
  simp only [rightB, Bool.and_eq_true, decide_eq_true_eq] at h
  exact ⟨h.1.1.1, h.1.1.2, h.1.2, h.2⟩
/-- A block of which one number is another by one: its sum is another. -/
theorem blkSum_set {b c : Blk} (h : blkB b = true) (k : Nat) (n : Int) (hk : k < (blkNums b).length) (hd : n = (blkNums b).getD k 0 + 1 ∨ n = (blkNums b).getD k 0 - 1) (hc : blkNums c = (blkNums b).set k n) : blkSumM c ≠ blkSumM b := by
  intro e
  have h1 := blkSumM_nn h
  cases h2 : blkB c with
  | false => rw [blkSumM_no h2] at e; omega
  | true =>
    rw [blkSumM_yes h, blkSumM_yes h2, hc] at e
    exact sumFold_set (17 + 5) (blkNums b) k n hk (by decide) (by decide) hd e
theorem blkNums_four (b : Blk) : blkNums b = b.bef :: b.hgt :: b.view :: (b.acts.length : Int) :: (b.acts.flatMap numA ++ [b.root, b.effs]) := by
  simp [blkNums, blkTo]
theorem blkSum_view {b : Blk} (h : blkB b = true) (n : Int) (hd : n = b.view + 1 ∨ n = b.view - 1) : blkSumM ⟨b.bef, b.hgt, n, b.acts, b.root, b.effs⟩ ≠ blkSumM b :=
  blkSum_set h 2 n (by simp [blkNums_four]) (by simpa [blkNums_four] using hd) (by simp [blkNums_four])
theorem blkSum_hgt {b : Blk} (h : blkB b = true) (n : Int) (hd : n = b.hgt + 1 ∨ n = b.hgt - 1) : blkSumM ⟨b.bef, n, b.view, b.acts, b.root, b.effs⟩ ≠ blkSumM b :=
  blkSum_set h 1 n (by simp [blkNums_four]) (by simpa [blkNums_four] using hd) (by simp [blkNums_four])
theorem blkSum_root {b : Blk} (h : blkB b = true) (n : Int) (hd : n = b.root + 1 ∨ n = b.root - 1) : blkSumM ⟨b.bef, b.hgt, b.view, b.acts, n, b.effs⟩ ≠ blkSumM b := by
  have hl : (b.bef :: b.hgt :: b.view :: (b.acts.length : Int) :: b.acts.flatMap numA).length = b.acts.length * 4 + 4 := by simp only [List.length_cons, flatNum_len]
  have hn : ∀ r, blkNums ⟨b.bef, b.hgt, b.view, b.acts, r, b.effs⟩ = (b.bef :: b.hgt :: b.view :: (b.acts.length : Int) :: b.acts.flatMap numA) ++ [r, b.effs] := fun r => by simp [blkNums_four]
  refine blkSum_set h (b.acts.length * 4 + 4) n ?_ ?_ ?_
  · rw [show blkNums b = _ from hn b.root, List.length_append, hl]; simp
  · rw [show blkNums b = _ from hn b.root, List.getD_eq_getElem?_getD, List.getElem?_append_right (by omega), hl]; simpa using hd
  · rw [show blkNums b = _ from hn b.root, hn n, List.set_append_right _ _ (by omega), hl]; simp
end Go.Proofs.YtaaffpolmecicaaGreat
