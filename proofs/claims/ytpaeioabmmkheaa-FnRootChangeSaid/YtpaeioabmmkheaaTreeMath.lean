/- The plain functions of chapter 3: sums of leaves and pairs, the levels of the tree, proofs and where they lead. -/
import Derived.Test.YtpaeioabmmkheaaStoreLaws
import Derived.Test.YtpaeioabmmkheaaSumLemmas
namespace Go.Proofs.Ytpaeioabmmkheaa
def pairM (a b : Int) : Int := sumFold 19 [a, b]
def leafM (key val : Int) : Int := if inB key 0 31 && inB val 0 1000000 then sumFold 18 [key, val] else -1
/-- The sum at a place of a level of the tree over the leaves f. -/
def nodeF (f : Nat → Int) : Nat → Nat → Int
  | 0, j => f j
  | k + 1, j => pairM (nodeF f k (2 * j)) (nodeF f k (2 * j + 1))
def leafF (l : List Ent) (j : Nat) : Int := leafM j (atM l j)
def nodeM (l : List Ent) (k j : Nat) : Int := nodeF (leafF l) k j
/-- The sums of a level. -/
def levelL (l : List Ent) (k : Nat) : List Int := (List.range (32 / 2 ^ k)).map (nodeM l k)
def rootM (l : List Ent) : Int := if storeB l then nodeM l 5 0 else -1
/-- The place of the other one of two. -/
def sibN (j : Nat) : Nat := if j % 2 = 0 then j + 1 else j - 1
def proofTo (l : List Ent) (key : Nat) (n : Nat) : List Int := (List.range n).map (fun k => nodeM l k (sibN (key / 2 ^ k)))
def proofM (l : List Ent) (key : Int) : List Int := if storeB l && inB key 0 31 then proofTo l key.toNat 5 else []
/-- Where a proof leads from a sum, k levels up. -/
def climb (key : Nat) (p : List Int) (n : Int) : Nat → Int
  | 0 => n
  | k + 1 => if (key / 2 ^ k) % 2 = 1 then pairM (p.getD k 0) (climb key p n k) else pairM (climb key p n k) (p.getD k 0)
def proofB (p : List Int) : Bool := p.length == 5 && p.all okSumB
def proofRootM (key val : Int) (p : List Int) : Int := if inB key 0 31 && inB val 0 1000000 && proofB p then climb key.toNat p (leafM key val) 5 else -1
def proofRightM (root key val : Int) (p : List Int) : Bool := decide (0 ≤ root) && decide (proofRootM key val p = root)
theorem pairM_bd (a b : Int) : 0 ≤ pairM a b ∧ pairM a b ≤ 1000002 := sumFold_bd 19 [a, b] (by omega) (by omega)
theorem leafM_bd (k v : Int) : -1 ≤ leafM k v ∧ leafM k v ≤ 1000002 := by
  unfold leafM
  split
  · have := sumFold_bd 18 [k, v] (by omega) (by omega); omega
  · omega
theorem leafM_in {k v : Int} (a : 0 ≤ k) (b : k ≤ 31) (c : 0 ≤ v) (d : v ≤ 1000000) : leafM k v = sumFold 18 [k, v] := by
  simp [leafM, inB_yes a b, inB_yes c d]
theorem leafM_no {k v : Int} (h : ¬ (0 ≤ k ∧ k ≤ 31 ∧ 0 ≤ v ∧ v ≤ 1000000)) : leafM k v = -1 := by
  unfold leafM
  rw [if_neg]
  intro hh
  simp only [Bool.and_eq_true] at hh
  have := inB_true hh.1; have := inB_true hh.2
  omega
theorem leafM_ok {k v : Int} (a : 0 ≤ k) (b : k ≤ 31) (c : 0 ≤ v) (d : v ≤ 1000000) : 0 ≤ leafM k v := by
  rw [leafM_in a b c d]; exact (sumFold_bd 18 [k, v] (by omega) (by omega)).1
theorem leafM_nn {k v : Int} (h : 0 ≤ leafM k v) : 0 ≤ k ∧ k ≤ 31 ∧ 0 ≤ v ∧ v ≤ 1000000 := by
  by_cases hh : 0 ≤ k ∧ k ≤ 31 ∧ 0 ≤ v ∧ v ≤ 1000000
  · exact hh
  · rw [leafM_no hh] at h; omega
theorem two (s a b : Int) : sumFold s [a, b] = sumStep (sumStep s a) b := rfl
theorem sumStep_inj2 (s a b : Int) (h : sumStep s a = sumStep s b) (hd : -1000002 ≤ a - b ∧ a - b ≤ 1000002) : a = b := by
  unfold sumStep at h; omega
theorem leafM_val {k v v' : Int} (a : 0 ≤ k) (b : k ≤ 31) (c : 0 ≤ v) (d : v ≤ 1000000) (hne : v' ≠ v) : leafM k v' ≠ leafM k v := by
  intro h
  have h0 := leafM_ok a b c d
  rw [← h] at h0
  have hb := leafM_nn h0
  rw [leafM_in a b c d, leafM_in a b hb.2.2.1 hb.2.2.2, two, two] at h
  exact hne (sumStep_inj2 _ _ _ h (by omega))
theorem leafM_key {k k' v : Int} (a : 0 ≤ k) (b : k ≤ 31) (c : 0 ≤ v) (d : v ≤ 1000000) (hne : k' ≠ k) : leafM k' v ≠ leafM k v := by
  intro h
  have h0 := leafM_ok a b c d
  rw [← h] at h0
  have hb := leafM_nn h0
  rw [leafM_in a b c d, leafM_in hb.1 hb.2.1 c d, two, two] at h
  have := sumStep_inj _ _ v (sumStep_bd 18 k').1 (sumStep_bd 18 k').2 (sumStep_bd 18 k).1 (sumStep_bd 18 k).2 h
  exact hne (sumStep_inj2 _ _ _ this (by omega))
theorem pairM_inj2 {a b b' : Int} (h0 : 0 ≤ b) (h1 : b ≤ 1000002) (h2 : 0 ≤ b') (h3 : b' ≤ 1000002) (h : pairM a b = pairM a b') : b = b' := by
  unfold pairM at h; rw [two, two] at h
  exact sumStep_inj2 _ _ _ h (by omega)
theorem pairM_inj1 {a a' b : Int} (h0 : 0 ≤ a) (h1 : a ≤ 1000002) (h2 : 0 ≤ a') (h3 : a' ≤ 1000002) (h : pairM a b = pairM a' b) : a = a' := by
  unfold pairM at h; rw [two, two] at h
  exact sumStep_inj2 _ _ _ (sumStep_inj _ _ b (sumStep_bd 19 a).1 (sumStep_bd 19 a).2 (sumStep_bd 19 a').1 (sumStep_bd 19 a').2 h) (by omega)
theorem climb_bd (key : Nat) (p : List Int) (n : Int) (h0 : 0 ≤ n) (h1 : n ≤ 1000002) (k : Nat) : 0 ≤ climb key p n k ∧ climb key p n k ≤ 1000002 := by
  cases k with
  | zero => exact ⟨h0, h1⟩
  | succ k => unfold climb; split <;> exact pairM_bd _ _
theorem climb_inj (key : Nat) (p : List Int) (n n' : Int) (h0 : 0 ≤ n) (h1 : n ≤ 1000002) (h2 : 0 ≤ n') (h3 : n' ≤ 1000002) : ∀ k, climb key p n k = climb key p n' k → n = n'
  | 0, h => h
  | k + 1, h => by
    have b1 := climb_bd key p n h0 h1 k
    have b2 := climb_bd key p n' h2 h3 k
    unfold climb at h
    by_cases hc : (key / 2 ^ k) % 2 = 1
    · rw [if_pos hc, if_pos hc] at h
      exact climb_inj key p n n' h0 h1 h2 h3 k (pairM_inj2 b1.1 b1.2 b2.1 b2.2 h)
    · rw [if_neg hc, if_neg hc] at h
      exact climb_inj key p n n' h0 h1 h2 h3 k (pairM_inj1 b1.1 b1.2 b2.1 b2.2 h)
theorem proofTo_len (l : List Ent) (key n : Nat) : (proofTo l key n).length = n := by simp [proofTo]
theorem proofTo_get (l : List Ent) (key n k : Nat) (h : k < n) : (proofTo l key n).getD k 0 = nodeM l k (sibN (key / 2 ^ k)) := by
  unfold proofTo
  rw [List.getD_eq_getElem?_getD, List.getElem?_map, List.getElem?_range h]; rfl
theorem proofTo_next (l : List Ent) (key n : Nat) : proofTo l key (n + 1) = proofTo l key n ++ [nodeM l n (sibN (key / 2 ^ n))] := by
  unfold proofTo; rw [List.range_succ, List.map_append]; rfl
/-- The proof leads up the levels. -/
theorem climb_node (l : List Ent) (key : Nat) (n k : Nat) (h : k ≤ n) : climb key (proofTo l key n) (leafF l key) k = nodeM l k (key / 2 ^ k) := by
  induction k with
  | zero => unfold nodeM nodeF climb; rw [Nat.pow_zero, Nat.div_one]
  | succ k ih =>
    have hd : key / 2 ^ (k + 1) = key / 2 ^ k / 2 := by rw [Nat.pow_succ, Nat.div_div_eq_div_mul]
    unfold climb
    rw [ih (by omega), proofTo_get l key n k (by omega), hd]
    generalize key / 2 ^ k = q
    unfold nodeM
    rw [show nodeF (leafF l) (k + 1) (q / 2) = pairM (nodeF (leafF l) k (2 * (q / 2))) (nodeF (leafF l) k (2 * (q / 2) + 1)) from rfl]
    by_cases hc : q % 2 = 1
    · rw [if_pos hc, show sibN q = 2 * (q / 2) by unfold sibN; rw [if_neg (by omega)]; omega, show 2 * (q / 2) + 1 = q by omega]
    · rw [if_neg hc, show sibN q = 2 * (q / 2) + 1 by unfold sibN; rw [if_pos (by omega)]; omega, show 2 * (q / 2) = q by omega]
theorem leafF_bd {l : List Ent} (h : storeB l = true) (j : Nat) (hj : j < 32) : 0 ≤ leafF l j ∧ leafF l j ≤ 1000002 := by
  have hb := atM_bd ((storeB_ok l).1 h).2 (j : Int)
  exact ⟨leafM_ok (by omega) (by omega) hb.1 hb.2, (leafM_bd _ _).2⟩
theorem nodeM_bd {l : List Ent} (h : storeB l = true) (k j : Nat) (hj : k = 0 → j < 32) : 0 ≤ nodeM l k j ∧ nodeM l k j ≤ 1000002 := by
  cases k with
  | zero => exact leafF_bd h j (hj rfl)
  | succ k => exact pairM_bd _ _
theorem sibN_lt (j : Nat) (n : Nat) (h : j < 2 * n) : sibN j < 2 * n := by unfold sibN; split <;> omega
theorem proofM_yes {l : List Ent} (h : storeB l = true) {key : Int} (a : 0 ≤ key) (b : key ≤ 31) : proofM l key = proofTo l key.toNat 5 := by simp [proofM, h, inB_yes a b]
theorem proofTo_ok {l : List Ent} (h : storeB l = true) (key : Nat) (hk : key < 32) (n : Nat) : ∀ x ∈ proofTo l key n, 0 ≤ x ∧ x ≤ 1000002 := by
  intro x hx
  obtain ⟨k, hk', rfl⟩ := List.mem_map.1 hx
  refine nodeM_bd h k _ (fun e => ?_)
  subst e
  rw [Nat.pow_zero, Nat.div_one]; exact sibN_lt key 16 hk
theorem proofB_yes {p : List Int} (hl : p.length = 5) (h : ∀ x ∈ p, 0 ≤ x ∧ x ≤ 1000002) : proofB p = true := by
  simp only [proofB, hl, beq_self_eq_true, Bool.true_and, List.all_eq_true]
  intro x hx; simp only [okSumB, decide_eq_true_eq]; exact h x hx
theorem proofB_mem {p : List Int} (h : proofB p = true) : p.length = 5 ∧ ∀ x ∈ p, 0 ≤ x ∧ x ≤ 1000002 := by
  simp only [proofB, Bool.and_eq_true, beq_iff_eq, List.all_eq_true] at h
  exact ⟨h.1, fun x hx => by have := h.2 x hx; simpa only [okSumB, decide_eq_true_eq] using this⟩
theorem proofB_bad {p : List Int} (k : Nat) (hk : k < p.length) (h : ¬ (0 ≤ p.getD k 0 ∧ p.getD k 0 ≤ 1000002)) : proofB p = false := by
  rw [Bool.eq_false_iff]; intro hh
  exact h ((proofB_mem hh).2 _ (getD_mem p k hk))
theorem proofRoot_yes {key val : Int} {p : List Int} (a : 0 ≤ key) (b : key ≤ 31) (c : 0 ≤ val) (d : val ≤ 1000000) (h : proofB p = true) : proofRootM key val p = climb key.toNat p (leafM key val) 5 := by
  simp [proofRootM, inB_yes a b, inB_yes c d, h]
theorem proofRoot_nn {key val : Int} {p : List Int} (h : 0 ≤ proofRootM key val p) : 0 ≤ key ∧ key ≤ 31 ∧ 0 ≤ val ∧ val ≤ 1000000 ∧ proofB p = true := by
  unfold proofRootM at h
  split at h
  · rename_i hh
    simp only [Bool.and_eq_true] at hh
    have := inB_true hh.1.1; have := inB_true hh.1.2
    exact ⟨by omega, by omega, by omega, by omega, hh.2⟩
  · omega
theorem proofRoot_bd (key val : Int) (p : List Int) : -1 ≤ proofRootM key val p ∧ proofRootM key val p ≤ 1000002 := by
  unfold proofRootM
  split
  · have := climb_bd key.toNat p (leafM key val)
    rename_i hh
    simp only [Bool.and_eq_true] at hh
    have h1 := inB_true hh.1.1; have h2 := inB_true hh.1.2
    have := this (leafM_ok h1.1 h1.2 h2.1 h2.2) (leafM_bd _ _).2 5
    omega
  · omega
/-- With another value the root differs. -/
theorem proofRoot_val {key val val' : Int} {p : List Int} (h : 0 ≤ proofRootM key val p) (hne : val' ≠ val) : proofRootM key val' p ≠ proofRootM key val p := by
  intro e
  have h' := h
  rw [← e] at h'
  obtain ⟨a, b, c, d, hp⟩ := proofRoot_nn h
  obtain ⟨_, _, c', d', _⟩ := proofRoot_nn h'
  rw [proofRoot_yes a b c d hp, proofRoot_yes a b c' d' hp] at e
  exact leafM_val a b c d hne (climb_inj _ p _ _ (leafM_ok a b c' d') (leafM_bd _ _).2 (leafM_ok a b c d) (leafM_bd _ _).2 5 e)
/-- Every key's proof leads to the root. -/
theorem proof_root {l : List Ent} (h : storeB l = true) {key : Int} (a : 0 ≤ key) (b : key ≤ 31) : proofRootM key (atM l key) (proofM l key) = rootM l := by
  have hb := atM_bd ((storeB_ok l).1 h).2 key
  obtain ⟨k, rfl⟩ := Int.eq_ofNat_of_zero_le a
  rw [proofM_yes h a b, proofRoot_yes a b hb.1 hb.2 (proofB_yes (proofTo_len _ _ _) (proofTo_ok h _ (by simp; omega) 5))]
  have := climb_node l k 5 5 (Nat.le_refl _)
  rw [Int.toNat_natCast, show leafM (k : Int) (atM l k) = leafF l k from rfl, this, rootM, if_pos h]
  rw [Nat.div_eq_of_lt (by omega)]
/-- Off the key's way nothing turns. -/
theorem node_off (l : List Ent) (key : Nat) (val : Int) : ∀ k j, j ≠ key / 2 ^ k → nodeM (putRaw key val l) k j = nodeM l k j := by
  intro k
  induction k with
  | zero =>
    intro j hj
    rw [Nat.pow_zero, Nat.div_one] at hj
    show leafM j (atM (putRaw key val l) j) = leafM j (atM l j)
    rw [atM_put, if_neg (by omega)]
  | succ k ih =>
    intro j hj
    rw [Nat.pow_succ, ← Nat.div_div_eq_div_mul] at hj
    show pairM (nodeM (putRaw key val l) k (2 * j)) (nodeM (putRaw key val l) k (2 * j + 1)) = pairM (nodeM l k (2 * j)) (nodeM l k (2 * j + 1))
    rw [ih _ (by omega), ih _ (by omega)]
theorem sibN_ne (j : Nat) : sibN j ≠ j := by unfold sibN; split <;> omega
/-- With another value for the key its proof is the same. -/
theorem proof_put {l : List Ent} (h : storeB l = true) {key val : Int} (a : 0 ≤ key) (b : key ≤ 31) (c : 0 ≤ val) (d : val ≤ 1000000) : proofM (putRaw key val l) key = proofM l key := by
  have h2 : storeB (putRaw key val l) = true := (storeB_ok _).2 (ok_put ((storeB_ok l).1 h) a b c d)
  rw [proofM_yes h a b, proofM_yes h2 a b]
  obtain ⟨k, rfl⟩ := Int.eq_ofNat_of_zero_le a
  rw [Int.toNat_natCast]
  unfold proofTo
  exact List.map_congr_left fun i _ => node_off l k val i _ (sibN_ne _)
theorem root_put {l : List Ent} (h : storeB l = true) {key val : Int} (a : 0 ≤ key) (b : key ≤ 31) (c : 0 ≤ val) (d : val ≤ 1000000) : proofRootM key val (proofM l key) = rootM (putRaw key val l) := by
  have h2 : storeB (putRaw key val l) = true := (storeB_ok _).2 (ok_put ((storeB_ok l).1 h) a b c d)
  have := proof_root h2 a b
  rw [atM_put, if_pos rfl, proof_put h a b c d] at this
  exact this
/-- Roots notice a changed key. -/
theorem root_change {l : List Ent} (h : storeB l = true) {key val : Int} (a : 0 ≤ key) (b : key ≤ 31) (c : 0 ≤ val) (d : val ≤ 1000000) (hne : val ≠ atM l key) : rootM (putRaw key val l) ≠ rootM l := by
  rw [← root_put h a b c d, ← proof_root h a b]
  have hb := atM_bd ((storeB_ok l).1 h).2 key
  refine proofRoot_val ?_ hne
  obtain ⟨k, rfl⟩ := Int.eq_ofNat_of_zero_le a
  rw [proofM_yes h a b, proofRoot_yes a b hb.1 hb.2 (proofB_yes (proofTo_len _ _ _) (proofTo_ok h _ (by simp; omega) 5))]
  exact (climb_bd _ _ _ (leafM_ok a b hb.1 hb.2) (leafM_bd _ _).2 5).1
theorem rootM_bd (l : List Ent) : -1 ≤ rootM l ∧ rootM l ≤ 1000002 := by
  unfold rootM
  split
  · have := pairM_bd (nodeM l 4 0) (nodeM l 4 1)
    show -1 ≤ pairM (nodeM l 4 0) (nodeM l 4 1) ∧ pairM (nodeM l 4 0) (nodeM l 4 1) ≤ 1000002
    omega
  · omega
theorem levelL_len (l : List Ent) (k : Nat) : (levelL l k).length = 32 / 2 ^ k := by simp [levelL]
theorem levelL_get (l : List Ent) (k j : Nat) (h : j < 32 / 2 ^ k) : (levelL l k).getD j 0 = nodeM l k j := by
  unfold levelL
  rw [List.getD_eq_getElem?_getD, List.getElem?_map, List.getElem?_range h]; rfl
end Go.Proofs.Ytpaeioabmmkheaa
