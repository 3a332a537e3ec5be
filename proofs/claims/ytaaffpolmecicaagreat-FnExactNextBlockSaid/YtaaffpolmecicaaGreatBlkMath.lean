/- Blocks: plain mathematics. No function of the program is named here. -/
import Derived.Test.YtaaffpolmecicaaGreatEff
import Derived.Test.YtaaffpolmecicaaGreatCore

namespace Go.Proofs.YtaaffpolmecicaaGreat
set_option linter.unusedVariables false
/-- A block. -/
structure Blk where
  bef : Int
  hgt : Int
  view : Int
  acts : List Acn
  root : Int
  effs : Int
/-- The zero block. -/
def noBlk : Blk := ⟨0, 0, 0, [], 0, 0⟩
/-- The block is valid. -/
def blkB (b : Blk) : Bool := inB b.bef 0 1000002 && inB b.root 0 1000002 && inB b.effs 0 1000002 && inB b.hgt 0 100 && inB b.view 0 1000 && actsB b.acts
/-- The numbers of an action. -/
def numA (x : Acn) : List Int := [x.kind, x.src, x.dst, x.amt]
/-- The first four numbers of a block, and those of its first k actions. -/
def blkTo (b : Blk) (k : Nat) : List Int := [b.bef, b.hgt, b.view, (b.acts.length : Int)] ++ (b.acts.take k).flatMap numA
/-- What is summed up of a block. -/
def blkNums (b : Blk) : List Int := blkTo b b.acts.length ++ [b.root, b.effs]
/-- What BlockSum answers. -/
def blkSumM (b : Blk) : Int := if blkB b then sumOfM 5 (blkNums b) else -1
/-- The block with what its actions lead to. -/
def blkRun (b : Blk) (S : List Ent) : Blk := ⟨b.bef, b.hgt, b.view, b.acts, rootM (serM S b.acts).1, effsSumM (serM S b.acts).2⟩
/-- What FirstBlock answers. -/
def firstM (S : List Ent) : Blk := if storeB S then blkRun noBlk S else noBlk
/-- A block with a view can be behind it. -/
def befB (b : Blk) (view : Int) : Bool := blkB b && decide (b.hgt ≠ 100) && inB view (b.view + 1) 1000
/-- NextBlock answers a block. -/
def nextB (b : Blk) (S : List Ent) (view : Int) (L : List Acn) : Bool := befB b view && storeB S && actsB L
/-- The block that NextBlock answers. -/
def nextK (b : Blk) (S : List Ent) (view : Int) (L : List Acn) : Blk := blkRun ⟨blkSumM b, b.hgt + 1, view, L, 0, 0⟩ S
def nextM (b : Blk) (S : List Ent) (view : Int) (L : List Acn) : Blk := if nextB b S view L then nextK b S view L else noBlk
/-- What BlockRight answers. -/
def rightB (b : Blk) (S : List Ent) : Bool := blkB b && storeB S && decide (rootM (serM S b.acts).1 = b.root) && decide (effsSumM (serM S b.acts).2 = b.effs)
theorem blkB_true {b : Blk} (h : blkB b = true) : (0 ≤ b.bef ∧ b.bef ≤ 1000002) ∧ (0 ≤ b.root ∧ b.root ≤ 1000002) ∧ (0 ≤ b.effs ∧ b.effs ≤ 1000002) ∧ (0 ≤ b.hgt ∧ b.hgt ≤ 100) ∧ (0 ≤ b.view ∧ b.view ≤ 1000) ∧ actsB b.acts = true := by
  simp only [blkB, Bool.and_eq_true] at h
  exact ⟨inB_true h.1.1.1.1.1, inB_true h.1.1.1.1.2, inB_true h.1.1.1.2, inB_true h.1.1.2, inB_true h.1.2, h.2⟩
theorem blkB_yes {b : Blk} (h1 : 0 ≤ b.bef ∧ b.bef ≤ 1000002) (h2 : 0 ≤ b.root ∧ b.root ≤ 1000002) (h3 : 0 ≤ b.effs ∧ b.effs ≤ 1000002) (h4 : 0 ≤ b.hgt ∧ b.hgt ≤ 100) (h5 : 0 ≤ b.view ∧ b.view ≤ 1000) (h6 : actsB b.acts = true) : blkB b = true := by
  simp [blkB, inB_yes h1.1 h1.2, inB_yes h2.1 h2.2, inB_yes h3.1 h3.2, inB_yes h4.1 h4.2, inB_yes h5.1 h5.2, h6]
theorem blkTo_zero (b : Blk) : blkTo b 0 = [b.bef, b.hgt, b.view, (b.acts.length : Int)] := by simp [blkTo]
theorem blkTo_next (b : Blk) (k : Nat) (h : k < b.acts.length) : blkTo b k ++ numA (b.acts.getD k noA) = blkTo b (k + 1) := by
  unfold blkTo; rw [takeA_one b.acts k h]; simp
theorem flatNum_len (l : List Acn) : (l.flatMap numA).length = l.length * 4 := by
  induction l with
  | nil => rfl
  | cons a r ih => simp only [List.flatMap_cons, List.length_append, ih, List.length_cons, numA, List.length_nil]; omega
theorem blkTo_len (b : Blk) (k : Nat) (h : k ≤ b.acts.length) : (blkTo b k).length = 4 + k * 4 := by
  unfold blkTo; rw [List.length_append, flatNum_len, List.length_take, Nat.min_eq_left h]; rfl
theorem numA_ok {x : Acn} (h : actB x = true) : ∀ n ∈ numA x, 0 ≤ n ∧ n ≤ 2000000 := by
  have h1 := kind_of h
  have h2 := actB_bd h
  intro n hn
  simp only [numA, List.mem_cons, List.not_mem_nil, or_false] at hn
  rcases hn with rfl | rfl | rfl | rfl <;> omega
theorem blkNums_bd {b : Blk} (h : blkB b = true) : ∀ n ∈ blkNums b, 0 ≤ n ∧ n ≤ 2000000 := by
  obtain ⟨h1, h2, h3, h4, h5, h6⟩ := blkB_true h
  obtain ⟨h7, h8⟩ := actsB_true h6
  intro n hn
  simp only [blkNums, blkTo, List.take_length, List.mem_append, List.mem_cons, List.not_mem_nil, or_false, List.mem_flatMap] at hn
  rcases hn with ((rfl | rfl | rfl | rfl) | ⟨x, hx, hn⟩) | (rfl | rfl)
  · omega
  · omega
  · omega
  · omega
  · exact numA_ok (h8 x hx) n hn
  · omega
  · omega
theorem blkNums_ok {b : Blk} (h : blkB b = true) : (blkNums b).all okSummed = true := by
  rw [List.all_eq_true]
  intro n hn
  have := blkNums_bd h n hn
  simp [okSummed, this.1, this.2]
theorem blkSumM_yes {b : Blk} (h : blkB b = true) : blkSumM b = sumFold (17 + 5) (blkNums b) := by
  unfold blkSumM; rw [if_pos h, sumOfM_yes 5 _ (by decide) (by decide) (blkNums_ok h)]
theorem blkSumM_no {b : Blk} (h : blkB b = false) : blkSumM b = -1 := by simp [blkSumM, h]
theorem blkSumM_nn {b : Blk} (h : blkB b = true) : 0 ≤ blkSumM b ∧ blkSumM b ≤ 1000002 := by
  rw [blkSumM_yes h]; exact sumFold_bd _ _ (by decide) (by decide)
theorem blkSumM_bd (b : Blk) : -1 ≤ blkSumM b ∧ blkSumM b ≤ 1000002 := by
  cases h : blkB b with
  | true => have := blkSumM_nn h; omega
  | false => rw [blkSumM_no h]; omega
theorem effsSumM_bd (L : List Eff) : -1 ≤ effsSumM L ∧ effsSumM L ≤ 1000002 := by
  rcases effsSum_cases L with h | h <;> omega
theorem serM_none {S : List Ent} (h : storeB S = true) : serM S [] = (S, []) := by
  rw [serM_yes h (by rfl)]; rfl
theorem firstM_yes {S : List Ent} (h : storeB S = true) : firstM S = ⟨0, 0, 0, [], rootM S, effsSumM []⟩ := by
  unfold firstM; rw [if_pos h]
  simp only [blkRun, noBlk, serM_none h]
theorem firstM_no {S : List Ent} (h : storeB S = false) : firstM S = noBlk := by simp [firstM, h]
theorem nextM_yes {b : Blk} {S : List Ent} {view : Int} {L : List Acn} (h : nextB b S view L = true) : nextM b S view L = nextK b S view L := by simp [nextM, h]
theorem nextM_no {b : Blk} {S : List Ent} {view : Int} {L : List Acn} (h : nextB b S view L = false) : nextM b S view L = noBlk := by simp [nextM, h]
end Go.Proofs.YtaaffpolmecicaaGreat
