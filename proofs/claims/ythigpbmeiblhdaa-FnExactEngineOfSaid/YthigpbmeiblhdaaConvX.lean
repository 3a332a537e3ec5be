/- Texts of ours that stand together: ConvEff, ToEff, ConvFs, ConvFs2, ConvFs3 -/
import Derived.Test.YthigpbmeiblhdaaEffA
import Derived.Test.YthigpbmeiblhdaaConv
import Derived.Test.YthigpbmeiblhdaaSpecX
import Derived.Test.YthigpbmeiblhdaaConvF
import Derived.Test.YthigpbmeiblhdaaEff
import Derived.StillTailTactics
/- The contracts of the laws' own helpers over effects: sameEffect, eqEffect, szEffect, toEffect, markEffect, heldEffect; hasKey. -/
namespace Go.Proofs.Ythigpbmeiblhdaa
open Go.RowKit
set_option linter.unusedVariables false
theorem eqEffect_same (a : Option Addr) (n c : Nat) (b : Option Addr) (m c2 : Nat) (a' : Option Addr) (c' : Nat) (b' : Option Addr) (c2' : Nat) (x : Eff) (w : World) (h : RowF w a n b m x) (h' : RowF w a' n b' m x) :
    Calls Try.prog 46 #[.agg #[.bool x.done, .slice a n c, .slice b m c2], .agg #[.bool x.done, .slice a' n c', .slice b' m c2']] w fun e w' => e = .returned (.bool true) ∧ Below w.heap.size w w' := by
  obtain ⟨dn, R, W⟩ := x
  have hb0 := ((Below.refl w.heap.size w).alloc (Nat.le_refl _) (.cells #[.bool dn, .slice a n c, .slice b m c2] 69)).alloc (by simp) (.cells #[.bool dn, .slice a' n c', .slice b' m c2'] 69)
  have H := Lib.hid (h.below hb0)
  have H' := Lib.hid (h'.below hb0)
  have HB := Lib.hid hb0
  have hdd : (dn != dn) = false := by simp
  clear h h' hb0
  go_enter Try.func46, Try.ntmps46
  go_wp2_with fail
  refine (eqEntryS_same a a' n c c' R _ H.out.1 H'.out.1).mono ?_; rintro e w1 ⟨rfl, hb1⟩
  have H1 := Lib.hid (H.out.below hb1)
  have H1' := Lib.hid (H'.out.below hb1)
  have c1 : w1.cell? ⟨w.heap.size, 2, none⟩ = some (.slice b m c2) := (hb1.cell (p := ⟨w.heap.size, 2, none⟩) (by simp; omega)).trans (by simp [go_sem])
  have c3 : w1.cell? ⟨w.heap.size + 1, 2, none⟩ = some (.slice b' m c2') := (hb1.cell (p := ⟨w.heap.size + 1, 2, none⟩) (by simp)).trans (by simp [go_sem])
  have HB1 := Lib.hid (HB.out.trans (hb1.mono HB.out.size))
  clear hb1
  go_wp2_with fail
  refine (eqEntryS_same b b' m c2 c2' W _ H1.out.2 H1'.out.2).mono ?_; rintro e w2 ⟨rfl, hb2⟩
  go_wp2
  go_ret
  exact ⟨rfl, HB1.out.trans (hb2.mono HB1.out.size)⟩
theorem owns_alE {w : World} {B : Nat} {e : TypeId} {size n : Nat} {v : Value} {xs : List Value} (h : w.ownsRow B e size v n xs) (o : Obj) : (w.alloc o).ownsRow B e size v n xs := h.alloc o
/-- The pairs of an effect are marked from k on. -/
def marksF (k : Int) (x : Eff) : Eff := ⟨x.done, marksE k x.rds.length, marksE (k + 2 * x.rds.length) x.wrs.length⟩
/-- All blocks but those of two rows are as they were. -/
def Two (v u : Value) (w w' : World) : Prop := w.heap.size ≤ w'.heap.size ∧ ∀ p, p < w.heap.size → v.ownBlock ≠ some p → u.ownBlock ≠ some p → w'.heap[p]? = w.heap[p]?
theorem Two.row {v u : Value} {w w' : World} {a : Option Addr} {n : Nat} {l : List Ent} (h : Two v u w w') (hr : RowE w a n l) (hv : ∀ b o, a = some ⟨b, o, none⟩ → v.ownBlock ≠ some b) (hu : ∀ b o, a = some ⟨b, o, none⟩ → u.ownBlock ≠ some b) : RowE w' a n l := by
  obtain ⟨h1, h2, h3, h4⟩ := hr
  refine ⟨h1, h2, fun hl => ?_, h4⟩
  obtain ⟨b, off, he, hc⟩ := h3 hl
  have hlt : b < w.heap.size := World.block_lt_of_cell? w ⟨b, off + 0 * 2, none⟩ (hc 0 hl).1
  have hb := h.2 b hlt (hv b off he) (hu b off he)
  exact ⟨b, off, he, fun i hi => ⟨(World.cell?_of_block hb).trans (hc i hi).1, (World.cell?_of_block hb).trans (hc i hi).2⟩⟩
/-- What markEffect leaves. -/
def MarkedF (w : World) (B : Nat) (v u : Value) (x : Eff) (k : Int) (e : Ending) (w' : World) : Prop :=
  e = .returned (.int .i64 (k + 2 * x.rds.length + 2 * x.wrs.length)) ∧ w'.ownsRow B 45 2 v x.rds.length (flatE (marksE k x.rds.length)) ∧
    w'.ownsRow B 45 2 u x.wrs.length (flatE (marksE (k + 2 * x.rds.length) x.wrs.length)) ∧ Two v u w w' ∧ Below B w w'
end Go.Proofs.Ythigpbmeiblhdaa
/- The contract of the laws' helper toEffect: a copy of an effect. -/
namespace Go.Proofs.Ythigpbmeiblhdaa
open Go.RowKit
set_option linter.unusedVariables false
end Go.Proofs.Ythigpbmeiblhdaa
/- The contracts of the laws' own helpers over lists of effects: weights, copies, comparisons. -/
namespace Go.Proofs.Ythigpbmeiblhdaa
open Go.RowKit
set_option linter.unusedVariables false
theorem infoEffC : (Try.prog.info? 69).map (fun i => (i.zero, i.size, i.bytes)) = some (some (.agg #[.bool false, .slice none 0 0, .slice none 0 0]), 3, 56) := by kernel_rfl
/-- How many pairs all effects have. -/
def sumX : List Eff → Nat
  | [] => 0
  | x :: r => x.rds.length + x.wrs.length + sumX r
theorem sumX_append (l m : List Eff) : sumX (l ++ m) = sumX l + sumX m := by
  induction l with
  | nil => simp [sumX]
  | cons a r ih => simp only [List.cons_append, sumX, ih]; omega
theorem sumX_next (L : List Eff) (k : Nat) (h : k < L.length) : sumX (L.take (k + 1)) = sumX (L.take k) + (L.getD k noEff).rds.length + (L.getD k noEff).wrs.length := by
  rw [takeF_one L k h, sumX_append]; simp [sumX]; omega
theorem sumX_take (L : List Eff) (k : Nat) : sumX (L.take k) ≤ sumX L := by
  have h := sumX_append (L.take k) (L.drop k)
  rw [List.take_append_drop] at h; omega
theorem sumX_len (L : List Eff) (k : Nat) (h : k < L.length) : (L.getD k noEff).rds.length + (L.getD k noEff).wrs.length ≤ sumX L := by
  have := sumX_next L k h; have := sumX_take L (k + 1); omega
/-- How much all effects weigh. -/
def wtX (L : List Eff) : Nat := L.length + sumX L
/-- What is left when all effects are weighed, or -1. -/
def szX (L : List Eff) (left : Int) : Int := if (wtX L : Int) ≤ left then left - wtX L else -1
theorem szX_yes {L : List Eff} {left : Int} (h : (wtX L : Int) ≤ left) : szX L left = left - wtX L := by unfold szX; rw [if_pos h]
theorem szX_no {L : List Eff} {left : Int} (h : left < (wtX L : Int)) : szX L left = -1 := by unfold szX; rw [if_neg (by omega)]
end Go.Proofs.Ythigpbmeiblhdaa
/- The contracts of the laws' own helpers over lists of effects: marks. -/
namespace Go.Proofs.Ythigpbmeiblhdaa
open Go.RowKit
set_option linter.unusedVariables false
/-- The mark of a bool. -/
def mk3 (k : Int) : Bool := (k % 3 == 0)
/-- The marks from k on. -/
def marksX : Int → List Eff → List Eff
  | _, [] => []
  | k, x :: r => ⟨mk3 k, marksE (k + 1) x.rds.length, marksE (k + 1 + 2 * x.rds.length) x.wrs.length⟩ :: marksX (k + 1 + 2 * (x.rds.length + x.wrs.length : Nat)) r
/-- How many marks there are ahead of the j-th effect. -/
def offX (L : List Eff) (j : Nat) : Nat := j + 2 * sumX (L.take j)
theorem marksX_append (k : Int) (l m : List Eff) : marksX k (l ++ m) = marksX k l ++ marksX (k + (l.length + 2 * sumX l : Nat)) m := by
  induction l generalizing k with
  | nil => simp [marksX, sumX]
  | cons a r ih =>
    simp only [List.cons_append, marksX, ih, sumX, List.length_cons]
    congr 3; omega
theorem marksX_len (k : Int) (L : List Eff) : (marksX k L).length = L.length := by
  induction L generalizing k with
  | nil => rfl
  | cons a r ih => simp [marksX, ih]
/-- The marks of one effect. -/
def markOf (k : Int) (x : Eff) : Eff := ⟨mk3 k, marksE (k + 1) x.rds.length, marksE (k + 1 + 2 * x.rds.length) x.wrs.length⟩
theorem marksX_next (k : Int) (L : List Eff) (j : Nat) (h : j < L.length) : marksX k (L.take (j + 1)) = marksX k (L.take j) ++ [markOf (k + offX L j) (L.getD j noEff)] := by
  rw [takeF_one L j h, marksX_append]
  have e : (L.take j).length = j := by rw [List.length_take]; omega
  rw [e]; rfl
theorem offX_next (L : List Eff) (j : Nat) (h : j < L.length) : offX L (j + 1) = offX L j + 1 + 2 * ((L.getD j noEff).rds.length + (L.getD j noEff).wrs.length) := by
  unfold offX; rw [sumX_next L j h]; omega
theorem marksX_get (k : Int) (L : List Eff) (j : Nat) (h : j < L.length) : (marksX k L).getD j noEff = markOf (k + offX L j) (L.getD j noEff) := by
  have e : (marksX k (L.take j)).length = j := by rw [marksX_len, List.length_take]; omega
  have hs := marksX_append k (L.take (j + 1)) (L.drop (j + 1))
  rw [List.take_append_drop, marksX_next k L j h] at hs
  rw [hs, List.getD_eq_getElem?_getD, List.append_assoc, List.getElem?_append_right (by rw [e]; exact Nat.le_refl _), e, Nat.sub_self]
  rfl
/-- Marked up to j, then as before. -/
def markXTo (k : Int) (L : List Eff) (j : Nat) : List Eff := marksX k (L.take j) ++ L.drop j
theorem markXTo_len (k : Int) (L : List Eff) (j : Nat) (h : j ≤ L.length) : (markXTo k L j).length = L.length := by
  simp [markXTo, marksX_len]; omega
theorem markXTo_zero (k : Int) (L : List Eff) : markXTo k L 0 = L := by simp [markXTo, marksX]
theorem markXTo_all (k : Int) (L : List Eff) : markXTo k L L.length = marksX k L := by simp [markXTo]
theorem markXTo_get (k : Int) (L : List Eff) (j : Nat) (h : j < L.length) : (markXTo k L j).getD j noEff = L.getD j noEff := by
  have e : (marksX k (L.take j)).length = j := by rw [marksX_len, List.length_take]; omega
  unfold markXTo
  rw [List.getD_eq_getElem?_getD, List.getElem?_append_right (by rw [e]; exact Nat.le_refl _), e, Nat.sub_self, List.getElem?_drop, Nat.add_zero, List.getD_eq_getElem?_getD]
theorem markXTo_set (k : Int) (L : List Eff) (j : Nat) (h : j < L.length) : (markXTo k L j).set j (markOf (k + offX L j) (L.getD j noEff)) = markXTo k L (j + 1) := by
  have e : (marksX k (L.take j)).length = j := by rw [marksX_len, List.length_take]; omega
  unfold markXTo
  rw [marksX_next k L j h, List.set_append_right _ _ (by rw [e]; exact Nat.le_refl _), e, Nat.sub_self, List.drop_eq_getElem_cons h, List.set_cons_zero, List.append_assoc]
  rfl
theorem getD_setX (L : List Eff) (j : Nat) (x : Eff) (h : j < L.length) : (L.set j x).getD j noEff = x := by
  rw [List.getD_eq_getElem?_getD, List.getElem?_set, if_pos rfl, if_pos h]; rfl
theorem set_twiceX (L : List Eff) (j : Nat) (x y : Eff) : (L.set j x).set j y = L.set j y := by simp
/-- All effects are marked. -/
def MarkedX (w : World) (B T : Nat) (v : Value) (k : Int) (L : List Eff) (e : Ending) (w' : World) : Prop :=
  e = .returned (.int .i64 (k + offX L L.length)) ∧ OwnFs w' B T 69 45 v (marksX k L) ∧ Turn B T w w'
theorem tmod3 {k : Int} (h : 0 ≤ k) : k.tmod 3 = k % 3 := Int.tmod_eq_emod_of_nonneg h
end Go.Proofs.Ythigpbmeiblhdaa
/- The contract of markEffectS, block by block: only the blocks of the effects turn. -/
namespace Go.Proofs.Ythigpbmeiblhdaa
open Go.RowKit
set_option linter.unusedVariables false
/-- Of the blocks that were there, only those of Q have turned. -/
structure TurnQ (Q : Nat → Prop) (w w' : World) : Prop where
  os : w'.os = w.os
  tape : w'.tape = w.tape
  output : w'.output = w.output
  size : w.heap.size ≤ w'.heap.size
  block : ∀ k, k < w.heap.size → ¬ Q k → w'.heap[k]? = w.heap[k]?
theorem TurnQ.refl (Q : Nat → Prop) (w : World) : TurnQ Q w w := ⟨rfl, rfl, rfl, Nat.le_refl _, fun _ _ _ => rfl⟩
theorem TurnQ.trans {Q : Nat → Prop} {a b c : World} (h : TurnQ Q a b) (k : TurnQ Q b c) : TurnQ Q a c :=
  ⟨k.os.trans h.os, k.tape.trans h.tape, k.output.trans h.output, Nat.le_trans h.size k.size, fun i hi hr => (k.block i (Nat.lt_of_lt_of_le hi h.size) hr).trans (h.block i hi hr)⟩
theorem TurnQ.ofGrown {Q : Nat → Prop} {w w' : World} {row : Option Nat} (hg : w.grownBy w' row) (h : ∀ k, row = some k → Q k) : TurnQ Q w w' :=
  ⟨hg.os, hg.tape, hg.output, hg.size, fun k hk hr => hg.block k hk (fun e => hr (h k e.symm))⟩
theorem TurnQ.setCell {Q : Nat → Prop} {a w : World} (h : TurnQ Q a w) {g : Nat} (hg : Q g) (o : Nat) (v : Value) : TurnQ Q a (w.setCell ⟨g, o, none⟩ v) :=
  h.trans (TurnQ.ofGrown (set_grown w g o v) (fun k hk => by cases hk; exact hg))
/-- v owns the effects L, and all of its blocks are of Q. -/
def OwnFQ (w : World) (B T : Nat) (Q : Nat → Prop) (eX eE : TypeId) (v : Value) (L : List Eff) : Prop :=
  L.length ≤ 4000000 ∧ ∃ xs, Own2 w B T eX 3 v L.length (L.flatMap (effC eE)) xs ∧ ∀ x ∈ v :: xs, ∀ p, blk x = some p → Q p
theorem OwnFQ.fs {w : World} {B T : Nat} {Q : Nat → Prop} {eX eE : TypeId} {v : Value} {L : List Eff} (h : OwnFQ w B T Q eX eE v L) : OwnFs w B T eX eE v L := by
  obtain ⟨h0, xs, h1, -⟩ := h; exact ⟨h0, xs, h1⟩
theorem OwnFQ.top {w : World} {B T g n cap : Nat} {Q : Nat → Prop} {eX eE : TypeId} {L : List Eff} (h : OwnFQ w B T Q eX eE (.slice (some ⟨g, 0, none⟩) n cap) L) : Q g := by
  obtain ⟨-, xs, -, h2⟩ := h; exact h2 _ List.mem_cons_self g rfl
/-- Blocks outside of Q may turn. -/
theorem OwnFQ.keep {w w' : World} {B T : Nat} {Q : Nat → Prop} {eX eE : TypeId} {v : Value} {L : List Eff} (h : OwnFQ w B T Q eX eE v L) (hk : ∀ p, p < w.heap.size → Q p → w'.heap[p]? = w.heap[p]?) : OwnFQ w' B T Q eX eE v L := by
  obtain ⟨h0, xs, h1, h2⟩ := h
  have hlt := h1.blk_lt
  obtain ⟨g1, g2, g3, g4, g5⟩ := h1
  refine ⟨h0, xs, ⟨owns_keep g1 (fun b hb => hk b (hlt v List.mem_cons_self b hb).2.2 (h2 v List.mem_cons_self b hb)), g2, g3, fun i c x hc hx => ?_, g5⟩, h2⟩
  have hm := List.mem_cons_of_mem v (List.mem_of_getElem? hx)
  exact ⟨c.keep (g4 i c x hc hx).1 (fun b hb => hk b (hlt x hm b hb).2.2 (h2 x hm b hb)), (g4 i c x hc hx).2⟩
theorem OwnFQ.setBool {w : World} {B T g n cap : Nat} {Q : Nat → Prop} {L : List Eff} {eX eE : TypeId} (h : OwnFQ w B T Q eX eE (.slice (some ⟨g, 0, none⟩) n cap) L) (j : Nat) (hj : j < L.length) (d : Bool) :
    OwnFQ (w.setCell ⟨g, j * 3, none⟩ (.bool d)) B T Q eX eE (.slice (some ⟨g, 0, none⟩) n cap) (L.set j ⟨d, (L.getD j noEff).rds, (L.getD j noEff).wrs⟩) := by
  have hn : n = L.length := (h.fs.cell j hj).1
  subst hn
  obtain ⟨h0, xs, h1, hq⟩ := h
  have h2 := h1.set (T' := T) (j * 3) (.bool d) (.bool d) rfl (fun b hb => by cases hb) (by simp [blk]) (fun i x _ _ p _ hp => by cases hp) (Nat.le_refl _)
  have h3 := flatMap_set (effC eE) 3 (effC_len _) L j 0 (L.getD j noEff) ⟨d, (L.getD j noEff).rds, (L.getD j noEff).wrs⟩ (.bool d) (getD_some L j noEff hj) (by omega) rfl
  rw [Nat.add_zero] at h3
  rw [← h3] at h2
  refine ⟨by rw [List.length_set]; exact h0, xs.set (j * 3) (.bool d), by rw [List.length_set]; exact h2, fun x hx p hp => ?_⟩
  rcases List.mem_cons.1 hx with rfl | hx
  · exact hq _ List.mem_cons_self p hp
  · rcases mem_set_cases hx with rfl | ⟨i, -, hi⟩
    · cases hp
    · exact hq x (List.mem_cons_of_mem _ (List.mem_of_getElem? hi)) p hp
theorem OwnFQ.rdsAt {w : World} {B T g n cap : Nat} {Q : Nat → Prop} {L : List Eff} {eX eE : TypeId} (h : OwnFQ w B T Q eX eE (.slice (some ⟨g, 0, none⟩) n cap) L) (j : Nat) (hj : j < L.length) :
    ∃ x, w.cell? ⟨g, j * 3 + 1, none⟩ = some x ∧ w.ownsRow 0 eE 2 x (L.getD j noEff).rds.length (flatE (L.getD j noEff).rds) ∧ (∀ b, x.ownBlock = some b → Q b) ∧ x.ownBlock ≠ some g ∧
      ∀ w' l, w'.ownsRow 0 eE 2 x l.length (flatE l) → WfE l → l.length ≤ 4000000 → w.grownBy w' x.ownBlock → OwnFQ w' B T Q eX eE (.slice (some ⟨g, 0, none⟩) n cap) (L.set j ⟨(L.getD j noEff).done, l, (L.getD j noEff).wrs⟩) := by
  have hn : n = L.length := (h.fs.cell j hj).1
  subst hn
  obtain ⟨h0, xs, h1, hq⟩ := h
  obtain ⟨x, hx, hcx, hox, hbx⟩ := h1.at (effC_get eE L j hj).2.1
  have hbe := owns_blk hox.1
  refine ⟨x, hcx, hox.1, fun b hb => hq x (List.mem_cons_of_mem _ (List.mem_of_getElem? hx)) b (by rw [hbe]; exact hb), fun e => ?_, fun w' l hl hw hll hg => ?_⟩
  · exact (apart_cons.1 h1.2.2.2.2).1 x (List.mem_of_getElem? hx) g rfl (by rw [hbe]; exact e)
  · have h2 := h1.inner (j * 3 + 1) (.ents eE l) hx hg (fun p hp => by rw [hbe]; exact hp) ⟨hl, hw, hll⟩
    rw [← flatMap_set (effC eE) 3 (effC_len _) L j 1 (L.getD j noEff) ⟨(L.getD j noEff).done, l, (L.getD j noEff).wrs⟩ _ (getD_some L j noEff hj) (by omega) rfl] at h2
    exact ⟨by rw [List.length_set]; exact h0, xs, by rw [List.length_set]; exact h2, hq⟩
theorem OwnFQ.wrsAt {w : World} {B T g n cap : Nat} {Q : Nat → Prop} {L : List Eff} {eX eE : TypeId} (h : OwnFQ w B T Q eX eE (.slice (some ⟨g, 0, none⟩) n cap) L) (j : Nat) (hj : j < L.length) :
    ∃ x, w.cell? ⟨g, j * 3 + 2, none⟩ = some x ∧ w.ownsRow 0 eE 2 x (L.getD j noEff).wrs.length (flatE (L.getD j noEff).wrs) ∧ (∀ b, x.ownBlock = some b → Q b) ∧ x.ownBlock ≠ some g ∧
      ∀ w' l, w'.ownsRow 0 eE 2 x l.length (flatE l) → WfE l → l.length ≤ 4000000 → w.grownBy w' x.ownBlock → OwnFQ w' B T Q eX eE (.slice (some ⟨g, 0, none⟩) n cap) (L.set j ⟨(L.getD j noEff).done, (L.getD j noEff).rds, l⟩) := by
  have hn : n = L.length := (h.fs.cell j hj).1
  subst hn
  obtain ⟨h0, xs, h1, hq⟩ := h
  obtain ⟨x, hx, hcx, hox, hbx⟩ := h1.at (effC_get eE L j hj).2.2
  have hbe := owns_blk hox.1
  refine ⟨x, hcx, hox.1, fun b hb => hq x (List.mem_cons_of_mem _ (List.mem_of_getElem? hx)) b (by rw [hbe]; exact hb), fun e => ?_, fun w' l hl hw hll hg => ?_⟩
  · exact (apart_cons.1 h1.2.2.2.2).1 x (List.mem_of_getElem? hx) g rfl (by rw [hbe]; exact e)
  · have h2 := h1.inner (j * 3 + 2) (.ents eE l) hx hg (fun p hp => by rw [hbe]; exact hp) ⟨hl, hw, hll⟩
    rw [← flatMap_set (effC eE) 3 (effC_len _) L j 2 (L.getD j noEff) ⟨(L.getD j noEff).done, (L.getD j noEff).rds, l⟩ _ (getD_some L j noEff hj) (by omega) rfl] at h2
    exact ⟨by rw [List.length_set]; exact h0, xs, by rw [List.length_set]; exact h2, hq⟩
/-- A store and effects: the effects' blocks are none of the store's. -/
theorem OwnSF.apartQ {w : World} {B T : Nat} {eX eE : TypeId} {v u : Value} {S : List Ent} {L : List Eff} (h : OwnSF w B T eX eE v u S L) : OwnFQ w B T (fun p => v.ownBlock ≠ some p ∧ B ≤ p ∧ p < T) eX eE u L := by
  obtain ⟨h1, h2, h3, h4, xs, h5, h6⟩ := h
  exact ⟨h4, xs, h5, fun x hx p hp => ⟨fun e => h6 x hx p e hp, (h5.blk_lt x hx p hp).1, (h5.blk_lt x hx p hp).2.1⟩⟩
/-- All effects are marked, and only blocks of Q have turned. -/
def MarkedQ (w : World) (B T : Nat) (Q : Nat → Prop) (v : Value) (k : Int) (L : List Eff) (e : Ending) (w' : World) : Prop :=
  e = .returned (.int .i64 (k + offX L L.length)) ∧ OwnFQ w' B T Q 69 45 v (marksX k L) ∧ TurnQ Q w w'
end Go.Proofs.Ythigpbmeiblhdaa
