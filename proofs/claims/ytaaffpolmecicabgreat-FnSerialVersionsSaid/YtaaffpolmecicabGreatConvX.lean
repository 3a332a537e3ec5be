/- Texts of ours that stand together: ConvL, ConvL2, ConvL3, ConvEff, ToEff, ConvFs, ConvFs2, ConvFs3 -/
import Derived.Test.YtaaffpolmecicabGreatConv
import Derived.Test.YtaaffpolmecicabGreatLayP
import Derived.Test.YtaaffpolmecicabGreatEffA
import Derived.Test.YtaaffpolmecicabGreatSpecX
import Derived.Test.YtaaffpolmecicabGreatEff
import Derived.StillTailTactics
/- The contracts of the laws' own helpers over layers. -/
namespace Go.Proofs.YtaaffpolmecicabGreat
open Go.RowKit
set_option linter.unusedVariables false
/-- How many entries all layers have. -/
def sumW : List Lay → Nat
  | [] => 0
  | x :: r => x.2.length + sumW r
theorem sumW_append (l m : List Lay) : sumW (l ++ m) = sumW l + sumW m := by
  induction l with
  | nil => simp [sumW]
  | cons a r ih => simp only [List.cons_append, sumW, ih]; omega
theorem takeL_one (L : List Lay) (k : Nat) (h : k < L.length) : L.take (k + 1) = L.take k ++ [L.getD k (0, [])] := by
  rw [List.take_succ_eq_append_getElem h, List.getD_eq_getElem?_getD, List.getElem?_eq_getElem h]; rfl
theorem sumW_next (L : List Lay) (k : Nat) (h : k < L.length) : sumW (L.take (k + 1)) = sumW (L.take k) + (L.getD k (0, [])).2.length := by
  rw [takeL_one L k h, sumW_append]; simp [sumW]
theorem sumW_take (L : List Lay) (k : Nat) : sumW (L.take k) ≤ sumW L := by
  have h := sumW_append (L.take k) (L.drop k)
  rw [List.take_append_drop] at h; omega
theorem sumW_len (L : List Lay) (k : Nat) (h : k < L.length) : (L.getD k (0, [])).2.length ≤ sumW L := by
  have := sumW_next L k h; have := sumW_take L (k + 1); omega
/-- How much all layers weigh. -/
def wtL (L : List Lay) : Nat := L.length + sumW L
/-- What is left when all layers are weighed, or -1. -/
def szM (L : List Lay) (left : Int) : Int := if (wtL L : Int) ≤ left then left - wtL L else -1
theorem szM_yes {L : List Lay} {left : Int} (h : (wtL L : Int) ≤ left) : szM L left = left - wtL L := by unfold szM; rw [if_pos h]
theorem szM_no {L : List Lay} {left : Int} (h : left < (wtL L : Int)) : szM L left = -1 := by unfold szM; rw [if_neg (by omega)]
/-- An int, and nothing old has turned. -/
def IntW (n : Int) (w : World) (e : Ending) (w' : World) : Prop := e = .returned (.int .i64 n) ∧ Below w.heap.size w w'
end Go.Proofs.YtaaffpolmecicabGreat
/- The contracts of the laws' own helpers over layers: copies, comparisons. -/
namespace Go.Proofs.YtaaffpolmecicabGreat
open Go.RowKit
set_option linter.unusedVariables false
/-- A layer, its writes in new memory. -/
def GotLay (y : Int) (l : List Ent) (w : World) (e : Ending) (w' : World) : Prop :=
  ∃ g c, e = .returned (.agg #[.int .i64 y, .slice (some ⟨g, 0, none⟩) l.length c]) ∧ w'.ownsRow w.heap.size 43 2 (.slice (some ⟨g, 0, none⟩) l.length c) l.length (flatE l) ∧ WfE l ∧ Below w.heap.size w w'
end Go.Proofs.YtaaffpolmecicabGreat
/- The contracts of the laws' own helpers over layers: marks; sameLayers. -/
namespace Go.Proofs.YtaaffpolmecicabGreat
open Go.RowKit
set_option linter.unusedVariables false
/-- The marks from k on. -/
def marksL : Int → List Lay → List Lay
  | _, [] => []
  | k, x :: r => (k, marksE (k + 1) x.2.length) :: marksL (k + 1 + 2 * x.2.length) r
/-- How many marks there are ahead of the j-th layer. -/
def offL (L : List Lay) (j : Nat) : Nat := j + 2 * sumW (L.take j)
theorem marksL_append (k : Int) (l m : List Lay) : marksL k (l ++ m) = marksL k l ++ marksL (k + (l.length + 2 * sumW l : Nat)) m := by
  induction l generalizing k with
  | nil => simp [marksL, sumW]
  | cons a r ih =>
    simp only [List.cons_append, marksL, ih, sumW, List.length_cons]
    congr 3; omega
theorem marksL_len (k : Int) (L : List Lay) : (marksL k L).length = L.length := by
  induction L generalizing k with
  | nil => rfl
  | cons a r ih => simp [marksL, ih]
theorem marksL_next (k : Int) (L : List Lay) (j : Nat) (h : j < L.length) : marksL k (L.take (j + 1)) = marksL k (L.take j) ++ [(k + offL L j, marksE (k + offL L j + 1) (L.getD j (0, [])).2.length)] := by
  rw [takeL_one L j h, marksL_append]
  have e : (L.take j).length = j := by rw [List.length_take]; omega
  rw [e]; rfl
theorem offL_next (L : List Lay) (j : Nat) (h : j < L.length) : offL L (j + 1) = offL L j + 1 + 2 * (L.getD j (0, [])).2.length := by
  unfold offL; rw [sumW_next L j h]; omega
theorem marksL_get (k : Int) (L : List Lay) (j : Nat) (h : j < L.length) : (marksL k L).getD j (0, []) = (k + offL L j, marksE (k + offL L j + 1) (L.getD j (0, [])).2.length) := by
  have e : (marksL k (L.take j)).length = j := by rw [marksL_len, List.length_take]; omega
  have hs := marksL_append k (L.take (j + 1)) (L.drop (j + 1))
  rw [List.take_append_drop, marksL_next k L j h] at hs
  rw [hs, List.getD_eq_getElem?_getD, List.append_assoc, List.getElem?_append_right (by rw [e]; exact Nat.le_refl _), e, Nat.sub_self]
  rfl
/-- Marked up to j, then as before. -/
def markLTo (k : Int) (L : List Lay) (j : Nat) : List Lay := marksL k (L.take j) ++ L.drop j
theorem markLTo_len (k : Int) (L : List Lay) (j : Nat) (h : j ≤ L.length) : (markLTo k L j).length = L.length := by
  simp [markLTo, marksL_len]; omega
theorem markLTo_zero (k : Int) (L : List Lay) : markLTo k L 0 = L := by simp [markLTo, marksL]
theorem markLTo_all (k : Int) (L : List Lay) : markLTo k L L.length = marksL k L := by simp [markLTo]
theorem markLTo_get (k : Int) (L : List Lay) (j : Nat) (h : j < L.length) : (markLTo k L j).getD j (0, []) = L.getD j (0, []) := by
  have e : (marksL k (L.take j)).length = j := by rw [marksL_len, List.length_take]; omega
  unfold markLTo
  rw [List.getD_eq_getElem?_getD, List.getElem?_append_right (by rw [e]; exact Nat.le_refl _), e, Nat.sub_self, List.getElem?_drop, Nat.add_zero, List.getD_eq_getElem?_getD]
theorem markLTo_set (k : Int) (L : List Lay) (j : Nat) (h : j < L.length) : (markLTo k L j).set j (k + offL L j, marksE (k + offL L j + 1) (L.getD j (0, [])).2.length) = markLTo k L (j + 1) := by
  have e : (marksL k (L.take j)).length = j := by rw [marksL_len, List.length_take]; omega
  unfold markLTo
  rw [marksL_next k L j h, List.set_append_right _ _ (by rw [e]; exact Nat.le_refl _), e, Nat.sub_self, List.drop_eq_getElem_cons h, List.set_cons_zero, List.append_assoc]
  rfl
theorem set_twice (L : List Lay) (j : Nat) (x y : Lay) : (L.set j x).set j y = L.set j y := by simp
end Go.Proofs.YtaaffpolmecicabGreat
/- The contracts of the laws' own helpers over effects: sameEffect, eqEffect, szEffect, toEffect, markEffect, heldEffect; hasKey. -/
namespace Go.Proofs.YtaaffpolmecicabGreat
open Go.RowKit
set_option linter.unusedVariables false
theorem sameEffect_same (a : Option Addr) (n c : Nat) (b : Option Addr) (m c2 : Nat) (a' : Option Addr) (c' : Nat) (b' : Option Addr) (c2' : Nat) (x : Eff) (w : World) (h : RowF w a n b m x) (h' : RowF w a' n b' m x) :
    Calls Tryz.prog 70 #[.agg #[.bool x.done, .slice a n c, .slice b m c2], .agg #[.bool x.done, .slice a' n c', .slice b' m c2']] w fun e w' => e = .returned (.bool true) ∧ Below w.heap.size w w' := by
  obtain ⟨dn, R, W⟩ := x
  have hb0 := ((Below.refl w.heap.size w).alloc (Nat.le_refl _) (.cells #[.bool dn, .slice a n c, .slice b m c2] 39)).alloc (by simp) (.cells #[.bool dn, .slice a' n c', .slice b' m c2'] 39)
  have H := Lib.hid (h.below hb0)
  have H' := Lib.hid (h'.below hb0)
  have HB := Lib.hid hb0
  have hdd : (dn == dn) = true := by simp
  clear h h' hb0
  go_enter Tryz.func70, Tryz.ntmps70
  go_wp2_with fail
  refine (sameStore_same a a' n c c' R _ H.out.1 H'.out.1).mono ?_; rintro e w1 ⟨rfl, hd1⟩
  have H1 := Lib.hid (H.out.below (hd1.below _))
  have H1' := Lib.hid (H'.out.below (hd1.below _))
  have c1 : w1.cell? ⟨w.heap.size, 2, none⟩ = some (.slice b m c2) := (hd1.cell _).trans (by simp [go_sem])
  have c3 : w1.cell? ⟨w.heap.size + 1, 2, none⟩ = some (.slice b' m c2') := (hd1.cell _).trans (by simp [go_sem])
  have HB1 := Lib.hid (HB.out.trans (hd1.below w.heap.size))
  clear hd1
  go_wp2_with fail
  refine (sameStore_same b b' m c2 c2' W _ H1.out.2 H1'.out.2).mono ?_; rintro e w2 ⟨rfl, hd2⟩
  go_wp2
  go_ret
  exact ⟨rfl, HB1.out.trans (hd2.below _)⟩
theorem eqEffect_same (a : Option Addr) (n c : Nat) (b : Option Addr) (m c2 : Nat) (a' : Option Addr) (c' : Nat) (b' : Option Addr) (c2' : Nat) (x : Eff) (w : World) (h : RowF w a n b m x) (h' : RowF w a' n b' m x) :
    Calls Tryz.prog 96 #[.agg #[.bool x.done, .slice a n c, .slice b m c2], .agg #[.bool x.done, .slice a' n c', .slice b' m c2']] w fun e w' => e = .returned (.bool true) ∧ Below w.heap.size w w' := by
  obtain ⟨dn, R, W⟩ := x
  have hb0 := ((Below.refl w.heap.size w).alloc (Nat.le_refl _) (.cells #[.bool dn, .slice a n c, .slice b m c2] 39)).alloc (by simp) (.cells #[.bool dn, .slice a' n c', .slice b' m c2'] 39)
  have H := Lib.hid (h.below hb0)
  have H' := Lib.hid (h'.below hb0)
  have HB := Lib.hid hb0
  have hdd : (dn != dn) = false := by simp
  clear h h' hb0
  go_enter Tryz.func96, Tryz.ntmps96
  go_wp2_with fail
  refine (eqEntryS_same a a' n c c' R _ H.out.1 H'.out.1).mono ?_; rintro e w1 ⟨rfl, hb1⟩
  have H1 := Lib.hid (H.out.below hb1)
  have H1' := Lib.hid (H'.out.below hb1)
  have c1 : w1.cell? ⟨w.heap.size, 2, none⟩ = some (.slice b m c2) := (hb1.cell (p := ⟨w.heap.size, 2, none⟩) (by simp; omega)).trans (by simp [go_sem])
  have c3 : w1.cell? ⟨w.heap.size + 1, 2, none⟩ = some (.slice b' m c2') := (hb1.cell (p := ⟨w.heap.size + 1, 2, none⟩) (by simp)).trans (by simp [go_sem])
  have HB1 := Lib.hid (HB.out.trans (hb1.mono HB.out.size))
  clear hb1
  go_wp2_with fail
  refine (eqEntryS_same b b' m c2 c2' W _ H1.out.2 H1'.out.2).mono ?_; rintro e w2 ⟨rfl, hb2⟩
  go_wp2
  go_ret
  exact ⟨rfl, HB1.out.trans (hb2.mono HB1.out.size)⟩
theorem szEffect_any (b : Bool) (a : Option Addr) (n c : Nat) (a2 : Option Addr) (n2 c2 : Nat) (left : Int) (w : World) (h0 : 0 ≤ left) (h1 : left ≤ 1048576) (hn : n ≤ maxLen) (hn2 : n2 ≤ maxLen) :
    Calls Tryz.prog 179 #[.agg #[.bool b, .slice a n c, .slice a2 n2 c2], .int .i64 left] w fun e w' => e = .returned (.int .i64 (if ((n : Int) + n2) ≤ left then left - n - n2 else -1)) ∧ Below w.heap.size w w' := by
  have hb0 := (Below.refl w.heap.size w).alloc (Nat.le_refl _) (.cells #[.bool b, .slice a n c, .slice a2 n2 c2] 170)
  have HB := Lib.hid hb0
  have HN2 := Lib.hid hn2
  clear hb0 hn2
  go_enter Tryz.func179, Tryz.ntmps179
  go_wp2_with fail
  refine (szEntryS_any a n c left _ h0 h1 hn).mono ?_; rintro e w' ⟨rfl, rfl⟩
  by_cases h : (n : Int) ≤ left
  · rw [if_pos h]
    have hlt : decide (left - (n : Int) < 0) = false := by simp; omega
    clear hn
    go_wp2_with fail
    refine (szEntryS_any a2 n2 c2 (left - n) _ (by omega) (by omega) HN2.out).mono ?_; rintro e w' ⟨rfl, rfl⟩
    by_cases h2 : (n2 : Int) ≤ left - n
    · rw [if_pos h2]
      have hlt2 : decide (left - (n : Int) - (n2 : Int) < 0) = false := by simp; omega
      go_wp2
      go_ret
      exact ⟨rfl, HB.out⟩
    · rw [if_neg h2]
      go_wp2
      go_ret
      exact ⟨rfl, HB.out⟩
  · rw [if_neg h]
    clear hn
    go_wp2
    go_ret
    exact ⟨rfl, HB.out⟩
theorem owns_alE {w : World} {B : Nat} {e : TypeId} {size n : Nat} {v : Value} {xs : List Value} (h : w.ownsRow B e size v n xs) (o : Obj) : (w.alloc o).ownsRow B e size v n xs := h.alloc o
/-- The pairs of an effect are marked from k on. -/
def marksF (k : Int) (x : Eff) : Eff := ⟨x.done, marksE k x.rds.length, marksE (k + 2 * x.rds.length) x.wrs.length⟩
/-- All blocks but those of two rows are as they were. -/
def Two (v u : Value) (w w' : World) : Prop := w.heap.size ≤ w'.heap.size ∧ ∀ p, p < w.heap.size → v.ownBlock ≠ some p → u.ownBlock ≠ some p → w'.heap[p]? = w.heap[p]?
theorem Two.row {v u : Value} {w w' : World} {a : Option Addr} {n : Nat} {l : List Ent} (h : Two v u w w') (hr : RowE w a n l) (hv : ∀ b o, a = some ⟨b, o, none⟩ → v.ownBlock ≠ some b) (hu : ∀ b o, a = some ⟨b, o, none⟩ → u.ownBlock ≠ some b) : RowE w' a n l := by
  obtain ⟨h1, h2, h3, h4⟩ := hr
  refine ⟨h1, h2, fun hl => ?_, h4⟩
  obtain ⟨b, off, he, hc⟩ := h3 hl
  have hlt : b < w.heap.size := World.block_lt_of_cell? w ⟨b, off + 0 * 2, none⟩ (hc 0 hl).1
  have hb := h.2 b hlt (hv b off he) (hu b off he)
  exact ⟨b, off, he, fun i hi => ⟨(World.cell?_of_block hb).trans (hc i hi).1, (World.cell?_of_block hb).trans (hc i hi).2⟩⟩
/-- What markEffect leaves. -/
def MarkedF (w : World) (B : Nat) (v u : Value) (x : Eff) (k : Int) (e : Ending) (w' : World) : Prop :=
  e = .returned (.int .i64 (k + 2 * x.rds.length + 2 * x.wrs.length)) ∧ w'.ownsRow B 43 2 v x.rds.length (flatE (marksE k x.rds.length)) ∧
    w'.ownsRow B 43 2 u x.wrs.length (flatE (marksE (k + 2 * x.rds.length) x.wrs.length)) ∧ Two v u w w' ∧ Below B w w'
end Go.Proofs.YtaaffpolmecicabGreat
/- The contract of the laws' helper toEffect: a copy of an effect. -/
namespace Go.Proofs.YtaaffpolmecicabGreat
open Go.RowKit
set_option linter.unusedVariables false
set_option maxHeartbeats 1000000 in
theorem toEffect_any (dn : Bool) (a : Option Addr) (n c : Nat) (b : Option Addr) (m c2 : Nat) (R W : List Ent) (w : World) (h : RowF w a n b m ⟨dn, R, W⟩) (hn : n ≤ 1048576) (hm : m ≤ 1048576) :
    Calls Tryz.prog 181 #[.agg #[.bool dn, .slice a n c, .slice b m c2]] w (NewF w 43 ⟨dn, R, W⟩) := by
  have hA0 := eAt_new w 170 dn (.slice a n c) (.slice b m c2)
  have hA1 := (hA0.grown (World.grownBy_alloc _ (.cells #[.bool false, .slice none 0 0, .slice none 0 0] 39) none) (by simp)).grown (World.grownBy_alloc _ (.cells #[.bool dn, .slice none 0 0, .slice none 0 0] 39) none) (by simp)
  have hZ1 := (zAt_new (w.alloc (.cells #[.bool dn, .slice a n c, .slice b m c2] 170)) 39).grown (World.grownBy_alloc _ (.cells #[.bool dn, .slice none 0 0, .slice none 0 0] 39) none) (by simp)
  have hE1 := eAt_new ((w.alloc (.cells #[.bool dn, .slice a n c, .slice b m c2] 170)).alloc (.cells #[.bool false, .slice none 0 0, .slice none 0 0] 39)) 39 dn (.slice none 0 0) (.slice none 0 0)
  have hb1 := (((Below.refl w.heap.size w).alloc (Nat.le_refl _) (.cells #[.bool dn, .slice a n c, .slice b m c2] 170)).alloc (by simp) (.cells #[.bool false, .slice none 0 0, .slice none 0 0] 39)).alloc (by simp; omega) (.cells #[.bool dn, .slice none 0 0, .slice none 0 0] 39)
  rw [World.size_alloc] at hZ1
  rw [World.size_alloc, World.size_alloc] at hE1
  go_enter Tryz.func181, Tryz.ntmps181
  go_wp2_with fail
  obtain ⟨w1, hw1⟩ : ∃ w1, w1 = ((w.alloc (.cells #[.bool dn, .slice a n c, .slice b m c2] 170)).alloc (.cells #[.bool false, .slice none 0 0, .slice none 0 0] 39)).alloc (.cells #[.bool dn, .slice none 0 0, .slice none 0 0] 39) := ⟨_, rfl⟩
  rw [← hw1] at hA1 hZ1 hE1 hb1 ⊢
  clear hw1 hA0
  refine (toEntryS_any a n c R _ (h.1.below hb1) hn).mono ?_; rintro e w2 ⟨v2, rfl, ho2, hwf2, hb2⟩
  obtain ⟨g2, cp2, rfl, hg2, hl2⟩ := ho2.slice
  have hEl := hE1.2.2
  have hb3 := (hb1.trans (hb2.mono hb1.size)).setCell (p := ⟨w.heap.size + 1 + 1, 1, none⟩) (by simp; omega) (.slice (some ⟨g2, 0, none⟩) R.length cp2)
  have hE2 := hE1.below hb2
  have hs2 := set_grown w2 (w.heap.size + 1 + 1) 1 (.slice (some ⟨g2, 0, none⟩) R.length cp2)
  have hA3 := (hA1.below hb2).grown hs2 (by simp; omega)
  have hZ3 := (hZ1.below hb2 (by omega)).grown hs2 (by simp)
  have hE3 := hE2.set1 (.slice (some ⟨g2, 0, none⟩) R.length cp2)
  have o3 := owns_set ho2.1 (show Value.ownBlock (.slice (some ⟨g2, 0, none⟩) R.length cp2) ≠ some (w.heap.size + 1 + 1) from fun e => by have := (ho2.1.lt _ e).1; omega) 1 (.slice (some ⟨g2, 0, none⟩) R.length cp2)
  have H3 := Lib.hid (h.2.below hb3)
  have HB3 := Lib.hid hb3
  have HA3 := Lib.hid hA3
  have HZ3 := Lib.hid hZ3
  have HE3 := Lib.hid hE3
  have HO3 := Lib.hid o3
  obtain ⟨⟨c0, c1, c3⟩, ⟨k0, k1, k2⟩, -⟩ := hE2
  obtain ⟨⟨a0, a1, a2⟩, -⟩ := hA1.below hb2
  clear hA1 hZ1 hE1 hb1 hb2 hb3 hs2 hA3 hZ3 hE3 o3 ho2 h
  go_wp2_with fail
  obtain ⟨w3, hw3⟩ : ∃ w3, w3 = w2.setCell ⟨w.heap.size + 1 + 1, 1, none⟩ (.slice (some ⟨g2, 0, none⟩) R.length cp2) := ⟨_, rfl⟩
  have hs3 : w2.heap.size ≤ w3.heap.size := by rw [hw3]; simp [World.setCell]
  rw [← hw3] at H3 HB3 HA3 HZ3 HE3 HO3 ⊢
  clear hw3 a0 a1 a2 c0 c1 c3 k0 k1 k2
  refine (toEntryS_any b m c2 W _ H3.out hm).mono ?_; rintro e w4 ⟨v4, rfl, ho4, hwf4, hb4⟩
  obtain ⟨g4, cp4, rfl, hg4, hl4⟩ := ho4.slice
  have hE4 := HE3.out.below hb4
  have hZ4 := HZ3.out.below hb4 (by omega)
  have hO4 := owns_below HO3.out hb4
  have hB4 := HB3.out.trans (hb4.mono HB3.out.size)
  have hZE : EAt w4 (w.heap.size + 1) false (.slice none 0 0) (.slice none 0 0) := hZ4
  have hs5 := set_grown w4 (w.heap.size + 1 + 1) 2 (.slice (some ⟨g4, 0, none⟩) W.length cp4)
  have HE := Lib.hid ((((hZE.grown hs5 (by simp)).set0 dn).set1 (.slice (some ⟨g2, 0, none⟩) R.length cp2)).set2 (.slice (some ⟨g4, 0, none⟩) W.length cp4))
  have q2 := owns_set hO4 (show Value.ownBlock (.slice (some ⟨g2, 0, none⟩) R.length cp2) ≠ some (w.heap.size + 1 + 1) from fun e => by simp [Value.ownBlock] at e; omega) 2 (.slice (some ⟨g4, 0, none⟩) W.length cp4)
  have q4 := owns_set ho4.1 (show Value.ownBlock (.slice (some ⟨g4, 0, none⟩) W.length cp4) ≠ some (w.heap.size + 1 + 1) from fun e => by simp [Value.ownBlock] at e; omega) 2 (.slice (some ⟨g4, 0, none⟩) W.length cp4)
  have hF := ownF_mk (x := ⟨dn, R, W⟩) (owns_mono q2 (show w.heap.size + 1 + 2 ≤ w1.heap.size by omega)) (owns_mono q4 (show w.heap.size + 1 + 2 ≤ w3.heap.size by omega)) hwf2 hwf4 (fun p hp hq => by simp [Value.ownBlock] at hp hq; omega)
  have HF := Lib.hid ((ownF_set3 hF (hF.apart (Z := w.heap.size + 1) (by omega)) 0 1 2 (.bool dn) (.slice (some ⟨g2, 0, none⟩) R.length cp2) (.slice (some ⟨g4, 0, none⟩) W.length cp4)).mono (show w.heap.size ≤ _ by omega))
  have HB := Lib.hid (below_set3 (hB4.setCell (p := ⟨w.heap.size + 1 + 1, 2, none⟩) (by simp; omega) (.slice (some ⟨g4, 0, none⟩) W.length cp4)) (show w.heap.size ≤ w.heap.size + 1 by omega) 0 1 2 (.bool dn) (.slice (some ⟨g2, 0, none⟩) R.length cp2) (.slice (some ⟨g4, 0, none⟩) W.length cp4))
  obtain ⟨⟨c0, c1, c3⟩, ⟨k0, k1, k2⟩, -⟩ := hE4
  obtain ⟨⟨z0, z1, z2⟩, ⟨z3, z4, z5⟩, -⟩ := hZ4
  obtain ⟨⟨a0, a1, a2⟩, -⟩ := HA3.out.below hb4
  clear HE3 HZ3 HO3 HB3 HA3 H3 hb4 ho4 hs5 q2 q4 hF hZE hO4 hB4
  go_wp2_with fail
  exact bodyPost_ret (results_eff Tryz.results181 _ (by rfl) HE.out) rfl ⟨_, rfl, HF.out, HB.out⟩
end Go.Proofs.YtaaffpolmecicabGreat
/- The contracts of the laws' own helpers over lists of effects: weights, copies, comparisons. -/
namespace Go.Proofs.YtaaffpolmecicabGreat
open Go.RowKit
set_option linter.unusedVariables false
theorem infoEffC : (Tryz.prog.info? 39).map (fun i => (i.zero, i.size, i.bytes)) = some (some (.agg #[.bool false, .slice none 0 0, .slice none 0 0]), 3, 56) := by kernel_rfl
/-- How many pairs all effects have. -/
def sumX : List Eff → Nat
  | [] => 0
  | x :: r => x.rds.length + x.wrs.length + sumX r
theorem sumX_append (l m : List Eff) : sumX (l ++ m) = sumX l + sumX m := by
  induction l with
  | nil => simp [sumX]
  | cons a r ih => simp only [List.cons_append, sumX, ih]; omega
theorem sumX_next (L : List Eff) (k : Nat) (h : k < L.length) : sumX (L.take (k + 1)) = sumX (L.take k) + (L.getD k noEff).rds.length + (L.getD k noEff).wrs.length := by
  rw [takeF_one L k h, sumX_append]; simp [sumX]; omega
theorem sumX_take (L : List Eff) (k : Nat) : sumX (L.take k) ≤ sumX L := by
  have h := sumX_append (L.take k) (L.drop k)
  rw [List.take_append_drop] at h; omega
theorem sumX_len (L : List Eff) (k : Nat) (h : k < L.length) : (L.getD k noEff).rds.length + (L.getD k noEff).wrs.length ≤ sumX L := by
  have := sumX_next L k h; have := sumX_take L (k + 1); omega
/-- How much all effects weigh. -/
def wtX (L : List Eff) : Nat := L.length + sumX L
/-- What is left when all effects are weighed, or -1. -/
def szX (L : List Eff) (left : Int) : Int := if (wtX L : Int) ≤ left then left - wtX L else -1
theorem szX_yes {L : List Eff} {left : Int} (h : (wtX L : Int) ≤ left) : szX L left = left - wtX L := by unfold szX; rw [if_pos h]
theorem szX_no {L : List Eff} {left : Int} (h : left < (wtX L : Int)) : szX L left = -1 := by unfold szX; rw [if_neg (by omega)]
theorem toEffect_w (x : Eff) (a : Option Addr) (n c : Nat) (b : Option Addr) (m c2 : Nat) (w : World) (h : RowF w a n b m x) (hn : n ≤ 1048576) (hm : m ≤ 1048576) :
    Calls Tryz.prog 181 #[.agg #[.bool x.done, .slice a n c, .slice b m c2]] w (NewF w 43 x) := toEffect_any x.done a n c b m c2 x.rds x.wrs w h hn hm
set_option maxRecDepth 100000 in
set_option maxHeartbeats 1000000 in
theorem eqEffectS_same (a a' : Option Addr) (n cap cap' : Nat) (L : List Eff) (w : World) (h : RowFs w a n L) (h' : RowFs w a' n L) :
    Calls Tryz.prog 30 #[.slice a n cap, .slice a' n cap'] w fun e w' => e = .returned (.bool true) ∧ Below w.heap.size w w' := by
  obtain ⟨hl, hm, hc⟩ := h
  obtain ⟨-, -, hc'⟩ := h'
  unfold maxLen at hm
  have HN := Lib.hid hl; clear hl
  by_cases h0 : 0 < n
  · obtain ⟨b, off, rfl, hcc⟩ := hc h0; clear hc; have hc := hcc; clear hcc
    obtain ⟨b', off', rfl, hcc⟩ := hc' h0; clear hc'; have hc' := hcc; clear hcc
    have hbB : b < w.heap.size := World.block_lt_of_cell? w ⟨b, off + 0 * 3, none⟩ (hc 0 h0).1
    have hbB' : b' < w.heap.size := World.block_lt_of_cell? w ⟨b', off' + 0 * 3, none⟩ (hc' 0 h0).1
    go_enter Tryz.func30, Tryz.ntmps30
    go_wp2
    go_loopw [5] (fun i wr => ∃ k : Nat, k ≤ n ∧ i = .int .i64 k ∧ Below w.heap.size w wr) (fun i _ => n - (intOf i).toNat)
    case atStart => exact ⟨0, Nat.zero_le _, rfl, Below.refl _ _⟩
    case round =>
      obtain ⟨k, hk, rfl, hb⟩ := hrel
      by_cases hlt : k < n
      · obtain ⟨c1, ⟨x, c2, hs⟩, y, c3, hs2⟩ := hc k hlt
        obtain ⟨c1', ⟨x', c2', hs'⟩, y', c3', hs2'⟩ := hc' k hlt
        have hc1 := (hb.cell (p := ⟨b, off + k * 3, none⟩) hbB).trans c1
        have hc2 := (hb.cell (p := ⟨b, off + k * 3 + 1, none⟩) hbB).trans c2
        have hc3 := (hb.cell (p := ⟨b, off + k * 3 + 2, none⟩) hbB).trans c3
        have hd1 := (hb.cell (p := ⟨b', off' + k * 3, none⟩) hbB').trans c1'
        have hd2 := (hb.cell (p := ⟨b', off' + k * 3 + 1, none⟩) hbB').trans c2'
        have hd3 := (hb.cell (p := ⟨b', off' + k * 3 + 2, none⟩) hbB').trans c3'
        obtain ⟨a1, n1, cap1, rfl, hre, -, -⟩ := hs
        obtain ⟨a2, n2, cap2, rfl, hre2, -, -⟩ := hs2
        obtain ⟨a3, n3, cap3, rfl, hre', -, -⟩ := hs'
        obtain ⟨a4, n4, cap4, rfl, hre2', -, -⟩ := hs2'
        obtain rfl : n1 = n3 := by rw [← hre.1, ← hre'.1]
        obtain rfl : n2 = n4 := by rw [← hre2.1, ← hre2'.1]
        have HR1 := Lib.hid (show RowF wr a1 n1 a2 n2 (L.getD k noEff) from ⟨hre.below hb, hre2.below hb⟩)
        have HR2 := Lib.hid (show RowF wr a3 n1 a4 n2 (L.getD k noEff) from ⟨hre'.below hb, hre2'.below hb⟩)
        clear hc hc' c1 c2 c3 c1' c2' c3' hre hre' hre2 hre2'
        obtain ⟨z, hz⟩ : ∃ z, z = L.getD k noEff := ⟨_, rfl⟩
        rw [← hz] at hc1 hd1 HR1 HR2
        clear hz
        go_wp2
        go_still_tail 8, (by kernel_rfl)
        go_wp2_with fail
        refine (eqEffect_same a1 n1 cap1 a2 n2 cap2 a3 cap3 a4 cap4 z _ (show RowF wr.drew _ _ _ _ z from HR1.out) (show RowF wr.drew _ _ _ _ z from HR2.out)).mono ?_; rintro e w1 ⟨rfl, hb1⟩
        go_wp2
        go_roundw
        case rel => exact ⟨k + 1, by omega, by go_num, by first | exact hb.trans (hb1.mono hb.size) | exact hb.drew.trans (hb1.mono hb.size) | exact (below_drewN' hb _).trans (hb1.mono hb.size)⟩
        case measure => simp [intOf]; omega
      · clear hc hc'
        go_wp2
        go_ret
        exact ⟨rfl, hb⟩
  · obtain rfl : n = 0 := by omega
    clear hc hc'
    go_enter Tryz.func30, Tryz.ntmps30
    go_wp2
    go_loop [5] (fun i => i = .int .i64 0) (fun _ => 0)
    case atStart => rfl
    case round =>
      subst hrel
      go_wp2
      go_ret
      exact ⟨rfl, Below.refl _ _⟩
set_option maxRecDepth 100000 in
set_option maxHeartbeats 1000000 in
theorem sameEffects_same (a a' : Option Addr) (n cap cap' : Nat) (L : List Eff) (w : World) (h : RowFs w a n L) (h' : RowFs w a' n L) :
    Calls Tryz.prog 18 #[.slice a n cap, .slice a' n cap'] w fun e w' => e = .returned (.bool true) ∧ Below w.heap.size w w' := by
  obtain ⟨hl, hm, hc⟩ := h
  obtain ⟨-, -, hc'⟩ := h'
  unfold maxLen at hm
  have HN := Lib.hid hl; clear hl
  by_cases h0 : 0 < n
  · obtain ⟨b, off, rfl, hcc⟩ := hc h0; clear hc; have hc := hcc; clear hcc
    obtain ⟨b', off', rfl, hcc⟩ := hc' h0; clear hc'; have hc' := hcc; clear hcc
    have hbB : b < w.heap.size := World.block_lt_of_cell? w ⟨b, off + 0 * 3, none⟩ (hc 0 h0).1
    have hbB' : b' < w.heap.size := World.block_lt_of_cell? w ⟨b', off' + 0 * 3, none⟩ (hc' 0 h0).1
    go_enter Tryz.func18, Tryz.ntmps18
    go_wp2
    go_loopw [5] (fun i wr => ∃ k : Nat, k ≤ n ∧ i = .int .i64 k ∧ Below w.heap.size w wr) (fun i _ => n - (intOf i).toNat)
    case atStart => exact ⟨0, Nat.zero_le _, rfl, Below.refl _ _⟩
    case round =>
      obtain ⟨k, hk, rfl, hb⟩ := hrel
      by_cases hlt : k < n
      · obtain ⟨c1, ⟨x, c2, hs⟩, y, c3, hs2⟩ := hc k hlt
        obtain ⟨c1', ⟨x', c2', hs'⟩, y', c3', hs2'⟩ := hc' k hlt
        have hc1 := (hb.cell (p := ⟨b, off + k * 3, none⟩) hbB).trans c1
        have hc2 := (hb.cell (p := ⟨b, off + k * 3 + 1, none⟩) hbB).trans c2
        have hc3 := (hb.cell (p := ⟨b, off + k * 3 + 2, none⟩) hbB).trans c3
        have hd1 := (hb.cell (p := ⟨b', off' + k * 3, none⟩) hbB').trans c1'
        have hd2 := (hb.cell (p := ⟨b', off' + k * 3 + 1, none⟩) hbB').trans c2'
        have hd3 := (hb.cell (p := ⟨b', off' + k * 3 + 2, none⟩) hbB').trans c3'
        obtain ⟨a1, n1, cap1, rfl, hre, -, -⟩ := hs
        obtain ⟨a2, n2, cap2, rfl, hre2, -, -⟩ := hs2
        obtain ⟨a3, n3, cap3, rfl, hre', -, -⟩ := hs'
        obtain ⟨a4, n4, cap4, rfl, hre2', -, -⟩ := hs2'
        obtain rfl : n1 = n3 := by rw [← hre.1, ← hre'.1]
        obtain rfl : n2 = n4 := by rw [← hre2.1, ← hre2'.1]
        have HR1 := Lib.hid (show RowF wr a1 n1 a2 n2 (L.getD k noEff) from ⟨hre.below hb, hre2.below hb⟩)
        have HR2 := Lib.hid (show RowF wr a3 n1 a4 n2 (L.getD k noEff) from ⟨hre'.below hb, hre2'.below hb⟩)
        clear hc hc' c1 c2 c3 c1' c2' c3' hre hre' hre2 hre2'
        obtain ⟨z, hz⟩ : ∃ z, z = L.getD k noEff := ⟨_, rfl⟩
        rw [← hz] at hc1 hd1 HR1 HR2
        clear hz
        go_wp2
        go_still_tail 8, (by kernel_rfl)
        go_wp2_with fail
        refine (sameEffect_same a1 n1 cap1 a2 n2 cap2 a3 cap3 a4 cap4 z _ (show RowF wr.drew _ _ _ _ z from HR1.out) (show RowF wr.drew _ _ _ _ z from HR2.out)).mono ?_; rintro e w1 ⟨rfl, hb1⟩
        go_wp2
        go_roundw
        case rel => exact ⟨k + 1, by omega, by go_num, by first | exact hb.trans (hb1.mono hb.size) | exact hb.drew.trans (hb1.mono hb.size) | exact (below_drewN' hb _).trans (hb1.mono hb.size)⟩
        case measure => simp [intOf]; omega
      · clear hc hc'
        go_wp2
        go_ret
        exact ⟨rfl, hb⟩
  · obtain rfl : n = 0 := by omega
    clear hc hc'
    go_enter Tryz.func18, Tryz.ntmps18
    go_wp2
    go_loop [5] (fun i => i = .int .i64 0) (fun _ => 0)
    case atStart => rfl
    case round =>
      subst hrel
      go_wp2
      go_ret
      exact ⟨rfl, Below.refl _ _⟩
end Go.Proofs.YtaaffpolmecicabGreat
/- The contracts of the laws' own helpers over lists of effects: marks. -/
namespace Go.Proofs.YtaaffpolmecicabGreat
open Go.RowKit
set_option linter.unusedVariables false
/-- The mark of a bool. -/
def mk3 (k : Int) : Bool := (k % 3 == 0)
/-- The marks from k on. -/
def marksX : Int → List Eff → List Eff
  | _, [] => []
  | k, x :: r => ⟨mk3 k, marksE (k + 1) x.rds.length, marksE (k + 1 + 2 * x.rds.length) x.wrs.length⟩ :: marksX (k + 1 + 2 * (x.rds.length + x.wrs.length : Nat)) r
/-- How many marks there are ahead of the j-th effect. -/
def offX (L : List Eff) (j : Nat) : Nat := j + 2 * sumX (L.take j)
theorem marksX_append (k : Int) (l m : List Eff) : marksX k (l ++ m) = marksX k l ++ marksX (k + (l.length + 2 * sumX l : Nat)) m := by
  induction l generalizing k with
  | nil => simp [marksX, sumX]
  | cons a r ih =>
    simp only [List.cons_append, marksX, ih, sumX, List.length_cons]
    congr 3; omega
theorem marksX_len (k : Int) (L : List Eff) : (marksX k L).length = L.length := by
  induction L generalizing k with
  | nil => rfl
  | cons a r ih => simp [marksX, ih]
/-- The marks of one effect. -/
def markOf (k : Int) (x : Eff) : Eff := ⟨mk3 k, marksE (k + 1) x.rds.length, marksE (k + 1 + 2 * x.rds.length) x.wrs.length⟩
theorem marksX_next (k : Int) (L : List Eff) (j : Nat) (h : j < L.length) : marksX k (L.take (j + 1)) = marksX k (L.take j) ++ [markOf (k + offX L j) (L.getD j noEff)] := by
  rw [takeF_one L j h, marksX_append]
  have e : (L.take j).length = j := by rw [List.length_take]; omega
  rw [e]; rfl
theorem offX_next (L : List Eff) (j : Nat) (h : j < L.length) : offX L (j + 1) = offX L j + 1 + 2 * ((L.getD j noEff).rds.length + (L.getD j noEff).wrs.length) := by
  unfold offX; rw [sumX_next L j h]; omega
theorem marksX_get (k : Int) (L : List Eff) (j : Nat) (h : j < L.length) : (marksX k L).getD j noEff = markOf (k + offX L j) (L.getD j noEff) := by
  have e : (marksX k (L.take j)).length = j := by rw [marksX_len, List.length_take]; omega
  have hs := marksX_append k (L.take (j + 1)) (L.drop (j + 1))
  rw [List.take_append_drop, marksX_next k L j h] at hs
  rw [hs, List.getD_eq_getElem?_getD, List.append_assoc, List.getElem?_append_right (by rw [e]; exact Nat.le_refl _), e, Nat.sub_self]
  rfl
/-- Marked up to j, then as before. -/
def markXTo (k : Int) (L : List Eff) (j : Nat) : List Eff := marksX k (L.take j) ++ L.drop j
theorem markXTo_len (k : Int) (L : List Eff) (j : Nat) (h : j ≤ L.length) : (markXTo k L j).length = L.length := by
  simp [markXTo, marksX_len]; omega
theorem markXTo_zero (k : Int) (L : List Eff) : markXTo k L 0 = L := by simp [markXTo, marksX]
theorem markXTo_all (k : Int) (L : List Eff) : markXTo k L L.length = marksX k L := by simp [markXTo]
theorem markXTo_get (k : Int) (L : List Eff) (j : Nat) (h : j < L.length) : (markXTo k L j).getD j noEff = L.getD j noEff := by
  have e : (marksX k (L.take j)).length = j := by rw [marksX_len, List.length_take]; omega
  unfold markXTo
  rw [List.getD_eq_getElem?_getD, List.getElem?_append_right (by rw [e]; exact Nat.le_refl _), e, Nat.sub_self, List.getElem?_drop, Nat.add_zero, List.getD_eq_getElem?_getD]
theorem markXTo_set (k : Int) (L : List Eff) (j : Nat) (h : j < L.length) : (markXTo k L j).set j (markOf (k + offX L j) (L.getD j noEff)) = markXTo k L (j + 1) := by
  have e : (marksX k (L.take j)).length = j := by rw [marksX_len, List.length_take]; omega
  unfold markXTo
  rw [marksX_next k L j h, List.set_append_right _ _ (by rw [e]; exact Nat.le_refl _), e, Nat.sub_self, List.drop_eq_getElem_cons h, List.set_cons_zero, List.append_assoc]
  rfl
theorem getD_setX (L : List Eff) (j : Nat) (x : Eff) (h : j < L.length) : (L.set j x).getD j noEff = x := by
  rw [List.getD_eq_getElem?_getD, List.getElem?_set, if_pos rfl, if_pos h]; rfl
theorem set_twiceX (L : List Eff) (j : Nat) (x y : Eff) : (L.set j x).set j y = L.set j y := by simp
/-- All effects are marked. -/
def MarkedX (w : World) (B T : Nat) (v : Value) (k : Int) (L : List Eff) (e : Ending) (w' : World) : Prop :=
  e = .returned (.int .i64 (k + offX L L.length)) ∧ OwnFs w' B T 39 43 v (marksX k L) ∧ Turn B T w w'
theorem tmod3 {k : Int} (h : 0 ≤ k) : k.tmod 3 = k % 3 := Int.tmod_eq_emod_of_nonneg h
set_option maxHeartbeats 2000000 in
theorem markEffectS_own (B T : Nat) (v : Value) (L : List Eff) (k : Int) (w : World) (h : OwnFs w B T 39 43 v L) (hw : wtX L ≤ 4000000) (hk0 : 0 ≤ k) (hk1 : k ≤ 10000000) :
    Calls Tryz.prog 34 #[v, .int .i64 k] w (MarkedX w B T v k L) := by
  have hoff : ∀ j, j ≤ L.length → offX L j ≤ 8000000 := fun j hj => by
    unfold wtX at hw; have := sumX_take L j; unfold offX; omega
  have HOFF := Lib.hid hoff; clear hoff
  have HSW : Hid (∀ j, j < L.length → (L.getD j noEff).rds.length + (L.getD j noEff).wrs.length ≤ 4000000) := Lib.hid (fun j hj => by have := sumX_len L j hj; unfold wtX at hw; omega)
  have hlen : L.length ≤ 4000000 := by unfold wtX at hw; omega
  clear hw
  rcases h.form with ⟨rfl, rfl⟩ | ⟨g, cap, rfl, hBg, hgT, -⟩
  · have HO := Lib.hid h
    clear h
    go_enter Tryz.func34, Tryz.ntmps34
    go_wp2
    go_loop [1, 5] (fun q i => q = .int .i64 k ∧ i = .int .i64 0) (fun _ _ => 0)
    case atStart => exact ⟨rfl, rfl⟩
    case round =>
      obtain ⟨rfl, rfl⟩ := hrel
      go_wp2
      go_ret
      exact ⟨by simp [offX, sumX], HO.out, Turn.refl _ _ _⟩
  · obtain ⟨n, hn⟩ : ∃ n, n = L.length := ⟨_, rfl⟩
    rw [← hn] at h hlen ⊢
    have HN := Lib.hid hn.symm
    clear hn
    have hm0 : OwnFs w B T 39 43 (.slice (some ⟨g, 0, none⟩) n cap) (markXTo k L 0) := by rw [markXTo_zero]; exact h
    clear h
    go_enter Tryz.func34, Tryz.ntmps34
    go_wp2
    go_loopw [1, 5] (fun q i wr => ∃ j : Nat, j ≤ n ∧ i = .int .i64 j ∧ q = .int .i64 (k + offX L j) ∧ OwnFs wr B T 39 43 (.slice (some ⟨g, 0, none⟩) n cap) (markXTo k L j) ∧ Turn B T w wr) (fun _ i _ => n - (intOf i).toNat)
    case atStart => exact ⟨0, Nat.zero_le _, rfl, by simp [offX, sumX], hm0, Turn.refl _ _ _⟩
    case round =>
      clear hm0
      obtain ⟨j, hj, rfl, rfl, hO, ht⟩ := hrel
      by_cases hlt : j < n
      · have hjL : j < L.length := by rw [HN.out]; exact hlt
        have hjM : j < (markXTo k L j).length := by rw [markXTo_len k L j (by omega)]; exact hjL
        obtain ⟨-, x0, y0, z0, hx0, hy0, hz0, hf0, -, -, -⟩ := hO.cell j hjM
        have hof := HOFF.out j (by omega)
        have hon := offX_next L j hjL
        have hle := HSW.out j hjL
        obtain ⟨db, hdb⟩ : ∃ db, db = mk3 (k + offX L j) := ⟨_, rfl⟩
        have hO1 := hO.setBool j hjM db
        have HT1 := Lib.hid (ht.setCell ⟨hBg, hgT⟩ (j * 3) (.bool db))
        obtain ⟨x, hcx, hox, hbx, hxg, hback⟩ := hO1.rdsAt j (by rw [List.length_set]; exact hjM)
        rw [getD_setX _ _ _ hjM, markXTo_get k L j hjL] at hox hback
        simp only [set_twiceX] at hback
        have hlM : ∀ e, j < ((markXTo k L j).set j e).length := fun e => by rw [List.length_set]; exact hjM
        have HB2 : Hid (∀ w' l, w'.ownsRow 0 43 2 x l.length (flatE l) → WfE l → l.length ≤ 4000000 → ((wr.setCell ⟨g, j * 3, none⟩ (.bool db))).grownBy w' x.ownBlock →
            ∃ y, w'.cell? ⟨g, j * 3 + 2, none⟩ = some y ∧ w'.ownsRow 0 43 2 y (L.getD j noEff).wrs.length (flatE (L.getD j noEff).wrs) ∧ (∀ b, y.ownBlock = some b → B ≤ b ∧ b < T) ∧
              ∀ w'' l', w''.ownsRow 0 43 2 y l'.length (flatE l') → WfE l' → l'.length ≤ 4000000 → w'.grownBy w'' y.ownBlock → OwnFs w'' B T 39 43 (.slice (some ⟨g, 0, none⟩) n cap) ((markXTo k L j).set j ⟨db, l, l'⟩)) := Lib.hid (fun w' l h1 h2 h3 h4 => by
          have hO2 := hback w' l h1 h2 h3 h4
          obtain ⟨y, hcy, hoy, hby, -, hb2⟩ := hO2.wrsAt j (hlM _)
          rw [getD_setX _ _ _ hjM] at hoy hb2
          simp only [set_twiceX] at hb2
          exact ⟨y, hcy, hoy, hby, hb2⟩)
        have HST := Lib.hid (markXTo_set k L j hjL)
        have HBX := Lib.hid hbx
        have HOX := Lib.hid hox
        clear hback hbx hox hO1 hO ht hy0 hz0 hjM hlM
        obtain ⟨q, hq⟩ : ∃ q, q = offX L j := ⟨_, rfl⟩
        rw [← hq] at hof hon HST hdb ⊢
        obtain ⟨rs, hrs⟩ : ∃ rs, rs = (L.getD j noEff).rds := ⟨_, rfl⟩
        obtain ⟨ws, hws⟩ : ∃ ws, ws = (L.getD j noEff).wrs := ⟨_, rfl⟩
        have HMO : Hid (markOf (k + q) (L.getD j noEff) = ⟨db, marksE (k + q + 1) rs.length, marksE (k + q + 1 + 2 * rs.length) ws.length⟩) := Lib.hid (by rw [hdb, hrs, hws]; rfl)
        rw [HMO.out] at HST
        rw [← hrs] at hon hle HOX
        rw [← hws] at hon hle HB2
        have HS2 := Lib.hid hon
        have hr1 : rs.length ≤ 4000000 := by omega
        have hw1 : ws.length ≤ 4000000 := by omega
        have hkq : 0 ≤ k + (q : Int) := by omega
        have t3 := tmod3 hkq
        have m1 : ((k + (q : Int)) % 3 == 0) = db := by rw [hdb]; rfl
        have m2 : ((k + (q : Int)).tmod 3 == 0) = db := by rw [t3]; exact m1
        clear hq hrs hws hon hdb HMO t3
        go_wp2_with fail
        refine (markEntryS_own 0 rs.length x rs _ _ HOX.out rfl hr1 (by omega) (by omega)).mono ?_; rintro e w2 ⟨rfl, ho2, hg2⟩
        obtain ⟨y, hcy, hoy, hby, hb2⟩ := HB2.out w2 (marksE (k + q + 1) rs.length) (by rw [marksE_len]; exact ho2) (wfE_marks _ _ (by omega) (by omega) hr1) (by rw [marksE_len]; exact hr1) hg2
        have HT2 := Lib.hid (HT1.out.trans (Turn.ofGrown hg2 HBX.out))
        have HOY := Lib.hid hoy
        have HBY := Lib.hid hby
        have HB3 := Lib.hid hb2
        clear hg2 ho2 hcx hx0 hoy hby hb2 m1 m2
        go_wp2_with fail
        refine (markEntryS_own 0 ws.length y ws _ _ HOY.out rfl hw1 (by omega) (by omega)).mono ?_; rintro e w3 ⟨rfl, ho3, hg3⟩
        have hO3 := HB3.out w3 (marksE (k + q + 1 + 2 * rs.length) ws.length) (by rw [marksE_len]; exact ho3) (wfE_marks _ _ (by omega) (by omega) hw1) (by rw [marksE_len]; exact hw1) hg3
        rw [HST.out] at hO3
        have HF := Lib.hid hO3
        have HT3 := Lib.hid (HT2.out.trans (Turn.ofGrown hg3 HBY.out))
        clear hO3 hg3 ho3 hcy
        go_wp2
        go_roundw
        case rel => exact ⟨j + 1, by omega, by go_num, by rw [HS2.out]; congr 1; omega, HF.out, HT3.out⟩
        case measure => simp [intOf]; omega
      · obtain rfl : j = n := by omega
        have e : markXTo k L j = marksX k L := by rw [← HN.out]; exact markXTo_all k L
        rw [e] at hO
        have HO := Lib.hid hO
        clear hO e
        go_wp2
        go_ret
        exact ⟨by rw [HN.out]; rfl, HO.out, ht⟩
set_option maxHeartbeats 1000000 in
theorem heldEffectS_any (a : Option Addr) (n cap : Nat) (L : List Eff) (k : Int) (w : World) (h : RowFs w a n (marksX k L)) (hn : L.length = n) (hw : wtX L ≤ 4000000) (hk0 : 0 ≤ k) (hk1 : k ≤ 10000000) :
    Calls Tryz.prog 36 #[.slice a n cap, .int .i64 k] w fun e w' => e = .returned (.int .i64 (k + offX L n)) ∧ w = w' := by
  have hoff : ∀ j, j ≤ L.length → offX L j ≤ 8000000 := fun j hj => by
    unfold wtX at hw; have := sumX_take L j; unfold offX; omega
  have HOFF := Lib.hid hoff; clear hoff
  have HSW : Hid (∀ j, j < L.length → (L.getD j noEff).rds.length + (L.getD j noEff).wrs.length ≤ 4000000) := Lib.hid (fun j hj => by have := sumX_len L j hj; unfold wtX at hw; omega)
  have hlen : n ≤ 4000000 := by unfold wtX at hw; omega
  clear hw
  obtain ⟨-, -, hc⟩ := h
  have HN := Lib.hid hn; clear hn
  by_cases h0 : 0 < n
  · obtain ⟨b, off, rfl, hcc⟩ := hc h0; clear hc; have hc := hcc; clear hcc
    go_enter Tryz.func36, Tryz.ntmps36
    go_wp2
    go_loop [1, 5] (fun q i => ∃ j : Nat, j ≤ n ∧ i = .int .i64 j ∧ q = .int .i64 (k + offX L j)) (fun _ i => n - (intOf i).toNat)
    case atStart => exact ⟨0, Nat.zero_le _, rfl, by simp [offX, sumX]⟩
    case round =>
      obtain ⟨j, hj, rfl, rfl⟩ := hrel
      by_cases hlt : j < n
      · have hjL : j < L.length := by rw [HN.out]; exact hlt
        obtain ⟨c1, ⟨x, c2, hs⟩, y, c3, hs2⟩ := hc j hlt
        rw [marksX_get k L j hjL] at c1 hs hs2
        have hof := HOFF.out j (by omega)
        have hon := offX_next L j hjL
        have hle := HSW.out j hjL
        obtain ⟨a', n', cap', rfl, hre, -, -⟩ := hs
        obtain ⟨a2, n2, cap2, rfl, hre2, -, -⟩ := hs2
        have hn' := hre.1
        have hn2 := hre2.1
        simp only [markOf] at c1 hre hre2 hn' hn2
        rw [marksE_len] at hn' hn2
        rw [hn'] at hon hle hre hre2
        rw [hn2] at hon hle hre2
        obtain ⟨q, hq⟩ : ∃ q, q = offX L j := ⟨_, rfl⟩
        rw [← hq] at hof hon c1 hre hre2 ⊢
        have HRE := Lib.hid hre
        have HRE2 := Lib.hid hre2
        have HS2 := Lib.hid hon
        have hkq : 0 ≤ k + (q : Int) := by omega
        have t3 := tmod3 hkq
        obtain ⟨db, hdb⟩ : ∃ db, db = mk3 (k + (q : Int)) := ⟨_, rfl⟩
        have m1 : ((k + (q : Int)) % 3 == 0) = db := by rw [hdb]; rfl
        have m2 : ((k + (q : Int)).tmod 3 == 0) = db := by rw [t3]; exact m1
        have hdd : (db != db) = false := by simp
        rw [← hdb] at c1
        clear hc hq hn' hn2 hre hre2 hon hdb t3
        go_wp2_with fail
        refine (heldEntryS_any a' n' cap' _ _ HRE.out (by omega) (by omega) (by omega)).mono ?_; rintro e w' ⟨rfl, rfl⟩
        have hnn : decide (k + (q : Int) + 1 + 2 * (n' : Int) < 0) = false := by simp; omega
        clear m1 m2
        go_wp2_with fail
        refine (heldEntryS_any a2 n2 cap2 _ _ HRE2.out (by omega) (by omega) (by omega)).mono ?_; rintro e w' ⟨rfl, rfl⟩
        have hnn2 : decide (k + (q : Int) + 1 + 2 * (n' : Int) + 2 * (n2 : Int) < 0) = false := by simp; omega
        go_wp2
        go_round
        case rel => exact ⟨j + 1, by omega, by go_num, by rw [HS2.out]; congr 1; omega⟩
        case measure => simp [intOf]; omega
      · obtain rfl : j = n := by omega
        clear hc
        go_wp2
        go_ret
        exact ⟨rfl, rfl⟩
  · obtain rfl : n = 0 := by omega
    clear hc
    go_enter Tryz.func36, Tryz.ntmps36
    go_wp2
    go_loop [1, 5] (fun q i => q = .int .i64 k ∧ i = .int .i64 0) (fun _ _ => 0)
    case atStart => exact ⟨rfl, rfl⟩
    case round =>
      obtain ⟨rfl, rfl⟩ := hrel
      go_wp2
      go_ret
      exact ⟨by simp [offX, sumX], rfl⟩
end Go.Proofs.YtaaffpolmecicabGreat
/- The contract of markEffectS, block by block: only the blocks of the effects turn. -/
namespace Go.Proofs.YtaaffpolmecicabGreat
open Go.RowKit
set_option linter.unusedVariables false
/-- Of the blocks that were there, only those of Q have turned. -/
structure TurnQ (Q : Nat → Prop) (w w' : World) : Prop where
  os : w'.os = w.os
  tape : w'.tape = w.tape
  output : w'.output = w.output
  size : w.heap.size ≤ w'.heap.size
  block : ∀ k, k < w.heap.size → ¬ Q k → w'.heap[k]? = w.heap[k]?
theorem TurnQ.refl (Q : Nat → Prop) (w : World) : TurnQ Q w w := ⟨rfl, rfl, rfl, Nat.le_refl _, fun _ _ _ => rfl⟩
theorem TurnQ.trans {Q : Nat → Prop} {a b c : World} (h : TurnQ Q a b) (k : TurnQ Q b c) : TurnQ Q a c :=
  ⟨k.os.trans h.os, k.tape.trans h.tape, k.output.trans h.output, Nat.le_trans h.size k.size, fun i hi hr => (k.block i (Nat.lt_of_lt_of_le hi h.size) hr).trans (h.block i hi hr)⟩
theorem TurnQ.ofGrown {Q : Nat → Prop} {w w' : World} {row : Option Nat} (hg : w.grownBy w' row) (h : ∀ k, row = some k → Q k) : TurnQ Q w w' :=
  ⟨hg.os, hg.tape, hg.output, hg.size, fun k hk hr => hg.block k hk (fun e => hr (h k e.symm))⟩
theorem TurnQ.setCell {Q : Nat → Prop} {a w : World} (h : TurnQ Q a w) {g : Nat} (hg : Q g) (o : Nat) (v : Value) : TurnQ Q a (w.setCell ⟨g, o, none⟩ v) :=
  h.trans (TurnQ.ofGrown (set_grown w g o v) (fun k hk => by cases hk; exact hg))
/-- v owns the effects L, and all of its blocks are of Q. -/
def OwnFQ (w : World) (B T : Nat) (Q : Nat → Prop) (eX eE : TypeId) (v : Value) (L : List Eff) : Prop :=
  L.length ≤ 4000000 ∧ ∃ xs, Own2 w B T eX 3 v L.length (L.flatMap (effC eE)) xs ∧ ∀ x ∈ v :: xs, ∀ p, blk x = some p → Q p
theorem OwnFQ.fs {w : World} {B T : Nat} {Q : Nat → Prop} {eX eE : TypeId} {v : Value} {L : List Eff} (h : OwnFQ w B T Q eX eE v L) : OwnFs w B T eX eE v L := by
  obtain ⟨h0, xs, h1, -⟩ := h; exact ⟨h0, xs, h1⟩
theorem OwnFQ.top {w : World} {B T g n cap : Nat} {Q : Nat → Prop} {eX eE : TypeId} {L : List Eff} (h : OwnFQ w B T Q eX eE (.slice (some ⟨g, 0, none⟩) n cap) L) : Q g := by
  obtain ⟨-, xs, -, h2⟩ := h; exact h2 _ List.mem_cons_self g rfl
/-- Blocks outside of Q may turn. -/
theorem OwnFQ.keep {w w' : World} {B T : Nat} {Q : Nat → Prop} {eX eE : TypeId} {v : Value} {L : List Eff} (h : OwnFQ w B T Q eX eE v L) (hk : ∀ p, p < w.heap.size → Q p → w'.heap[p]? = w.heap[p]?) : OwnFQ w' B T Q eX eE v L := by
  obtain ⟨h0, xs, h1, h2⟩ := h
  have hlt := h1.blk_lt
  obtain ⟨g1, g2, g3, g4, g5⟩ := h1
  refine ⟨h0, xs, ⟨owns_keep g1 (fun b hb => hk b (hlt v List.mem_cons_self b hb).2.2 (h2 v List.mem_cons_self b hb)), g2, g3, fun i c x hc hx => ?_, g5⟩, h2⟩
  have hm := List.mem_cons_of_mem v (List.mem_of_getElem? hx)
  exact ⟨c.keep (g4 i c x hc hx).1 (fun b hb => hk b (hlt x hm b hb).2.2 (h2 x hm b hb)), (g4 i c x hc hx).2⟩
theorem OwnFQ.setBool {w : World} {B T g n cap : Nat} {Q : Nat → Prop} {L : List Eff} {eX eE : TypeId} (h : OwnFQ w B T Q eX eE (.slice (some ⟨g, 0, none⟩) n cap) L) (j : Nat) (hj : j < L.length) (d : Bool) :
    OwnFQ (w.setCell ⟨g, j * 3, none⟩ (.bool d)) B T Q eX eE (.slice (some ⟨g, 0, none⟩) n cap) (L.set j ⟨d, (L.getD j noEff).rds, (L.getD j noEff).wrs⟩) := by
  have hn : n = L.length := (h.fs.cell j hj).1
  subst hn
  obtain ⟨h0, xs, h1, hq⟩ := h
  have h2 := h1.set (T' := T) (j * 3) (.bool d) (.bool d) rfl (fun b hb => by cases hb) (by simp [blk]) (fun i x _ _ p _ hp => by cases hp) (Nat.le_refl _)
  have h3 := flatMap_set (effC eE) 3 (effC_len _) L j 0 (L.getD j noEff) ⟨d, (L.getD j noEff).rds, (L.getD j noEff).wrs⟩ (.bool d) (getD_some L j noEff hj) (by omega) rfl
  rw [Nat.add_zero] at h3
  rw [← h3] at h2
  refine ⟨by rw [List.length_set]; exact h0, xs.set (j * 3) (.bool d), by rw [List.length_set]; exact h2, fun x hx p hp => ?_⟩
  rcases List.mem_cons.1 hx with rfl | hx
  · exact hq _ List.mem_cons_self p hp
  · rcases mem_set_cases hx with rfl | ⟨i, -, hi⟩
    · cases hp
    · exact hq x (List.mem_cons_of_mem _ (List.mem_of_getElem? hi)) p hp
theorem OwnFQ.rdsAt {w : World} {B T g n cap : Nat} {Q : Nat → Prop} {L : List Eff} {eX eE : TypeId} (h : OwnFQ w B T Q eX eE (.slice (some ⟨g, 0, none⟩) n cap) L) (j : Nat) (hj : j < L.length) :
    ∃ x, w.cell? ⟨g, j * 3 + 1, none⟩ = some x ∧ w.ownsRow 0 eE 2 x (L.getD j noEff).rds.length (flatE (L.getD j noEff).rds) ∧ (∀ b, x.ownBlock = some b → Q b) ∧ x.ownBlock ≠ some g ∧
      ∀ w' l, w'.ownsRow 0 eE 2 x l.length (flatE l) → WfE l → l.length ≤ 4000000 → w.grownBy w' x.ownBlock → OwnFQ w' B T Q eX eE (.slice (some ⟨g, 0, none⟩) n cap) (L.set j ⟨(L.getD j noEff).done, l, (L.getD j noEff).wrs⟩) := by
  have hn : n = L.length := (h.fs.cell j hj).1
  subst hn
  obtain ⟨h0, xs, h1, hq⟩ := h
  obtain ⟨x, hx, hcx, hox, hbx⟩ := h1.at (effC_get eE L j hj).2.1
  have hbe := owns_blk hox.1
  refine ⟨x, hcx, hox.1, fun b hb => hq x (List.mem_cons_of_mem _ (List.mem_of_getElem? hx)) b (by rw [hbe]; exact hb), fun e => ?_, fun w' l hl hw hll hg => ?_⟩
  · exact (apart_cons.1 h1.2.2.2.2).1 x (List.mem_of_getElem? hx) g rfl (by rw [hbe]; exact e)
  · have h2 := h1.inner (j * 3 + 1) (.ents eE l) hx hg (fun p hp => by rw [hbe]; exact hp) ⟨hl, hw, hll⟩
    rw [← flatMap_set (effC eE) 3 (effC_len _) L j 1 (L.getD j noEff) ⟨(L.getD j noEff).done, l, (L.getD j noEff).wrs⟩ _ (getD_some L j noEff hj) (by omega) rfl] at h2
    exact ⟨by rw [List.length_set]; exact h0, xs, by rw [List.length_set]; exact h2, hq⟩
theorem OwnFQ.wrsAt {w : World} {B T g n cap : Nat} {Q : Nat → Prop} {L : List Eff} {eX eE : TypeId} (h : OwnFQ w B T Q eX eE (.slice (some ⟨g, 0, none⟩) n cap) L) (j : Nat) (hj : j < L.length) :
    ∃ x, w.cell? ⟨g, j * 3 + 2, none⟩ = some x ∧ w.ownsRow 0 eE 2 x (L.getD j noEff).wrs.length (flatE (L.getD j noEff).wrs) ∧ (∀ b, x.ownBlock = some b → Q b) ∧ x.ownBlock ≠ some g ∧
      ∀ w' l, w'.ownsRow 0 eE 2 x l.length (flatE l) → WfE l → l.length ≤ 4000000 → w.grownBy w' x.ownBlock → OwnFQ w' B T Q eX eE (.slice (some ⟨g, 0, none⟩) n cap) (L.set j ⟨(L.getD j noEff).done, (L.getD j noEff).rds, l⟩) := by
  have hn : n = L.length := (h.fs.cell j hj).1
  subst hn
  obtain ⟨h0, xs, h1, hq⟩ := h
  obtain ⟨x, hx, hcx, hox, hbx⟩ := h1.at (effC_get eE L j hj).2.2
  have hbe := owns_blk hox.1
  refine ⟨x, hcx, hox.1, fun b hb => hq x (List.mem_cons_of_mem _ (List.mem_of_getElem? hx)) b (by rw [hbe]; exact hb), fun e => ?_, fun w' l hl hw hll hg => ?_⟩
  · exact (apart_cons.1 h1.2.2.2.2).1 x (List.mem_of_getElem? hx) g rfl (by rw [hbe]; exact e)
  · have h2 := h1.inner (j * 3 + 2) (.ents eE l) hx hg (fun p hp => by rw [hbe]; exact hp) ⟨hl, hw, hll⟩
    rw [← flatMap_set (effC eE) 3 (effC_len _) L j 2 (L.getD j noEff) ⟨(L.getD j noEff).done, (L.getD j noEff).rds, l⟩ _ (getD_some L j noEff hj) (by omega) rfl] at h2
    exact ⟨by rw [List.length_set]; exact h0, xs, by rw [List.length_set]; exact h2, hq⟩
/-- A store and effects: the effects' blocks are none of the store's. -/
theorem OwnSF.apartQ {w : World} {B T : Nat} {eX eE : TypeId} {v u : Value} {S : List Ent} {L : List Eff} (h : OwnSF w B T eX eE v u S L) : OwnFQ w B T (fun p => v.ownBlock ≠ some p ∧ B ≤ p ∧ p < T) eX eE u L := by
  obtain ⟨h1, h2, h3, h4, xs, h5, h6⟩ := h
  exact ⟨h4, xs, h5, fun x hx p hp => ⟨fun e => h6 x hx p e hp, (h5.blk_lt x hx p hp).1, (h5.blk_lt x hx p hp).2.1⟩⟩
/-- All effects are marked, and only blocks of Q have turned. -/
def MarkedQ (w : World) (B T : Nat) (Q : Nat → Prop) (v : Value) (k : Int) (L : List Eff) (e : Ending) (w' : World) : Prop :=
  e = .returned (.int .i64 (k + offX L L.length)) ∧ OwnFQ w' B T Q 39 43 v (marksX k L) ∧ TurnQ Q w w'
set_option maxHeartbeats 2000000 in
theorem markEffectS_only (B T : Nat) (Q : Nat → Prop) (v : Value) (L : List Eff) (k : Int) (w : World) (h : OwnFQ w B T Q 39 43 v L) (hw : wtX L ≤ 4000000) (hk0 : 0 ≤ k) (hk1 : k ≤ 10000000) :
    Calls Tryz.prog 34 #[v, .int .i64 k] w (MarkedQ w B T Q v k L) := by
  have hoff : ∀ j, j ≤ L.length → offX L j ≤ 8000000 := fun j hj => by
    unfold wtX at hw; have := sumX_take L j; unfold offX; omega
  have HOFF := Lib.hid hoff; clear hoff
  have HSW : Hid (∀ j, j < L.length → (L.getD j noEff).rds.length + (L.getD j noEff).wrs.length ≤ 4000000) := Lib.hid (fun j hj => by have := sumX_len L j hj; unfold wtX at hw; omega)
  have hlen : L.length ≤ 4000000 := by unfold wtX at hw; omega
  clear hw
  rcases h.fs.form with ⟨rfl, rfl⟩ | ⟨g, cap, rfl, hBg, hgT, -⟩
  · have HO := Lib.hid h
    clear h
    go_enter Tryz.func34, Tryz.ntmps34
    go_wp2
    go_loop [1, 5] (fun q i => q = .int .i64 k ∧ i = .int .i64 0) (fun _ _ => 0)
    case atStart => exact ⟨rfl, rfl⟩
    case round =>
      obtain ⟨rfl, rfl⟩ := hrel
      go_wp2
      go_ret
      exact ⟨by simp [offX, sumX], HO.out, TurnQ.refl _ _⟩
  · obtain ⟨n, hn⟩ : ∃ n, n = L.length := ⟨_, rfl⟩
    rw [← hn] at h hlen ⊢
    have HN := Lib.hid hn.symm
    clear hn
    have hm0 : OwnFQ w B T Q 39 43 (.slice (some ⟨g, 0, none⟩) n cap) (markXTo k L 0) := by rw [markXTo_zero]; exact h
    clear h
    go_enter Tryz.func34, Tryz.ntmps34
    go_wp2
    go_loopw [1, 5] (fun q i wr => ∃ j : Nat, j ≤ n ∧ i = .int .i64 j ∧ q = .int .i64 (k + offX L j) ∧ OwnFQ wr B T Q 39 43 (.slice (some ⟨g, 0, none⟩) n cap) (markXTo k L j) ∧ TurnQ Q w wr) (fun _ i _ => n - (intOf i).toNat)
    case atStart => exact ⟨0, Nat.zero_le _, rfl, by simp [offX, sumX], hm0, TurnQ.refl _ _⟩
    case round =>
      clear hm0
      obtain ⟨j, hj, rfl, rfl, hO, ht⟩ := hrel
      by_cases hlt : j < n
      · have hjL : j < L.length := by rw [HN.out]; exact hlt
        have hjM : j < (markXTo k L j).length := by rw [markXTo_len k L j (by omega)]; exact hjL
        obtain ⟨-, x0, y0, z0, hx0, hy0, hz0, hf0, -, -, -⟩ := hO.fs.cell j hjM
        have hQg := hO.top
        have hof := HOFF.out j (by omega)
        have hon := offX_next L j hjL
        have hle := HSW.out j hjL
        obtain ⟨db, hdb⟩ : ∃ db, db = mk3 (k + offX L j) := ⟨_, rfl⟩
        have hO1 := hO.setBool j hjM db
        have HT1 := Lib.hid (ht.setCell hQg (j * 3) (.bool db))
        obtain ⟨x, hcx, hox, hbx, hxg, hback⟩ := hO1.rdsAt j (by rw [List.length_set]; exact hjM)
        rw [getD_setX _ _ _ hjM, markXTo_get k L j hjL] at hox hback
        simp only [set_twiceX] at hback
        have hlM : ∀ e, j < ((markXTo k L j).set j e).length := fun e => by rw [List.length_set]; exact hjM
        have HB2 : Hid (∀ w' l, w'.ownsRow 0 43 2 x l.length (flatE l) → WfE l → l.length ≤ 4000000 → ((wr.setCell ⟨g, j * 3, none⟩ (.bool db))).grownBy w' x.ownBlock →
            ∃ y, w'.cell? ⟨g, j * 3 + 2, none⟩ = some y ∧ w'.ownsRow 0 43 2 y (L.getD j noEff).wrs.length (flatE (L.getD j noEff).wrs) ∧ (∀ b, y.ownBlock = some b → Q b) ∧
              ∀ w'' l', w''.ownsRow 0 43 2 y l'.length (flatE l') → WfE l' → l'.length ≤ 4000000 → w'.grownBy w'' y.ownBlock → OwnFQ w'' B T Q 39 43 (.slice (some ⟨g, 0, none⟩) n cap) ((markXTo k L j).set j ⟨db, l, l'⟩)) := Lib.hid (fun w' l h1 h2 h3 h4 => by
          have hO2 := hback w' l h1 h2 h3 h4
          obtain ⟨y, hcy, hoy, hby, -, hb2⟩ := hO2.wrsAt j (hlM _)
          rw [getD_setX _ _ _ hjM] at hoy hb2
          simp only [set_twiceX] at hb2
          exact ⟨y, hcy, hoy, hby, hb2⟩)
        have HST := Lib.hid (markXTo_set k L j hjL)
        have HBX := Lib.hid hbx
        have HOX := Lib.hid hox
        clear hback hbx hox hO1 hO ht hy0 hz0 hjM hlM
        obtain ⟨q, hq⟩ : ∃ q, q = offX L j := ⟨_, rfl⟩
        rw [← hq] at hof hon HST hdb ⊢
        obtain ⟨rs, hrs⟩ : ∃ rs, rs = (L.getD j noEff).rds := ⟨_, rfl⟩
        obtain ⟨ws, hws⟩ : ∃ ws, ws = (L.getD j noEff).wrs := ⟨_, rfl⟩
        have HMO : Hid (markOf (k + q) (L.getD j noEff) = ⟨db, marksE (k + q + 1) rs.length, marksE (k + q + 1 + 2 * rs.length) ws.length⟩) := Lib.hid (by rw [hdb, hrs, hws]; rfl)
        rw [HMO.out] at HST
        rw [← hrs] at hon hle HOX
        rw [← hws] at hon hle HB2
        have HS2 := Lib.hid hon
        have hr1 : rs.length ≤ 4000000 := by omega
        have hw1 : ws.length ≤ 4000000 := by omega
        have hkq : 0 ≤ k + (q : Int) := by omega
        have t3 := tmod3 hkq
        have m1 : ((k + (q : Int)) % 3 == 0) = db := by rw [hdb]; rfl
        have m2 : ((k + (q : Int)).tmod 3 == 0) = db := by rw [t3]; exact m1
        clear hq hrs hws hon hdb HMO t3
        go_wp2_with fail
        refine (markEntryS_own 0 rs.length x rs _ _ HOX.out rfl hr1 (by omega) (by omega)).mono ?_; rintro e w2 ⟨rfl, ho2, hg2⟩
        obtain ⟨y, hcy, hoy, hby, hb2⟩ := HB2.out w2 (marksE (k + q + 1) rs.length) (by rw [marksE_len]; exact ho2) (wfE_marks _ _ (by omega) (by omega) hr1) (by rw [marksE_len]; exact hr1) hg2
        have HT2 := Lib.hid (HT1.out.trans (TurnQ.ofGrown hg2 HBX.out))
        have HOY := Lib.hid hoy
        have HBY := Lib.hid hby
        have HB3 := Lib.hid hb2
        clear hg2 ho2 hcx hx0 hoy hby hb2 m1 m2
        go_wp2_with fail
        refine (markEntryS_own 0 ws.length y ws _ _ HOY.out rfl hw1 (by omega) (by omega)).mono ?_; rintro e w3 ⟨rfl, ho3, hg3⟩
        have hO3 := HB3.out w3 (marksE (k + q + 1 + 2 * rs.length) ws.length) (by rw [marksE_len]; exact ho3) (wfE_marks _ _ (by omega) (by omega) hw1) (by rw [marksE_len]; exact hw1) hg3
        rw [HST.out] at hO3
        have HF := Lib.hid hO3
        have HT3 := Lib.hid (HT2.out.trans (TurnQ.ofGrown hg3 HBY.out))
        clear hO3 hg3 ho3 hcy
        go_wp2
        go_roundw
        case rel => exact ⟨j + 1, by omega, by go_num, by rw [HS2.out]; congr 1; omega, HF.out, HT3.out⟩
        case measure => simp [intOf]; omega
      · obtain rfl : j = n := by omega
        have e : markXTo k L j = marksX k L := by rw [← HN.out]; exact markXTo_all k L
        rw [e] at hO
        have HO := Lib.hid hO
        clear hO e
        go_wp2
        go_ret
        exact ⟨by rw [HN.out]; rfl, HO.out, ht⟩
end Go.Proofs.YtaaffpolmecicabGreat
