/- The contracts of the laws' own helpers over effects: sameEffect, eqEffect, szEffect, toEffect, markEffect, heldEffect; hasKey. -/
import Derived.Test.YtakbkomgmajnfaaEffMem
import Derived.Test.YtakbkomgmajnfaaConv
namespace Go.Proofs.Ytakbkomgmajnfaa
open Go.RowKit
set_option linter.unusedVariables false
theorem sameEffect_same (a : Option Addr) (n c : Nat) (b : Option Addr) (m c2 : Nat) (a' : Option Addr) (c' : Nat) (b' : Option Addr) (c2' : Nat) (x : Eff) (w : World) (h : RowF w a n b m x) (h' : RowF w a' n b' m x) :
    Calls Try.prog 20 #[.agg #[.bool x.done, .slice a n c, .slice b m c2], .agg #[.bool x.done, .slice a' n c', .slice b' m c2']] w fun e w' => e = .returned (.bool true) ∧ Below w.heap.size w w' := by
  obtain ⟨dn, R, W⟩ := x
  have hb0 := ((Below.refl w.heap.size w).alloc (Nat.le_refl _) (.cells #[.bool dn, .slice a n c, .slice b m c2] 39)).alloc (by simp) (.cells #[.bool dn, .slice a' n c', .slice b' m c2'] 39)
  have H := Lib.hid (h.below hb0)
  have H' := Lib.hid (h'.below hb0)
  have HB := Lib.hid hb0
  have hdd : (dn == dn) = true := by simp
  clear h h' hb0
  go_enter Try.func20, Try.ntmps20
  go_wp2_with fail
  refine (sameStore_same a a' n c c' R _ H.out.1 H'.out.1).mono ?_; rintro e w1 ⟨rfl, hd1⟩
  have H1 := Lib.hid (H.out.below (hd1.below _))
  have H1' := Lib.hid (H'.out.below (hd1.below _))
  have c1 : w1.cell? ⟨w.heap.size, 2, none⟩ = some (.slice b m c2) := (hd1.cell _).trans (by simp [go_sem])
  have c3 : w1.cell? ⟨w.heap.size + 1, 2, none⟩ = some (.slice b' m c2') := (hd1.cell _).trans (by simp [go_sem])
  have HB1 := Lib.hid (HB.out.trans (hd1.below w.heap.size))
  clear hd1
  go_wp2_with fail
  refine (sameStore_same b b' m c2 c2' W _ H1.out.2 H1'.out.2).mono ?_; rintro e w2 ⟨rfl, hd2⟩
  go_wp2
  go_ret
  exact ⟨rfl, HB1.out.trans (hd2.below _)⟩
theorem eqEffect_same (a : Option Addr) (n c : Nat) (b : Option Addr) (m c2 : Nat) (a' : Option Addr) (c' : Nat) (b' : Option Addr) (c2' : Nat) (x : Eff) (w : World) (h : RowF w a n b m x) (h' : RowF w a' n b' m x) :
    Calls Try.prog 45 #[.agg #[.bool x.done, .slice a n c, .slice b m c2], .agg #[.bool x.done, .slice a' n c', .slice b' m c2']] w fun e w' => e = .returned (.bool true) ∧ Below w.heap.size w w' := by
  obtain ⟨dn, R, W⟩ := x
  have hb0 := ((Below.refl w.heap.size w).alloc (Nat.le_refl _) (.cells #[.bool dn, .slice a n c, .slice b m c2] 39)).alloc (by simp) (.cells #[.bool dn, .slice a' n c', .slice b' m c2'] 39)
  have H := Lib.hid (h.below hb0)
  have H' := Lib.hid (h'.below hb0)
  have HB := Lib.hid hb0
  have hdd : (dn != dn) = false := by simp
  clear h h' hb0
  go_enter Try.func45, Try.ntmps45
  go_wp2_with fail
  refine (eqEntryS_same a a' n c c' R _ H.out.1 H'.out.1).mono ?_; rintro e w1 ⟨rfl, hb1⟩
  have H1 := Lib.hid (H.out.below hb1)
  have H1' := Lib.hid (H'.out.below hb1)
  have c1 : w1.cell? ⟨w.heap.size, 2, none⟩ = some (.slice b m c2) := (hb1.cell (p := ⟨w.heap.size, 2, none⟩) (by simp; omega)).trans (by simp [go_sem])
  have c3 : w1.cell? ⟨w.heap.size + 1, 2, none⟩ = some (.slice b' m c2') := (hb1.cell (p := ⟨w.heap.size + 1, 2, none⟩) (by simp)).trans (by simp [go_sem])
  have HB1 := Lib.hid (HB.out.trans (hb1.mono HB.out.size))
  clear hb1
  go_wp2_with fail
  refine (eqEntryS_same b b' m c2 c2' W _ H1.out.2 H1'.out.2).mono ?_; rintro e w2 ⟨rfl, hb2⟩
  go_wp2
  go_ret
  exact ⟨rfl, HB1.out.trans (hb2.mono HB1.out.size)⟩
theorem szEffect_any (b : Bool) (a : Option Addr) (n c : Nat) (a2 : Option Addr) (n2 c2 : Nat) (left : Int) (w : World) (h0 : 0 ≤ left) (h1 : left ≤ 1048576) (hn : n ≤ maxLen) (hn2 : n2 ≤ maxLen) :
    Calls Try.prog 50 #[.agg #[.bool b, .slice a n c, .slice a2 n2 c2], .int .i64 left] w fun e w' => e = .returned (.int .i64 (if ((n : Int) + n2) ≤ left then left - n - n2 else -1)) ∧ Below w.heap.size w w' := by
  have hb0 := (Below.refl w.heap.size w).alloc (Nat.le_refl _) (.cells #[.bool b, .slice a n c, .slice a2 n2 c2] 67)
  have HB := Lib.hid hb0
  have HN2 := Lib.hid hn2
  clear hb0 hn2
  go_enter Try.func50, Try.ntmps50
  go_wp2_with fail
  refine (szEntryS_any a n c left _ h0 h1 hn).mono ?_; rintro e w' ⟨rfl, rfl⟩
  by_cases h : (n : Int) ≤ left
  · rw [if_pos h]
    have hlt : decide (left - (n : Int) < 0) = false := by simp; omega
    clear hn
    go_wp2_with fail
    refine (szEntryS_any a2 n2 c2 (left - n) _ (by omega) (by omega) HN2.out).mono ?_; rintro e w' ⟨rfl, rfl⟩
    by_cases h2 : (n2 : Int) ≤ left - n
    · rw [if_pos h2]
      have hlt2 : decide (left - (n : Int) - (n2 : Int) < 0) = false := by simp; omega
      go_wp2
      go_ret
      exact ⟨rfl, HB.out⟩
    · rw [if_neg h2]
      go_wp2
      go_ret
      exact ⟨rfl, HB.out⟩
  · rw [if_neg h]
    clear hn
    go_wp2
    go_ret
    exact ⟨rfl, HB.out⟩
theorem owns_alE {w : World} {B : Nat} {e : TypeId} {size n : Nat} {v : Value} {xs : List Value} (h : w.ownsRow B e size v n xs) (o : Obj) : (w.alloc o).ownsRow B e size v n xs := h.alloc o
/-- The pairs of an effect are marked from k on. -/
def marksF (k : Int) (x : Eff) : Eff := ⟨x.done, marksE k x.rds.length, marksE (k + 2 * x.rds.length) x.wrs.length⟩
/-- All blocks but those of two rows are as they were. -/
def Two (v u : Value) (w w' : World) : Prop := w.heap.size ≤ w'.heap.size ∧ ∀ p, p < w.heap.size → v.ownBlock ≠ some p → u.ownBlock ≠ some p → w'.heap[p]? = w.heap[p]?
theorem Two.row {v u : Value} {w w' : World} {a : Option Addr} {n : Nat} {l : List Ent} (h : Two v u w w') (hr : RowE w a n l) (hv : ∀ b o, a = some ⟨b, o, none⟩ → v.ownBlock ≠ some b) (hu : ∀ b o, a = some ⟨b, o, none⟩ → u.ownBlock ≠ some b) : RowE w' a n l := by
  obtain ⟨h1, h2, h3, h4⟩ := hr
  refine ⟨h1, h2, fun hl => ?_, h4⟩
  obtain ⟨b, off, he, hc⟩ := h3 hl
  have hlt : b < w.heap.size := World.block_lt_of_cell? w ⟨b, off + 0 * 2, none⟩ (hc 0 hl).1
  have hb := h.2 b hlt (hv b off he) (hu b off he)
  exact ⟨b, off, he, fun i hi => ⟨(World.cell?_of_block hb).trans (hc i hi).1, (World.cell?_of_block hb).trans (hc i hi).2⟩⟩
/-- What markEffect leaves. -/
def MarkedF (w : World) (B : Nat) (v u : Value) (x : Eff) (k : Int) (e : Ending) (w' : World) : Prop :=
  e = .returned (.int .i64 (k + 2 * x.rds.length + 2 * x.wrs.length)) ∧ w'.ownsRow B 32 2 v x.rds.length (flatE (marksE k x.rds.length)) ∧
    w'.ownsRow B 32 2 u x.wrs.length (flatE (marksE (k + 2 * x.rds.length) x.wrs.length)) ∧ Two v u w w' ∧ Below B w w'
theorem markEffect_own (B : Nat) (a : Option Addr) (c : Nat) (b : Option Addr) (c2 : Nat) (x : Eff) (k : Int) (w : World) (h1 : w.ownsRow B 32 2 (.slice a x.rds.length c) x.rds.length (flatE x.rds))
    (h2 : w.ownsRow B 32 2 (.slice b x.wrs.length c2) x.wrs.length (flatE x.wrs)) (ap : ∀ p, Value.ownBlock (.slice a x.rds.length c) = some p → Value.ownBlock (.slice b x.wrs.length c2) ≠ some p)
    (hl1 : x.rds.length ≤ 2000000) (hl2 : x.wrs.length ≤ 2000000) (hk0 : 0 ≤ k) (hk1 : k ≤ 10000000) (hB : B ≤ w.heap.size) :
    Calls Try.prog 48 #[.agg #[.bool x.done, .slice a x.rds.length c, .slice b x.wrs.length c2], .int .i64 k] w (MarkedF w B (.slice a x.rds.length c) (.slice b x.wrs.length c2) x k) := by
  obtain ⟨dn, R, W⟩ := x
  have hv1 := h1.lt
  have hv2 := h2.lt
  have hc2 : (w.alloc (.cells #[.bool dn, .slice a R.length c, .slice b W.length c2] 39)).cell? ⟨w.heap.size, 2, none⟩ = some (.slice b W.length c2) := by simp [go_sem]
  have H1 := Lib.hid (owns_alE h1 (.cells #[.bool dn, .slice a R.length c, .slice b W.length c2] 39))
  have H2 := Lib.hid (owns_alE h2 (.cells #[.bool dn, .slice a R.length c, .slice b W.length c2] 39))
  have hga := World.grownBy_alloc w (.cells #[.bool dn, .slice a R.length c, .slice b W.length c2] 39) none
  have HG := Lib.hid hga
  have AP := Lib.hid ap
  simp only at hl1 hl2
  clear h1 h2 hga ap
  go_enter Try.func48, Try.ntmps48
  go_wp2_with fail
  obtain ⟨w0, hw0⟩ : ∃ w0, w0 = w.alloc (.cells #[.bool dn, .slice a R.length c, .slice b W.length c2] 39) := ⟨_, rfl⟩
  rw [← hw0] at hc2 H1 H2 HG ⊢
  have hs0 : w.heap.size ≤ w0.heap.size := HG.out.size
  clear hw0
  refine (markEntryS_own B R.length (.slice a R.length c) R k _ H1.out rfl (by omega) hk0 (by omega)).mono ?_; rintro e w1 ⟨rfl, hm1, hg1⟩
  have hd2 := hg1.cell hc2 (fun e => absurd (hv1 w.heap.size e.symm).2 (Nat.lt_irrefl _))
  have hb1 : w1.ownsRow B 32 2 (.slice b W.length c2) W.length (flatE W) := H2.out.kept hg1 (by
    rcases hq : Value.ownBlock (.slice b W.length c2) with _ | q
    · exact .inl rfl
    · exact .inr (fun e => AP.out q e.symm hq))
  have HM1 := Lib.hid hm1
  have HG1 := Lib.hid hg1
  have HB1 := Lib.hid hb1
  clear hm1 hg1 hb1 hc2
  go_wp2_with fail
  refine (markEntryS_own B W.length (.slice b W.length c2) W (k + 2 * R.length) _ HB1.out rfl (by omega) (by omega) (by omega)).mono ?_; rintro e w2 ⟨rfl, hm2, hg2⟩
  have HM2 := Lib.hid hm2
  have hk2 : w2.ownsRow B 32 2 (.slice a R.length c) R.length (flatE (marksE k R.length)) := HM1.out.kept hg2 (by
    rcases hq : Value.ownBlock (.slice b W.length c2) with _ | q
    · rcases hq2 : Value.ownBlock (.slice a R.length c) with _ | q2
      · exact .inl rfl
      · exact .inr (by simp)
    · exact .inr (fun e => AP.out q e hq |>.elim))
  have HK2 := Lib.hid hk2
  have HTT : Hid (Two (.slice a R.length c) (.slice b W.length c2) w w2) := Lib.hid ⟨Nat.le_trans hs0 (Nat.le_trans HG1.out.size hg2.size), fun p hp n1 n2 =>
    (hg2.block p (Nat.lt_of_lt_of_le (Nat.lt_of_lt_of_le hp hs0) HG1.out.size) (fun e => n2 e.symm)).trans ((HG1.out.block p (Nat.lt_of_lt_of_le hp hs0) (fun e => n1 e.symm)).trans (HG.out.block p hp (by simp)))⟩
  have HBB : Hid (Below B w w2) := Lib.hid ((((Below.refl B w).grown HG.out hB (fun q hq => by cases hq)).grown HG1.out (Nat.le_trans hB hs0) (fun q hq => (hv1 q hq).1)).grown hg2 (Nat.le_trans hB (Nat.le_trans hs0 HG1.out.size)) (fun q hq => (hv2 q hq).1))
  clear hm2 hg2 hk2 hv1 hv2 hd2
  go_wp2
  go_ret
  exact ⟨rfl, HK2.out, HM2.out, HTT.out, HBB.out⟩
theorem heldEffect_any (dn : Bool) (a : Option Addr) (n c : Nat) (b : Option Addr) (m c2 : Nat) (k : Int) (w : World) (h1 : RowE w a n (marksE k n)) (h2 : RowE w b m (marksE (k + 2 * n) m)) (hn : n ≤ 2000000) (hm : m ≤ 2000000) (hk0 : 0 ≤ k) (hk1 : k ≤ 10000000) :
    Calls Try.prog 49 #[.agg #[.bool dn, .slice a n c, .slice b m c2], .int .i64 k] w fun e w' => e = .returned (.int .i64 (k + 2 * n + 2 * m)) ∧ Below w.heap.size w w' := by
  have hb0 := (Below.refl w.heap.size w).alloc (Nat.le_refl _) (.cells #[.bool dn, .slice a n c, .slice b m c2] 39)
  have H1 := Lib.hid (h1.below hb0)
  have H2 := Lib.hid (h2.below hb0)
  have HB := Lib.hid hb0
  have q1 : decide (k + 2 * (n : Int) < 0) = false := by simp; omega
  have q2 : decide (k + 2 * (n : Int) + 2 * (m : Int) < 0) = false := by simp; omega
  clear h1 h2 hb0
  go_enter Try.func49, Try.ntmps49
  go_wp2_with fail
  refine (heldEntryS_any a n c k _ H1.out (by omega) hk0 (by omega)).mono ?_; rintro e w' ⟨rfl, rfl⟩
  go_wp2_with fail
  refine (heldEntryS_any b m c2 (k + 2 * n) _ H2.out (by omega) (by omega) (by omega)).mono ?_; rintro e w' ⟨rfl, rfl⟩
  go_wp2
  go_ret
  exact ⟨rfl, HB.out⟩
end Go.Proofs.Ytakbkomgmajnfaa
