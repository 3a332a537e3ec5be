/- The contracts of the laws' own helpers over effects: sameEffect, eqEffect, szEffect, toEffect, markEffect, heldEffect; hasKey. -/
import Derived.Test.YtpnahncmhldgdaaEffMem
import Derived.Test.YtpnahncmhldgdaaConv
namespace Go.Proofs.Ytpnahncmhldgdaa
open Go.RowKit
set_option linter.unusedVariables false
theorem sameEffect_same (a : Option Addr) (n c : Nat) (b : Option Addr) (m c2 : Nat) (a' : Option Addr) (c' : Nat) (b' : Option Addr) (c2' : Nat) (x : Eff) (w : World) (h : RowF w a n b m x) (h' : RowF w a' n b' m x) :
    Calls Try.prog 30 #[.agg #[.bool x.done, .slice a n c, .slice b m c2], .agg #[.bool x.done, .slice a' n c', .slice b' m c2']] w fun e w' => e = .returned (.bool true) ∧ Below w.heap.size w w' := by
  obtain ⟨dn, R, W⟩ := x
  have hb0 := ((Below.refl w.heap.size w).alloc (Nat.le_refl _) (.cells #[.bool dn, .slice a n c, .slice b m c2] 39)).alloc (by simp) (.cells #[.bool dn, .slice a' n c', .slice b' m c2'] 39)
  have H := Lib.hid (h.below hb0)
  have H' := Lib.hid (h'.below hb0)
  have HB := Lib.hid hb0
  have hdd : (dn == dn) = true := by simp
  clear h h' hb0
  go_enter Try.func30, Try.ntmps30
  go_wp2_with fail
  refine (sameStore_same a a' n c c' R _ H.out.1 H'.out.1).mono ?_; rintro e w1 ⟨rfl, hd1⟩
  have H1 := Lib.hid (H.out.below (hd1.below _))
  have H1' := Lib.hid (H'.out.below (hd1.below _))
  have c1 : w1.cell? ⟨w.heap.size, 2, none⟩ = some (.slice b m c2) := (hd1.cell _).trans (by simp [go_sem])
  have c3 : w1.cell? ⟨w.heap.size + 1, 2, none⟩ = some (.slice b' m c2') := (hd1.cell _).trans (by simp [go_sem])
  have HB1 := Lib.hid (HB.out.trans (hd1.below w.heap.size))
  clear hd1
  go_wp2_with fail
  refine (sameStore_same b b' m c2 c2' W _ H1.out.2 H1'.out.2).mono ?_; rintro e w2 ⟨rfl, hd2⟩
  go_wp2
  go_ret
  exact ⟨rfl, HB1.out.trans (hd2.below _)⟩
theorem eqEffect_same (a : Option Addr) (n c : Nat) (b : Option Addr) (m c2 : Nat) (a' : Option Addr) (c' : Nat) (b' : Option Addr) (c2' : Nat) (x : Eff) (w : World) (h : RowF w a n b m x) (h' : RowF w a' n b' m x) :
    Calls Try.prog 77 #[.agg #[.bool x.done, .slice a n c, .slice b m c2], .agg #[.bool x.done, .slice a' n c', .slice b' m c2']] w fun e w' => e = .returned (.bool true) ∧ Below w.heap.size w w' := by
  obtain ⟨dn, R, W⟩ := x
  have hb0 := ((Below.refl w.heap.size w).alloc (Nat.le_refl _) (.cells #[.bool dn, .slice a n c, .slice b m c2] 39)).alloc (by simp) (.cells #[.bool dn, .slice a' n c', .slice b' m c2'] 39)
  have H := Lib.hid (h.below hb0)
  have H' := Lib.hid (h'.below hb0)
  have HB := Lib.hid hb0
  have hdd : (dn != dn) = false := by simp
  clear h h' hb0
  go_enter Try.func77, Try.ntmps77
  go_wp2_with fail
  refine (eqEntryS_same a a' n c c' R _ H.out.1 H'.out.1).mono ?_; rintro e w1 ⟨rfl, hb1⟩
  have H1 := Lib.hid (H.out.below hb1)
  have H1' := Lib.hid (H'.out.below hb1)
  have c1 : w1.cell? ⟨w.heap.size, 2, none⟩ = some (.slice b m c2) := (hb1.cell (p := ⟨w.heap.size, 2, none⟩) (by simp; omega)).trans (by simp [go_sem])
  have c3 : w1.cell? ⟨w.heap.size + 1, 2, none⟩ = some (.slice b' m c2') := (hb1.cell (p := ⟨w.heap.size + 1, 2, none⟩) (by simp)).trans (by simp [go_sem])
  have HB1 := Lib.hid (HB.out.trans (hb1.mono HB.out.size))
  clear hb1
  go_wp2_with fail
  refine (eqEntryS_same b b' m c2 c2' W _ H1.out.2 H1'.out.2).mono ?_; rintro e w2 ⟨rfl, hb2⟩
  go_wp2
  go_ret
  exact ⟨rfl, HB1.out.trans (hb2.mono HB1.out.size)⟩
theorem szEffect_any (b : Bool) (a : Option Addr) (n c : Nat) (a2 : Option Addr) (n2 c2 : Nat) (left : Int) (w : World) (h0 : 0 ≤ left) (h1 : left ≤ 1048576) (hn : n ≤ maxLen) (hn2 : n2 ≤ maxLen) :
    Calls Try.prog 79 #[.agg #[.bool b, .slice a n c, .slice a2 n2 c2], .int .i64 left] w fun e w' => e = .returned (.int .i64 (if ((n : Int) + n2) ≤ left then left - n - n2 else -1)) ∧ Below w.heap.size w w' := by
  have hb0 := (Below.refl w.heap.size w).alloc (Nat.le_refl _) (.cells #[.bool b, .slice a n c, .slice a2 n2 c2] 103)
  have HB := Lib.hid hb0
  have HN2 := Lib.hid hn2
  clear hb0 hn2
  go_enter Try.func79, Try.ntmps79
  go_wp2_with fail
  refine (szEntryS_any a n c left _ h0 h1 hn).mono ?_; rintro e w' ⟨rfl, rfl⟩
  by_cases h : (n : Int) ≤ left
  · rw [if_pos h]
    have hlt : decide (left - (n : Int) < 0) = false := by simp; omega
    clear hn
    go_wp2_with fail
    refine (szEntryS_any a2 n2 c2 (left - n) _ (by omega) (by omega) HN2.out).mono ?_; rintro e w' ⟨rfl, rfl⟩
    by_cases h2 : (n2 : Int) ≤ left - n
    · rw [if_pos h2]
      have hlt2 : decide (left - (n : Int) - (n2 : Int) < 0) = false := by simp; omega
      go_wp2
      go_ret
      exact ⟨rfl, HB.out⟩
    · rw [if_neg h2]
      go_wp2
      go_ret
      exact ⟨rfl, HB.out⟩
  · rw [if_neg h]
    clear hn
    go_wp2
    go_ret
    exact ⟨rfl, HB.out⟩
theorem owns_alE {w : World} {B : Nat} {e : TypeId} {size n : Nat} {v : Value} {xs : List Value} (h : w.ownsRow B e size v n xs) (o : Obj) : (w.alloc o).ownsRow B e size v n xs := h.alloc o
/-- The pairs of an effect are marked from k on. -/
def marksF (k : Int) (x : Eff) : Eff := ⟨x.done, marksE k x.rds.length, marksE (k + 2 * x.rds.length) x.wrs.length⟩
/-- All blocks but those of two rows are as they were. -/
def Two (v u : Value) (w w' : World) : Prop := w.heap.size ≤ w'.heap.size ∧ ∀ p, p < w.heap.size → v.ownBlock ≠ some p → u.ownBlock ≠ some p → w'.heap[p]? = w.heap[p]?
theorem Two.row {v u : Value} {w w' : World} {a : Option Addr} {n : Nat} {l : List Ent} (h : Two v u w w') (hr : RowE w a n l) (hv : ∀ b o, a = some ⟨b, o, none⟩ → v.ownBlock ≠ some b) (hu : ∀ b o, a = some ⟨b, o, none⟩ → u.ownBlock ≠ some b) : RowE w' a n l := by
  obtain ⟨h1, h2, h3, h4⟩ := hr
  refine ⟨h1, h2, fun hl => ?_, h4⟩
  obtain ⟨b, off, he, hc⟩ := h3 hl
  have hlt : b < w.heap.size := World.block_lt_of_cell? w ⟨b, off + 0 * 2, none⟩ (hc 0 hl).1
  have hb := h.2 b hlt (hv b off he) (hu b off he)
  exact ⟨b, off, he, fun i hi => ⟨(World.cell?_of_block hb).trans (hc i hi).1, (World.cell?_of_block hb).trans (hc i hi).2⟩⟩
/-- What markEffect leaves. -/
def MarkedF (w : World) (B : Nat) (v u : Value) (x : Eff) (k : Int) (e : Ending) (w' : World) : Prop :=
  e = .returned (.int .i64 (k + 2 * x.rds.length + 2 * x.wrs.length)) ∧ w'.ownsRow B 70 2 v x.rds.length (flatE (marksE k x.rds.length)) ∧
    w'.ownsRow B 70 2 u x.wrs.length (flatE (marksE (k + 2 * x.rds.length) x.wrs.length)) ∧ Two v u w w' ∧ Below B w w'
end Go.Proofs.Ytpnahncmhldgdaa
