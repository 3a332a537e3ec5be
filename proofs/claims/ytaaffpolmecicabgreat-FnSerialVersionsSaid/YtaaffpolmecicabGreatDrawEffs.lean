/- The contracts of the draws of effects: l20Effect, DrawApplyEffect, DrawEffectSum. -/
import Derived.Test.YtaaffpolmecicabGreatDrawEff
import Derived.Test.YtaaffpolmecicabGreatSpecX
import Derived.Deep.RegionLaw
namespace Go.Proofs.YtaaffpolmecicabGreat
open Go.RowKit
set_option linter.unusedVariables false
/-- A drawn effect: its two rows are the call's own. -/
def DrawF (w : World) (e0 : TypeId) (R c : Nat) (e : Ending) (w' : World) : Prop :=
  ∃ (dn : Bool) (va vb : Value) (X Y : List Ent), e = .returned (.agg #[.bool dn, va, vb]) ∧ w'.ownsRow w.heap.size e0 2 va X.length (flatE X) ∧ w'.ownsRow w.heap.size e0 2 vb Y.length (flatE Y) ∧ WfE X ∧ WfE Y ∧
    X.length ≤ 40 ∧ Y.length ≤ 40 ∧ Rd w' R c ∧ Upd R w w' ∧ ∀ p, va.ownBlock = some p → vb.ownBlock ≠ some p
/-- An effect under way: the answer's block Z, its own block E, the reader R, its two rows. -/
structure EfAt (w0 w : World) (e0 : TypeId) (R P Z E : Nat) (dn : Bool) (va vb : Value) (X Y : List Ent) : Prop where
  z : ZAt w Z
  ef : EAt w E dn va vb
  rd : Rd w R P
  up : Upd R w0 w
  o1 : w.ownsRow w0.heap.size e0 2 va X.length (flatE X)
  o2 : w.ownsRow w0.heap.size e0 2 vb Y.length (flatE Y)
  ap : ∀ p, va.ownBlock = some p → vb.ownBlock ≠ some p
  n1 : va.ownBlock ≠ some Z ∧ va.ownBlock ≠ some E
  n2 : vb.ownBlock ≠ some Z ∧ vb.ownBlock ≠ some E
  wf : WfE X ∧ WfE Y
  ln : X.length ≤ 40 ∧ Y.length ≤ 40
  od : R < w0.heap.size ∧ w0.heap.size ≤ Z ∧ Z ≠ E ∧ w0.heap.size ≤ E
theorem EfAt.turn {w0 w w' : World} {e0 : TypeId} {R P P' Z E : Nat} {dn : Bool} {va vb : Value} {X Y : List Ent} (h : EfAt w0 w e0 R P Z E dn va vb X Y) (hr : Rd w' R P') (hu : Upd R w w') : EfAt w0 w' e0 R P' Z E dn va vb X Y :=
  ⟨h.z.grown hu (by have := h.od; simp; omega), h.ef.grown hu (by have := h.od; simp; omega), hr, h.up.trans hu, owns_grown h.o1 hu (fun k hk => by simp at hk; have := h.od; omega), owns_grown h.o2 hu (fun k hk => by simp at hk; have := h.od; omega), h.ap, h.n1, h.n2, h.wf, h.ln, h.od⟩
theorem EfAt.drew {w0 w : World} {e0 : TypeId} {R P Z E : Nat} {dn : Bool} {va vb : Value} {X Y : List Ent} (h : EfAt w0 w e0 R P Z E dn va vb X Y) : EfAt w0 w.drew e0 R P Z E dn va vb X Y := h.turn h.rd.drew (Upd.refl R w).drew
theorem EfAt.alloc {w0 w : World} {e0 : TypeId} {R P Z E : Nat} {dn : Bool} {va vb : Value} {X Y : List Ent} (h : EfAt w0 w e0 R P Z E dn va vb X Y) (o : Obj) : EfAt w0 (w.alloc o) e0 R P Z E dn va vb X Y := h.turn (h.rd.alloc o) ((Upd.refl R w).alloc o)
theorem EfAt.flip {w0 w : World} {e0 : TypeId} {R P Z E : Nat} {dn : Bool} {va vb : Value} {X Y : List Ent} (h : EfAt w0 w e0 R P Z E dn va vb X Y) (d : Bool) : EfAt w0 (w.setCell ⟨E, 0, none⟩ (.bool d)) e0 R P Z E d va vb X Y := by
  have hg := set_grown w E 0 (.bool d)
  have hod := h.od
  exact ⟨h.z.grown hg (by simp; omega), h.ef.set0 d, h.rd.grown hg (fun k hk => by simp at hk; omega),
    ⟨hg.os.trans h.up.os, hg.tape.trans h.up.tape, hg.output.trans h.up.output, Nat.le_trans h.up.size hg.size, fun k hk hr => (hg.block k (Nat.lt_of_lt_of_le hk h.up.size) (by simp; omega)).trans (h.up.block k hk hr)⟩,
    owns_set h.o1 h.n1.2 _ _, owns_set h.o2 h.n2.2 _ _, h.ap, h.n1, h.n2, h.wf, h.ln, h.od⟩
theorem upd_in {R : Nat} {w0 w w' : World} {row : Option Nat} (h : Upd R w0 w) (hg : w.grownBy w' row) (hr : ∀ k, row = some k → w0.heap.size ≤ k) : Upd R w0 w' :=
  ⟨hg.os.trans h.os, hg.tape.trans h.tape, hg.output.trans h.output, Nat.le_trans h.size hg.size, fun k hk hne => (hg.block k (Nat.lt_of_lt_of_le hk h.size) (fun e => by have := hr k e.symm; omega)).trans (h.block k hk hne)⟩
/-- One pair more at the row of what is written; its place in the effect is still the elder one's. -/
theorem EfAt.app2 {w0 w w' : World} {e0 : TypeId} {R P Z E : Nat} {dn : Bool} {va vb v' : Value} {X Y : List Ent} {o : Obj} (h : EfAt w0 w e0 R P Z E dn va vb X Y) (hg : (w.alloc o).grownBy w' vb.ownBlock) {k u : Int}
    (ho : w'.ownsRow w0.heap.size e0 2 v' (Y.length + 1) (flatE Y ++ [.int .i64 k, .int .i64 u])) (hat : v'.ownBlock = vb.ownBlock ∨ v'.ownBlock = some (w.heap.size + 1)) (hk : (Lit.int .i64 k).wf = true) (hu : (Lit.int .i64 u).wf = true) (hl : Y.length ≤ 39) :
    EfAt w0 (w'.setCell ⟨E, 2, none⟩ v') e0 R P Z E dn va v' X (Y ++ [(k, u)]) := by
  have ha := h.alloc o
  have hod := h.od
  have hZ : Z < w.heap.size := h.z.2.2
  have hE : E < w.heap.size := h.ef.2.2
  have hb := h.o2.lt
  have m1 : ∀ q, q < w.heap.size → vb.ownBlock ≠ some q → v'.ownBlock ≠ some q := fun q hq hn e => by
    rcases hat with h1 | h1
    · exact hn (h1 ▸ e)
    · rw [h1] at e; simp at e; omega
  have hs := set_grown w' E 2 v'
  have hrow : ∀ q, vb.ownBlock = some q → w0.heap.size ≤ q := fun q hq => (hb q hq).1
  have r1 : Rd w' R P := ha.rd.grown hg (fun q hq => by have := hrow q hq; omega)
  have u1 : Upd R w0 w' := upd_in ha.up hg hrow
  have o1' : w'.ownsRow w0.heap.size e0 2 va X.length (flatE X) := ha.o1.kept hg (by
    rcases hq : vb.ownBlock with _ | q
    · rcases hq2 : va.ownBlock with _ | q2
      · exact .inl rfl
      · exact .inr (by simp)
    · exact .inr (fun e => h.ap q e hq |>.elim))
  refine ⟨(ha.z.grown hg (fun e => h.n2.1 e.symm)).grown hs (by simp; omega), (ha.ef.grown hg (fun e => h.n2.2 e.symm)).set2 v', r1.grown hs (fun q hq => by simp at hq; omega), upd_in u1 hs (fun q hq => by simp at hq; omega),
    owns_set o1' h.n1.2 _ _, ?_, ?_, h.n1, ⟨m1 Z hZ h.n2.1, m1 E hE h.n2.2⟩, ⟨h.wf.1, h.wf.2.snoc hk hu⟩, ⟨h.ln.1, by simp; omega⟩, h.od⟩
  · have := owns_set ho (m1 E hE h.n2.2) 2 v'
    rw [flatE_append, List.length_append]; exact this
  · intro p hp
    exact m1 p (h.o1.lt p hp).2 (h.ap p hp)
theorem EfAt.app1 {w0 w w' : World} {e0 : TypeId} {R P Z E : Nat} {dn : Bool} {va vb v' : Value} {X Y : List Ent} {o : Obj} (h : EfAt w0 w e0 R P Z E dn va vb X Y) (hg : (w.alloc o).grownBy w' va.ownBlock) {k u : Int}
    (ho : w'.ownsRow w0.heap.size e0 2 v' (X.length + 1) (flatE X ++ [.int .i64 k, .int .i64 u])) (hat : v'.ownBlock = va.ownBlock ∨ v'.ownBlock = some (w.heap.size + 1)) (hk : (Lit.int .i64 k).wf = true) (hu : (Lit.int .i64 u).wf = true) (hl : X.length ≤ 39) :
    EfAt w0 (w'.setCell ⟨E, 1, none⟩ v') e0 R P Z E dn v' vb (X ++ [(k, u)]) Y := by
  have ha := h.alloc o
  have hod := h.od
  have hZ : Z < w.heap.size := h.z.2.2
  have hE : E < w.heap.size := h.ef.2.2
  have hb := h.o1.lt
  have m1 : ∀ q, q < w.heap.size → va.ownBlock ≠ some q → v'.ownBlock ≠ some q := fun q hq hn e => by
    rcases hat with h1 | h1
    · exact hn (h1 ▸ e)
    · rw [h1] at e; simp at e; omega
  have hs := set_grown w' E 1 v'
  have hrow : ∀ q, va.ownBlock = some q → w0.heap.size ≤ q := fun q hq => (hb q hq).1
  have r1 : Rd w' R P := ha.rd.grown hg (fun q hq => by have := hrow q hq; omega)
  have u1 : Upd R w0 w' := upd_in ha.up hg hrow
  have hne : ∀ q, vb.ownBlock = some q → va.ownBlock ≠ some q := fun q hq e => h.ap q e hq
  have o2' : w'.ownsRow w0.heap.size e0 2 vb Y.length (flatE Y) := ha.o2.kept hg (by
    rcases hq : va.ownBlock with _ | q
    · rcases hq2 : vb.ownBlock with _ | q2
      · exact .inl rfl
      · exact .inr (by simp)
    · exact .inr (fun e => hne q e hq |>.elim))
  refine ⟨(ha.z.grown hg (fun e => h.n1.1 e.symm)).grown hs (by simp; omega), (ha.ef.grown hg (fun e => h.n1.2 e.symm)).set1 v', r1.grown hs (fun q hq => by simp at hq; omega), upd_in u1 hs (fun q hq => by simp at hq; omega),
    ?_, owns_set o2' h.n2.2 _ _, ?_, ⟨m1 Z hZ h.n1.1, m1 E hE h.n1.2⟩, h.n2, ⟨h.wf.1.snoc hk hu, h.wf.2⟩, ⟨by simp; omega, h.ln.2⟩, h.od⟩
  · have := owns_set ho (m1 E hE h.n1.2) 1 v'
    rw [flatE_append, List.length_append]; exact this
  · intro p hp hq
    exact m1 p (h.o2.lt p hq).2 (hne p hq) hp
/-- The answer's block is written: what the effect reads as, and that all that is old stays. -/
theorem EfAt.fin {w0 w : World} {e0 : TypeId} {R P Z E : Nat} {dn : Bool} {va vb : Value} {X Y : List Ent} (h : EfAt w0 w e0 R P Z E dn va vb X Y) (c : Nat) (hc : P ≤ c) (w' : World) (hw : w' = ((w.setCell ⟨Z, 0, none⟩ (.bool dn)).setCell ⟨Z, 1, none⟩ va).setCell ⟨Z, 2, none⟩ vb) :
    EAt w' Z dn va vb ∧ DrawF w0 e0 R c (.returned (.agg #[.bool dn, va, vb])) w' := by
  subst hw
  have hg := (grownBy_tr (grownBy_tr (set_grown w Z 0 (.bool dn)) (set_grown _ Z 1 va)) (set_grown _ Z 2 vb))
  have hod := h.od
  have hz : EAt w Z false (.slice none 0 0) (.slice none 0 0) := h.z
  exact ⟨((hz.set0 dn).set1 va).set2 vb, dn, va, vb, X, Y, rfl, owns_set (owns_set (owns_set h.o1 h.n1.1 0 (.bool dn)) h.n1.1 1 va) h.n1.1 2 vb, owns_set (owns_set (owns_set h.o2 h.n2.1 0 (.bool dn)) h.n2.1 1 va) h.n2.1 2 vb, h.wf.1, h.wf.2, h.ln.1, h.ln.2,
    (h.rd.grown hg (fun k hk => by simp at hk; omega)).mono hc, upd_in h.up hg (fun k hk => by simp at hk; omega), h.ap⟩
theorem lit_at3 {w : World} {T : TypeId} {p q r : Int} {x : Int} (h0 : 0 ≤ x) (h1 : x < 3) :
    ∃ y, (w.alloc (.cells #[.int .i64 p, .int .i64 q, .int .i64 r] T)).cell? ⟨w.heap.size, x.toNat, none⟩ = some (.int .i64 y) ∧ (#[Value.int .i64 p, .int .i64 q, .int .i64 r] : Array Value)[x.toNat]? = some (.int .i64 y) ∧ (y = p ∨ y = q ∨ y = r) := by
  rcases (by omega : x = 0 ∨ x = 1 ∨ x = 2) with rfl | rfl | rfl
  · exact ⟨p, by simp [go_sem], by simp, .inl rfl⟩
  · exact ⟨q, by simp [go_sem], by simp, .inr (.inl rfl)⟩
  · exact ⟨r, by simp [go_sem], by simp, .inr (.inr rfl)⟩
theorem lit_at2 {w : World} {T : TypeId} {p q : Int} {x : Int} (h0 : 0 ≤ x) (h1 : x < 2) :
    ∃ y, (w.alloc (.cells #[.int .i64 p, .int .i64 q] T)).cell? ⟨w.heap.size, x.toNat, none⟩ = some (.int .i64 y) ∧ (#[Value.int .i64 p, .int .i64 q] : Array Value)[x.toNat]? = some (.int .i64 y) ∧ (y = p ∨ y = q) := by
  rcases (by omega : x = 0 ∨ x = 1) with rfl | rfl
  · exact ⟨p, by simp [go_sem], by simp, .inl rfl⟩
  · exact ⟨q, by simp [go_sem], by simp, .inr rfl⟩
theorem pick_lit3 {w6 w7 : World} {R : Nat} {T : TypeId} {p q r : Int} (hu : Upd R (w6.alloc (.cells #[.int .i64 p, .int .i64 q, .int .i64 r] T)).drew w7) (hR : R < w6.heap.size) {x : Int} (h0 : 0 ≤ x) (h1 : x < 3) :
    ∃ y, w7.cell? ⟨w6.heap.size, x.toNat, none⟩ = some (.int .i64 y) ∧ (y = p ∨ y = q ∨ y = r) := by
  rcases (by omega : x = 0 ∨ x = 1 ∨ x = 2) with rfl | rfl | rfl
  · exact ⟨p, hu.cell (show (w6.alloc (.cells #[.int .i64 p, .int .i64 q, .int .i64 r] T)).cell? ⟨w6.heap.size, 0, none⟩ = _ by simp [go_sem]) (by omega), .inl rfl⟩
  · exact ⟨q, hu.cell (show (w6.alloc (.cells #[.int .i64 p, .int .i64 q, .int .i64 r] T)).cell? ⟨w6.heap.size, 1, none⟩ = _ by simp [go_sem]) (by omega), .inr (.inl rfl)⟩
  · exact ⟨r, hu.cell (show (w6.alloc (.cells #[.int .i64 p, .int .i64 q, .int .i64 r] T)).cell? ⟨w6.heap.size, 2, none⟩ = _ by simp [go_sem]) (by omega), .inr (.inr rfl)⟩
theorem pick_lit2 {w6 w7 : World} {R : Nat} {T : TypeId} {p q : Int} (hu : Upd R (w6.alloc (.cells #[.int .i64 p, .int .i64 q] T)).drew w7) (hR : R < w6.heap.size) {x : Int} (h0 : 0 ≤ x) (h1 : x < 2) :
    ∃ y, w7.cell? ⟨w6.heap.size, x.toNat, none⟩ = some (.int .i64 y) ∧ (y = p ∨ y = q) := by
  rcases (by omega : x = 0 ∨ x = 1) with rfl | rfl
  · exact ⟨p, hu.cell (show (w6.alloc (.cells #[.int .i64 p, .int .i64 q] T)).cell? ⟨w6.heap.size, 0, none⟩ = _ by simp [go_sem]) (by omega), .inl rfl⟩
  · exact ⟨q, hu.cell (show (w6.alloc (.cells #[.int .i64 p, .int .i64 q] T)).cell? ⟨w6.heap.size, 1, none⟩ = _ by simp [go_sem]) (by omega), .inr rfl⟩
end Go.Proofs.YtaaffpolmecicabGreat
