/- The contracts of the draws of effects: l20Effect, DrawApplyEffect, DrawEffectSum. -/
import Derived.Test.YtaaffpolmecicaaDrawEff
import Derived.Test.YtaaffpolmecicaaSpecX
import Derived.Deep.RegionLaw
namespace Go.Proofs.Ytaaffpolmecicaa
open Go.RowKit
set_option linter.unusedVariables false
/-- A drawn effect: its two rows are the call's own. -/
def DrawF (w : World) (e0 : TypeId) (R c : Nat) (e : Ending) (w' : World) : Prop :=
  ∃ (dn : Bool) (va vb : Value) (X Y : List Ent), e = .returned (.agg #[.bool dn, va, vb]) ∧ w'.ownsRow w.heap.size e0 2 va X.length (flatE X) ∧ w'.ownsRow w.heap.size e0 2 vb Y.length (flatE Y) ∧ WfE X ∧ WfE Y ∧
    X.length ≤ 40 ∧ Y.length ≤ 40 ∧ Rd w' R c ∧ Upd R w w' ∧ ∀ p, va.ownBlock = some p → vb.ownBlock ≠ some p
/-- An effect under way: the answer's block Z, its own block E, the reader R, its two rows. -/
structure EfAt (w0 w : World) (e0 : TypeId) (R P Z E : Nat) (dn : Bool) (va vb : Value) (X Y : List Ent) : Prop where
  z : ZAt w Z
  ef : EAt w E dn va vb
  rd : Rd w R P
  up : Upd R w0 w
  o1 : w.ownsRow w0.heap.size e0 2 va X.length (flatE X)
  o2 : w.ownsRow w0.heap.size e0 2 vb Y.length (flatE Y)
  ap : ∀ p, va.ownBlock = some p → vb.ownBlock ≠ some p
  n1 : va.ownBlock ≠ some Z ∧ va.ownBlock ≠ some E
  n2 : vb.ownBlock ≠ some Z ∧ vb.ownBlock ≠ some E
  wf : WfE X ∧ WfE Y
  ln : X.length ≤ 40 ∧ Y.length ≤ 40
  od : R < w0.heap.size ∧ w0.heap.size ≤ Z ∧ Z ≠ E ∧ w0.heap.size ≤ E
theorem EfAt.turn {w0 w w' : World} {e0 : TypeId} {R P P' Z E : Nat} {dn : Bool} {va vb : Value} {X Y : List Ent} (h : EfAt w0 w e0 R P Z E dn va vb X Y) (hr : Rd w' R P') (hu : Upd R w w') : EfAt w0 w' e0 R P' Z E dn va vb X Y :=
  ⟨h.z.grown hu (by have := h.od; simp; omega), h.ef.grown hu (by have := h.od; simp; omega), hr, h.up.trans hu, owns_grown h.o1 hu (fun k hk => by simp at hk; have := h.od; omega), owns_grown h.o2 hu (fun k hk => by simp at hk; have := h.od; omega), h.ap, h.n1, h.n2, h.wf, h.ln, h.od⟩
theorem EfAt.drew {w0 w : World} {e0 : TypeId} {R P Z E : Nat} {dn : Bool} {va vb : Value} {X Y : List Ent} (h : EfAt w0 w e0 R P Z E dn va vb X Y) : EfAt w0 w.drew e0 R P Z E dn va vb X Y := h.turn h.rd.drew (Upd.refl R w).drew
theorem EfAt.alloc {w0 w : World} {e0 : TypeId} {R P Z E : Nat} {dn : Bool} {va vb : Value} {X Y : List Ent} (h : EfAt w0 w e0 R P Z E dn va vb X Y) (o : Obj) : EfAt w0 (w.alloc o) e0 R P Z E dn va vb X Y := h.turn (h.rd.alloc o) ((Upd.refl R w).alloc o)
theorem EfAt.flip {w0 w : World} {e0 : TypeId} {R P Z E : Nat} {dn : Bool} {va vb : Value} {X Y : List Ent} (h : EfAt w0 w e0 R P Z E dn va vb X Y) (d : Bool) : EfAt w0 (w.setCell ⟨E, 0, none⟩ (.bool d)) e0 R P Z E d va vb X Y := by
  have hg := set_grown w E 0 (.bool d)
  have hod := h.od
  exact ⟨h.z.grown hg (by simp; omega), h.ef.set0 d, h.rd.grown hg (fun k hk => by simp at hk; omega),
    ⟨hg.os.trans h.up.os, hg.tape.trans h.up.tape, hg.output.trans h.up.output, Nat.le_trans h.up.size hg.size, fun k hk hr => (hg.block k (Nat.lt_of_lt_of_le hk h.up.size) (by simp; omega)).trans (h.up.block k hk hr)⟩,
    owns_set h.o1 h.n1.2 _ _, owns_set h.o2 h.n2.2 _ _, h.ap, h.n1, h.n2, h.wf, h.ln, h.od⟩
theorem upd_in {R : Nat} {w0 w w' : World} {row : Option Nat} (h : Upd R w0 w) (hg : w.grownBy w' row) (hr : ∀ k, row = some k → w0.heap.size ≤ k) : Upd R w0 w' :=
  ⟨hg.os.trans h.os, hg.tape.trans h.tape, hg.output.trans h.output, Nat.le_trans h.size hg.size, fun k hk hne => (hg.block k (Nat.lt_of_lt_of_le hk h.size) (fun e => by have := hr k e.symm; omega)).trans (h.block k hk hne)⟩
/-- One pair more at the row of what is written; its place in the effect is still the elder one's. -/
theorem EfAt.app2 {w0 w w' : World} {e0 : TypeId} {R P Z E : Nat} {dn : Bool} {va vb v' : Value} {X Y : List Ent} {o : Obj} (h : EfAt w0 w e0 R P Z E dn va vb X Y) (hg : (w.alloc o).grownBy w' vb.ownBlock) {k u : Int}
    (ho : w'.ownsRow w0.heap.size e0 2 v' (Y.length + 1) (flatE Y ++ [.int .i64 k, .int .i64 u])) (hat : v'.ownBlock = vb.ownBlock ∨ v'.ownBlock = some (w.heap.size + 1)) (hk : (Lit.int .i64 k).wf = true) (hu : (Lit.int .i64 u).wf = true) (hl : Y.length ≤ 39) :
    EfAt w0 (w'.setCell ⟨E, 2, none⟩ v') e0 R P Z E dn va v' X (Y ++ [(k, u)]) := by
  have ha := h.alloc o
  have hod := h.od
  have hZ : Z < w.heap.size := h.z.2.2
  have hE : E < w.heap.size := h.ef.2.2
  have hb := h.o2.lt
  have m1 : ∀ q, q < w.heap.size → vb.ownBlock ≠ some q → v'.ownBlock ≠ some q := fun q hq hn e => by
    rcases hat with h1 | h1
    · exact hn (h1 ▸ e)
    · rw [h1] at e; simp at e; omega
  have hs := set_grown w' E 2 v'
  have hrow : ∀ q, vb.ownBlock = some q → w0.heap.size ≤ q := fun q hq => (hb q hq).1
  have r1 : Rd w' R P := ha.rd.grown hg (fun q hq => by have := hrow q hq; omega)
  have u1 : Upd R w0 w' := upd_in ha.up hg hrow
  have o1' : w'.ownsRow w0.heap.size e0 2 va X.length (flatE X) := ha.o1.kept hg (by
    rcases hq : vb.ownBlock with _ | q
    · rcases hq2 : va.ownBlock with _ | q2
      · exact .inl rfl
      · exact .inr (by simp)
    · exact .inr (fun e => h.ap q e hq |>.elim))
  refine ⟨(ha.z.grown hg (fun e => h.n2.1 e.symm)).grown hs (by simp; omega), (ha.ef.grown hg (fun e => h.n2.2 e.symm)).set2 v', r1.grown hs (fun q hq => by simp at hq; omega), upd_in u1 hs (fun q hq => by simp at hq; omega),
    owns_set o1' h.n1.2 _ _, ?_, ?_, h.n1, ⟨m1 Z hZ h.n2.1, m1 E hE h.n2.2⟩, ⟨h.wf.1, h.wf.2.snoc hk hu⟩, ⟨h.ln.1, by simp; omega⟩, h.od⟩
  · have := owns_set ho (m1 E hE h.n2.2) 2 v'
    rw [flatE_append, List.length_append]; exact this
  · intro p hp
    exact m1 p (h.o1.lt p hp).2 (h.ap p hp)
theorem EfAt.app1 {w0 w w' : World} {e0 : TypeId} {R P Z E : Nat} {dn : Bool} {va vb v' : Value} {X Y : List Ent} {o : Obj} (h : EfAt w0 w e0 R P Z E dn va vb X Y) (hg : (w.alloc o).grownBy w' va.ownBlock) {k u : Int}
    (ho : w'.ownsRow w0.heap.size e0 2 v' (X.length + 1) (flatE X ++ [.int .i64 k, .int .i64 u])) (hat : v'.ownBlock = va.ownBlock ∨ v'.ownBlock = some (w.heap.size + 1)) (hk : (Lit.int .i64 k).wf = true) (hu : (Lit.int .i64 u).wf = true) (hl : X.length ≤ 39) :
    EfAt w0 (w'.setCell ⟨E, 1, none⟩ v') e0 R P Z E dn v' vb (X ++ [(k, u)]) Y := by
  have ha := h.alloc o
  have hod := h.od
  have hZ : Z < w.heap.size := h.z.2.2
  have hE : E < w.heap.size := h.ef.2.2
  have hb := h.o1.lt
  have m1 : ∀ q, q < w.heap.size → va.ownBlock ≠ some q → v'.ownBlock ≠ some q := fun q hq hn e => by
    rcases hat with h1 | h1
    · exact hn (h1 ▸ e)
    · rw [h1] at e; simp at e; omega
  have hs := set_grown w' E 1 v'
  have hrow : ∀ q, va.ownBlock = some q → w0.heap.size ≤ q := fun q hq => (hb q hq).1
  have r1 : Rd w' R P := ha.rd.grown hg (fun q hq => by have := hrow q hq; omega)
  have u1 : Upd R w0 w' := upd_in ha.up hg hrow
  have hne : ∀ q, vb.ownBlock = some q → va.ownBlock ≠ some q := fun q hq e => h.ap q e hq
  have o2' : w'.ownsRow w0.heap.size e0 2 vb Y.length (flatE Y) := ha.o2.kept hg (by
    rcases hq : va.ownBlock with _ | q
    · rcases hq2 : vb.ownBlock with _ | q2
      · exact .inl rfl
      · exact .inr (by simp)
    · exact .inr (fun e => hne q e hq |>.elim))
  refine ⟨(ha.z.grown hg (fun e => h.n1.1 e.symm)).grown hs (by simp; omega), (ha.ef.grown hg (fun e => h.n1.2 e.symm)).set1 v', r1.grown hs (fun q hq => by simp at hq; omega), upd_in u1 hs (fun q hq => by simp at hq; omega),
    ?_, owns_set o2' h.n2.2 _ _, ?_, ⟨m1 Z hZ h.n1.1, m1 E hE h.n1.2⟩, h.n2, ⟨h.wf.1.snoc hk hu, h.wf.2⟩, ⟨by simp; omega, h.ln.2⟩, h.od⟩
  · have := owns_set ho (m1 E hE h.n1.2) 1 v'
    rw [flatE_append, List.length_append]; exact this
  · intro p hp hq
    exact m1 p (h.o2.lt p hq).2 (hne p hq) hp
/-- The answer's block is written: what the effect reads as, and that all that is old stays. -/
theorem EfAt.fin {w0 w : World} {e0 : TypeId} {R P Z E : Nat} {dn : Bool} {va vb : Value} {X Y : List Ent} (h : EfAt w0 w e0 R P Z E dn va vb X Y) (c : Nat) (hc : P ≤ c) (w' : World) (hw : w' = ((w.setCell ⟨Z, 0, none⟩ (.bool dn)).setCell ⟨Z, 1, none⟩ va).setCell ⟨Z, 2, none⟩ vb) :
    EAt w' Z dn va vb ∧ DrawF w0 e0 R c (.returned (.agg #[.bool dn, va, vb])) w' := by
  subst hw
  have hg := (grownBy_tr (grownBy_tr (set_grown w Z 0 (.bool dn)) (set_grown _ Z 1 va)) (set_grown _ Z 2 vb))
  have hod := h.od
  have hz : EAt w Z false (.slice none 0 0) (.slice none 0 0) := h.z
  exact ⟨((hz.set0 dn).set1 va).set2 vb, dn, va, vb, X, Y, rfl, owns_set (owns_set (owns_set h.o1 h.n1.1 0 (.bool dn)) h.n1.1 1 va) h.n1.1 2 vb, owns_set (owns_set (owns_set h.o2 h.n2.1 0 (.bool dn)) h.n2.1 1 va) h.n2.1 2 vb, h.wf.1, h.wf.2, h.ln.1, h.ln.2,
    (h.rd.grown hg (fun k hk => by simp at hk; omega)).mono hc, upd_in h.up hg (fun k hk => by simp at hk; omega), h.ap⟩
theorem lit_at3 {w : World} {T : TypeId} {p q r : Int} {x : Int} (h0 : 0 ≤ x) (h1 : x < 3) :
    ∃ y, (w.alloc (.cells #[.int .i64 p, .int .i64 q, .int .i64 r] T)).cell? ⟨w.heap.size, x.toNat, none⟩ = some (.int .i64 y) ∧ (#[Value.int .i64 p, .int .i64 q, .int .i64 r] : Array Value)[x.toNat]? = some (.int .i64 y) ∧ (y = p ∨ y = q ∨ y = r) := by
  rcases (by omega : x = 0 ∨ x = 1 ∨ x = 2) with rfl | rfl | rfl
  · exact ⟨p, by simp [go_sem], by simp, .inl rfl⟩
  · exact ⟨q, by simp [go_sem], by simp, .inr (.inl rfl)⟩
  · exact ⟨r, by simp [go_sem], by simp, .inr (.inr rfl)⟩
theorem lit_at2 {w : World} {T : TypeId} {p q : Int} {x : Int} (h0 : 0 ≤ x) (h1 : x < 2) :
    ∃ y, (w.alloc (.cells #[.int .i64 p, .int .i64 q] T)).cell? ⟨w.heap.size, x.toNat, none⟩ = some (.int .i64 y) ∧ (#[Value.int .i64 p, .int .i64 q] : Array Value)[x.toNat]? = some (.int .i64 y) ∧ (y = p ∨ y = q) := by
  rcases (by omega : x = 0 ∨ x = 1) with rfl | rfl
  · exact ⟨p, by simp [go_sem], by simp, .inl rfl⟩
  · exact ⟨q, by simp [go_sem], by simp, .inr rfl⟩
theorem pick_lit3 {w6 w7 : World} {R : Nat} {T : TypeId} {p q r : Int} (hu : Upd R (w6.alloc (.cells #[.int .i64 p, .int .i64 q, .int .i64 r] T)).drew w7) (hR : R < w6.heap.size) {x : Int} (h0 : 0 ≤ x) (h1 : x < 3) :
    ∃ y, w7.cell? ⟨w6.heap.size, x.toNat, none⟩ = some (.int .i64 y) ∧ (y = p ∨ y = q ∨ y = r) := by
  rcases (by omega : x = 0 ∨ x = 1 ∨ x = 2) with rfl | rfl | rfl
  · exact ⟨p, hu.cell (show (w6.alloc (.cells #[.int .i64 p, .int .i64 q, .int .i64 r] T)).cell? ⟨w6.heap.size, 0, none⟩ = _ by simp [go_sem]) (by omega), .inl rfl⟩
  · exact ⟨q, hu.cell (show (w6.alloc (.cells #[.int .i64 p, .int .i64 q, .int .i64 r] T)).cell? ⟨w6.heap.size, 1, none⟩ = _ by simp [go_sem]) (by omega), .inr (.inl rfl)⟩
  · exact ⟨r, hu.cell (show (w6.alloc (.cells #[.int .i64 p, .int .i64 q, .int .i64 r] T)).cell? ⟨w6.heap.size, 2, none⟩ = _ by simp [go_sem]) (by omega), .inr (.inr rfl)⟩
theorem pick_lit2 {w6 w7 : World} {R : Nat} {T : TypeId} {p q : Int} (hu : Upd R (w6.alloc (.cells #[.int .i64 p, .int .i64 q] T)).drew w7) (hR : R < w6.heap.size) {x : Int} (h0 : 0 ≤ x) (h1 : x < 2) :
    ∃ y, w7.cell? ⟨w6.heap.size, x.toNat, none⟩ = some (.int .i64 y) ∧ (y = p ∨ y = q) := by
  rcases (by omega : x = 0 ∨ x = 1) with rfl | rfl
  · exact ⟨p, hu.cell (show (w6.alloc (.cells #[.int .i64 p, .int .i64 q] T)).cell? ⟨w6.heap.size, 0, none⟩ = _ by simp [go_sem]) (by omega), .inl rfl⟩
  · exact ⟨q, hu.cell (show (w6.alloc (.cells #[.int .i64 p, .int .i64 q] T)).cell? ⟨w6.heap.size, 1, none⟩ = _ by simp [go_sem]) (by omega), .inr rfl⟩
set_option maxRecDepth 100000 in
set_option maxHeartbeats 4000000 in
theorem l20Effect_any (R P : Nat) (n : Int) (w : World) (h : Rd w R P) (hP : P ≤ 700000) (hn0 : 0 ≤ n) (hn : n ≤ 1000) :
    Calls Try.prog 71 #[.pointer (some ⟨R, 0, none⟩), .int .i64 n] w (DrawF w 60 R (P + 90)) := by
  have hRw := h.lt
  have hz0 := zAt_new w 93
  go_enter Try.func71, Try.ntmps71
  go_wp2_with fail
  refine (l20Store_any R P 0 _ (h.alloc _) (by omega) (by omega) (by omega)).mono ?_; rintro e w1 ⟨v, S, rfl, hown, hwf, hlen, hr1, hu1⟩
  have hz1 := hz0.grown hu1 (by simp; omega)
  have HU1 := Lib.hid (((Upd.refl R w).alloc (.cells #[.bool false, .slice none 0 0, .slice none 0 0] 93)).trans hu1)
  obtain ⟨g, c, rfl, hgB, hrow⟩ := rowE_of_own hown (by omega) hwf
  have hgR : g ≠ R := by simp at hgB; omega
  clear hown hu1 hz0
  go_wp2_with fail
  refine (l20Action_any R _ 0 _ hr1 (by omega) (by omega) (by omega)).mono ?_; rintro e w2 ⟨p, q, r, t, rfl, -, -, -, -, hr2, hu2⟩
  have hrow2 : RowE w2 (some ⟨g, 0, none⟩) S.length S := hrow.grown hu2 (by simp; exact hgR)
  have hz2 := hz1.grown hu2 (by simp; omega)
  have HU2 := Lib.hid (HU1.out.trans hu2)
  clear hr1 hu2 hz1 hrow
  go_wp2_with fail
  refine (runAction_spec _ _ c S p q r t _ hrow2).mono ?_; rintro e w3 ⟨v3, rfl, hF3, hb3⟩
  have HRL := Lib.hid (runM_rlen S ⟨p, q, r, t⟩)
  have HWL := Lib.hid (runM_wlen S ⟨p, q, r, t⟩)
  obtain ⟨X, hX⟩ : ∃ X, X = runM S ⟨p, q, r, t⟩ := ⟨_, rfl⟩
  rw [← hX] at hF3 HRL HWL
  clear hX
  obtain ⟨a, ca, b, cb, rfl, hf, o1, o2, ap, -, -⟩ := hF3.rows (by have := HRL.out; omega) (by have := HWL.out; omega)
  have hE3 : EfAt w (w3.alloc (.cells #[.bool X.done, .slice a X.rds.length ca, .slice b X.wrs.length cb] 93)) 60 R (P + 60 + 13) w.heap.size w3.heap.size X.done (.slice a X.rds.length ca) (.slice b X.wrs.length cb) X.rds X.wrs := by
    have hzl := hz2.2.2
    have hbs := hb3.size
    have l1 := o1.lt
    have l2 := o2.lt
    exact ⟨(hz2.below hb3 hzl).grown (World.grownBy_alloc _ _ none) (by simp), eAt_new _ _ _ _ _, (hr2.below hb3).alloc _, (HU2.out.trans (Upd.ofBelow R hb3)).alloc _, owns_al (owns_mono o1 (Nat.le_of_lt hzl)) _, owns_al (owns_mono o2 (Nat.le_of_lt hzl)) _, ap,
      ⟨fun e => by have := (l1 _ e).1; omega, fun e => by have := (l1 _ e).2; omega⟩, ⟨fun e => by have := (l2 _ e).1; omega, fun e => by have := (l2 _ e).2; omega⟩, ⟨hf.1.2.2.2, hf.2.2.2.2⟩, ⟨by have := HRL.out; omega, by have := HWL.out; omega⟩, ⟨hRw, Nat.le_refl _, by omega, by omega⟩⟩
  have HRL2 := HRL
  have HWL2 := HWL
  clear o1 o2 ap hf hr2 hz2 hb3 hrow2 HRL HWL HU2 hF3
  go_wp2_with fail
  obtain ⟨w4, hw4⟩ : ∃ w4, w4 = w3.alloc (.cells #[.bool X.done, .slice a X.rds.length ca, .slice b X.wrs.length cb] 93) := ⟨_, rfl⟩
  rw [← hw4] at hE3 ⊢
  clear hw4
  obtain ⟨E, hEe⟩ : ∃ E, E = w3.heap.size := ⟨_, rfl⟩
  rw [← hEe] at hE3 ⊢
  clear hEe
  obtain ⟨dn, hdn⟩ : ∃ dn, dn = X.done := ⟨_, rfl⟩
  obtain ⟨U, hU⟩ : ∃ U, U = X.rds := ⟨_, rfl⟩
  obtain ⟨V, hV⟩ : ∃ V, V = X.wrs := ⟨_, rfl⟩
  have hUl : U.length ≤ 2 := by rw [hU]; exact HRL2.out
  have hVl : V.length ≤ 32 := by rw [hV]; exact HWL2.out
  rw [← hdn, ← hU, ← hV] at hE3
  clear hdn hU hV
  refine (odd_any R _ n _ hE3.rd (by omega) (by omega) hn0).mono ?_; rintro e w5 ⟨ob, rfl, hr5, hu5⟩
  have h5 := hE3.turn hr5 hu5
  clear hE3 hr5 hu5
  cases ob with
  | false =>
    have HFIN := Lib.hid (h5.fin (P + 90) (by omega) _ rfl)
    obtain ⟨⟨z1, z2, z3⟩, ⟨z4, z5, z6⟩, -⟩ := h5.z
    obtain ⟨⟨c1, c2, c3⟩, ⟨c4, c5, c6⟩, -⟩ := h5.ef
    have hod := h5.od.2.2.1
    clear h5
    go_wp2_with fail
    exact bodyPost_ret (results_eff Try.results71 _ (by rfl) HFIN.out.1) rfl HFIN.out.2
  | true =>
    go_wp2_with fail
    refine (pick_pos R _ 3 _ h5.rd (by omega) (by omega) (by omega)).mono ?_; rintro e w6 ⟨x6, rfl, hp0, hp1, hr6, hu6⟩
    have h6 := h5.turn hr6 hu6
    clear h5 hr6 hu6
    rcases (by omega : x6 = 0 ∨ x6 = 1 ∨ x6 = 2) with rfl | rfl | rfl
    · have HFIN := Lib.hid ((h6.flip (!dn)).fin (P + 90) (by omega) _ rfl)
      obtain ⟨⟨z1, z2, z3⟩, ⟨z4, z5, z6⟩, -⟩ := h6.z
      obtain ⟨⟨c1, c2, c3⟩, ⟨c4, c5, c6⟩, -⟩ := h6.ef
      have hod := h6.od.2.2.1
      clear h6
      go_wp2_with fail
      exact bodyPost_ret (results_eff Try.results71 _ (by rfl) HFIN.out.1) rfl HFIN.out.2
    · obtain ⟨⟨c1, c2, c3⟩, ⟨c4, c5, c6⟩, hEl⟩ := h6.ef
      have hod := h6.od
      go_upto_region 8 with (fail)
      go_region_law (first | (refine step_app1 rfl (.tmp 36) (.tmp 43) 37 rfl w.heap.size 60 _ (.agg #[.int .i64 0, .int .i64 0]) 2 16 Try.underlying37 infoEntF rfl (by decide) (.slice b V.length cb) V.length _ [.int .i64 y, .int .i64 3] (by rfl) h7.o2 (by rfl) rfl (by intro u hu; simp at hu; rcases hu with rfl | rfl <;> rfl) (by omega) (by decide) h7.up.size ?_; intro v8 w8 ho8 hnn hg8 hat; obtain ⟨g8, cp8, rfl, hg8B, hg8lt⟩ := Own.slice ⟨ho8, hnn⟩; have h8 := h7.app2 hg8 ho8 hat (WalkArith.wf_i64 (by omega)) (WalkArith.wf_i64 (by omega)) (by omega); have hE8 := ((h7.ef.grown (World.grownBy_alloc _ _ none) (by simp)).grown hg8 (fun e => h7.n2.2 e.symm)); have hZ8 := ((h7.z.grown (World.grownBy_alloc _ _ none) (by simp)).grown hg8 (fun e => h7.n2.1 e.symm)); obtain ⟨⟨e0, e1, e2⟩, ⟨e3, e4, e5⟩, -⟩ := hE8) | (refine step_app1 (W := w7.alloc (.cells #[.int .i64 (-1), .int .i64 32, .int .i64 2] 3)) rfl (.tmp 36) (.tmp 43) 37 rfl w.heap.size 60 _ (.agg #[.int .i64 0, .int .i64 0]) 2 16 Try.underlying37 infoEntF rfl (by decide) (.slice b V.length cb) V.length _ [.int .i64 y, .int .i64 3] (by rfl) h7.o2 (by simp [Act.eval]) rfl (by intro u hu; simp at hu; rcases hu with rfl | rfl <;> rfl) (by omega) (by decide) h7.up.size ?_; intro v8 w8 ho8 hnn hg8 hat; obtain ⟨g8, cp8, rfl, hg8B, hg8lt⟩ := Own.slice ⟨ho8, hnn⟩; have h8 := h7.app2 hg8 ho8 hat (WalkArith.wf_i64 (by omega)) (WalkArith.wf_i64 (by omega)) (by omega); have hE8 := ((h7.ef.grown (World.grownBy_alloc _ _ none) (by simp)).grown hg8 (fun e => h7.n2.2 e.symm)); have hZ8 := ((h7.z.grown (World.grownBy_alloc _ _ none) (by simp)).grown hg8 (fun e => h7.n2.1 e.symm)); obtain ⟨⟨e0, e1, e2⟩, ⟨e3, e4, e5⟩, -⟩ := hE8) | (go_simp; go_at_call 70; refine (pick_pos R _ 3 _ (by exact (h6.rd.alloc _).drew) (by omega) (by omega) (by omega)).mono ?_; rintro e w7 ⟨x7, rfl, hq0, hq1, hr7, hu7⟩; have h7 := (h6.alloc (.cells #[.int .i64 (-1), .int .i64 32, .int .i64 2] 3)).drew.turn hr7 hu7; obtain ⟨y, hy, hyc⟩ := pick_lit3 hu7 h6.rd.lt hq0 hq1; obtain ⟨⟨k0, k1, k2⟩, ⟨k3, k4, k5⟩, -⟩ := h7.ef; have kk := fun (o : Obj) => (h7.ef.grown (World.grownBy_alloc _ o none) (by simp)).1.2.2) | (go_simp; go_at_call 70; refine (pick_pos R _ 3 _ (by exact h6.rd.drew) (by omega) (by omega) (by omega)).mono ?_; rintro e w7 ⟨x7, rfl, hq0, hq1, hr7, hu7⟩; have h7p := h6.drew.turn hr7 hu7; have h7 := h7p.alloc (.cells #[.int .i64 (-1), .int .i64 32, .int .i64 2] 3); obtain ⟨y, hy, hy', hyc⟩ := lit_at3 (w := w7) (T := 3) (p := -1) (q := 32) (r := 2) hq0 hq1; obtain ⟨⟨k0, k1, k2⟩, ⟨k3, k4, k5⟩, -⟩ := h7p.ef; obtain ⟨⟨m0, m1, m2⟩, ⟨m3, m4, m5⟩, -⟩ := h7.ef; have kk := fun (o : Obj) => (h7.ef.grown (World.grownBy_alloc _ o none) (by simp)).1.2.2))
      all_goals
        have HFIN := Lib.hid (h8.fin (P + 90) (by omega) _ rfl)
        obtain ⟨⟨z1, z2, z3⟩, ⟨z4, z5, z6⟩, -⟩ := hZ8
        have hod2 := hod.2.2.1
        clear h8 h7 hr7 hu7 ho8 hg8 hat h6
        go_wp2_with fail
        exact bodyPost_ret (results_eff Try.results71 _ (by rfl) HFIN.out.1) rfl HFIN.out.2
    · obtain ⟨⟨c1, c2, c3⟩, ⟨c4, c5, c6⟩, hEl⟩ := h6.ef
      have hod := h6.od
      go_upto_region 4 with (fail)
      go_region_law (first | (refine step_app1 rfl (.tmp 17) (.tmp 24) 37 rfl w.heap.size 60 _ (.agg #[.int .i64 0, .int .i64 0]) 2 16 Try.underlying37 infoEntF rfl (by decide) (.slice a U.length ca) U.length _ [.int .i64 1, .int .i64 y] (by rfl) h7.o1 (by rfl) rfl (by intro u hu; simp at hu; rcases hu with rfl | rfl <;> rfl) (by omega) (by decide) h7.up.size ?_; intro v8 w8 ho8 hnn hg8 hat; obtain ⟨g8, cp8, rfl, hg8B, hg8lt⟩ := Own.slice ⟨ho8, hnn⟩; have h8 := h7.app1 hg8 ho8 hat (WalkArith.wf_i64 (by omega)) (WalkArith.wf_i64 (by omega)) (by omega); have hE8 := ((h7.ef.grown (World.grownBy_alloc _ _ none) (by simp)).grown hg8 (fun e => h7.n1.2 e.symm)); have hZ8 := ((h7.z.grown (World.grownBy_alloc _ _ none) (by simp)).grown hg8 (fun e => h7.n1.1 e.symm)); obtain ⟨⟨e0, e1, e2⟩, ⟨e3, e4, e5⟩, -⟩ := hE8) | (refine step_app1 (W := w7.alloc (.cells #[.int .i64 (-1), .int .i64 2000001] 3)) rfl (.tmp 17) (.tmp 24) 37 rfl w.heap.size 60 _ (.agg #[.int .i64 0, .int .i64 0]) 2 16 Try.underlying37 infoEntF rfl (by decide) (.slice a U.length ca) U.length _ [.int .i64 1, .int .i64 y] (by rfl) h7.o1 (by simp [Act.eval]) rfl (by intro u hu; simp at hu; rcases hu with rfl | rfl <;> rfl) (by omega) (by decide) h7.up.size ?_; intro v8 w8 ho8 hnn hg8 hat; obtain ⟨g8, cp8, rfl, hg8B, hg8lt⟩ := Own.slice ⟨ho8, hnn⟩; have h8 := h7.app1 hg8 ho8 hat (WalkArith.wf_i64 (by omega)) (WalkArith.wf_i64 (by omega)) (by omega); have hE8 := ((h7.ef.grown (World.grownBy_alloc _ _ none) (by simp)).grown hg8 (fun e => h7.n1.2 e.symm)); have hZ8 := ((h7.z.grown (World.grownBy_alloc _ _ none) (by simp)).grown hg8 (fun e => h7.n1.1 e.symm)); obtain ⟨⟨e0, e1, e2⟩, ⟨e3, e4, e5⟩, -⟩ := hE8) | (go_simp; go_at_call 70; refine (pick_pos R _ 2 _ (by exact (h6.rd.alloc _).drew) (by omega) (by omega) (by omega)).mono ?_; rintro e w7 ⟨x7, rfl, hq0, hq1, hr7, hu7⟩; have h7 := (h6.alloc (.cells #[.int .i64 (-1), .int .i64 2000001] 3)).drew.turn hr7 hu7; obtain ⟨y, hy, hyc⟩ := pick_lit2 hu7 h6.rd.lt hq0 hq1; obtain ⟨⟨k0, k1, k2⟩, ⟨k3, k4, k5⟩, -⟩ := h7.ef; have kk := fun (o : Obj) => (h7.ef.grown (World.grownBy_alloc _ o none) (by simp)).1.2.1) | (go_simp; go_at_call 70; refine (pick_pos R _ 2 _ (by exact h6.rd.drew) (by omega) (by omega) (by omega)).mono ?_; rintro e w7 ⟨x7, rfl, hq0, hq1, hr7, hu7⟩; have h7p := h6.drew.turn hr7 hu7; have h7 := h7p.alloc (.cells #[.int .i64 (-1), .int .i64 2000001] 3); obtain ⟨y, hy, hy', hyc⟩ := lit_at2 (w := w7) (T := 3) (p := -1) (q := 2000001) hq0 hq1; obtain ⟨⟨k0, k1, k2⟩, ⟨k3, k4, k5⟩, -⟩ := h7p.ef; obtain ⟨⟨m0, m1, m2⟩, ⟨m3, m4, m5⟩, -⟩ := h7.ef; have kk := fun (o : Obj) => (h7.ef.grown (World.grownBy_alloc _ o none) (by simp)).1.2.1))
      all_goals
        have HFIN := Lib.hid (h8.fin (P + 90) (by omega) _ rfl)
        obtain ⟨⟨z1, z2, z3⟩, ⟨z4, z5, z6⟩, -⟩ := hZ8
        have hod2 := hod.2.2.1
        clear h8 h7 hr7 hu7 ho8 hg8 hat h6
        go_wp2_with fail
        exact bodyPost_ret (results_eff Try.results71 _ (by rfl) HFIN.out.1) rfl HFIN.out.2
end Go.Proofs.Ytaaffpolmecicaa
