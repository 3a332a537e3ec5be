/- The contracts of the draws of stage 7: l20Effects, DrawRunSerial, DrawDoneCount, DrawEffectsSum. -/
import Derived.Test.YtaaffpolmecicabGreatSpecXb
import Derived.Test.YtaaffpolmecicabGreatDrawAc
import Derived.Test.YtaaffpolmecicabGreatDrawEffs
namespace Go.Proofs.YtaaffpolmecicabGreat
open Go.RowKit
set_option linter.unusedVariables false
/-- Drawn effects, of the call's own. -/
def DrawXs (w : World) (R c : Nat) (e : Ending) (w' : World) : Prop :=
  ∃ (v : Value) (L : List Eff), e = .returned v ∧ OwnFs w' w.heap.size w'.heap.size 39 43 v L ∧ L.length ≤ 11 ∧ (∀ x ∈ L, x.rds.length ≤ 40 ∧ x.wrs.length ≤ 40) ∧ Rd w' R c ∧ Upd R w w'
/-- A drawn list of effects. -/
def EffsD (w : World) (e : Ending) (w' : World) : Prop :=
  ∃ (a : Option Addr) (c : Nat) (L : List Eff), e = .returned (.slice a L.length c) ∧ RowFs w' a L.length L ∧ (a = none → c = 0) ∧ L.length ≤ c ∧ L.length ≤ 11 ∧ (∀ x ∈ L, x.rds.length ≤ 40 ∧ x.wrs.length ≤ 40) ∧ Below w.heap.size w w'
/-- A drawn store and drawn actions. -/
def EntsActsD (w : World) (e : Ending) (w' : World) : Prop :=
  ∃ (g c : Nat) (S : List Ent) (g2 c2 : Nat) (L : List Acn), e = .returned (.tuple #[.slice (some ⟨g, 0, none⟩) S.length c, .slice (some ⟨g2, 0, none⟩) L.length c2]) ∧ RowE w' (some ⟨g, 0, none⟩) S.length S ∧ S.length ≤ 1000 ∧
    RowA w' (some ⟨g2, 0, none⟩) L.length L ∧ L.length ≤ c2 ∧ L.length ≤ 20 ∧ Below w.heap.size w w'
theorem rd_belowX {w w' : World} {R P B : Nat} (h : Rd w R P) (hb : Below B w w') (hR : R < B) : Rd w' R P := by
  obtain ⟨a, len, cap, z, p, ⟨h1, h2, h3, h4, h5, h6, h7, h8, h9, h10⟩, hp⟩ := h
  refine ⟨a, len, cap, z, p, ⟨(hb.cell (p := ⟨R, 0, none⟩) hR).trans h1, (hb.cell (p := ⟨R, 1, none⟩) hR).trans h2, (hb.frozen (p := ⟨R, 1, none⟩) hR).trans h3, h4, h5, h6, h7, h8, fun hl => ?_, h10⟩, hp⟩
  obtain ⟨b, off, he, hc⟩ := h9 hl
  refine ⟨b, off, he, fun i hi => (hb.cell (p := ⟨b, off + i, none⟩) ?_).trans (hc i hi)⟩
  have := h6 hl b off he
  show b < B
  omega
theorem upd_belowX {w0 w w' : World} {R : Nat} (h : Upd R w0 w) (hb : Below w0.heap.size w w') : Upd R w0 w' :=
  ⟨hb.os.trans h.os, hb.tape.trans h.tape, hb.output.trans h.output, Nat.le_trans h.size hb.size, fun k hk hr => (hb.block k hk).trans (h.block k hk hr)⟩
theorem OwnFs.upd {w w' : World} {B T R : Nat} {eX eE : TypeId} {v : Value} {L : List Eff} (h : OwnFs w B T eX eE v L) (hu : Upd R w w') (hR : R < B) : OwnFs w' B T eX eE v L :=
  h.turn (Turn.ofGrown (B := R) (T := R + 1) hu (fun k hk => by simp at hk; omega)) (.inr (.inl (by omega)))
set_option maxHeartbeats 1000000 in
theorem drawRunSerial_any (a : Option Addr) (len cap : Nat) (z : List Int) (w : World) (h : RowB w a len z) (hlc : len ≤ cap) :
    Calls Tryz.prog 14 #[.slice a len cap] w (EntsActsD w) := by
  have HR := Lib.hid h
  clear h
  go_enter Tryz.func14, Tryz.ntmps14
  go_wp2_with fail
  refine (open_any a len cap z _ HR.out hlc).mono ?_; rintro e w1 ⟨R, rfl, hR, hr1, hb1, hRw⟩
  have HB1 := Lib.hid hb1
  clear hb1
  go_wp2_with fail
  refine (l20Store_any R 0 12 _ hr1 (by omega) (by omega) (by omega)).mono ?_; rintro e w2 ⟨v, S, rfl, hown, hwf, hlen, hr2, hu2⟩
  have HB2 := Lib.hid (hu2.below HB1.out HB1.out.size (by omega))
  clear hr1 hu2
  obtain ⟨g, c, rfl, hgB, hrow⟩ := rowE_of_own hown (by omega) hwf
  have hgl : g < w2.heap.size := (hown.1.lt g rfl).2
  have hgR : g ≠ R := by omega
  clear hown
  go_wp2_with fail
  refine (l20Actions_any R _ 12 _ hr2 (by omega) (by omega) (by omega)).mono ?_; rintro e w3 ⟨v3, L, rfl, ho3, hw3, hl3, hr3, hu3⟩
  have hrow3 : RowE w3 (some ⟨g, 0, none⟩) S.length S := hrow.grown hu3 (by simp; exact hgR)
  have HB3 := Lib.hid (hu3.below HB2.out HB2.out.size (by omega))
  obtain ⟨g3, c3, rfl, -, -, hra, hlc3⟩ := rowA_of_own ho3 (by omega) hw3
  clear hr2 hr3 hu3 ho3 hrow
  go_wp2
  go_ret2
  exact ⟨g, c, S, g3, c3, L, rfl, hrow3, by omega, hra, hlc3, hl3, HB3.out⟩
theorem effsD_of {w w' : World} {v : Value} {L : List Eff} (h : OwnFs w' w.heap.size w'.heap.size 39 43 v L) (hl : L.length ≤ 11) (he : ∀ x ∈ L, x.rds.length ≤ 40 ∧ x.wrs.length ≤ 40) (hb : Below w.heap.size w w') : EffsD w (.returned v) w' := by
  obtain ⟨a, c, rfl, hr, hz, hc⟩ := rowFs_of_own h
  exact ⟨a, c, L, rfl, hr, hz, hc, hl, he, hb⟩
end Go.Proofs.YtaaffpolmecicabGreat
