/- What comes in: a slice of effects of the laws' own type, opened. -/
import Derived.Test.YtpnahncmhldgdaaActs
import Derived.Test.YtpnahncmhldgdaaInL
import Derived.Test.YtpnahncmhldgdaaSerMem
import Derived.Deep.Strs
namespace Go.Proofs.Ytpnahncmhldgdaa
open Go.RowKit Go.Joins Go.Deep
set_option linter.unusedVariables false
/-- The cells are those of an effect. -/
def IsF (w : World) (cs : List Value) (x : Eff) : Prop := ∃ y z, cs = [.bool x.done, y, z] ∧ SliE w y x.rds ∧ SliE w z x.wrs
theorem in_fieldsFs : ∃ f0 f1 f2 : Field, Try.prog.underlying 103 = some (.struct #[f0, f1, f2]) ∧ f0.offset = 0 ∧ f1.offset = 1 ∧ f2.offset = 2 ∧ f0.type = 4 ∧ f1.type = 49 ∧ f2.type = 49 :=
  ⟨_, _, _, Try.underlying103, rfl, rfl, rfl, rfl, rfl, rfl⟩
theorem in_cellsF {H : Type} {enc : TypeId × Value → H} {w : World} (n : Nat) (cs : List Value) (y : DataW H × List MemPlace)
    (h : DataW.trod enc Try.prog w 0 (fun _ => true) true n 103 cs = some y) : ∃ x, IsF w cs x := by
  obtain ⟨f0, f1, f2, hu, o0, o1, o2, t0, t1, t2⟩ := in_fieldsFs
  obtain ⟨y0, y1, y2, m, -, hl, g0, g1, g2⟩ := trod_struct3 hu h
  have hc : Try.prog.cellsOf 103 = 3 := by kernel_rfl
  have hb : Try.prog.cellsOf 4 = 1 := by kernel_rfl
  have hs : Try.prog.cellsOf 49 = 1 := by kernel_rfl
  rw [hc] at hl
  rw [o0, t0, hb] at g0
  rw [o1, t1, hs] at g1
  rw [o2, t2, hs] at g2
  match cs, hl with
  | [c0, c1, c2], _ =>
    obtain ⟨dn, h0, -⟩ := DataW.trod_bool Try.underlying4 g0
    obtain ⟨R, hR⟩ := in_sliE (v := c1) (by simpa using g1)
    obtain ⟨W, hW⟩ := in_sliE (v := c2) (by simpa using g2)
    simp at h0
    subst h0
    exact ⟨⟨dn, R, W⟩, c1, c2, rfl, hR, hW⟩
theorem in_rowFs {H : Type} {enc : TypeId × Value → H} {w : World} {a : Option Addr} {len cap : Nat} {d : DataW H} {ps : List MemPlace}
    (h : DataW.Trod enc Try.prog w 0 (fun _ => true) true 60 (.slice a len cap) d ps) : ∃ L, RowFs w a len L ∧ (a = none → cap = 0) ∧ len ≤ cap := by
  obtain ⟨L, ⟨h1, h2, h3, h4⟩, h5, h6⟩ := in_rowG (R := IsF) (size := 3) noEff Try.underlying60 (by kernel_rfl) (by decide) in_cellsF h
  refine ⟨L, ⟨h1, h2, fun h0 => ?_⟩, h5, h6⟩
  obtain ⟨b, off, he, hc⟩ := h3 h0
  refine ⟨b, off, he, fun i hi => ?_⟩
  obtain ⟨cs, -, g2, y, z, g3, s1, s2⟩ := hc i hi
  subst g3
  exact ⟨g2 0 (by decide), ⟨y, g2 1 (by decide), s1⟩, z, g2 2 (by decide), s2⟩
end Go.Proofs.Ytpnahncmhldgdaa
