/- What comes in: a slice of the laws' own Version, opened (gen9/structs.py). -/
import Derived.Test.YtncedcliklpapaaActs
import Derived.Test.YtncedcliklpapaaVerMem
namespace Go.Proofs.Ytncedcliklpapaa
open Go.RowKit Go.Joins Go.Deep
set_option linter.unusedVariables false
/-- The cells are those of one. -/
def IsV (w : World) (cs : List Value) (x : Ver) : Prop := cs = celV x ∧ WfV x
theorem in_fieldsV : ∃ f0 f1 f2 : Field, Try.prog.underlying 92 = some (.struct #[f0, f1, f2]) ∧ f0.offset = 0 ∧ f1.offset = 1 ∧ f2.offset = 2 ∧ f0.type = 3 ∧ f1.type = 3 ∧ f2.type = 3 ∧ oneCellFields Try.prog #[f0, f1, f2] = true :=
  ⟨_, _, _, Try.underlying92, rfl, rfl, rfl, rfl, rfl, rfl, by kernel_rfl⟩
theorem in_cellsV {H : Type} {enc : TypeId × Value → H} {w : World} (n : Nat) (cs : List Value) (y : DataW H × List MemPlace)
    (h : DataW.trod enc Try.prog w 0 (fun _ => true) true n 92 cs = some y) : ∃ x, IsV w cs x := by
  obtain ⟨f0, f1, f2, hu, o0, o1, o2, t0, t1, t2, -⟩ := in_fieldsV
  obtain ⟨y0, y1, y2, m, -, hl, g0, g1, g2⟩ := trod_struct3 hu h
  have hc : Try.prog.cellsOf 92 = 3 := by kernel_rfl
  have hi : Try.prog.cellsOf 3 = 1 := by kernel_rfl
  rw [hc] at hl
  rw [o0, t0, hi] at g0
  rw [o1, t1, hi] at g1
  rw [o2, t2, hi] at g2
  match cs, hl with
  | [c0, c1, c2], _ =>
    obtain ⟨n0, h0, -, w0⟩ := DataW.trod_int Try.underlying3 g0
    obtain ⟨n1, h1, -, w1⟩ := DataW.trod_int Try.underlying3 g1
    obtain ⟨n2, h2, -, w2⟩ := DataW.trod_int Try.underlying3 g2
    simp at h0 h1 h2
    subst h0; subst h1; subst h2
    exact ⟨⟨n0, n1, n2⟩, rfl, w0, w1, w2⟩
theorem in_rowV {H : Type} {enc : TypeId × Value → H} {w : World} {a : Option Addr} {len cap : Nat} {d : DataW H} {ps : List MemPlace}
    (h : DataW.Trod enc Try.prog w 0 (fun _ => true) true 51 (.slice a len cap) d ps) : ∃ L, RowV w a len L ∧ (a = none → cap = 0) ∧ len ≤ cap := by
  obtain ⟨L, ⟨h1, h2, h3, h4⟩, h5, h6⟩ := in_rowG (R := IsV) (size := 3) noV Try.underlying51 (by kernel_rfl) (by decide) in_cellsV h
  refine ⟨L, ⟨h1, h2, fun h0 => ?_, fun x hx => ?_⟩, h5, h6⟩
  · obtain ⟨b, off, he, hc⟩ := h3 h0
    refine ⟨b, off, he, fun i hi => ?_⟩
    obtain ⟨cs, -, g2, g3, -⟩ := hc i hi
    subst g3
    exact ⟨g2 0 (by decide), g2 1 (by decide), g2 2 (by decide)⟩
  · obtain ⟨cs, hc⟩ := h4 x hx
    exact hc.2
end Go.Proofs.Ytncedcliklpapaa
