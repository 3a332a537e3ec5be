/- What comes in: an action of the laws' own type, and a slice of such, opened. -/
import Derived.Test.YtkoolemlnmolfaaInG
import Derived.Test.YtkoolemlnmolfaaActMem
namespace Go.Proofs.Ytkoolemlnmolfaa
open Go.RowKit Go.Joins Go.Deep
set_option linter.unusedVariables false
/-- The cells are those of an action. -/
def IsA (w : World) (cs : List Value) (x : Acn) : Prop := cs = celA x ∧ WfA x
theorem in_fieldsA : ∃ f0 f1 f2 f3 : Field, Try.prog.underlying 32 = some (.struct #[f0, f1, f2, f3]) ∧ f0.offset = 0 ∧ f1.offset = 1 ∧ f2.offset = 2 ∧ f3.offset = 3 ∧ f0.type = 3 ∧ f1.type = 3 ∧ f2.type = 3 ∧ f3.type = 3 ∧ oneCellFields Try.prog #[f0, f1, f2, f3] = true :=
  ⟨_, _, _, _, Try.underlying32, rfl, rfl, rfl, rfl, rfl, rfl, rfl, rfl, by kernel_rfl⟩
theorem in_cellsA {H : Type} {enc : TypeId × Value → H} {w : World} (n : Nat) (cs : List Value) (y : DataW H × List MemPlace)
    (h : DataW.trod enc Try.prog w 0 (fun _ => true) true n 32 cs = some y) : ∃ x, IsA w cs x := by
  obtain ⟨f0, f1, f2, f3, hu, o0, o1, o2, o3, t0, t1, t2, t3, -⟩ := in_fieldsA
  obtain ⟨y0, y1, y2, y3, m, -, hl, g0, g1, g2, g3⟩ := trod_struct4 hu h
  have hc : Try.prog.cellsOf 32 = 4 := by kernel_rfl
  have hi : Try.prog.cellsOf 3 = 1 := by kernel_rfl
  rw [hc] at hl
  rw [o0, t0, hi] at g0
  rw [o1, t1, hi] at g1
  rw [o2, t2, hi] at g2
  rw [o3, t3, hi] at g3
  match cs, hl with
  | [c0, c1, c2, c3], _ =>
    obtain ⟨n0, h0, -, w0⟩ := DataW.trod_int Try.underlying3 g0
    obtain ⟨n1, h1, -, w1⟩ := DataW.trod_int Try.underlying3 g1
    obtain ⟨n2, h2, -, w2⟩ := DataW.trod_int Try.underlying3 g2
    obtain ⟨n3, h3, -, w3⟩ := DataW.trod_int Try.underlying3 g3
    simp at h0 h1 h2 h3
    subst h0; subst h1; subst h2; subst h3
    exact ⟨⟨n0, n1, n2, n3⟩, rfl, w0, w1, w2, w3⟩
theorem in_rowA {H : Type} {enc : TypeId × Value → H} {w : World} {a : Option Addr} {len cap : Nat} {d : DataW H} {ps : List MemPlace}
    (h : DataW.Trod enc Try.prog w 0 (fun _ => true) true 35 (.slice a len cap) d ps) : ∃ L, RowA w a len L ∧ (a = none → cap = 0) ∧ len ≤ cap := by
  obtain ⟨L, ⟨h1, h2, h3, h4⟩, h5, h6⟩ := in_rowG (R := IsA) (size := 4) noA Try.underlying35 (by kernel_rfl) (by decide) in_cellsA h
  refine ⟨L, ⟨h1, h2, fun h0 => ?_, fun x hx => ?_⟩, h5, h6⟩
  · obtain ⟨b, off, he, hc⟩ := h3 h0
    refine ⟨b, off, he, fun i hi => ?_⟩
    obtain ⟨cs, -, g2, g3, -⟩ := hc i hi
    subst g3
    exact ⟨g2 0 (by decide), g2 1 (by decide), g2 2 (by decide), g2 3 (by decide)⟩
  · obtain ⟨cs, hc⟩ := h4 x hx
    exact hc.2
theorem in_actV {H : Type} {enc : TypeId × Value → H} {w : World} {r : Reach} {b0 : Nat} {v : Value} {d : DataW H} {ps : List MemPlace} (hv : Value.okWide Try.prog w r b0 32 v)
    (h : DataW.Trod enc Try.prog w 0 (fun _ => true) true 32 v d ps) : ∃ p q r t, v = .agg #[.int .i64 p, .int .i64 q, .int .i64 r, .int .i64 t] ∧ WfA ⟨p, q, r, t⟩ := by
  obtain ⟨f0, f1, f2, f3, hu, o0, o1, o2, o3, t0, t1, t2, t3, hone⟩ := in_fieldsA
  obtain ⟨v0, v1, v2, v3, y0, y1, y2, y3, n, rfl, -, -, g0, g1, g2, g3⟩ := open_agg4 hu hone (by kernel_rfl) hv h
  rw [t0] at g0
  rw [t1] at g1
  rw [t2] at g2
  rw [t3] at g3
  obtain ⟨n0, h0, -, w0⟩ := DataW.trod_int Try.underlying3 g0
  obtain ⟨n1, h1, -, w1⟩ := DataW.trod_int Try.underlying3 g1
  obtain ⟨n2, h2, -, w2⟩ := DataW.trod_int Try.underlying3 g2
  obtain ⟨n3, h3, -, w3⟩ := DataW.trod_int Try.underlying3 g3
  simp at h0 h1 h2 h3
  subst h0; subst h1; subst h2; subst h3
  exact ⟨n0, n1, n2, n3, rfl, w0, w1, w2, w3⟩
end Go.Proofs.Ytkoolemlnmolfaa
