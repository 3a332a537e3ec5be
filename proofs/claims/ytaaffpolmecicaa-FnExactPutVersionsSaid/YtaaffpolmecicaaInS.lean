/- Texts of ours that stand together: InV, InL, InFs, InSl -/
import Derived.Test.YtaaffpolmecicaaActs
import Derived.Test.YtaaffpolmecicaaVerA
import Derived.Test.YtaaffpolmecicaaConv
import Derived.Test.YtaaffpolmecicaaLay
import Derived.Test.YtaaffpolmecicaaEff
import Derived.Deep.Strs
import Derived.Test.YtaaffpolmecicaaEngM
/- What comes in: a slice of the laws' own Version, opened (gen9/structs.py). -/
namespace Go.Proofs.Ytaaffpolmecicaa
open Go.RowKit Go.Joins Go.Deep
set_option linter.unusedVariables false
/-- The cells are those of one. -/
def IsV (w : World) (cs : List Value) (x : Ver) : Prop := cs = celV x ∧ WfV x
theorem in_fieldsV : ∃ f0 f1 f2 : Field, Try.prog.underlying 112 = some (.struct #[f0, f1, f2]) ∧ f0.offset = 0 ∧ f1.offset = 1 ∧ f2.offset = 2 ∧ f0.type = 3 ∧ f1.type = 3 ∧ f2.type = 3 ∧ oneCellFields Try.prog #[f0, f1, f2] = true :=
  ⟨_, _, _, Try.underlying112, rfl, rfl, rfl, rfl, rfl, rfl, by kernel_rfl⟩
theorem in_cellsV {H : Type} {enc : TypeId × Value → H} {w : World} (n : Nat) (cs : List Value) (y : DataW H × List MemPlace)
    (h : DataW.trod enc Try.prog w 0 (fun _ => true) true n 112 cs = some y) : ∃ x, IsV w cs x := by
  obtain ⟨f0, f1, f2, hu, o0, o1, o2, t0, t1, t2, -⟩ := in_fieldsV
  obtain ⟨y0, y1, y2, m, -, hl, g0, g1, g2⟩ := trod_struct3 hu h
  have hc : Try.prog.cellsOf 112 = 3 := by kernel_rfl
  have hi : Try.prog.cellsOf 3 = 1 := by kernel_rfl
  rw [hc] at hl
  rw [o0, t0, hi] at g0
  rw [o1, t1, hi] at g1
  rw [o2, t2, hi] at g2
  match cs, hl with
  | [c0, c1, c2], _ =>
    obtain ⟨n0, h0, -, w0⟩ := DataW.trod_int Try.underlying3 g0
    obtain ⟨n1, h1, -, w1⟩ := DataW.trod_int Try.underlying3 g1
    obtain ⟨n2, h2, -, w2⟩ := DataW.trod_int Try.underlying3 g2
    simp at h0 h1 h2
    subst h0; subst h1; subst h2
    exact ⟨⟨n0, n1, n2⟩, rfl, w0, w1, w2⟩
theorem in_rowV {H : Type} {enc : TypeId × Value → H} {w : World} {a : Option Addr} {len cap : Nat} {d : DataW H} {ps : List MemPlace}
    (h : DataW.Trod enc Try.prog w 0 (fun _ => true) true 63 (.slice a len cap) d ps) : ∃ L, RowV w a len L ∧ (a = none → cap = 0) ∧ len ≤ cap := by
  obtain ⟨L, ⟨h1, h2, h3, h4⟩, h5, h6⟩ := in_rowG (R := IsV) (size := 3) noV Try.underlying63 (by kernel_rfl) (by decide) in_cellsV h
  refine ⟨L, ⟨h1, h2, fun h0 => ?_, fun x hx => ?_⟩, h5, h6⟩
  · obtain ⟨b, off, he, hc⟩ := h3 h0
    refine ⟨b, off, he, fun i hi => ?_⟩
    obtain ⟨cs, -, g2, g3, -⟩ := hc i hi
    subst g3
    exact ⟨g2 0 (by decide), g2 1 (by decide), g2 2 (by decide)⟩
  · obtain ⟨cs, hc⟩ := h4 x hx
    exact hc.2
end Go.Proofs.Ytaaffpolmecicaa
/- What comes in: a slice of layers of the laws' own type, opened. -/
namespace Go.Proofs.Ytaaffpolmecicaa
open Go.RowKit
theorem in_sliE {H : Type} {enc : TypeId × Value → H} {w : World} {v : Value} {n : Nat} {d : DataW H × List MemPlace}
    (h : DataW.trod enc Try.prog w 0 (fun _ => true) true n 34 [v] = some d) : ∃ l, SliE w v l := by
  have key : ∃ f0 f1 : Field, Try.prog.underlying 82 = some (.struct #[f0, f1]) ∧ f0.offset = 0 ∧ f1.offset = 1 ∧ f0.type = 3 ∧ f1.type = 3 := ⟨_, _, Try.underlying82, rfl, rfl, rfl, rfl⟩
  obtain ⟨f0, f1, hu, o0, o1, t0, t1⟩ := key
  have hv : ∃ a len cap, v = .slice a len cap := by
    rcases Go.Deep.open_slice_pairs Try.underlying34 hu (by kernel_rfl) o0 o1 (by rw [t0]; kernel_rfl) (by rw [t1]; kernel_rfl) h with ⟨hcs, -⟩ | ⟨x, l, c, m, n, V0, V1, D0, D1, P0, P1, hcs, -⟩
    · simp at hcs; exact ⟨_, _, _, hcs⟩
    · simp at hcs; exact ⟨_, _, _, hcs⟩
  obtain ⟨a, len, cap, rfl⟩ := hv
  obtain ⟨l, h1, h2, h3⟩ := in_rowE (d := d.1) (ps := d.2) (cap := cap) ⟨n, by simpa [Value.cells] using h⟩
  exact ⟨l, a, len, cap, rfl, h1, h2, h3⟩
end Go.Proofs.Ytaaffpolmecicaa
/- What comes in: a slice of effects of the laws' own type, opened. -/
namespace Go.Proofs.Ytaaffpolmecicaa
open Go.RowKit Go.Joins Go.Deep
set_option linter.unusedVariables false
/-- The cells are those of an effect. -/
def IsF (w : World) (cs : List Value) (x : Eff) : Prop := ∃ y z, cs = [.bool x.done, y, z] ∧ SliE w y x.rds ∧ SliE w z x.wrs
end Go.Proofs.Ytaaffpolmecicaa
/- What comes in: an engine of the laws' own type, by value, opened. -/
namespace Go.Proofs.Ytaaffpolmecicaa
open Go.RowKit Go.Joins Go.Deep
set_option linter.unusedVariables false
theorem in_sliG {H : Type} {enc : TypeId × Value → H} {w : World} {n : Nat} {v : Value} {t e : TypeId} {y : DataW H × List MemPlace} (ht : Try.prog.underlying t = some (.slice e))
    (h : DataW.trod enc Try.prog w 0 (fun _ => true) true n t [v] = some y) : ∃ a m c, v = .slice a m c ∧ DataW.Trod enc Try.prog w 0 (fun _ => true) true t (.slice a m c) y.1 y.2 := by
  have hv : ∃ a m c, v = .slice a m c := by
    rcases Go.Deep.open_slice ht h with ⟨hcs, -⟩ | ⟨x, l, c, m, n, D, Pl, hcs, -⟩
    · exact ⟨_, _, _, by simpa using hcs⟩
    · exact ⟨_, _, _, by simpa using hcs⟩
  obtain ⟨a, m, c, rfl⟩ := hv
  exact ⟨a, m, c, rfl, n, by simpa [Value.cells] using h⟩
theorem in_sliI {H : Type} {enc : TypeId × Value → H} {w : World} {n : Nat} {v : Value} {y : DataW H × List MemPlace} (h : DataW.trod enc Try.prog w 0 (fun _ => true) true n 73 [v] = some y) : ∃ l, SliI w v l := by
  obtain ⟨a, m, c, rfl, hT⟩ := in_sliG Try.underlying73 h
  obtain ⟨l, h1, h2, h3⟩ := in_rowI hT
  exact ⟨l, a, m, c, rfl, h1, h2, h3⟩
/-- The cells are those of a slot. -/
def IsSl (w : World) (cs : List Value) (s : Slt) : Prop := ∃ x y z, cs = [.int .i64 s.stage, .int .i64 s.tries, x, .bool s.res.done, y, z] ∧ SliI w x s.from_ ∧ SliE w y s.res.rds ∧ SliE w z s.res.wrs ∧ (Lit.int .i64 s.stage).wf = true ∧ (Lit.int .i64 s.tries).wf = true
end Go.Proofs.Ytaaffpolmecicaa
