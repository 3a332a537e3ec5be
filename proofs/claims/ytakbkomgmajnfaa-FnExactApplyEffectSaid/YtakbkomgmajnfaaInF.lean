/- What comes in: an effect of the laws' own type, by value, opened. -/
import Derived.Test.YtakbkomgmajnfaaConv
import Derived.Test.YtakbkomgmajnfaaEffMem
import Derived.Deep.SlicePairs
import Derived.ProofKit
import Derived.Lib.SmallJoins
namespace Go.Proofs.Ytakbkomgmajnfaa
open Go.RowKit Go.Joins Go.Deep
set_option linter.unusedVariables false
theorem in_sliV {H : Type} {enc : TypeId × Value → H} {w : World} {n : Nat} {v : Value} {y : DataW H × List MemPlace}
    (h : DataW.trod enc Try.prog w 0 (fun _ => true) true n 59 [v] = some y) : ∃ a m c l, v = .slice a m c ∧ RowE w a m l ∧ (a = none → c = 0) ∧ m ≤ c := by
  have hv : ∃ a m c, v = .slice a m c := by
    rcases Go.Deep.open_slice Try.underlying59 h with ⟨hcs, -⟩ | ⟨x, l, c, m, n, D, Pl, hcs, -⟩
    · exact ⟨_, _, _, by simpa using hcs⟩
    · exact ⟨_, _, _, by simpa using hcs⟩
  obtain ⟨a, m, c, rfl⟩ := hv
  obtain ⟨l, h1, h2, h3⟩ := in_rowE (enc := enc) (w := w) (a := a) (len := m) (cap := c) (d := y.1) (ps := y.2) ⟨n, by simpa [Value.cells] using h⟩
  exact ⟨a, m, c, l, rfl, h1, h2, h3⟩
theorem in_fieldsF : ∃ f0 f1 f2 : Field, Try.prog.underlying 67 = some (.struct #[f0, f1, f2]) ∧ f0.type = 4 ∧ f1.type = 59 ∧ f2.type = 59 ∧ oneCellFields Try.prog #[f0, f1, f2] = true :=
  ⟨_, _, _, Try.underlying67, rfl, rfl, rfl, by kernel_rfl⟩
set_option maxRecDepth 100000 in
theorem in_effV {H : Type} {enc : TypeId × Value → H} {w : World} {r : Reach} {b0 : Nat} {v : Value} {d : DataW H} {ps : List MemPlace} (hv : Value.okWide Try.prog w r b0 67 v)
    (h : DataW.Trod enc Try.prog w 0 (fun _ => true) true 67 v d ps) : ∃ dn a n c b m c2 R W, v = .agg #[.bool dn, .slice a n c, .slice b m c2] ∧ RowF w a n b m ⟨dn, R, W⟩ ∧ (a = none → c = 0) ∧ n ≤ c ∧ (b = none → c2 = 0) ∧ m ≤ c2 := by
  obtain ⟨f0, f1, f2, hu, t0, t1, t2, hone⟩ := in_fieldsF
  obtain ⟨v0, v1, v2, y0, y1, y2, n, rfl, -, -, g0, g1, g2⟩ := open_agg3 hu hone (by kernel_rfl) hv h
  rw [t0] at g0
  rw [t1] at g1
  rw [t2] at g2
  obtain ⟨dn, h0, -⟩ := DataW.trod_bool Try.underlying4 g0
  simp at h0
  subst h0
  obtain ⟨a, n1, c, R, rfl, r1, z1, l1⟩ := in_sliV g1
  obtain ⟨b, m1, c2, W, rfl, r2, z2, l2⟩ := in_sliV g2
  exact ⟨dn, a, n1, c, b, m1, c2, R, W, rfl, ⟨r1, r2⟩, z1, l1, z2, l2⟩
end Go.Proofs.Ytakbkomgmajnfaa
