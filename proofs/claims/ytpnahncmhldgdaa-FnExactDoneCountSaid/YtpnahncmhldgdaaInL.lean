/- What comes in: a slice of layers of the laws' own type, opened. -/
import Derived.Test.YtpnahncmhldgdaaConv
import Derived.Test.YtpnahncmhldgdaaLay
namespace Go.Proofs.Ytpnahncmhldgdaa
open Go.RowKit
theorem in_sliE {H : Type} {enc : TypeId × Value → H} {w : World} {v : Value} {n : Nat} {d : DataW H × List MemPlace}
    (h : DataW.trod enc Try.prog w 0 (fun _ => true) true n 49 [v] = some d) : ∃ l, SliE w v l := by
  have key : ∃ f0 f1 : Field, Try.prog.underlying 96 = some (.struct #[f0, f1]) ∧ f0.offset = 0 ∧ f1.offset = 1 ∧ f0.type = 3 ∧ f1.type = 3 := ⟨_, _, Try.underlying96, rfl, rfl, rfl, rfl⟩
  obtain ⟨f0, f1, hu, o0, o1, t0, t1⟩ := key
  have hv : ∃ a len cap, v = .slice a len cap := by
    rcases Go.Deep.open_slice_pairs Try.underlying49 hu (by kernel_rfl) o0 o1 (by rw [t0]; kernel_rfl) (by rw [t1]; kernel_rfl) h with ⟨hcs, -⟩ | ⟨x, l, c, m, n, V0, V1, D0, D1, P0, P1, hcs, -⟩
    · simp at hcs; exact ⟨_, _, _, hcs⟩
    · simp at hcs; exact ⟨_, _, _, hcs⟩
  obtain ⟨a, len, cap, rfl⟩ := hv
  obtain ⟨l, h1, h2, h3⟩ := in_rowE (d := d.1) (ps := d.2) (cap := cap) ⟨n, by simpa [Value.cells] using h⟩
  exact ⟨l, a, len, cap, rfl, h1, h2, h3⟩
end Go.Proofs.Ytpnahncmhldgdaa
