/- What comes in: a slice of bytes, opened. -/
import Derived.Test.YtpaeioabmmkheaaReader
import Derived.ProofKit
import Derived.OpenShut
namespace Go.Proofs.Ytpaeioabmmkheaa
open Go.RowKit Go.ChangeShapes
theorem in_rowB {H : Type} {enc : TypeId × Value → H} {w : World} {a : Option Addr} {len cap : Nat} {d : DataW H} {ps : List MemPlace}
    (h : DataW.Trod enc Try.prog w 0 (fun _ => true) true 22 (.slice a len cap) d ps) : ∃ z, RowB w a len z ∧ (a = none → cap = 0) ∧ len ≤ cap := by
  obtain ⟨fuel, hf⟩ := h
  rcases open_ints Try.underlying22 Try.underlying5 (by kernel_rfl) hf with ⟨hcs, -⟩ | ⟨x, l, c, zs, hcs, -, hl, hm, hz, -, hcell, hwz⟩
  · simp [Value.cells] at hcs
    obtain ⟨rfl, rfl, rfl⟩ := hcs
    exact ⟨[], rowB_of_in (cap := 0) (zs := []) (.inl ⟨rfl, rfl, rfl, rfl⟩), fun _ => rfl, Nat.le_refl _⟩
  · simp [Value.cells] at hcs
    obtain ⟨rfl, rfl, rfl⟩ := hcs
    exact ⟨_, rowB_of_in (cap := cap) (zs := zs) (.inr ⟨_, rfl, hl, hm, by simpa using hz, hcell, hwz⟩), fun h => (by cases h), hl⟩
end Go.Proofs.Ytpaeioabmmkheaa
