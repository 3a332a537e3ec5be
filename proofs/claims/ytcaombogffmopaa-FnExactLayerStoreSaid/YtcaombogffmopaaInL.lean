/- What comes in: a slice of layers of the laws' own type, opened. -/
import Derived.Test.YtcaombogffmopaaConv
import Derived.Test.YtcaombogffmopaaLay
namespace Go.Proofs.Ytcaombogffmopaa
open Go.RowKit
theorem in_sliE {H : Type} {enc : TypeId × Value → H} {w : World} {v : Value} {n : Nat} {d : DataW H × List MemPlace}
    (h : DataW.trod enc Try.prog w 0 (fun _ => true) true n 56 [v] = some d) : ∃ l, SliE w v l := by
  have key : ∃ f0 f1 : Field, Try.prog.underlying 95 = some (.struct #[f0, f1]) ∧ f0.offset = 0 ∧ f1.offset = 1 ∧ f0.type = 3 ∧ f1.type = 3 := ⟨_, _, Try.underlying95, rfl, rfl, rfl, rfl⟩
  obtain ⟨f0, f1, hu, o0, o1, t0, t1⟩ := key
  have hv : ∃ a len cap, v = .slice a len cap := by
    rcases Go.Deep.open_slice_pairs Try.underlying56 hu (by kernel_rfl) o0 o1 (by rw [t0]; kernel_rfl) (by rw [t1]; kernel_rfl) h with ⟨hcs, -⟩ | ⟨x, l, c, m, n, V0, V1, D0, D1, P0, P1, hcs, -⟩
    · simp at hcs; exact ⟨_, _, _, hcs⟩
    · simp at hcs; exact ⟨_, _, _, hcs⟩
  obtain ⟨a, len, cap, rfl⟩ := hv
  obtain ⟨l, h1, h2, h3⟩ := in_rowE (d := d.1) (ps := d.2) (cap := cap) ⟨n, by simpa [Value.cells] using h⟩
  exact ⟨l, a, len, cap, rfl, h1, h2, h3⟩
theorem in_rowL {H : Type} {enc : TypeId × Value → H} {w : World} {a : Option Addr} {len cap : Nat} {d : DataW H} {ps : List MemPlace}
    (h : DataW.Trod enc Try.prog w 0 (fun _ => true) true 52 (.slice a len cap) d ps) : ∃ L, RowL w a len L ∧ (a = none → cap = 0) ∧ len ≤ cap := by
  obtain ⟨fuel, hf⟩ := h
  have key : ∃ f0 f1 : Field, Try.prog.underlying 91 = some (.struct #[f0, f1]) ∧ f0.offset = 0 ∧ f1.offset = 1 ∧ f0.type = 3 ∧ f1.type = 56 := ⟨_, _, Try.underlying91, rfl, rfl, rfl, rfl⟩
  obtain ⟨f0, f1, hu, o0, o1, t0, t1⟩ := key
  rcases Go.Deep.open_slice_pairs Try.underlying52 hu (by kernel_rfl) o0 o1 (by rw [t0]; kernel_rfl) (by rw [t1]; kernel_rfl) hf with ⟨hcs, -⟩ | ⟨x, l, c, m, n, V0, V1, D0, D1, P0, P1, hcs, -, hl, hm, hmm, -, hx⟩
  · simp [Value.cells] at hcs
    obtain ⟨rfl, rfl, rfl⟩ := hcs
    exact ⟨[], rowL_empty _ _, fun _ => rfl, Nat.le_refl _⟩
  · simp [Value.cells] at hcs
    obtain ⟨rfl, rfl, rfl⟩ := hcs
    simp only [if_true] at hmm
    have hv : ∀ i, i < m → ∃ e : Lay, V0 i = .int .i64 e.1 ∧ (Lit.int .i64 e.1).wf = true ∧ SliE w (V1 i) e.2 := by
      intro i hi
      obtain ⟨-, -, g0, g1⟩ := hx i hi
      rw [t0] at g0
      rw [t1] at g1
      obtain ⟨n0, h0, -, w0⟩ := DataW.trod_int Try.underlying3 g0
      obtain ⟨l, hl⟩ := in_sliE g1
      simp only [List.cons.injEq, and_true] at h0
      exact ⟨(n0, l), h0, w0, hl⟩
    have hv' : ∀ i, ∃ e : Lay, i < m → V0 i = .int .i64 e.1 ∧ (Lit.int .i64 e.1).wf = true ∧ SliE w (V1 i) e.2 := by
      intro i
      by_cases hi : i < m
      · obtain ⟨e, he⟩ := hv i hi; exact ⟨e, fun _ => he⟩
      · exact ⟨(0, []), fun h => absurd h hi⟩
    obtain ⟨E, hE⟩ := Classical.axiomOfChoice hv'
    refine ⟨(List.range len).map E, ⟨by simp, by omega, fun h0 => ?_, ?_⟩, fun h => (by cases h), hl⟩
    · obtain ⟨b, off, spot⟩ := x
      have hs := (hx 0 (by omega)).1
      have hspot : spot = none := by
        have := World.cell?_spot hs
        simpa [Addr.add] using this
      subst hspot
      refine ⟨b, off, rfl, fun i hi => ?_⟩
      obtain ⟨c0, c1, -, -⟩ := hx i (by omega)
      obtain ⟨e0, -, e1⟩ := hE i (by omega)
      have hg : ((List.range len).map E).getD i (0, []) = E i := by
        rw [List.getD_eq_getElem?_getD, List.getElem?_map, List.getElem?_range hi]; rfl
      have ha : ∀ j, (⟨b, off, none⟩ : Addr).add j = ⟨b, off + j, none⟩ := fun j => by unfold Addr.add; split <;> simp_all
      rw [hg, ← e0]
      rw [ha] at c0 c1
      exact ⟨c0, V1 i, by rw [Nat.add_assoc]; exact c1, e1⟩
    · intro e he
      obtain ⟨i, hi, rfl⟩ := List.mem_map.1 he
      have := hE i (by have := List.mem_range.1 hi; omega)
      exact this.2.1
end Go.Proofs.Ytcaombogffmopaa
