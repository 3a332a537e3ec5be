/- What comes in: a slice of structs of whatever make, opened element by element. No function of the program is named here. -/
import Derived.Test.YtkoolemlnmolfaaCore
import Derived.Deep.SlicePairs
import Derived.ProofKit
import Derived.Lib.SmallJoins
namespace Go.Proofs.Ytkoolemlnmolfaa
open Go.RowKit
/-- The slice (a, n) reads as the list L: element i lies in size cells, which are as R says. -/
def RowG {α : Type} (R : World → List Value → α → Prop) (size : Nat) (d : α) (w : World) (a : Option Addr) (n : Nat) (L : List α) : Prop :=
  L.length = n ∧ n ≤ maxLen ∧ (0 < n → ∃ b off, a = some ⟨b, off, none⟩ ∧ ∀ i, i < n → ∃ cs, cs.length = size ∧ (∀ j, j < size → w.cell? ⟨b, off + i * size + j, none⟩ = cs[j]?) ∧ R w cs (L.getD i d)) ∧ ∀ x ∈ L, ∃ cs, R w cs x
theorem in_rowG {α : Type} {R : World → List Value → α → Prop} {H : Type} {enc : TypeId × Value → H} {P : Program} {w : World} {t e : TypeId} {size : Nat} (d : α) (ht : P.underlying t = some (.slice e)) (ce : P.cellsOf e = size) (hs : 0 < size)
    (hel : ∀ n cs y, DataW.trod enc P w 0 (fun _ => true) true n e cs = some y → ∃ x, R w cs x) {a : Option Addr} {len cap : Nat} {dd : DataW H} {ps : List MemPlace}
    (h : DataW.Trod enc P w 0 (fun _ => true) true t (.slice a len cap) dd ps) : ∃ L, RowG R size d w a len L ∧ (a = none → cap = 0) ∧ len ≤ cap := by
  obtain ⟨fuel, hf⟩ := h
  rcases Go.Deep.open_slice ht hf with ⟨hcs, -⟩ | ⟨x, l, c, m, n, D, Pl, hcs, -, hl, hm, hmm, -, hx⟩
  · simp [Value.cells] at hcs
    obtain ⟨rfl, rfl, rfl⟩ := hcs
    exact ⟨[], ⟨rfl, by unfold maxLen; omega, fun h => absurd h (by omega), fun x hx => by cases hx⟩, fun _ => rfl, Nat.le_refl _⟩
  · simp [Value.cells] at hcs
    obtain ⟨rfl, rfl, rfl⟩ := hcs
    simp only [if_true] at hmm
    rw [ce] at hx
    have hv' : ∀ i, ∃ z : α, i < m → ∃ cs, w.cells? 0 (x.add (i * size)) size = some cs ∧ R w cs z := by
      intro i
      by_cases hi : i < m
      · obtain ⟨cs, h1, h2⟩ := hx i hi
        obtain ⟨z, hz⟩ := hel _ _ _ h2
        exact ⟨z, fun _ => ⟨cs, h1, hz⟩⟩
      · exact ⟨d, fun h => absurd h hi⟩
    obtain ⟨E, hE⟩ := Classical.axiomOfChoice hv'
    refine ⟨(List.range len).map E, ⟨by simp, by omega, fun h0 => ?_, ?_⟩, fun h => (by cases h), hl⟩
    · obtain ⟨b, off, spot⟩ := x
      obtain ⟨cs, h1, -⟩ := hE 0 (by omega)
      obtain ⟨-, h2, h3⟩ := World.cells?_some h1
      have h30 := h3 0 hs
      obtain ⟨u, hu⟩ : ∃ u, cs[0]? = some u := ⟨cs[0]'(by omega), List.getElem?_eq_getElem _⟩
      rw [hu] at h30
      have hspot : spot = none := by
        have := World.cell?_spot h30
        simpa [Addr.add] using this
      subst hspot
      have ha : ∀ j, (⟨b, off, none⟩ : Addr).add j = ⟨b, off + j, none⟩ := fun j => by unfold Addr.add; split <;> simp_all
      have ha2 : ∀ o j, (⟨b, o, none⟩ : Addr).add j = ⟨b, o + j, none⟩ := fun o j => by unfold Addr.add; split <;> simp_all
      refine ⟨b, off, rfl, fun i hi => ?_⟩
      obtain ⟨cs, g1, g2⟩ := hE i (by omega)
      obtain ⟨-, g3, g4⟩ := World.cells?_some g1
      have hg : ((List.range len).map E).getD i d = E i := by
        rw [List.getD_eq_getElem?_getD, List.getElem?_map, List.getElem?_range hi]; rfl
      rw [hg]
      refine ⟨cs, g3, fun j hj => ?_, g2⟩
      have := g4 j hj
      rw [ha, ha2] at this
      exact this
    · intro z hz
      obtain ⟨i, hi, rfl⟩ := List.mem_map.1 hz
      obtain ⟨cs, -, g⟩ := hE i (by have := List.mem_range.1 hi; omega)
      exact ⟨cs, g⟩
end Go.Proofs.Ytkoolemlnmolfaa
