/- Rows of effects whose inner rows are shared: what an append of effects leaves. -/
import Derived.Test.YtpnahncmhldgdaaSerMem
namespace Go.Proofs.Ytpnahncmhldgdaa
open Go.RowKit
set_option linter.unusedVariables false
/-- The values xs are the cells of the effects L. -/
def RawF (w : World) (xs : List Value) (L : List Eff) : Prop :=
  xs.length = L.length * 3 ∧ ∀ i, i < L.length → xs[i * 3]? = some (.bool (L.getD i noEff).done) ∧ (∃ x, xs[i * 3 + 1]? = some x ∧ SliE w x (L.getD i noEff).rds) ∧ ∃ y, xs[i * 3 + 2]? = some y ∧ SliE w y (L.getD i noEff).wrs
theorem rawF_nil (w : World) : RawF w [] [] := ⟨rfl, fun i hi => absurd hi (Nat.not_lt_zero _)⟩
theorem RawF.below {w w' : World} {xs : List Value} {L : List Eff} (h : RawF w xs L) (hb : Below w.heap.size w w') : RawF w' xs L := by
  refine ⟨h.1, fun i hi => ?_⟩
  obtain ⟨h1, ⟨x, h2, h3⟩, y, h4, h5⟩ := h.2 i hi
  exact ⟨h1, ⟨x, h2, h3.below hb⟩, y, h4, h5.below hb⟩
theorem RawF.append {w : World} {xs ys : List Value} {L M : List Eff} (h : RawF w xs L) (h' : RawF w ys M) : RawF w (xs ++ ys) (L ++ M) := by
  refine ⟨by rw [List.length_append, List.length_append, h.1, h'.1, Nat.add_mul], fun i hi => ?_⟩
  rw [List.length_append] at hi
  by_cases hl : i < L.length
  · have e : (L ++ M).getD i noEff = L.getD i noEff := by rw [List.getD_eq_getElem?_getD, List.getD_eq_getElem?_getD, List.getElem?_append_left hl]
    rw [e, List.getElem?_append_left (by rw [h.1]; omega), List.getElem?_append_left (by rw [h.1]; omega), List.getElem?_append_left (by rw [h.1]; omega)]
    exact h.2 i hl
  · have e : (L ++ M).getD i noEff = M.getD (i - L.length) noEff := by rw [List.getD_eq_getElem?_getD, List.getD_eq_getElem?_getD, List.getElem?_append_right (by omega)]
    rw [e, List.getElem?_append_right (by rw [h.1]; omega), List.getElem?_append_right (by rw [h.1]; omega), List.getElem?_append_right (by rw [h.1]; omega), h.1,
      show i * 3 - L.length * 3 = (i - L.length) * 3 by omega, show i * 3 + 1 - L.length * 3 = (i - L.length) * 3 + 1 by omega, show i * 3 + 2 - L.length * 3 = (i - L.length) * 3 + 2 by omega]
    exact h'.2 _ (by omega)
/-- The cells of a row of effects. -/
theorem rawF_of_row {w : World} {a : Option Addr} {n : Nat} {L : List Eff} (h : RowFs w a n L) :
    ∃ xs, RawF w xs L ∧ xs.length = n * 3 ∧ (∀ ad, a = some ad → ∀ j u, xs[j]? = some u → w.cell? (ad.add j) = some u) ∧ ∀ u ∈ xs, u.oneCell' = true := by
  obtain ⟨h1, h2, h3⟩ := h
  by_cases h0 : 0 < n
  · obtain ⟨b, off, rfl, hc⟩ := h3 h0
    have ha : ∀ j, (⟨b, off, none⟩ : Addr).add j = ⟨b, off + j, none⟩ := fun j => by unfold Addr.add; split <;> simp_all
    have hcell : ∀ j, j < n * 3 → ∃ u, w.cell? ⟨b, off + j, none⟩ = some u ∧ u.oneCell' = true := fun j hj => by
      obtain ⟨c0, ⟨x, c1, a1, n1, k1, rfl, -⟩, y, c2, a2, n2, k2, rfl, -⟩ := hc (j / 3) (by omega)
      rcases (by omega : j = j / 3 * 3 ∨ j = j / 3 * 3 + 1 ∨ j = j / 3 * 3 + 2) with e | e | e
      · refine ⟨_, by rw [e]; exact c0, rfl⟩
      · refine ⟨_, by rw [e, ← Nat.add_assoc]; exact c1, rfl⟩
      · refine ⟨_, by rw [e, ← Nat.add_assoc]; exact c2, rfl⟩
    have hex : ∀ j : Nat, ∃ u, j < n * 3 → w.cell? ⟨b, off + j, none⟩ = some u ∧ u.oneCell' = true := fun j => by
      by_cases hj : j < n * 3
      · obtain ⟨u, hu⟩ := hcell j hj; exact ⟨u, fun _ => hu⟩
      · exact ⟨undef, fun h => absurd h hj⟩
    obtain ⟨E, hE⟩ := Classical.axiomOfChoice hex
    have hget : ∀ j, j < n * 3 → ((List.range (n * 3)).map E)[j]? = some (E j) := fun j hj => by rw [List.getElem?_map, List.getElem?_range hj]; rfl
    have hxs : ∀ j u, ((List.range (n * 3)).map E)[j]? = some u → w.cell? ⟨b, off + j, none⟩ = some u := fun j u hu => by
      have hj : j < n * 3 := by have := (List.getElem?_eq_some_iff.1 hu).1; simpa using this
      rw [hget j hj] at hu
      rw [(hE j hj).1, hu]
    refine ⟨(List.range (n * 3)).map E, ⟨by simp [h1], fun i hi => ?_⟩, by simp, fun ad e j u hu => ?_, fun u hu => ?_⟩
    · obtain ⟨c0, ⟨x, c1, s1⟩, y, c2, s2⟩ := hc i (by omega)
      have g0 := (hE (i * 3) (by omega)).1
      have g1 := (hE (i * 3 + 1) (by omega)).1
      have g2 := (hE (i * 3 + 2) (by omega)).1
      rw [c0] at g0
      rw [← Nat.add_assoc, c1] at g1
      rw [← Nat.add_assoc, c2] at g2
      rw [hget _ (by omega), hget _ (by omega), hget _ (by omega), ← g0, ← g1, ← g2]
      exact ⟨rfl, ⟨x, rfl, s1⟩, y, rfl, s2⟩
    · obtain rfl : (⟨b, off, none⟩ : Addr) = ad := by simpa using e
      rw [ha]; exact hxs j u hu
    · obtain ⟨j, hj, rfl⟩ := List.mem_map.1 hu
      exact (hE j (by simpa using hj)).2
  · obtain rfl : n = 0 := by omega
    obtain rfl : L = [] := List.eq_nil_of_length_eq_zero h1
    exact ⟨[], rawF_nil w, rfl, fun ad e j u hu => by simp at hu, fun u hu => by cases hu⟩
/-- An owned row of such cells reads as the effects. -/
theorem rowFs_of_raw {w : World} {B : Nat} {e : TypeId} {v : Value} {xs : List Value} {L : List Eff} (h : w.ownsRow B e 3 v L.length xs) (hr : RawF w xs L) : ∃ a cap, v = .slice a L.length cap ∧ RowFs w a L.length L ∧ (a = none → cap = 0) ∧ L.length ≤ cap := by
  rcases slice_of_owns h with ⟨rfl, hn⟩ | ⟨g, cap, rfl, hB, hg, hnc, hcm⟩
  · obtain rfl : L = [] := List.eq_nil_of_length_eq_zero hn
    exact ⟨none, 0, rfl, rowFs_empty _ _, fun _ => rfl, Nat.le_refl _⟩
  · refine ⟨_, cap, rfl, ⟨rfl, by omega, fun _ => ⟨g, 0, rfl, fun i hi => ?_⟩⟩, fun h => (by cases h), hnc⟩
    obtain ⟨h1, ⟨x, h2, h3⟩, y, h4, h5⟩ := hr.2 i hi
    have q0 := h.cellAt (i * 3) (by omega)
    have q1 := h.cellAt (i * 3 + 1) (by omega)
    have q2 := h.cellAt (i * 3 + 2) (by omega)
    rw [h1] at q0
    rw [h2] at q1
    rw [h4] at q2
    rw [Nat.zero_add]
    exact ⟨q0, ⟨x, q1, h3⟩, y, q2, h5⟩
end Go.Proofs.Ytpnahncmhldgdaa
