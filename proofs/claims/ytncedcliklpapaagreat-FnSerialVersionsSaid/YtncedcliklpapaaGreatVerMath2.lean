/- Versions tell serial runs: plain mathematics. No function of the program is named here. -/
import Derived.Test.YtncedcliklpapaaGreatVerMath
namespace Go.Proofs.YtncedcliklpapaaGreat
set_option linter.unusedVariables false
theorem ser_getV (L : List Acn) : ∀ (S : List Ent) (k : Nat), k < L.length → (serL S L).2.getD k noEff = runM (serL S (L.take k)).1 (L.getD k noA) := by
  induction L with
  | nil => intro S k h; simp at h
  | cons a r ih =>
    intro S k h
    cases k with
    | zero => rfl
    | succ k =>
      have := ih (applyM S (runM S a).wrs) k (by simpa using h)
      simpa [serL] using this
/-- The versions of the first k effects. -/
def vsN (E : List Eff) : Nat → List Ver
  | 0 => []
  | k + 1 => putL (vsN E k) (k : Int) (E.getD k noEff).wrs
theorem vsN_spec {E : List Eff} (hE : E.length ≤ 10) (hW : ∀ k, k < E.length → writesB (E.getD k noEff).wrs = true) : ∀ k, k ≤ E.length → VOk (vsN E k) ∧ ∀ x, x ∈ vsN E k ↔ ∃ i : Nat, i < k ∧ x.by_ = i ∧ (x.key, x.val) ∈ (E.getD i noEff).wrs := by
  intro k
  induction k with
  | zero => intro _; exact ⟨⟨fun x hx => (by cases hx), List.Pairwise.nil⟩, fun x => ⟨fun h => (by cases h), fun ⟨i, hi, _⟩ => absurd hi (Nat.not_lt_zero i)⟩⟩
  | succ k ih =>
    intro hk
    obtain ⟨h1, h2⟩ := ih (by omega)
    have hb : inB (k : Int) 0 9 = true := inB_yes (by omega) (by omega)
    refine ⟨ok_putL h1 hb (hW k (by omega)), fun x => ?_⟩
    rw [vsN, mem_putL, h2]
    constructor
    · rintro (⟨⟨i, hi, e, h⟩, -⟩ | ⟨h, h'⟩)
      · exact ⟨i, by omega, e, h⟩
      · exact ⟨k, Nat.lt_succ_self k, h, h'⟩
    · rintro ⟨i, hi, e, h⟩
      rcases (by omega : i < k ∨ i = k) with h3 | rfl
      · exact .inl ⟨⟨i, h3, e, h⟩, by omega⟩
      · exact .inr ⟨e, h⟩
theorem read_skip {S : List Ent} {V : List Ver} (hV : VOk V) {key : Int} {j : Int} (h : ∀ x ∈ V, ¬ (x.key = key ∧ x.by_ = j)) : readL S V key (j + 1) = readL S V key j := by
  rcases readL_spec (S := S) hV key j with ⟨z, g1, g2, g3, g4, g5⟩ | ⟨g1, g2⟩
  · rw [g5]
    exact readL_hit hV g1 g2 (by omega) fun y hy h1 h2 => by
      by_cases e : y.by_ = j
      · exact absurd ⟨h1, e⟩ (h y hy)
      · exact g4 y hy h1 (by omega)
  · rw [g2]
    exact readL_miss hV fun y hy hc => by
      by_cases e : y.by_ = j
      · exact h y hy ⟨hc.1, e⟩
      · exact g1 y hy ⟨hc.1, by omega⟩
/-- Every action reads in the versions what it read in the run. -/
theorem ser_versions {S : List Ent} {L : List Acn} (hS : storeB S = true) (hL : actsB L = true) {key : Int} :
    ∀ j, j ≤ L.length → (readL S (vsN (serL S L).2 L.length) key (j : Int)).1 = atM (serL S (L.take j)).1 key := by
  have hl : (serL S L).2.length = L.length := serL_len S L
  have hl10 := (actsB_true hL).1
  have hget : ∀ k, k < L.length → (serL S L).2.getD k noEff = runM (serL S (L.take k)).1 (L.getD k noA) := fun k hk => ser_getV L S k hk
  have hW : ∀ k, k < (serL S L).2.length → writesB ((serL S L).2.getD k noEff).wrs = true := fun k hk => by rw [hget k (by omega)]; exact wr_run _ _
  obtain ⟨hV, hm⟩ := vsN_spec (by omega) hW L.length (by omega)
  intro j
  induction j with
  | zero =>
    intro _
    rw [readL_miss hV fun y hy hc => by obtain ⟨i, -, e, -⟩ := (hm y).1 hy; omega]
    rfl
  | succ j ih =>
    intro hj
    have hst := store_ser (L.take j) hS
    have hwj := hW j (by omega)
    have hnx : (serL S (L.take (j + 1))).1 = applyM (serL S (L.take j)).1 ((serL S L).2.getD j noEff).wrs := by
      rw [hget j (by omega), serL_next S L j (by omega)]
    rw [hnx, applyM_yes hst hwj, atM_applyL ((writesB_ok _).1 hwj).1]
    cases hf : findM ((serL S L).2.getD j noEff).wrs key with
    | some v =>
      rw [readL_hit hV (x := ⟨key, j, v⟩) ((hm _).2 ⟨j, by omega, rfl, findM_mem hf⟩) rfl (by simp only; omega) fun y _ _ h => by simp only; omega]
      rfl
    | none =>
      have hno : ∀ x ∈ vsN (serL S L).2 L.length, ¬ (x.key = key ∧ x.by_ = (j : Int)) := fun x hx hc => by
        obtain ⟨i, hi, e, h⟩ := (hm x).1 hx
        obtain rfl : i = j := by omega
        have := findM_of_mem ((writesB_ok _).1 hwj).1 _ h
        simp only [hc.1] at this
        rw [hf] at this; cases this
      have := read_skip (S := S) hV hno
      rw [show ((j + 1 : Nat) : Int) = (j : Int) + 1 by omega, this, ih (by omega)]
      rfl
theorem vs_last {S : List Ent} {L : List Acn} (hS : storeB S = true) (hL : actsB L = true) : lastN S (vsN (serL S L).2 L.length) 32 = (serL S L).1 := by
  have hl : (serL S L).2.length = L.length := serL_len S L
  have hl10 := (actsB_true hL).1
  have hget : ∀ k, k < L.length → (serL S L).2.getD k noEff = runM (serL S (L.take k)).1 (L.getD k noA) := fun k hk => ser_getV L S k hk
  have hW : ∀ k, k < (serL S L).2.length → writesB ((serL S L).2.getD k noEff).wrs = true := fun k hk => by rw [hget k (by omega)]; exact wr_run _ _
  obtain ⟨hV, hm⟩ := vsN_spec (by omega) hW L.length (by omega)
  refine ok_ext _ _ (ok_lastN hS hV) ((storeB_ok _).1 (store_ser _ hS)) fun k h0 h1 => ?_
  rw [atM_lastN hS hV h0 h1]
  have hup : ∀ m, L.length + m ≤ 10 → readL S (vsN (serL S L).2 L.length) k ((L.length + m : Nat) : Int) = readL S (vsN (serL S L).2 L.length) k (L.length : Int) := by
    intro m
    induction m with
    | zero => intro _; rfl
    | succ m ih =>
      intro hm2
      have := read_skip (S := S) hV (key := k) (j := ((L.length + m : Nat) : Int)) fun x hx hc => by
        obtain ⟨i, hi, e, -⟩ := (hm x).1 hx; omega
      rw [show ((L.length + (m + 1) : Nat) : Int) = ((L.length + m : Nat) : Int) + 1 by omega, this, ih (by omega)]
  have h10 := hup (10 - L.length) (by omega)
  rw [show ((L.length + (10 - L.length) : Nat) : Int) = 10 by omega] at h10
  rw [h10, ser_versions hS hL L.length (Nat.le_refl _), List.take_of_length_le (Nat.le_refl _)]
end Go.Proofs.YtncedcliklpapaaGreat
