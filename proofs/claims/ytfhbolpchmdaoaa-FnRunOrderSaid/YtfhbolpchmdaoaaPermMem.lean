/- Effects that are copied to other places, and actions that are stored one by one, in memory. No function of the program is named here. -/
import Derived.Test.YtfhbolpchmdaoaaPosMem
import Derived.Test.YtfhbolpchmdaoaaActs
namespace Go.Proofs.Ytfhbolpchmdaoaa
open Go.RowKit
set_option linter.unusedVariables false
/-- The values of the first k effects, each at its number. -/
def permV (O : List Int) (xs zs : List Value) : Nat → List Value
  | 0 => zs
  | k + 1 => (((permV O xs zs k).set ((O.getD k 0).toNat * 3) (xs.getD (k * 3) undef)).set ((O.getD k 0).toNat * 3 + 1) (xs.getD (k * 3 + 1) undef)).set ((O.getD k 0).toNat * 3 + 2) (xs.getD (k * 3 + 2) undef)
theorem permV_len (O : List Int) (xs zs : List Value) (k : Nat) : (permV O xs zs k).length = zs.length := by
  induction k with
  | zero => rfl
  | succ k ih => simp [permV, ih]
theorem permV_get {O : List Int} {xs zs : List Value} {n : Nat} (hz : zs.length = n * 3) (hr : ∀ k, k < n → 0 ≤ O.getD k 0 ∧ O.getD k 0 < n) (hd : ∀ k j, j < k → k < n → O.getD j 0 ≠ O.getD k 0) :
    ∀ k, k ≤ n → ∀ j, j < k → ∀ q, q < 3 → (permV O xs zs k)[(O.getD j 0).toNat * 3 + q]? = some (xs.getD (j * 3 + q) undef) := by
  intro k
  induction k with
  | zero => intro _ j hj; omega
  | succ k ih =>
    intro hk j hj q hq
    have hb := hr k (by omega)
    have hbj := hr j (by omega)
    rw [permV, List.getElem?_set, List.getElem?_set, List.getElem?_set]
    rcases (by omega : j = k ∨ j < k) with rfl | h1
    · have hl := permV_len O xs zs j
      rcases (by omega : q = 0 ∨ q = 1 ∨ q = 2) with rfl | rfl | rfl
      · rw [if_neg (by omega), if_neg (by omega), if_pos (by omega), if_pos (by omega)]; rfl
      · rw [if_neg (by omega), if_pos (by omega), if_pos (by rw [List.length_set]; omega)]
      · rw [if_pos (by omega), if_pos (by rw [List.length_set, List.length_set]; omega)]
    · have h2 := hd k j h1 (by omega)
      rw [if_neg (by omega), if_neg (by omega), if_neg (by omega)]
      exact ih (by omega) j h1 q hq
/-- All effects, each at its number: owned as they were. -/
theorem own2_perm {w : World} {B T : Nat} {eX eE : TypeId} {u : Value} {R : List Eff} {L : List Acn} {O : List Int} {xs zs : List Value} {g n : Nat} (h : Own2 w B T eX 3 u R.length (R.flatMap (effC eE)) xs) (hR : R.length = n) (hL : L.length = n) (hO : O.length = L.length) (hf : FitTo L O L.length) (hz : zs.length = n * 3)
    (ho : w.ownsRow B eX 3 (.slice (some ⟨g, 0, none⟩) n n) n (permV O xs zs n)) (hg : T ≤ g) : Own2 w B (g + 1) eX 3 (.slice (some ⟨g, 0, none⟩) n n) n ((placeM O R).flatMap (effC eE)) (permV O xs zs n) ∧ ∀ y ∈ permV O xs zs n, y ∈ xs := by
  have hr : ∀ k, k < n → 0 ≤ O.getD k 0 ∧ O.getD k 0 < n := fun k hk => by have := (hf k (by omega)).1; omega
  have hd : ∀ k j, j < k → k < n → O.getD j 0 ≠ O.getD k 0 := fun k j hj hk => ((hf k (by omega)).2 j hj).1
  have hxl : xs.length = n * 3 := by rw [h.2.2.1, flatMap_len (effC eE) 3 (effC_len eE), hR]
  have hpg := permV_get (xs := xs) hz hr hd n (Nat.le_refl _)
  have hpl : (placeM O R).length = n := by rw [placeM_len]; omega
  have hfg : ∀ k, k < n → (placeM O R).getD (O.getD k 0).toNat noEff = R.getD k noEff := by
    intro k hk
    obtain ⟨F, hF, hFe⟩ : ∃ F : List Eff, F = placeM O R ∧ F.length = L.length := ⟨_, rfl, by omega⟩
    have hk0 := hr k hk
    have hps := placeM_some R hO hf
    have hcu : ∀ m, m ≤ n → ∀ j, j < m → (posL O R m)[(O.getD j 0).toNat]? = some (some (R.getD j noEff)) := by
      intro m
      induction m with
      | zero => intro _ j hj; omega
      | succ m ih =>
        intro hm j hj
        have hbm := hr m (by omega)
        have hbj := hr j (by omega)
        rw [posL, List.getElem?_set]
        rcases (by omega : j = m ∨ j < m) with rfl | h1
        · rw [if_pos rfl, if_pos (by rw [posL_len]; omega)]
        · have := hd m j h1 (by omega)
          rw [if_neg (by omega)]
          exact ih (by omega) j h1
    have h1 := hcu n (Nat.le_refl _) k hk
    have h2 : posL O R n = (placeM O R).map some := by rw [← hps, hO, hL]
    rw [h2, List.getElem?_map] at h1
    rw [List.getD_eq_getElem?_getD]
    cases hq : (placeM O R)[(O.getD k 0).toNat]? with
    | none => rw [hq] at h1; simp at h1
    | some y => rw [hq] at h1; simp at h1; simp [h1]
  -- where a cell comes from
  have hsrc : ∀ z (y : Value), (permV O xs zs n)[z]? = some y → ∃ k q, k < n ∧ q < 3 ∧ z = (O.getD k 0).toNat * 3 + q ∧ xs[k * 3 + q]? = some y := by
    intro z y hy
    have hzl : z < n * 3 := by
      have := (List.getElem?_eq_some_iff.1 hy).1
      rw [permV_len, hz] at this; exact this
    obtain ⟨k, hk, e⟩ := fit_all hf (z / 3) (by omega)
    have hk0 := hr k (by omega)
    have hzq : z = (O.getD k 0).toNat * 3 + z % 3 := by omega
    refine ⟨k, z % 3, by omega, by omega, hzq, ?_⟩
    have := hpg k (by omega) (z % 3) (by omega)
    rw [← hzq, hy, Option.some.injEq] at this
    rw [this, List.getD_eq_getElem?_getD, List.getElem?_eq_getElem (by omega)]; rfl
  have hlt := h.blk_lt
  have hai := apart_iff.1 (apart_cons.1 h.2.2.2.2).2
  refine ⟨?_, fun y hy => by
    obtain ⟨z, hz'⟩ := List.getElem?_of_mem hy
    obtain ⟨k, q, -, -, -, hxk⟩ := hsrc z y hz'
    exact List.mem_of_getElem? hxk⟩
  refine ⟨ho, fun b hb => by simp [blk] at hb; omega, by rw [permV_len, hz, flatMap_len (effC eE) 3 (effC_len eE), hpl], fun i c x hc hx => ?_, apart_cons.2 ⟨fun x hx p hp hq => ?_, apart_iff.2 fun i j x y hij hx hy p hp hq => ?_⟩⟩
  · obtain ⟨k, q, hk, hq, e, hxk⟩ := hsrc i x hx
    have h1 := flatMap_get (effC eE) 3 (effC_len eE) (placeM O R) (O.getD k 0).toNat q _ (getD_some _ _ noEff (by have := hr k hk; omega)) hq
    rw [hfg k hk, ← e, hc] at h1
    have h2 := flatMap_get (effC eE) 3 (effC_len eE) R k q _ (getD_some R k noEff (by omega)) hq
    rw [← h1] at h2
    have h3 := h.2.2.2.1 _ c x h2 hxk
    exact ⟨h3.1, fun b hb => by have := h3.2 b hb; omega⟩
  · obtain ⟨z, hz'⟩ := List.getElem?_of_mem hx
    obtain ⟨k, q, hk, hq', e, hxk⟩ := hsrc z x hz'
    simp [blk] at hp
    have := (hlt x (List.mem_cons_of_mem _ (List.mem_of_getElem? hxk)) p hq).2.1
    omega
  · obtain ⟨k, q, hk, hq1, e1, hxk⟩ := hsrc i x hx
    obtain ⟨k', q', hk', hq2, e2, hyk⟩ := hsrc j y hy
    refine hai (k * 3 + q) (k' * 3 + q') x y (fun e => hij ?_) hxk hyk p hp hq
    have : k = k' ∧ q = q' := by omega
    rw [e1, e2, this.1, this.2]
/-! Actions stored one by one. -/
theorem flatP_set : ∀ (L : List Acn) (i : Nat) (y : Acn), i < L.length → flatA (L.set i y) = ((((flatA L).set (i * 4) (.int .i64 y.kind)).set (i * 4 + 1) (.int .i64 y.src)).set (i * 4 + 2) (.int .i64 y.dst)).set (i * 4 + 3) (.int .i64 y.amt) := by
  intro L
  induction L with
  | nil => intro i y h; cases h
  | cons a r ih =>
    intro i y h
    rw [flatA_cons]
    cases i with
    | zero => simp [flatA_cons]
    | succ i =>
      rw [List.set_cons_succ, flatA_cons, ih i y (by simpa using h), show (i + 1) * 4 = i * 4 + 1 + 1 + 1 + 1 by omega, show i * 4 + 1 + 1 + 1 + 1 + 1 = (i * 4 + 1) + 1 + 1 + 1 + 1 by omega, show i * 4 + 1 + 1 + 1 + 1 + 2 = (i * 4 + 2) + 1 + 1 + 1 + 1 by omega, show i * 4 + 1 + 1 + 1 + 1 + 3 = (i * 4 + 3) + 1 + 1 + 1 + 1 by omega]
      simp
theorem rowA_store {w : World} {B g n : Nat} {e : TypeId} {L : List Acn} (h : w.ownsRow B e 4 (.slice (some ⟨g, 0, none⟩) n n) n (flatA L)) (i : Nat) (hi : i < L.length) (y : Acn) :
    ((((w.setCell ⟨g, i * 4, none⟩ (.int .i64 y.kind)).setCell ⟨g, i * 4 + 1, none⟩ (.int .i64 y.src)).setCell ⟨g, i * 4 + 2, none⟩ (.int .i64 y.dst)).setCell ⟨g, i * 4 + 3, none⟩ (.int .i64 y.amt)).ownsRow B e 4 (.slice (some ⟨g, 0, none⟩) n n) n (flatA (L.set i y)) := by
  rw [flatP_set L i y hi]
  exact ((((h.stored (i * 4) (.int .i64 y.kind)).1.stored (i * 4 + 1) (.int .i64 y.src)).1.stored (i * 4 + 2) (.int .i64 y.dst)).1.stored (i * 4 + 3) (.int .i64 y.amt)).1
/-- The first k of a list, then zeros. -/
def fillP (M : List Acn) (k : Nat) : List Acn := M.take k ++ List.replicate (M.length - k) noA
theorem fillP_len (M : List Acn) (k : Nat) (h : k ≤ M.length) : (fillP M k).length = M.length := by simp [fillP]; omega
theorem fillP_all (M : List Acn) : fillP M M.length = M := by simp [fillP]
theorem fillP_zero (M : List Acn) : fillP M 0 = List.replicate M.length noA := by simp [fillP]
theorem fillP_set (M : List Acn) (k : Nat) (h : k < M.length) : (fillP M k).set k (M.getD k noA) = fillP M (k + 1) := by
  unfold fillP
  rw [takeA_one M k h, List.set_append_right _ _ (by rw [List.length_take]; omega), show M.length - k = (M.length - (k + 1)) + 1 by omega, List.replicate_succ, show k - (M.take k).length = 0 by rw [List.length_take]; omega]
  simp
theorem flatA_rep (n : Nat) : flatA (List.replicate n noA) = List.replicate (n * 4) (.int .i64 0) := by
  induction n with
  | zero => rfl
  | succ n ih => rw [List.replicate_succ, flatA_cons, ih, show (n + 1) * 4 = n * 4 + 1 + 1 + 1 + 1 by omega]; rfl
theorem madeA (n : Nat) : (madeCells (Value.agg #[.int .i64 0, .int .i64 0, .int .i64 0, .int .i64 0]).cells (n * 4)).toList = flatA (List.replicate n noA) := by
  rw [flatA_rep]
  refine List.ext_getElem? fun i => ?_
  by_cases h : i < n * 4
  · rw [List.getElem?_replicate, if_pos h]
    have hl : i < (madeCells (Value.agg #[.int .i64 0, .int .i64 0, .int .i64 0, .int .i64 0]).cells (n * 4)).toList.length := by simpa [madeCells] using h
    rw [List.getElem?_eq_getElem hl]
    simp [Value.cells, madeCells]
    rcases (by omega : i % 4 = 0 ∨ i % 4 = 1 ∨ i % 4 = 2 ∨ i % 4 = 3) with e | e | e | e <;> simp [e]
  · rw [List.getElem?_eq_none (by simp [madeCells]; omega), List.getElem?_eq_none (by simp; omega)]
end Go.Proofs.Ytfhbolpchmdaoaa
