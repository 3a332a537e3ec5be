/- A store, and effects that are placed one by one, in memory. No function of the program is named here. -/
import Derived.Test.YtfhbolpchmdaoaaEff
import Derived.Test.YtfhbolpchmdaoaaConfM
import Derived.Test.YtfhbolpchmdaoaaConv
namespace Go.Proofs.Ytfhbolpchmdaoaa
open Go.RowKit
set_option linter.unusedVariables false
/-- A store, and a row of effects (or none yet), all apart: the store's row lies behind T. -/
def PosSF (w : World) (B g m : Nat) (eX eE : TypeId) (v : Value) (S : List Ent) (X : List (Option Eff)) : Prop :=
  w.ownsRow B eE 2 v S.length (flatE S) ∧ WfE S ∧ ∃ T xs, T ≤ w.heap.size ∧ Own2 w B T eX 3 (.slice (some ⟨g, 0, none⟩) m m) m (X.flatMap (oeC eE)) xs ∧ ∀ p, v.ownBlock = some p → T ≤ p
theorem pos_cells {w : World} {B T g m : Nat} {eX eE : TypeId} {X : List (Option Eff)} {xs : List Value} (h : Own2 w B T eX 3 (.slice (some ⟨g, 0, none⟩) m m) m (X.flatMap (oeC eE)) xs) (j : Nat) (hj : j < X.length) :
    (∃ x, w.cell? ⟨g, j * 3, none⟩ = some x) ∧ (∃ x, w.cell? ⟨g, j * 3 + 1, none⟩ = some x) ∧ (∃ x, w.cell? ⟨g, j * 3 + 2, none⟩ = some x) ∧ w.frozen? ⟨g, j * 3, none⟩ = false ∧ w.frozen? ⟨g, j * 3 + 1, none⟩ = false ∧ w.frozen? ⟨g, j * 3 + 2, none⟩ = false := by
  obtain ⟨o, ho⟩ : ∃ o, X[j]? = some o := ⟨_, List.getElem?_eq_getElem hj⟩
  have hf : ∀ q, q < 3 → ∃ c, (X.flatMap (oeC eE))[j * 3 + q]? = some c := fun q hq => by
    rw [flatMap_get (oeC eE) 3 (oeC_len eE) X j q o ho hq]
    exact ⟨_, List.getElem?_eq_getElem (by rw [oeC_len]; exact hq)⟩
  obtain ⟨c0, h0⟩ := hf 0 (by omega)
  obtain ⟨c1, h1⟩ := hf 1 (by omega)
  obtain ⟨c2, h2⟩ := hf 2 (by omega)
  rw [Nat.add_zero] at h0
  obtain ⟨x0, -, g0, -, -⟩ := h.at h0
  obtain ⟨x1, -, g1, -, -⟩ := h.at h1
  obtain ⟨x2, -, g2, -, -⟩ := h.at h2
  exact ⟨⟨x0, g0⟩, ⟨x1, g1⟩, ⟨x2, g2⟩, h.1.frozenAt _, h.1.frozenAt _, h.1.frozenAt _⟩
theorem pos_store {w2 w : World} {B T g m : Nat} {eX eE : TypeId} {X : List (Option Eff)} {xs : List Value} (h : Own2 w B T eX 3 (.slice (some ⟨g, 0, none⟩) m m) m (X.flatMap (oeC eE)) xs) (j : Nat) (hj : j < X.length) {x : Eff} {a b : Value}
    (hF : OwnF w2 T eE (.agg #[.bool x.done, a, b]) x) (hl1 : x.rds.length ≤ 4000000) (hl2 : x.wrs.length ≤ 4000000) (hb : Below w2.heap.size w2 w) (hT : T ≤ w2.heap.size) (hB : B ≤ T) :
    ∃ xs', Own2 (((w.setCell ⟨g, j * 3, none⟩ (.bool x.done)).setCell ⟨g, j * 3 + 1, none⟩ a).setCell ⟨g, j * 3 + 2, none⟩ b) B w2.heap.size eX 3 (.slice (some ⟨g, 0, none⟩) m m) m ((X.set j (some x)).flatMap (oeC eE)) xs' := by
  obtain ⟨va, vb, e0, g1, g2, g3, g4, g5⟩ := hF
  simp only [Value.agg.injEq, Array.mk.injEq, List.cons.injEq, and_true, true_and] at e0
  obtain ⟨rfl, rfl⟩ := e0
  have k1 := owns_blk g1
  have k2 := owns_blk g2
  have h1 := h.store3 (T' := w2.heap.size) j (.bool x.done) (.ents eE x.rds) (.ents eE x.wrs) (.bool x.done) a b (fun _ => rfl) rfl (ents_own (owns_below g1 hb) g3 hl1) (fun p hp => by rw [k1] at hp; exact g1.lt p hp) (ents_own (owns_below g2 hb) g4 hl2) (fun p hp => by rw [k2] at hp; exact g2.lt p hp)
    (fun p hp => by rw [k1] at hp; rw [k2]; exact g5 p hp) hT hB
  rw [← flatMap_set3 (oeC eE) (oeC_len eE) X j (some x) _ _ _ hj rfl] at h1
  exact ⟨_, h1⟩
theorem PosSF.row {w : World} {B g m : Nat} {eX eE : TypeId} {v : Value} {S : List Ent} {X : List (Option Eff)} (h : PosSF w B g m eX eE v S X) (hl : S.length ≤ 4000000) : ∃ a c, v = .slice a S.length c ∧ RowE w a S.length S ∧ (a = none → c = 0) := by
  obtain ⟨h1, h2, -⟩ := h
  obtain ⟨a, c, e, r, z⟩ := rowE_of_owns h1 hl h2
  exact ⟨a, c, e, r, z⟩
theorem PosSF.all {w : World} {B g m : Nat} {eX eE : TypeId} {v : Value} {S : List Ent} {X : List (Option Eff)} {E : List Eff} (h : PosSF w B g m eX eE v S X) (hX : X = E.map some) (hm : E.length = m) (hl : m ≤ 4000000) : OwnSF w B w.heap.size eX eE v (.slice (some ⟨g, 0, none⟩) m m) S E := by
  subst hm hX
  obtain ⟨h1, h2, T, xs, hT, h3, h4⟩ := h
  rw [oeC_all] at h3
  refine ⟨h1, h2, fun p hp => (h1.lt p hp).2, hl, xs, h3.mono (Nat.le_refl _) hT, fun x hx p hp hq => ?_⟩
  have := (h3.blk_lt x hx p hq).2.1
  have := h4 p hp
  omega
/-- Effects that were just made: none yet. -/
theorem pos_made {w : World} {B g m : Nat} {eX eE : TypeId} (h : w.ownsRow B eX 3 (.slice (some ⟨g, 0, none⟩) m m) m (madeCells (Value.agg #[.bool false, .slice none 0 0, .slice none 0 0]).cells (m * 3)).toList) : ∃ xs, Own2 w B (g + 1) eX 3 (.slice (some ⟨g, 0, none⟩) m m) m ((List.replicate m none).flatMap (oeC eE)) xs :=
  ⟨_, own2_made3 (T := g + 1) (.bool false) (.slice none 0 0) (.slice none 0 0) (.bool false) (.ents eE []) (.ents eE []) (oeC eE) none rfl h (fun b hb => by simp [blk] at hb; omega) rfl (ents_nil _ _) (ents_nil _ _) rfl rfl rfl (oeC_len _)⟩
theorem grown3 (w : World) (g o1 o2 o3 : Nat) (p q r : Value) : w.grownBy (((w.setCell ⟨g, o1, none⟩ p).setCell ⟨g, o2, none⟩ q).setCell ⟨g, o3, none⟩ r) (some g) :=
  grownBy_trans (grownBy_trans (grownBy_set w g o1 p) (grownBy_set _ g o2 q)) (grownBy_set _ g o3 r)
end Go.Proofs.Ytfhbolpchmdaoaa
