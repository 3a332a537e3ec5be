/- What the walks of exact laws whose answer holds effects share (gen8/exact.py). No function of the program is named here. -/
import Derived.Test.YtfhbolpchmdaoaaConvX
namespace Go.Proofs.Ytfhbolpchmdaoaa
open Go.RowKit
set_option linter.unusedVariables false
theorem TurnQ.below {Q : Nat → Prop} {C : Nat} {a w w' : World} (h : TurnQ Q w w') (hb : Below C a w) (hq : ∀ p, Q p → C ≤ p) (hs : C ≤ w.heap.size) : Below C a w' :=
  hb.trans ⟨h.os, h.tape, h.output, h.size, fun k hk => h.block k (by omega) (fun q => by have := hq k q; omega)⟩
/-- Only other blocks have turned. -/
theorem OwnSF.keep {w w' : World} {B T : Nat} {eX eE : TypeId} {v u : Value} {S : List Ent} {L : List Eff} (h : OwnSF w B T eX eE v u S L) (hk : ∀ p, p < w.heap.size → B ≤ p → p < T → w'.heap[p]? = w.heap[p]?) : OwnSF w' B T eX eE v u S L := by
  obtain ⟨h1, h2, h3, h4, xs, h5, h6⟩ := h
  have hlt := h5.blk_lt
  obtain ⟨g1, g2, g3, g4, g5⟩ := h5
  refine ⟨owns_keep h1 (fun p hp => by rw [owns_blk h1] at hp; exact hk p (h1.lt p hp).2 (h1.lt p hp).1 (h3 p hp)), h2, h3, h4, xs, ⟨owns_keep g1 (fun b hb => by have := hlt u List.mem_cons_self b hb; exact hk b this.2.2 this.1 this.2.1), g2, g3, fun i c x hc hx => ?_, g5⟩, h6⟩
  have hm := List.mem_cons_of_mem u (List.mem_of_getElem? hx)
  exact ⟨c.keep (g4 i c x hc hx).1 (fun b hb => by have := hlt x hm b hb; exact hk b this.2.2 this.1 this.2.1), (g4 i c x hc hx).2⟩
theorem OwnSF.grown1 {w w' : World} {B T g : Nat} {eX eE : TypeId} {v u : Value} {S : List Ent} {L : List Eff} (h : OwnSF w B T eX eE v u S L) (hg : w.grownBy w' (some g)) (hd : g < B ∨ T ≤ g) : OwnSF w' B T eX eE v u S L :=
  h.keep (fun p hp h1 h2 => hg.block p hp (by simp; omega))
theorem OwnSF.reads {w : World} {B T q q' : Nat} {p p' : Option Addr} {eX eE : TypeId} {S : List Ent} {L : List Eff} (h : OwnSF w B T eX eE (.slice p S.length q) (.slice p' L.length q') S L) (hl : S.length ≤ 4000000) : RowE w p S.length S ∧ RowFs w p' L.length L := by
  obtain ⟨a1, c1, e1, r1, -⟩ := h.row hl
  obtain ⟨a2, c2, e2, r2, -, -⟩ := rowFs_of_own h.effs
  simp only [Value.slice.injEq, true_and] at e1 e2
  obtain ⟨rfl, -⟩ := e1
  obtain ⟨rfl, -⟩ := e2
  exact ⟨r1, r2⟩
theorem OwnFQ.reads {w : World} {B T q' n : Nat} {Q : Nat → Prop} {p' : Option Addr} {eX eE : TypeId} {L : List Eff} (h : OwnFQ w B T Q eX eE (.slice p' n q') L) (hn : L.length = n) : RowFs w p' n L := by
  subst hn
  obtain ⟨a2, c2, e2, r2, -, -⟩ := rowFs_of_own h.fs
  simp only [Value.slice.injEq, true_and] at e2
  obtain ⟨rfl, -⟩ := e2
  exact r2
theorem sumX_le {L : List Eff} {c : Nat} (h : ∀ x ∈ L, x.rds.length + x.wrs.length ≤ c) : sumX L ≤ L.length * c := by
  induction L with
  | nil => simp [sumX]
  | cons a r ih =>
    have h1 := h a (by simp)
    have h2 := ih (fun x hx => h x (List.mem_cons_of_mem _ hx))
    simp only [sumX, List.length_cons, Nat.add_mul]; omega
theorem serM_wt (S : List Ent) (L : List Acn) : wtX (serM S L).2 ≤ 1000 := by
  have h1 := sumX_le (L := (serM S L).2) (c := 34) (fun x hx => by have := serM_eff S L x hx; omega)
  have h2 := serM_len S L
  have h3 : (serM S L).2.length * 34 ≤ 10 * 34 := Nat.mul_le_mul_right _ h2
  unfold wtX; omega
end Go.Proofs.Ytfhbolpchmdaoaa
