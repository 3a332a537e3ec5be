/- Stores into rows of effects: filled one by one, marked in place. -/
import Derived.Test.YtpnahncmhldgdaaSerMem
namespace Go.Proofs.Ytpnahncmhldgdaa
open Go.RowKit
set_option linter.unusedVariables false
theorem flatMap_set3 {α β : Type} (f : α → List β) (hf : ∀ x, (f x).length = 3) : ∀ (L : List α) (i : Nat) (y : α) (c0 c1 c2 : β), i < L.length → f y = [c0, c1, c2] → (L.set i y).flatMap f = (((L.flatMap f).set (i * 3) c0).set (i * 3 + 1) c1).set (i * 3 + 2) c2 := by
  intro L
  induction L with
  | nil => intro i y c0 c1 c2 h; cases h
  | cons a r ih =>
    intro i y c0 c1 c2 h he
    rw [List.flatMap_cons]
    obtain ⟨p, q, t, hpq⟩ : ∃ p q t, f a = [p, q, t] := by
      have := hf a
      match f a, this with
      | [p, q, t], _ => exact ⟨p, q, t, rfl⟩
    rw [hpq]
    cases i with
    | zero => simp [he]
    | succ i =>
      rw [List.set_cons_succ, List.flatMap_cons, ih i y c0 c1 c2 (by simpa using h) he, hpq, show (i + 1) * 3 = i * 3 + 1 + 1 + 1 by omega]
      simp
theorem made3_get (p q r : Value) (n i : Nat) (x : Value) (h : (madeCells (Value.agg #[p, q, r]).cells (n * 3)).toList[i]? = some x) : (i % 3 = 0 ∧ x = p) ∨ (i % 3 = 1 ∧ x = q) ∨ (i % 3 = 2 ∧ x = r) := by
  obtain ⟨hi, rfl⟩ := List.getElem?_eq_some_iff.1 h
  simp [Value.cells, madeCells] at hi ⊢
  rcases (by omega : i % 3 = 0 ∨ i % 3 = 1 ∨ i % 3 = 2) with h | h | h <;> simp [h]
theorem rep3_get {α : Type} (f : α → List Cel) (a : α) (c0 c1 c2 : Cel) (hf : f a = [c0, c1, c2]) : ∀ (n i : Nat) (c : Cel), ((List.replicate n a).flatMap f)[i]? = some c → (i % 3 = 0 ∧ c = c0) ∨ (i % 3 = 1 ∧ c = c1) ∨ (i % 3 = 2 ∧ c = c2) := by
  intro n
  induction n with
  | zero => intro i c h; simp at h
  | succ n ih =>
    intro i c h
    rw [List.replicate_succ, List.flatMap_cons, hf] at h
    match i, h with
    | 0, h => simp at h; exact .inl ⟨rfl, h.symm⟩
    | 1, h => simp at h; exact .inr (.inl ⟨rfl, h.symm⟩)
    | 2, h => simp at h; exact .inr (.inr ⟨rfl, h.symm⟩)
    | i + 3, h =>
      rcases ih i c (by simpa using h) with ⟨h1, h2⟩ | ⟨h1, h2⟩ | ⟨h1, h2⟩
      · exact .inl ⟨by omega, h2⟩
      · exact .inr (.inl ⟨by omega, h2⟩)
      · exact .inr (.inr ⟨by omega, h2⟩)
/-- What has just been made: n elements of three cells that lead nowhere. -/
theorem own2_made3 {α : Type} {w : World} {B T : Nat} {e : TypeId} {n : Nat} {v : Value} (p q r : Value) (c0 c1 c2 : Cel) (f : α → List Cel) (a : α) (hf : f a = [c0, c1, c2])
    (h : w.ownsRow B e 3 v n (madeCells (Value.agg #[p, q, r]).cells (n * 3)).toList) (hv : ∀ b, blk v = some b → b < T) (hp : c0.own w p) (hq : c1.own w q) (hr : c2.own w r) (hbp : blk p = none) (hbq : blk q = none) (hbr : blk r = none) (hff : ∀ x, (f x).length = 3) :
    Own2 w B T e 3 v n ((List.replicate n a).flatMap f) (madeCells (Value.agg #[p, q, r]).cells (n * 3)).toList := by
  refine own2_plain h hv (by rw [flatMap_len f 3 hff, List.length_replicate]; exact h.1) fun i c x hc hx => ?_
  rcases made3_get p q r n i x hx with ⟨h1, rfl⟩ | ⟨h1, rfl⟩ | ⟨h1, rfl⟩ <;> rcases rep3_get f a c0 c1 c2 hf n i c hc with ⟨h2, rfl⟩ | ⟨h2, rfl⟩ | ⟨h2, rfl⟩
  · exact ⟨hp, hbp⟩
  · omega
  · omega
  · omega
  · exact ⟨hq, hbq⟩
  · omega
  · omega
  · omega
  · exact ⟨hr, hbr⟩
/-- An element of three cells is written; the second and the third lead to what is new, and apart. -/
theorem Own2.store3 {w : World} {B T T' : Nat} {e : TypeId} {n g cap : Nat} {cs : List Cel} {xs : List Value} (h : Own2 w B T e 3 (.slice (some ⟨g, 0, none⟩) n cap) n cs xs) (k : Nat) (c0 c1 c2 : Cel) (x y z : Value)
    (hx : ∀ w, c0.own w x) (hxb : blk x = none) (hy : c1.own w y) (hyb : ∀ b, blk y = some b → T ≤ b ∧ b < T') (hz : c2.own w z) (hzb : ∀ b, blk z = some b → T ≤ b ∧ b < T') (hap : ∀ p, blk y = some p → blk z ≠ some p) (hT : T ≤ T') (hB : B ≤ T) :
    Own2 (((w.setCell ⟨g, k * 3, none⟩ x).setCell ⟨g, k * 3 + 1, none⟩ y).setCell ⟨g, k * 3 + 2, none⟩ z) B T' e 3 (.slice (some ⟨g, 0, none⟩) n cap) n (((cs.set (k * 3) c0).set (k * 3 + 1) c1).set (k * 3 + 2) c2) (((xs.set (k * 3) x).set (k * 3 + 1) y).set (k * 3 + 2) z) := by
  have hg := h.2.1 g rfl
  have hlt := h.blk_lt
  have h1 := h.setNew (T' := T) (k * 3) c0 x (hx w) (fun b hb => by rw [hxb] at hb; cases hb) (Nat.le_refl _) hB
  have h2 := h1.setNew (k * 3 + 1) c1 y (c1.keep hy (fun b hb => heap_setCell_other w ⟨g, k * 3, none⟩ b x (by have := hyb b hb; simp; omega))) hyb hT hB
  refine h2.set (k * 3 + 2) c2 z ?_ (fun b hb => by have := hzb b hb; omega) (fun hb => by have := hzb g hb; omega) (fun i u hi hu p hp hq => ?_) (Nat.le_refl _)
  · refine c2.keep hz (fun b hb => ?_)
    have := hzb b hb
    exact (heap_setCell_other _ ⟨g, k * 3 + 1, none⟩ b y (by simp; omega)).trans (heap_setCell_other w ⟨g, k * 3, none⟩ b x (by simp; omega))
  · have hq' := hzb p hq
    rw [List.getElem?_set] at hu
    split at hu
    · split at hu
      · cases hu; exact hap p hp hq
      · cases hu
    · rw [List.getElem?_set] at hu
      split at hu
      · split at hu
        · cases hu; rw [hxb] at hp; cases hp
        · cases hu
      · have := hlt u (List.mem_cons_of_mem _ (List.mem_of_getElem? hu)) p hp; omega
/-- The cells of an effect, or of none yet. -/
def oeC (e : TypeId) : Option Eff → List Cel
  | some x => [.bool x.done, .ents e x.rds, .ents e x.wrs]
  | none => [.bool false, .ents e [], .ents e []]
theorem oeC_len (e : TypeId) (x : Option Eff) : (oeC e x).length = 3 := by cases x <;> rfl
theorem oeC_all (e : TypeId) (L : List Eff) : (L.map some).flatMap (oeC e) = L.flatMap (effC e) := by
  induction L with
  | nil => rfl
  | cons a r ih => rw [List.map_cons, List.flatMap_cons, List.flatMap_cons, ih]; rfl
theorem oeC_none (e : TypeId) (n : Nat) : (List.replicate n (none : Option Eff)).flatMap (oeC e) = (List.replicate n noEff).flatMap (effC e) := by
  induction n with
  | zero => rfl
  | succ n ih => rw [List.replicate_succ, List.replicate_succ, List.flatMap_cons, List.flatMap_cons, ih]; rfl
/-- The first k effects; the others not yet. -/
def FillF (w : World) (B g n : Nat) (eX eE : TypeId) (L : List Eff) (k : Nat) : Prop := ∃ xs, Own2 w B w.heap.size eX 3 (.slice (some ⟨g, 0, none⟩) n n) n ((fillO L k).flatMap (oeC eE)) xs
theorem FillF.store {w : World} {B g n : Nat} {eX eE : TypeId} {L : List Eff} {k T : Nat} {xs : List Value} (h : Own2 w B T eX 3 (.slice (some ⟨g, 0, none⟩) n n) n ((fillO L k).flatMap (oeC eE)) xs) (hk : k < L.length) (a b : Value)
    (hF : OwnF w T eE (.agg #[.bool (L.getD k noEff).done, a, b]) (L.getD k noEff)) (hl1 : (L.getD k noEff).rds.length ≤ 4000000) (hl2 : (L.getD k noEff).wrs.length ≤ 4000000) (hB : B ≤ T) (hTw : T ≤ w.heap.size) :
    FillF (((w.setCell ⟨g, k * 3, none⟩ (.bool (L.getD k noEff).done)).setCell ⟨g, k * 3 + 1, none⟩ a).setCell ⟨g, k * 3 + 2, none⟩ b) B g n eX eE L (k + 1) := by
  obtain ⟨va, vb, e0, g1, g2, g3, g4, g5⟩ := hF
  simp only [Value.agg.injEq, Array.mk.injEq, List.cons.injEq, and_true, true_and] at e0
  obtain ⟨rfl, rfl⟩ := e0
  have k1 := owns_blk g1
  have k2 := owns_blk g2
  have h1 := h.store3 (T' := w.heap.size) k (.bool (L.getD k noEff).done) (.ents eE (L.getD k noEff).rds) (.ents eE (L.getD k noEff).wrs) (.bool (L.getD k noEff).done) a b (fun _ => rfl) rfl (ents_own g1 g3 hl1) (fun p hp => by rw [k1] at hp; exact g1.lt p hp) (ents_own g2 g4 hl2) (fun p hp => by rw [k2] at hp; exact g2.lt p hp)
    (fun p hp => by rw [k1] at hp; rw [k2]; exact g5 p hp) hTw hB
  rw [← flatMap_set3 (oeC eE) (oeC_len eE) (fillO L k) k (some (L.getD k noEff)) _ _ _ (by rw [fillO_len L k (by omega)]; exact hk) rfl, fillO_set L k noEff hk] at h1
  exact ⟨_, h1.mono (Nat.le_refl _) (by simp [World.setCell])⟩
/-- The cells of the effect that is filled next. -/
theorem FillF.next {w : World} {B T g n : Nat} {eX eE : TypeId} {L : List Eff} {k : Nat} {xs : List Value} (h : Own2 w B T eX 3 (.slice (some ⟨g, 0, none⟩) n n) n ((fillO L k).flatMap (oeC eE)) xs) (hk : k < L.length) :
    w.cell? ⟨g, k * 3, none⟩ = some (.bool false) ∧ (∃ x, w.cell? ⟨g, k * 3 + 1, none⟩ = some x) ∧ (∃ x, w.cell? ⟨g, k * 3 + 2, none⟩ = some x) ∧ w.frozen? ⟨g, k * 3, none⟩ = false ∧ w.frozen? ⟨g, k * 3 + 1, none⟩ = false ∧ w.frozen? ⟨g, k * 3 + 2, none⟩ = false := by
  have hfg := fillO_get L k hk
  obtain ⟨x0, -, hcx0, hox0, -⟩ := h.at (k := k * 3) (c := .bool false) (by have := flatMap_get (oeC eE) 3 (oeC_len eE) (fillO L k) k 0 none hfg (by omega); rw [Nat.add_zero] at this; exact this)
  obtain ⟨x1, -, hcx1, -, -⟩ := h.at (k := k * 3 + 1) (c := .ents eE []) (flatMap_get (oeC eE) 3 (oeC_len eE) (fillO L k) k 1 none hfg (by omega))
  obtain ⟨x2, -, hcx2, -, -⟩ := h.at (k := k * 3 + 2) (c := .ents eE []) (flatMap_get (oeC eE) 3 (oeC_len eE) (fillO L k) k 2 none hfg (by omega))
  have hb : x0 = .bool false := hox0
  subst hb
  exact ⟨hcx0, ⟨x1, hcx1⟩, ⟨x2, hcx2⟩, h.1.frozenAt _, h.1.frozenAt _, h.1.frozenAt _⟩
/-- Where an owned effect lies. -/
theorem OwnFs.cell {w : World} {B T g n cap : Nat} {L : List Eff} {eX eE : TypeId} (h : OwnFs w B T eX eE (.slice (some ⟨g, 0, none⟩) n cap) L) (j : Nat) (hj : j < L.length) :
    n = L.length ∧ ∃ x y z, w.cell? ⟨g, j * 3, none⟩ = some x ∧ w.cell? ⟨g, j * 3 + 1, none⟩ = some y ∧ w.cell? ⟨g, j * 3 + 2, none⟩ = some z ∧ w.frozen? ⟨g, j * 3, none⟩ = false ∧ g < w.heap.size ∧ B ≤ g ∧ g < T := by
  obtain ⟨h0, xs, h1⟩ := h
  have hn : n = L.length := by
    rcases slice_of_owns h1.1 with ⟨h2, _⟩ | ⟨g', cap', h2, _⟩
    · cases h2
    · simp at h2; exact h2.2.1
  subst hn
  obtain ⟨c0, c1, c2⟩ := effC_get eE L j hj
  obtain ⟨x, -, hx, -, -⟩ := h1.at c0
  obtain ⟨y, -, hy, -, -⟩ := h1.at c1
  obtain ⟨z, -, hz, -, -⟩ := h1.at c2
  have := h1.blk_lt _ List.mem_cons_self g rfl
  exact ⟨rfl, x, y, z, hx, hy, hz, h1.1.frozenAt _, this.2.2, this.1, this.2.1⟩
/-- Whether an effect is done is written. -/
theorem OwnFs.setBool {w : World} {B T g n cap : Nat} {L : List Eff} {eX eE : TypeId} (h : OwnFs w B T eX eE (.slice (some ⟨g, 0, none⟩) n cap) L) (j : Nat) (hj : j < L.length) (d : Bool) :
    OwnFs (w.setCell ⟨g, j * 3, none⟩ (.bool d)) B T eX eE (.slice (some ⟨g, 0, none⟩) n cap) (L.set j ⟨d, (L.getD j noEff).rds, (L.getD j noEff).wrs⟩) := by
  have hn : n = L.length := (h.cell j hj).1
  subst hn
  obtain ⟨h0, xs, h1⟩ := h
  have h2 := h1.set (T' := T) (j * 3) (.bool d) (.bool d) rfl (fun b hb => by cases hb) (by simp [blk]) (fun i x _ _ p _ hp => by cases hp) (Nat.le_refl _)
  have h3 := flatMap_set (effC eE) 3 (effC_len _) L j 0 (L.getD j noEff) ⟨d, (L.getD j noEff).rds, (L.getD j noEff).wrs⟩ (.bool d) (getD_some L j noEff hj) (by omega) rfl
  rw [Nat.add_zero] at h3
  rw [← h3] at h2
  exact ⟨by rw [List.length_set]; exact h0, xs.set (j * 3) (.bool d), by rw [List.length_set]; exact h2⟩
/-- The reads of an effect, and what becomes of all when they are written in their place. -/
theorem OwnFs.rdsAt {w : World} {B T g n cap : Nat} {L : List Eff} {eX eE : TypeId} (h : OwnFs w B T eX eE (.slice (some ⟨g, 0, none⟩) n cap) L) (j : Nat) (hj : j < L.length) :
    ∃ x, w.cell? ⟨g, j * 3 + 1, none⟩ = some x ∧ w.ownsRow 0 eE 2 x (L.getD j noEff).rds.length (flatE (L.getD j noEff).rds) ∧ (∀ b, x.ownBlock = some b → B ≤ b ∧ b < T) ∧ x.ownBlock ≠ some g ∧
      ∀ w' l, w'.ownsRow 0 eE 2 x l.length (flatE l) → WfE l → l.length ≤ 4000000 → w.grownBy w' x.ownBlock → OwnFs w' B T eX eE (.slice (some ⟨g, 0, none⟩) n cap) (L.set j ⟨(L.getD j noEff).done, l, (L.getD j noEff).wrs⟩) := by
  obtain ⟨h0, xs, h1⟩ := h
  have hn : n = L.length := by
    rcases slice_of_owns h1.1 with ⟨h2, _⟩ | ⟨g', cap', h2, _⟩
    · cases h2
    · simp at h2; exact h2.2.1
  subst hn
  obtain ⟨x, hx, hcx, hox, hbx⟩ := h1.at (effC_get eE L j hj).2.1
  have hbe := owns_blk hox.1
  refine ⟨x, hcx, hox.1, fun b hb => hbx b (by rw [hbe]; exact hb), fun e => ?_, fun w' l hl hw hll hg => ?_⟩
  · exact (apart_cons.1 h1.2.2.2.2).1 x (List.mem_of_getElem? hx) g rfl (by rw [hbe]; exact e)
  · have h2 := h1.inner (j * 3 + 1) (.ents eE l) hx hg (fun p hp => by rw [hbe]; exact hp) ⟨hl, hw, hll⟩
    rw [← flatMap_set (effC eE) 3 (effC_len _) L j 1 (L.getD j noEff) ⟨(L.getD j noEff).done, l, (L.getD j noEff).wrs⟩ _ (getD_some L j noEff hj) (by omega) rfl] at h2
    exact ⟨by rw [List.length_set]; exact h0, xs, by rw [List.length_set]; exact h2⟩
/-- The writes of an effect, the same way. -/
theorem OwnFs.wrsAt {w : World} {B T g n cap : Nat} {L : List Eff} {eX eE : TypeId} (h : OwnFs w B T eX eE (.slice (some ⟨g, 0, none⟩) n cap) L) (j : Nat) (hj : j < L.length) :
    ∃ x, w.cell? ⟨g, j * 3 + 2, none⟩ = some x ∧ w.ownsRow 0 eE 2 x (L.getD j noEff).wrs.length (flatE (L.getD j noEff).wrs) ∧ (∀ b, x.ownBlock = some b → B ≤ b ∧ b < T) ∧ x.ownBlock ≠ some g ∧
      ∀ w' l, w'.ownsRow 0 eE 2 x l.length (flatE l) → WfE l → l.length ≤ 4000000 → w.grownBy w' x.ownBlock → OwnFs w' B T eX eE (.slice (some ⟨g, 0, none⟩) n cap) (L.set j ⟨(L.getD j noEff).done, (L.getD j noEff).rds, l⟩) := by
  obtain ⟨h0, xs, h1⟩ := h
  have hn : n = L.length := by
    rcases slice_of_owns h1.1 with ⟨h2, _⟩ | ⟨g', cap', h2, _⟩
    · cases h2
    · simp at h2; exact h2.2.1
  subst hn
  obtain ⟨x, hx, hcx, hox, hbx⟩ := h1.at (effC_get eE L j hj).2.2
  have hbe := owns_blk hox.1
  refine ⟨x, hcx, hox.1, fun b hb => hbx b (by rw [hbe]; exact hb), fun e => ?_, fun w' l hl hw hll hg => ?_⟩
  · exact (apart_cons.1 h1.2.2.2.2).1 x (List.mem_of_getElem? hx) g rfl (by rw [hbe]; exact e)
  · have h2 := h1.inner (j * 3 + 2) (.ents eE l) hx hg (fun p hp => by rw [hbe]; exact hp) ⟨hl, hw, hll⟩
    rw [← flatMap_set (effC eE) 3 (effC_len _) L j 2 (L.getD j noEff) ⟨(L.getD j noEff).done, (L.getD j noEff).rds, l⟩ _ (getD_some L j noEff hj) (by omega) rfl] at h2
    exact ⟨by rw [List.length_set]; exact h0, xs, by rw [List.length_set]; exact h2⟩
end Go.Proofs.Ytpnahncmhldgdaa
