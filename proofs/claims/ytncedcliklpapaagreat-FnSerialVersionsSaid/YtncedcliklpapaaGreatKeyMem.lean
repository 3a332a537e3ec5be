/- An array of slices of versions, each over a row of its own. No function of the program is named here. -/
import Derived.Test.YtncedcliklpapaaGreatKeyMath
import Derived.Test.YtncedcliklpapaaGreatVerNew
import Derived.Test.YtncedcliklpapaaGreatCore
import Derived.Test.YtncedcliklpapaaGreatLay
namespace Go.Proofs.YtncedcliklpapaaGreat
open Go.RowKit
set_option linter.unusedVariables false
/-- The block g holds the values vs. -/
def ArrV (w : World) (g : Nat) (T : TypeId) (vs : List Value) : Prop := w.heap[g]? = some (.cells vs.toArray T (0, 0))
theorem ArrV.lt {w : World} {g : Nat} {T : TypeId} {vs : List Value} (h : ArrV w g T vs) : g < w.heap.size := (Array.getElem?_eq_some_iff.1 h).1
theorem ArrV.new (w : World) (T : TypeId) (vs : List Value) : ArrV (w.alloc (.cells vs.toArray T)) w.heap.size T vs := heap_alloc_new w _
theorem ArrV.keep {w w' : World} {g : Nat} {T : TypeId} {vs : List Value} (h : ArrV w g T vs) (hk : w'.heap[g]? = w.heap[g]?) : ArrV w' g T vs := hk.trans h
theorem ArrV.alloc {w : World} {g : Nat} {T : TypeId} {vs : List Value} (h : ArrV w g T vs) (o : Obj) : ArrV (w.alloc o) g T vs := h.keep (Below.heap_alloc w o g h.lt)
theorem ArrV.after {w w' : World} {g : Nat} {T : TypeId} {vs : List Value} (h : ArrV w g T vs) (hb : Below w.heap.size w w') : ArrV w' g T vs := h.keep (hb.block g h.lt)
theorem ArrV.grown {w w' : World} {row : Option Nat} {g : Nat} {T : TypeId} {vs : List Value} (h : ArrV w g T vs) (hg : w.grownBy w' row) (hne : some g ≠ row) : ArrV w' g T vs := h.keep (hg.block g h.lt hne)
theorem ArrV.set {w : World} {g : Nat} {T : TypeId} {vs : List Value} (h : ArrV w g T vs) (i : Nat) (v : Value) : ArrV (w.setCell ⟨g, i, none⟩ v) g T (vs.set i v) := by
  have := heap_setCell_same w g i vs.toArray T v h
  rw [List.setIfInBounds_toArray] at this; exact this
theorem ArrV.setRow {w : World} {g : Nat} {T : TypeId} {vs : List Value} (h : ArrV w g T vs) (us : List Value) : ArrV (w.setRow g us.toArray) g T us := setRow_heap w g _ _ T _ h
theorem ArrV.cell {w : World} {g : Nat} {T : TypeId} {vs : List Value} (h : ArrV w g T vs) (j : Nat) (hj : j < vs.length) : w.cell? ⟨g, j, none⟩ = some (vs.getD j undef) := by
  rw [cell_of_row w g j vs.toArray T (0, 0) h]; simp [hj]
theorem ArrV.frozen {w : World} {g : Nat} {T : TypeId} {vs : List Value} (h : ArrV w g T vs) (j : Nat) : w.frozen? ⟨g, j, none⟩ = false := frozen_of_row w g j vs.toArray T h
/-- A whole array out of its block. -/
theorem wpList_load_arrV {P : Program} {ops : Array Oper} {rest : List Oper} {o : Oper} {a : Act} {w : World} {Q : Exit → Act → World → Prop} (hgd : o.guard = none) (ty : TypeId) (x : Operand) (ho : o.op = .load ty x)
    (g : Nat) (hx : a.eval x = .pointer (some ⟨g, 0, none⟩)) (T : TypeId) (vs : List Value) (h : ArrV w g T vs) (n : Nat) (e : TypeId)
    (hu : P.underlying ty = some (.array n e)) (hi : (P.info? ty).map (·.size) = some vs.length)
    (hk : wpList P ops Q rest (a.put o.dst (.agg vs.toArray)) w) : wpList P ops Q (o :: rest) a w :=
  wpList_load_row hgd ty x ho g hx T vs.toArray (0, 0) _ h hu rfl (by simpa using hi) hk
/-- A whole array into its block, the new world under a letter. -/
theorem wpList_store_arrV {P : Program} {ops : Array Oper} {rest : List Oper} {o : Oper} {a : Act} {w : World} {Q : Exit → Act → World → Prop} (hgd : o.guard = none) (ty : TypeId) (x y : Operand) (ho : o.op = .store ty x y)
    (g : Nat) (us : List Value) (hx : a.eval x = .pointer (some ⟨g, 0, none⟩)) (hy : a.eval y = .agg us.toArray) (T : TypeId) (vs : List Value) (h : ArrV w g T vs)
    (hi : (P.info? ty).map (·.size) = some us.length) (hl : vs.length = us.length) (h1 : us.toArray.all (·.oneCell') = true)
    (hk : ∀ w', ArrV w' g T us → w.grownBy w' (some g) → w'.heap.size = w.heap.size → wpList P ops Q rest (a.put o.dst undef) w') : wpList P ops Q (o :: rest) a w :=
  wpList_store_row hgd ty x y ho g us.toArray hx hy T vs.toArray h (by simpa using hi) (by simpa using hl) h1 (hk _ (h.setRow us) ⟨rfl, rfl, rfl, by simp, fun k _ hne => setRow_other w g k _ (fun e => hne (by rw [e]))⟩ (by simp))
theorem run_loadVar_arrV {P : Program} {w : World} {g : Nat} {T : TypeId} {vs : List Value} (h : ArrV w g T vs) (ty : TypeId) (n : Nat) (e : TypeId) (hu : P.underlying ty = some (.array n e)) (hi : (P.info? ty).map (·.size) = some vs.length) :
    (loadVar ty ⟨g, 0, none⟩).run P w = .ok (.agg vs.toArray) w :=
  run_loadVar_row w g T ty vs.toArray (0, 0) _ h hu rfl (by simpa using hi)
/-- The results 'an array in a cell, and a slot'. -/
theorem results_arrV_slot {P : Program} {fn : Func} {p q : Tmp} {ty : TypeId} (h : fn.results = #[.cell p ty, .tmp q]) (tmps : Array Value) {w : World} {g : Nat} {T : TypeId} {vs : List Value} (hp : tmps.getD p undef = .pointer (some ⟨g, 0, none⟩)) (v : Value) (hq : tmps.getD q undef = v)
    (hA : ArrV w g T vs) (n : Nat) (e : TypeId) (hu : P.underlying ty = some (.array n e)) (hi : (P.info? ty).map (·.size) = some vs.length) :
    (results fn tmps).run P w = .ok (.tuple #[.agg vs.toArray, v]) w := by
  have hp' : tmps[p]?.getD undef = .pointer (some ⟨g, 0, none⟩) := by simpa using hp
  have hq' : tmps[q]?.getD undef = v := by simpa using hq
  simp [results, h, hp', hq', asAddr, run_loadVar_arrV hA ty n e hu hi]
/-- 32 slices, each over a row of its own: the versions F. -/
structure KVs (w : World) (B : Nat) (e0 : TypeId) (vs : List Value) (F : Nat → List Ver) : Prop where
  len : vs.length = 32
  own : ∀ k, k < 32 → w.ownsRow B e0 3 (vs.getD k undef) (F k).length (flatV (F k))
  apart : ∀ i j, i < 32 → j < 32 → i ≠ j → ∀ p, (vs.getD i undef).ownBlock = some p → (vs.getD j undef).ownBlock ≠ some p
theorem KVs.lt {w : World} {B : Nat} {e0 : TypeId} {vs : List Value} {F : Nat → List Ver} (h : KVs w B e0 vs F) {k : Nat} (hk : k < 32) {b : Nat} (hb : (vs.getD k undef).ownBlock = some b) : B ≤ b ∧ b < w.heap.size := (h.own k hk).lt b hb
theorem KVs.keep {w w' : World} {B : Nat} {e0 : TypeId} {vs : List Value} {F : Nat → List Ver} (h : KVs w B e0 vs F) (hk : ∀ k, k < 32 → ∀ b, (vs.getD k undef).ownBlock = some b → w'.heap[b]? = w.heap[b]?) : KVs w' B e0 vs F :=
  ⟨h.len, fun k hl => owns_keep (h.own k hl) fun b hb => hk k hl b (by rw [← owns_blk (h.own k hl)]; exact hb), h.apart⟩
theorem KVs.below {w w' : World} {B : Nat} {e0 : TypeId} {vs : List Value} {F : Nat → List Ver} (h : KVs w B e0 vs F) (hb : Below w.heap.size w w') : KVs w' B e0 vs F :=
  h.keep fun k hk b hq => hb.block b (h.lt hk hq).2
theorem KVs.grown {w w' : World} {B : Nat} {e0 : TypeId} {vs : List Value} {F : Nat → List Ver} (h : KVs w B e0 vs F) {row : Option Nat} (hg : w.grownBy w' row) (hne : ∀ k, k < 32 → ∀ b, (vs.getD k undef).ownBlock = some b → row ≠ some b) : KVs w' B e0 vs F :=
  h.keep fun k hk b hq => hg.block b (h.lt hk hq).2 fun e => hne k hk b hq e.symm
theorem KVs.mono {w : World} {B B' : Nat} {e0 : TypeId} {vs : List Value} {F : Nat → List Ver} (h : KVs w B e0 vs F) (hB : B' ≤ B) : KVs w B' e0 vs F :=
  ⟨h.len, fun k hk => owns_mono (h.own k hk) hB, h.apart⟩
theorem KVs.congr {w : World} {B : Nat} {e0 : TypeId} {vs : List Value} {F G : Nat → List Ver} (h : KVs w B e0 vs F) (hF : ∀ k, k < 32 → F k = G k) : KVs w B e0 vs G :=
  ⟨h.len, fun k hk => by rw [← hF k hk]; exact h.own k hk, h.apart⟩
/-- 32 nil slices. -/
def nils : List Value := List.replicate 32 (.slice none 0 0)
theorem nils_get {k : Nat} (hk : k < 32) : nils.getD k undef = .slice none 0 0 := by
  rw [List.getD_eq_getElem?_getD, nils, List.getElem?_replicate, if_pos hk]; rfl
theorem nils_one : nils.toArray.all (·.oneCell') = true := by
  rw [Array.all_eq_true_iff_forall_mem]
  intro u hu
  rw [List.mem_toArray, nils, List.mem_replicate] at hu
  rw [hu.2]; rfl
theorem KVs.nils (w : World) (B : Nat) (e0 : TypeId) : KVs w B e0 nils (fun _ => []) :=
  ⟨rfl, fun k hk => by rw [nils_get hk]; exact World.ownsRow_nil _ _ _ _, fun i j hi hj _ p hp => by rw [nils_get hi] at hp; cases hp⟩
theorem KVs.one {w : World} {B : Nat} {e0 : TypeId} {vs : List Value} {F : Nat → List Ver} (h : KVs w B e0 vs F) : vs.toArray.all (·.oneCell') = true := by
  rw [Array.all_eq_true_iff_forall_mem]
  intro u hu
  rw [List.mem_toArray] at hu
  obtain ⟨i, hi, rfl⟩ := List.getElem_of_mem hu
  have := owns_one (h.own i (by rw [← h.len]; exact hi))
  rwa [List.getD_eq_getElem?_getD, List.getElem?_eq_getElem hi] at this
/-- The numbers of all are an int's. -/
theorem KOk.wf {F : Nat → List Ver} (h : KOk F) {k : Nat} (hk : k < 32) : WfVs (F k) := fun x hx => by
  have := (verB_iff x).1 ((h k hk).1 x hx).1
  exact ⟨WalkArith.wf_i64 (by omega), WalkArith.wf_i64 (by omega), WalkArith.wf_i64 (by omega)⟩
theorem wf_ofVOk {L : List Ver} (h : VOk L) : WfVs L := fun x hx => by
  have := (verB_iff x).1 (h.1 x hx)
  exact ⟨WalkArith.wf_i64 (by omega), WalkArith.wf_i64 (by omega), WalkArith.wf_i64 (by omega)⟩
/-- The slice of a key reads as its versions. -/
theorem KVs.row {w : World} {B : Nat} {e0 : TypeId} {vs : List Value} {F : Nat → List Ver} (h : KVs w B e0 vs F) (hK : KOk F) {k : Nat} (hk : k < 32) :
    ∃ a cap, vs.getD k undef = .slice a (F k).length cap ∧ RowV w a (F k).length (F k) ∧ (a = none → cap = 0) ∧ (F k).length ≤ cap ∧ ∀ b o, a = some ⟨b, o, none⟩ → B ≤ b :=
  rowV_of_owns (h.own k hk) (by have := catK_len hK hk; omega) (hK.wf hk)
/-- The slice of one key is replaced: its row grew, or was written, by itself. -/
theorem KVs.put {w w' : World} {B : Nat} {e0 : TypeId} {vs : List Value} {F : Nat → List Ver} (h : KVs w B e0 vs F) {k : Nat} (hk : k < 32) {v' : Value} {l : List Ver} (ho : w'.ownsRow B e0 3 v' l.length (flatV l))
    (hg : w.grownBy w' (vs.getD k undef).ownBlock) (hloc : v'.ownBlock = (vs.getD k undef).ownBlock ∨ ∀ b, v'.ownBlock = some b → w.heap.size ≤ b) : KVs w' B e0 (vs.set k v') (fun j => if j = k then l else F j) := by
  have hkl : k < vs.length := by rw [h.len]; exact hk
  have e1 : (vs.set k v').getD k undef = v' := by rw [List.getD_eq_getElem?_getD, List.getElem?_set_self hkl]; rfl
  have e2 : ∀ j, j ≠ k → (vs.set k v').getD j undef = vs.getD j undef := fun j hj => by rw [List.getD_eq_getElem?_getD, List.getD_eq_getElem?_getD, List.getElem?_set_ne (Ne.symm hj)]
  have hx : ∀ j, j < 32 → j ≠ k → ∀ p, (vs.getD j undef).ownBlock = some p → v'.ownBlock ≠ some p := fun j hj hne p hp hq => by
    rcases hloc with e | e
    · rw [e] at hq; exact h.apart j k hj hk hne p hp hq
    · have := e p hq
      have := (h.lt hj hp).2; omega
  refine ⟨by rw [List.length_set]; exact h.len, fun j hj => ?_, fun i j hi hj hne p hp hq => ?_⟩
  · by_cases e : j = k
    · subst e; rw [e1, if_pos rfl]; exact ho
    · rw [e2 j e, if_neg e]
      refine owns_keep (h.own j hj) fun b hb => ?_
      rw [owns_blk (h.own j hj)] at hb
      exact hg.block b (h.lt hj hb).2 fun e' => h.apart j k hj hk e b hb e'.symm
  · by_cases e : i = k
    · subst e
      rw [e1] at hp
      rw [e2 j (Ne.symm hne)] at hq
      exact hx j hj (Ne.symm hne) p hq hp
    · rw [e2 i e] at hp
      by_cases e' : j = k
      · subst e'; rw [e1] at hq; exact hx i hi e p hp hq
      · rw [e2 j e'] at hq; exact h.apart i j hi hj hne p hp hq
/-- The block g holds 32 slices, each over a row of its own, from block B on. -/
def KV (w : World) (B g : Nat) (T e0 : TypeId) (F : Nat → List Ver) : Prop :=
  ∃ vs, ArrV w g T vs ∧ KVs w B e0 vs F ∧ ∀ k, k < 32 → (vs.getD k undef).ownBlock ≠ some g
theorem KV.below {w w' : World} {B g : Nat} {T e0 : TypeId} {F : Nat → List Ver} (h : KV w B g T e0 F) (hb : Below w.heap.size w w') : KV w' B g T e0 F := by
  obtain ⟨vs, h1, h2, h3⟩ := h
  exact ⟨vs, h1.after hb, h2.below hb, h3⟩
theorem KV.lt {w : World} {B g : Nat} {T e0 : TypeId} {F : Nat → List Ver} (h : KV w B g T e0 F) : g < w.heap.size := by
  obtain ⟨vs, h1, -⟩ := h
  exact h1.lt
theorem KV.congr {w : World} {B g : Nat} {T e0 : TypeId} {F G : Nat → List Ver} (h : KV w B g T e0 F) (hF : ∀ k, k < 32 → F k = G k) : KV w B g T e0 G := by
  obtain ⟨vs, h1, h2, h3⟩ := h
  exact ⟨vs, h1, h2.congr hF, h3⟩
/-- The slice of one key is put behind its row was written: the cell of the array is stored. -/
theorem KV.store {w w' : World} {B g : Nat} {T e0 : TypeId} {vs : List Value} {F : Nat → List Ver} (h1 : ArrV w g T vs) (h2 : KVs w B e0 vs F) (h3 : ∀ k, k < 32 → (vs.getD k undef).ownBlock ≠ some g) {k : Nat} (hk : k < 32) {v' : Value} {l : List Ver} (ho : w'.ownsRow B e0 3 v' l.length (flatV l))
    (hg : w.grownBy w' (vs.getD k undef).ownBlock) (hloc : v'.ownBlock = (vs.getD k undef).ownBlock ∨ ∀ b, v'.ownBlock = some b → w.heap.size ≤ b) : KV (w'.setCell ⟨g, k, none⟩ v') B g T e0 (fun j => if j = k then l else F j) := by
  have hA : ArrV w' g T vs := h1.grown hg fun e => h3 k hk e.symm
  have hkl : k < vs.length := by rw [h2.len]; exact hk
  have h3' : ∀ j, j < 32 → ((vs.set k v').getD j undef).ownBlock ≠ some g := fun j hj => by
    by_cases e : j = k
    · subst e
      rw [List.getD_eq_getElem?_getD, List.getElem?_set_self hkl]
      intro hq
      replace hq : v'.ownBlock = some g := hq
      rcases hloc with e | e
      · rw [e] at hq; exact h3 j hk hq
      · have := e g hq
        have := h1.lt; omega
    · rw [List.getD_eq_getElem?_getD, List.getElem?_set_ne (Ne.symm e), ← List.getD_eq_getElem?_getD]
      exact h3 j hj
  refine ⟨vs.set k v', hA.set k v', (h2.put hk ho hg hloc).keep fun j hj b hb => ?_, h3'⟩
  exact Below.heap_setCell _ _ _ _ fun e => h3' j hj (by rw [hb]; simp at e; rw [e])
end Go.Proofs.YtncedcliklpapaaGreat
