/- Texts of ours that stand together: SpecLay, SpecLay2, SpecLay3, SpecLay4, SpecLay5 -/
import Derived.Test.YthigpbmeiblhdaaSpecS
import Derived.Test.YthigpbmeiblhdaaLay
import Derived.Deep.RegionLaw
/- The contracts of the model's l4Writes, LayersValid, l4Find, l4Read, LayerRead, LayerStore. -/
namespace Go.Proofs.Ythigpbmeiblhdaa
open Go.RowKit
set_option linter.unusedVariables false
theorem layAt_spec (L : List Lay) (k : Nat) : layAt L k = (inB (L.getD k (0, [])).1 (-1) ((k : Int) - 1) && writesB (L.getD k (0, [])).2) := rfl
/-- A number and a bool, and nothing has turned. -/
def FindQ (x : Option Int) (w : World) (e : Ending) (w' : World) : Prop := e = .returned (.tuple #[.int .i64 (x.getD 0), .bool x.isSome]) ∧ w = w'
/-- What is seen in the layer n is seen in the layer k. -/
def SeenSp (L : List Lay) (n key k : Int) : Prop := seen L n key = seen L k key
end Go.Proofs.Ythigpbmeiblhdaa
/- The contracts of the model's LayerRead, LayerStore, l4Put, l4Copy, ForkLayer, LayerWrite. -/
namespace Go.Proofs.Ythigpbmeiblhdaa
open Go.RowKit
set_option linter.unusedVariables false
theorem layerReadM_eq (S : List Ent) (L : List Lay) (n key : Int) : layerReadM S L n key = if storeB S && layersB L && inB n (-1) ((L.length : Int) - 1) && inB key 0 31 then readM S L n key else -1 := rfl
end Go.Proofs.Ythigpbmeiblhdaa
/- The contracts of the model's LayerStore, l4Copy, ForkLayer, LayerWrite. -/
namespace Go.Proofs.Ythigpbmeiblhdaa
open Go.RowKit
set_option linter.unusedVariables false
theorem takeL_snoc (L : List Lay) (k : Nat) (h : k < L.length) : L.take (k + 1) = L.take k ++ [L.getD k (0, [])] := by
  rw [List.take_succ_eq_append_getElem h, List.getD_eq_getElem?_getD, List.getElem?_eq_getElem h]; rfl
theorem layC_app (e : TypeId) (L : List Lay) (x : Lay) : (L ++ [x]).flatMap (layC e) = L.flatMap (layC e) ++ layC e x := by simp [List.flatMap_append]
theorem layC_els (w : World) (y : Int) (v : Value) (l : List Ent) (T : Nat) (hy : (Lit.int .i64 y).wf = true) (hv : w.ownsRow T 45 2 v l.length (flatE l)) (hw : WfE l) (hl : l.length ≤ 4000000) :
    ∀ (i : Nat) (c : Cel) (z : Value), (layC 45 (y, l))[i]? = some c → [Value.int .i64 y, v][i]? = some z → c.own w z ∧ ∀ b, blk z = some b → T ≤ b := by
  intro i c z hc hz
  match i, hc, hz with
  | 0, hc, hz => simp [layC] at hc hz; subst hc; subst hz; exact ⟨⟨rfl, hy⟩, fun b hb => (by cases hb)⟩
  | 1, hc, hz => simp [layC] at hc hz; subst hc; subst hz; exact ⟨ents_own hv hw hl, fun b hb => (by rw [owns_blk hv] at hb; exact (hv.lt b hb).1)⟩
  | i + 2, hc, hz => simp [layC] at hc
theorem apart_two (n : Int) (v : Value) : Apart [Value.int .i64 n, v] := by
  refine apart_cons.2 ⟨fun x hx p hp => (by cases hp), apart_cons.2 ⟨fun x hx => (by cases hx), List.Pairwise.nil⟩⟩
end Go.Proofs.Ythigpbmeiblhdaa
/- The contracts of the model's ForkLayer, LayerWrite, LayerStore. -/
namespace Go.Proofs.Ythigpbmeiblhdaa
open Go.RowKit
set_option linter.unusedVariables false
theorem forkM_eq (L : List Lay) (n : Int) : forkM L n = if layersB L then (if inB n (-1) ((L.length : Int) - 1) && decide (L.length ≠ 20) then (L ++ [(n, [])], true) else (L, false)) else ([], false) := rfl
theorem layC_newS (w : World) (n : Int) (hn : (Lit.int .i64 n).wf = true) (T : Nat) : ∀ (i : Nat) (c : Cel) (y : Value), (layC 45 (n, []))[i]? = some c → [Value.int .i64 n, .slice none 0 0][i]? = some y → c.own w y ∧ ∀ b, blk y = some b → T ≤ b :=
  layC_els w n (.slice none 0 0) [] T hn (World.ownsRow_nil _ _ _ _) (fun e he => by cases he) (by simp)
theorem layerWriteM_eq (L : List Lay) (n key val : Int) : layerWriteM L n key val = if layersB L then (if inB n 0 ((L.length : Int) - 1) && inB key 0 31 && inB val 0 1000000 then (writeL L n key val, true) else (L, false)) else ([], false) := rfl
end Go.Proofs.Ythigpbmeiblhdaa
/- The contract of the model's LayerStore. -/
namespace Go.Proofs.Ythigpbmeiblhdaa
open Go.RowKit
set_option linter.unusedVariables false
theorem layerStoreM_eq (S : List Ent) (L : List Lay) (n : Int) : layerStoreM S L n = if storeB S && layersB L && inB n (-1) ((L.length : Int) - 1) then entTo (readArr S L n) 32 else [] := rfl
end Go.Proofs.Ythigpbmeiblhdaa
