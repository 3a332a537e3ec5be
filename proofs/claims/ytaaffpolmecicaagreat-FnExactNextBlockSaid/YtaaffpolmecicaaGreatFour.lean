/- Texts of ours that stand together: ImplLay, ImplWrit, ImplList, ImplSeen, ImplLayers, ImplFork -/
import Derived.Test.YtaaffpolmecicaaGreatTwo
import Derived.Test.YtaaffpolmecicaaGreatImplWr
import Derived.Test.YtaaffpolmecicaaGreatLay
import Derived.StillTailTactics
import Derived.Test.YtaaffpolmecicaaGreatLayP
import Derived.Deep.RegionWith
/- The contracts of the program's isLayer, isLayerOrStore, areWrites, LayersValid. -/
namespace Go.Proofs.YtaaffpolmecicaaGreat
open Go.RowKit
set_option linter.unusedVariables false
theorem layAt_eq (L : List Lay) (k : Nat) : layAt L k = (inB (L.getD k (0, [])).1 (-1) ((k : Int) - 1) && writesB (L.getD k (0, [])).2) := rfl
end Go.Proofs.YtaaffpolmecicaaGreat
/- The contracts of the program's writtenLayers, writtenAt, writes, listOf. -/
namespace Go.Proofs.YtaaffpolmecicaaGreat
open Go.RowKit Go.Maps
set_option linter.unusedVariables false
/-- A list of pairs, new or nil, that can be owned. -/
def NewW (w : World) (l : List Ent) (e : Ending) (w' : World) : Prop :=
  ∃ v, e = .returned v ∧ w'.ownsRow w.heap.size 65 2 v l.length (flatE l) ∧ WfE l ∧ Below w.heap.size w w'
theorem wfE_wrOf {f : Int → Option Int} (h : BdF f) (j : Nat) (hj : j ≤ 32) : WfE (wrOf f j) := fun e he => by
  have h1 := wrOf_mem f j e he
  have h2 := h _ _ h1.2.2
  exact ⟨WalkArith.wf_i64 (by omega), WalkArith.wf_i64 (by omega)⟩
set_option maxHeartbeats 1000000 in
theorem writes_impl (y : Int) (m K : Nat) (f : Int → Option Int) (w : World) (h : MapF w m K f) (hbd : BdF f) :
    Calls Tryz.prog 107 #[.agg #[.int .i64 y, .map (some m)]] w (NewW w (wrOf f 32)) := by
  have HBD := Lib.hid hbd; clear hbd
  go_enter Tryz.func107, Tryz.ntmps107
  go_wp2
  have hc0 : (w.alloc (.cells #[.int .i64 y, .map (some m)] 134)).cell? ⟨w.heap.size, 1, none⟩ = some (.map (some m)) := by simp [go_sem]
  have hm0 := h.alloc (.cells #[.int .i64 y, .map (some m)] 134)
  have hb0 := (Below.refl w.heap.size w).alloc (Nat.le_refl _) (.cells #[.int .i64 y, .map (some m)] 134)
  have hz0 : w.heap.size < (w.alloc (.cells #[.int .i64 y, .map (some m)] 134)).heap.size := by simp
  obtain ⟨w0, hw0⟩ : ∃ w0, w0 = w.alloc (.cells #[.int .i64 y, .map (some m)] 134) := ⟨_, rfl⟩
  rw [← hw0] at hc0 hm0 hb0 hz0 ⊢
  clear hw0 h
  go_loopw [3, 7] (fun v i wr => ∃ k : Nat, k ≤ 32 ∧ i = .int .i64 k ∧ wr.ownsRow w0.heap.size 65 2 v (wrOf f k).length (flatE (wrOf f k)) ∧ Below w0.heap.size w0 wr) (fun _ i _ => 32 - (intOf i).toNat)
  case atStart => exact ⟨0, by omega, rfl, own_nil _ _ _ _, Below.refl _ _⟩
  case round =>
    obtain ⟨k, hk, rfl, hown, hb⟩ := hrel
    have hlen := wrOf_len f k
    by_cases hlt : k < 32
    · have hc1 := (hb.cell (p := ⟨w.heap.size, 1, none⟩) hz0).trans hc0
      have hm1 := hm0.below hb
      have HK : (Lit.int .i64 (k : Int)).wf = true := WalkArith.wf_i64 (by omega)
      have HK' := Lib.hid HK; clear HK
      clear hc0 hm0
      cases hf : f (k : Int) with
      | none =>
        have HX := Lib.hid (wrOf_no hf)
        have HF := Lib.hid hf
        clear hf
        go_wp2_with (first | (at_lookup; refine wpList_lookup_no _ rfl _ _ rfl m K f k (by rfl) (by rfl) hm1 HK'.out HF.out ?_))
        go_roundw
        case rel => exact ⟨k + 1, by omega, by go_num, by rw [HX.out]; exact hown, hb⟩
        case measure => simp [intOf]; omega
      | some x =>
        have HX := Lib.hid (wrOf_yes hf)
        have HF := Lib.hid hf
        clear hf
        go_wp2_with (first | (at_lookup; refine wpList_lookup_yes _ rfl _ _ rfl m K f k x (by rfl) (by rfl) hm1 HK'.out HF.out ?_) | (at_builtin; refine wpList_append_one' rfl _ _ 35 rfl w0.heap.size 65 _ (.agg #[.int .i64 0, .int .i64 0]) 2 16 Tryz.underlying35 infoEnt rfl (by decide) _ _ _ [.int .i64 (k : Int), .int .i64 x] (by rfl) hown (by rfl) rfl ?c11 ?c21 (by decide) ?c31 ?_))
        case c11 => intro u hu; simp at hu; rcases hu with rfl | rfl <;> rfl
        case c21 => omega
        case c31 => exact hb.size
        intro v1 w1 ho1' hnn hg1
        have hb1 : Below w0.heap.size w0 w1 := (hb.alloc hb.size _).grown hg1 (by have := hb.size; simp; omega) (fun k hk => (hown.lt k hk).1)
        clear hg1
        go_wp2
        go_roundw
        case rel => exact ⟨k + 1, by omega, by go_num, by rw [HX.out, flatE_append, List.length_append]; exact ho1', hb1⟩
        case measure => simp [intOf]; omega
    · obtain rfl : k = 32 := by omega
      go_wp2
      go_ret
      exact ⟨_, rfl, owns_mono hown hb0.size, wfE_wrOf HBD.out 32 (Nat.le_refl _), hb0.trans (hb.mono hb0.size)⟩
/-- v owns the layers L, each with its writes by key. -/
def OwnW (K : Nat) (w : World) (B T : Nat) (v : Value) (L : List Lay) : Prop := ∃ xs, Own2 w B T 134 2 v L.length ((L.map some).flatMap (wlC K)) xs
theorem OwnW.below {K : Nat} {w w' : World} {B T : Nat} {v : Value} {L : List Lay} (h : OwnW K w B T v L) (hb : Below w.heap.size w w') : OwnW K w' B T v L := by
  obtain ⟨xs, h1⟩ := h; exact ⟨xs, h1.below hb⟩
theorem wlC_get (K : Nat) (L : List Lay) (i : Nat) (h : i < L.length) : ((L.map some).flatMap (wlC K))[i * 2]? = some (.int (L.getD i (0, [])).1) ∧ ((L.map some).flatMap (wlC K))[i * 2 + 1]? = some (.mapF K (findM (L.getD i (0, [])).2)) := by
  have hs : (L.map some)[i]? = some (some (L.getD i (0, []))) := by rw [List.getElem?_map, getD_some L i (0, []) h]; rfl
  have h0 := flatMap_get (wlC K) 2 (wlC_len K) _ i 0 _ hs (by omega)
  have h1 := flatMap_get (wlC K) 2 (wlC_len K) _ i 1 _ hs (by omega)
  rw [Nat.add_zero] at h0
  exact ⟨h0, h1⟩
/-- A layer, out of what is owned. -/
theorem OwnW.at {K : Nat} {w : World} {B T g n cap : Nat} {L : List Lay} (h : OwnW K w B T (.slice (some ⟨g, 0, none⟩) n cap) L) (i : Nat) (hi : i < L.length) :
    ∃ m, w.cell? ⟨g, i * 2, none⟩ = some (.int .i64 (L.getD i (0, [])).1) ∧ w.cell? ⟨g, i * 2 + 1, none⟩ = some (.map (some m)) ∧ MapF w m K (findM (L.getD i (0, [])).2) ∧ n = L.length := by
  obtain ⟨xs, h1⟩ := h
  have hn : n = L.length := by
    rcases slice_of_owns h1.1 with ⟨h2, _⟩ | ⟨g', cap', h2, _⟩
    · cases h2
    · simp at h2; exact h2.2.1
  subst hn
  obtain ⟨c0, c1⟩ := wlC_get K L i hi
  obtain ⟨x, hx, hcx, hox, -⟩ := h1.at c0
  obtain ⟨y, hy, hcy, hoy, -⟩ := h1.at c1
  obtain ⟨m, rfl, hm⟩ := hoy
  exact ⟨m, by rw [hcx, hox.1], hcy, hm, rfl⟩
/-- What is seen in the layer n is seen in the layer k. -/
def SeenTo (L : List Lay) (n key k : Int) : Prop := seen L n key = seen L k key
/-- A number and a bool, and nothing has turned. -/
def IntOk (x : Option Int) (w : World) (e : Ending) (w' : World) : Prop := e = .returned (.tuple #[.int .i64 (x.getD 0), .bool x.isSome]) ∧ w = w'
/-- The first k layers with their writes by key; the others not yet. -/
def FillW (w : World) (B g n : Nat) (L : List Lay) (k : Nat) : Prop := ∃ xs, Own2 w B w.heap.size 134 2 (.slice (some ⟨g, 0, none⟩) n n) n ((fillO L k).flatMap (wlC 100)) xs
theorem FillW.store {w : World} {B g n : Nat} {L : List Lay} {k T : Nat} {xs : List Value} (h : Own2 w B T 134 2 (.slice (some ⟨g, 0, none⟩) n n) n ((fillO L k).flatMap (wlC 100)) xs) (hk : k < L.length) (m : Nat) (hm : MapF w m 100 (findM (L.getD k (0, [])).2)) (hT : T ≤ m) (hB : B ≤ T)
    (hw : (Lit.int .i64 (L.getD k (0, [])).1).wf = true) (hTw : T ≤ w.heap.size) : FillW ((w.setCell ⟨g, k * 2, none⟩ (.int .i64 (L.getD k (0, [])).1)).setCell ⟨g, k * 2 + 1, none⟩ (.map (some m))) B g n L (k + 1) := by
  have h1 := h.store2 (T' := w.heap.size) k (.int (L.getD k (0, [])).1) (.mapF 100 (findM (L.getD k (0, [])).2)) (.int .i64 (L.getD k (0, [])).1) (.map (some m)) (fun _ => ⟨rfl, hw⟩) rfl ⟨m, rfl, hm⟩ (fun b hb => by simp [blk] at hb; have := hm.lt; omega) hTw hB
  rw [← flatMap_set2 (wlC 100) (wlC_len 100) (fillO L k) k (some (L.getD k (0, []))) _ _ (by rw [fillO_len L k (by omega)]; exact hk) rfl, fillO_set L k (0, []) hk] at h1
  exact ⟨_, h1.mono (Nat.le_refl _) (by simp [World.setCell])⟩
theorem infoWL : (Tryz.prog.info? 134).map (fun i => (i.zero, i.size, i.bytes)) = some (some (.agg #[.int .i64 0, .map none]), 2, 16) := by kernel_rfl
/-- The layers with their writes by key, and true. -/
def WrYes (L : List Lay) (w : World) (e : Ending) (w' : World) : Prop :=
  ∃ g cap, e = .returned (.tuple #[.slice (some ⟨g, 0, none⟩) L.length cap, .bool true]) ∧ OwnW 100 w' w.heap.size w'.heap.size (.slice (some ⟨g, 0, none⟩) L.length cap) L ∧ Below w.heap.size w w'
/-- No layers, and false. -/
def WrNo (w : World) (e : Ending) (w' : World) : Prop := e = .returned (.tuple #[.slice none 0 0, .bool false]) ∧ Below w.heap.size w w'
end Go.Proofs.YtaaffpolmecicaaGreat
/- The contract of the program's listOf. -/
namespace Go.Proofs.YtaaffpolmecicaaGreat
open Go.RowKit Go.Maps
set_option linter.unusedVariables false
end Go.Proofs.YtaaffpolmecicaaGreat
/- The contract of the program's seenIn. -/
namespace Go.Proofs.YtaaffpolmecicaaGreat
open Go.RowKit Go.Maps
set_option linter.unusedVariables false
def seenOk (S : List Ent) (L : List Lay) (n : Int) : Bool := storeB S && layersB L && inB n (-1) ((L.length : Int) - 1)
/-- The values that are seen, zeros where there are none. -/
def seenVals (S : List Ent) (L : List Lay) (n : Int) : List Int := if seenOk S L n then readArr S L n else zeros
theorem seenVals_len (S : List Ent) (L : List Lay) (n : Int) : (seenVals S L n).length = 32 := by unfold seenVals; split; exact readArr_len _ _ _; rfl
/-- The first k of R, the others of A. -/
def mixA (A R : List Int) (k : Nat) : List Int := R.take k ++ A.drop k
theorem mixA_zero (A R : List Int) : mixA A R 0 = A := by simp [mixA]
theorem mixA_all (A R : List Int) (k : Nat) (h : A.length ≤ k) (h' : R.length ≤ k) : mixA A R k = R := by simp [mixA, List.take_of_length_le h', List.drop_eq_nil_of_le h]
theorem mixA_len (A R : List Int) (k : Nat) (h : A.length = R.length) (hk : k ≤ A.length) : (mixA A R k).length = A.length := by simp [mixA]; omega
theorem mixA_set (A R : List Int) (k : Nat) (v : Int) (hA : k < A.length) (hR : k < R.length) (hv : R.getD k 0 = v) : (mixA A R k).set k v = mixA A R (k + 1) := by
  unfold mixA
  have e : (R.take k).length = k := by rw [List.length_take]; omega
  rw [List.set_append_right _ _ (by rw [e]; exact Nat.le_refl _), e, Nat.sub_self, List.drop_eq_getElem_cons hA, List.set_cons_zero, List.take_succ_eq_append_getElem hR, List.append_assoc]
  rw [List.getD_eq_getElem?_getD, List.getElem?_eq_getElem hR] at hv
  simp at hv
  rw [hv]; rfl
theorem mixA_skip (A R : List Int) (k : Nat) (hA : k < A.length) (hR : k < R.length) (hv : R.getD k 0 = A.getD k 0) : mixA A R k = mixA A R (k + 1) := by
  have h := mixA_set A R k (A.getD k 0) hA hR hv
  rw [← h]
  apply List.ext_getElem?
  intro i
  rw [List.getElem?_set]
  split
  · rename_i hk; subst hk
    unfold mixA
    have e : (R.take k).length = k := by rw [List.length_take]; omega
    rw [if_pos (by rw [List.length_append, e, List.length_drop]; omega), List.getElem?_append_right (by rw [e]; exact Nat.le_refl _), e, Nat.sub_self, List.getElem?_drop, Nat.add_zero, getD_some A k 0 hA]
  · rfl
theorem readArr_some {S : List Ent} {L : List Lay} {n : Int} {k : Nat} {v : Int} (hk : k < 32) (h : seen L n k = some v) : (readArr S L n).getD k 0 = v := by
  rw [readArr_get _ _ _ _ hk, readM, h]; rfl
theorem readArr_none {S : List Ent} {L : List Lay} {n : Int} {k : Nat} (hk : k < 32) (h : seen L n k = none) : (readArr S L n).getD k 0 = (arrOf S).getD k 0 := by
  rw [readArr_get _ _ _ _ hk, readM, h, arrOf_get _ _ hk]; rfl
/-- Some slice, and whether the layers are valid. -/
def WrAny (L : List Lay) (w : World) (e : Ending) (w' : World) : Prop := ∃ v, e = .returned (.tuple #[v, .bool (layersB L)]) ∧ Below w.heap.size w w'
end Go.Proofs.YtaaffpolmecicaaGreat
/- The contracts of the program's LayerRead, LayerStore, ForkLayer, LayerWrite. -/
namespace Go.Proofs.YtaaffpolmecicaaGreat
open Go.RowKit Go.Maps
set_option linter.unusedVariables false
theorem layerReadM_ok (S : List Ent) (L : List Lay) (n key : Int) : layerReadM S L n key = if seenOk S L n && inB key 0 31 then readM S L n key else -1 := rfl
theorem layerStoreM_ok (S : List Ent) (L : List Lay) (n : Int) : layerStoreM S L n = if seenOk S L n then entTo (readArr S L n) 32 else [] := rfl
/-- A list of pairs, new or nil, that can be owned. -/
theorem wfE_ok {l : List Ent} (h : Ok l) : WfE l := fun e he => by have := h.2 e he; exact ⟨WalkArith.wf_i64 (by omega), WalkArith.wf_i64 (by omega)⟩
theorem layerStore_wf (S : List Ent) (L : List Lay) (k : Int) : WfE (layerStoreM S L k) := by
  rw [layerStoreM_ok]
  cases hs : seenOk S L k with
  | false => intro e he; cases he
  | true =>
    simp only [seenOk, Bool.and_eq_true] at hs
    obtain ⟨⟨h1, h2⟩, h3⟩ := hs
    have := inB_true h3
    exact wfE_ok (ok_entTo (bdA_read h1 h2 (by omega)))
end Go.Proofs.YtaaffpolmecicaaGreat
/- The contracts of the program's ForkLayer and LayerWrite. -/
namespace Go.Proofs.YtaaffpolmecicaaGreat
open Go.RowKit Go.Maps
set_option linter.unusedVariables false
theorem ownL_nil (w : World) (B T : Nat) (eL eE : TypeId) : OwnL w B T eL eE (.slice none 0 0) [] := ⟨by simp, [], own2_nil _ _ _ _ _⟩
theorem layC_new (w : World) (n : Int) (hn : (Lit.int .i64 n).wf = true) (T : Nat) : ∀ (i : Nat) (c : Cel) (y : Value), (layC 65 (n, []))[i]? = some c → [Value.int .i64 n, .slice none 0 0][i]? = some y → c.own w y ∧ ∀ b, blk y = some b → T ≤ b := by
  intro i c y hc hy
  match i, hc, hy with
  | 0, hc, hy => simp [layC] at hc hy; subst hc; subst hy; exact ⟨⟨rfl, hn⟩, fun b hb => by cases hb⟩
  | 1, hc, hy => simp [layC] at hc hy; subst hc; subst hy; exact ⟨ents_nil _ _, fun b hb => by cases hb⟩
  | i + 2, hc, hy => simp [layC] at hc
theorem layC_snoc (e : TypeId) (L : List Lay) (x : Lay) : (L ++ [x]).flatMap (layC e) = L.flatMap (layC e) ++ layC e x := by simp [List.flatMap_append]
theorem wlC_cases (K : Nat) (L : List Lay) (i : Nat) (c : Cel) (h : ((L.map some).flatMap (wlC K))[i]? = some c) : ∃ j, j < L.length ∧ ((i = j * 2 ∧ c = .int (L.getD j (0, [])).1) ∨ (i = j * 2 + 1 ∧ c = .mapF K (findM (L.getD j (0, [])).2))) := by
  have hi := (List.getElem?_eq_some_iff.1 h).1
  rw [flatMap_len (wlC K) 2 (wlC_len K), List.length_map] at hi
  have hj : i / 2 < L.length := by omega
  obtain ⟨h0, h1⟩ := wlC_get K L (i / 2) hj
  rcases (by omega : i = i / 2 * 2 ∨ i = i / 2 * 2 + 1) with e | e
  · rw [← e, h] at h0; exact ⟨_, hj, .inl ⟨e, Option.some.inj h0⟩⟩
  · rw [← e, h] at h1; exact ⟨_, hj, .inr ⟨e, Option.some.inj h1⟩⟩
theorem OwnW.more {K K' : Nat} {w : World} {B T : Nat} {v : Value} {L : List Lay} (h : OwnW K w B T v L) (hK : K ≤ K') : OwnW K' w B T v L := by
  obtain ⟨xs, h1⟩ := h
  refine ⟨xs, h1.imp (by rw [flatMap_len _ 2 (wlC_len K), flatMap_len _ 2 (wlC_len K')]) fun i c c' x hc hc' ho => ?_⟩
  obtain ⟨j, hj, ⟨e, rfl⟩ | ⟨e, rfl⟩⟩ := wlC_cases K L i c hc
  · obtain ⟨j', hj', ⟨e', rfl⟩ | ⟨e', rfl⟩⟩ := wlC_cases K' L i c' hc'
    · obtain rfl : j = j' := by omega
      exact ho
    · omega
  · obtain ⟨j', hj', ⟨e', rfl⟩ | ⟨e', rfl⟩⟩ := wlC_cases K' L i c' hc'
    · omega
    · obtain rfl : j = j' := by omega
      obtain ⟨b, rfl, hm⟩ := ho
      exact ⟨b, rfl, hm.mono hK⟩
/-- The map of a layer, and what it is when one key is written there. -/
theorem OwnW.write {w : World} {B T g cap : Nat} {L : List Lay} (h : OwnW 100 w B T (.slice (some ⟨g, 0, none⟩) L.length cap) L) (j : Nat) (hj : j < L.length) (hA : Asc (L.getD j (0, [])).2) :
    ∃ m, w.cell? ⟨g, j * 2 + 1, none⟩ = some (.map (some m)) ∧ MapF w m 100 (findM (L.getD j (0, [])).2) ∧ B ≤ m ∧
      ∀ key val w', MapF w' m 101 (updF (findM (L.getD j (0, [])).2) key val) → w.grownBy w' (some m) → OwnW 101 w' B T (.slice (some ⟨g, 0, none⟩) L.length cap) (writeL L j key val) := by
  obtain ⟨xs, h1⟩ := h.more (show 100 ≤ 101 by omega)
  obtain ⟨xs0, h0⟩ := h
  obtain ⟨m, hc1, hc2, hm, -⟩ := (show OwnW 100 w B T (.slice (some ⟨g, 0, none⟩) L.length cap) L from ⟨xs0, h0⟩).at j hj
  obtain ⟨x, hx, hcx, hox, hbx⟩ := h1.at (wlC_get 101 L j hj).2
  rw [hc2] at hcx
  obtain rfl : x = .map (some m) := (Option.some.inj hcx).symm
  refine ⟨m, hc2, hm, (hbx m rfl).1, fun key val w' hm' hg => ?_⟩
  have h2 := h1.inner (j * 2 + 1) (.mapF 101 (findM (pm key val (L.getD j (0, [])).2))) hx hg (fun p hp => by cases hp; rfl) ⟨m, rfl, by rw [findM_pm' hA]; exact hm'⟩
  rw [← flatMap_set (wlC 101) 2 (wlC_len 101) (L.map some) j 1 (some (L.getD j (0, []))) (some ((L.getD j (0, [])).1, pm key val (L.getD j (0, [])).2)) _ (by rw [List.getElem?_map, getD_some L j (0, []) hj]; rfl) (by omega) rfl, ← List.map_set] at h2
  have e : writeL L (j : Int) key val = L.set j ((L.getD j (0, [])).1, pm key val (L.getD j (0, [])).2) := by simp [writeL]
  rw [OwnW, e, List.length_set]
  exact ⟨xs, h2⟩
end Go.Proofs.YtaaffpolmecicaaGreat
