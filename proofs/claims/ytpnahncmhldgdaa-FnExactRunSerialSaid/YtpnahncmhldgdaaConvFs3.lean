/- The contract of markEffectS, block by block: only the blocks of the effects turn. -/
import Derived.Test.YtpnahncmhldgdaaConvFs2
namespace Go.Proofs.Ytpnahncmhldgdaa
open Go.RowKit
set_option linter.unusedVariables false
/-- Of the blocks that were there, only those of Q have turned. -/
structure TurnQ (Q : Nat → Prop) (w w' : World) : Prop where
  os : w'.os = w.os
  tape : w'.tape = w.tape
  output : w'.output = w.output
  size : w.heap.size ≤ w'.heap.size
  block : ∀ k, k < w.heap.size → ¬ Q k → w'.heap[k]? = w.heap[k]?
theorem TurnQ.refl (Q : Nat → Prop) (w : World) : TurnQ Q w w := ⟨rfl, rfl, rfl, Nat.le_refl _, fun _ _ _ => rfl⟩
theorem TurnQ.trans {Q : Nat → Prop} {a b c : World} (h : TurnQ Q a b) (k : TurnQ Q b c) : TurnQ Q a c :=
  ⟨k.os.trans h.os, k.tape.trans h.tape, k.output.trans h.output, Nat.le_trans h.size k.size, fun i hi hr => (k.block i (Nat.lt_of_lt_of_le hi h.size) hr).trans (h.block i hi hr)⟩
theorem TurnQ.ofGrown {Q : Nat → Prop} {w w' : World} {row : Option Nat} (hg : w.grownBy w' row) (h : ∀ k, row = some k → Q k) : TurnQ Q w w' :=
  ⟨hg.os, hg.tape, hg.output, hg.size, fun k hk hr => hg.block k hk (fun e => hr (h k e.symm))⟩
theorem TurnQ.setCell {Q : Nat → Prop} {a w : World} (h : TurnQ Q a w) {g : Nat} (hg : Q g) (o : Nat) (v : Value) : TurnQ Q a (w.setCell ⟨g, o, none⟩ v) :=
  h.trans (TurnQ.ofGrown (set_grown w g o v) (fun k hk => by cases hk; exact hg))
/-- v owns the effects L, and all of its blocks are of Q. -/
def OwnFQ (w : World) (B T : Nat) (Q : Nat → Prop) (eX eE : TypeId) (v : Value) (L : List Eff) : Prop :=
  L.length ≤ 4000000 ∧ ∃ xs, Own2 w B T eX 3 v L.length (L.flatMap (effC eE)) xs ∧ ∀ x ∈ v :: xs, ∀ p, blk x = some p → Q p
theorem OwnFQ.fs {w : World} {B T : Nat} {Q : Nat → Prop} {eX eE : TypeId} {v : Value} {L : List Eff} (h : OwnFQ w B T Q eX eE v L) : OwnFs w B T eX eE v L := by
  obtain ⟨h0, xs, h1, -⟩ := h; exact ⟨h0, xs, h1⟩
theorem OwnFQ.top {w : World} {B T g n cap : Nat} {Q : Nat → Prop} {eX eE : TypeId} {L : List Eff} (h : OwnFQ w B T Q eX eE (.slice (some ⟨g, 0, none⟩) n cap) L) : Q g := by
  obtain ⟨-, xs, -, h2⟩ := h; exact h2 _ List.mem_cons_self g rfl
/-- Blocks outside of Q may turn. -/
theorem OwnFQ.keep {w w' : World} {B T : Nat} {Q : Nat → Prop} {eX eE : TypeId} {v : Value} {L : List Eff} (h : OwnFQ w B T Q eX eE v L) (hk : ∀ p, p < w.heap.size → Q p → w'.heap[p]? = w.heap[p]?) : OwnFQ w' B T Q eX eE v L := by
  obtain ⟨h0, xs, h1, h2⟩ := h
  have hlt := h1.blk_lt
  obtain ⟨g1, g2, g3, g4, g5⟩ := h1
  refine ⟨h0, xs, ⟨owns_keep g1 (fun b hb => hk b (hlt v List.mem_cons_self b hb).2.2 (h2 v List.mem_cons_self b hb)), g2, g3, fun i c x hc hx => ?_, g5⟩, h2⟩
  have hm := List.mem_cons_of_mem v (List.mem_of_getElem? hx)
  exact ⟨c.keep (g4 i c x hc hx).1 (fun b hb => hk b (hlt x hm b hb).2.2 (h2 x hm b hb)), (g4 i c x hc hx).2⟩
theorem OwnFQ.setBool {w : World} {B T g n cap : Nat} {Q : Nat → Prop} {L : List Eff} {eX eE : TypeId} (h : OwnFQ w B T Q eX eE (.slice (some ⟨g, 0, none⟩) n cap) L) (j : Nat) (hj : j < L.length) (d : Bool) :
    OwnFQ (w.setCell ⟨g, j * 3, none⟩ (.bool d)) B T Q eX eE (.slice (some ⟨g, 0, none⟩) n cap) (L.set j ⟨d, (L.getD j noEff).rds, (L.getD j noEff).wrs⟩) := by
  have hn : n = L.length := (h.fs.cell j hj).1
  subst hn
  obtain ⟨h0, xs, h1, hq⟩ := h
  have h2 := h1.set (T' := T) (j * 3) (.bool d) (.bool d) rfl (fun b hb => by cases hb) (by simp [blk]) (fun i x _ _ p _ hp => by cases hp) (Nat.le_refl _)
  have h3 := flatMap_set (effC eE) 3 (effC_len _) L j 0 (L.getD j noEff) ⟨d, (L.getD j noEff).rds, (L.getD j noEff).wrs⟩ (.bool d) (getD_some L j noEff hj) (by omega) rfl
  rw [Nat.add_zero] at h3
  rw [← h3] at h2
  refine ⟨by rw [List.length_set]; exact h0, xs.set (j * 3) (.bool d), by rw [List.length_set]; exact h2, fun x hx p hp => ?_⟩
  rcases List.mem_cons.1 hx with rfl | hx
  · exact hq _ List.mem_cons_self p hp
  · rcases mem_set_cases hx with rfl | ⟨i, -, hi⟩
    · cases hp
    · exact hq x (List.mem_cons_of_mem _ (List.mem_of_getElem? hi)) p hp
theorem OwnFQ.rdsAt {w : World} {B T g n cap : Nat} {Q : Nat → Prop} {L : List Eff} {eX eE : TypeId} (h : OwnFQ w B T Q eX eE (.slice (some ⟨g, 0, none⟩) n cap) L) (j : Nat) (hj : j < L.length) :
    ∃ x, w.cell? ⟨g, j * 3 + 1, none⟩ = some x ∧ w.ownsRow 0 eE 2 x (L.getD j noEff).rds.length (flatE (L.getD j noEff).rds) ∧ (∀ b, x.ownBlock = some b → Q b) ∧ x.ownBlock ≠ some g ∧
      ∀ w' l, w'.ownsRow 0 eE 2 x l.length (flatE l) → WfE l → l.length ≤ 4000000 → w.grownBy w' x.ownBlock → OwnFQ w' B T Q eX eE (.slice (some ⟨g, 0, none⟩) n cap) (L.set j ⟨(L.getD j noEff).done, l, (L.getD j noEff).wrs⟩) := by
  have hn : n = L.length := (h.fs.cell j hj).1
  subst hn
  obtain ⟨h0, xs, h1, hq⟩ := h
  obtain ⟨x, hx, hcx, hox, hbx⟩ := h1.at (effC_get eE L j hj).2.1
  have hbe := owns_blk hox.1
  refine ⟨x, hcx, hox.1, fun b hb => hq x (List.mem_cons_of_mem _ (List.mem_of_getElem? hx)) b (by rw [hbe]; exact hb), fun e => ?_, fun w' l hl hw hll hg => ?_⟩
  · exact (apart_cons.1 h1.2.2.2.2).1 x (List.mem_of_getElem? hx) g rfl (by rw [hbe]; exact e)
  · have h2 := h1.inner (j * 3 + 1) (.ents eE l) hx hg (fun p hp => by rw [hbe]; exact hp) ⟨hl, hw, hll⟩
    rw [← flatMap_set (effC eE) 3 (effC_len _) L j 1 (L.getD j noEff) ⟨(L.getD j noEff).done, l, (L.getD j noEff).wrs⟩ _ (getD_some L j noEff hj) (by omega) rfl] at h2
    exact ⟨by rw [List.length_set]; exact h0, xs, by rw [List.length_set]; exact h2, hq⟩
theorem OwnFQ.wrsAt {w : World} {B T g n cap : Nat} {Q : Nat → Prop} {L : List Eff} {eX eE : TypeId} (h : OwnFQ w B T Q eX eE (.slice (some ⟨g, 0, none⟩) n cap) L) (j : Nat) (hj : j < L.length) :
    ∃ x, w.cell? ⟨g, j * 3 + 2, none⟩ = some x ∧ w.ownsRow 0 eE 2 x (L.getD j noEff).wrs.length (flatE (L.getD j noEff).wrs) ∧ (∀ b, x.ownBlock = some b → Q b) ∧ x.ownBlock ≠ some g ∧
      ∀ w' l, w'.ownsRow 0 eE 2 x l.length (flatE l) → WfE l → l.length ≤ 4000000 → w.grownBy w' x.ownBlock → OwnFQ w' B T Q eX eE (.slice (some ⟨g, 0, none⟩) n cap) (L.set j ⟨(L.getD j noEff).done, (L.getD j noEff).rds, l⟩) := by
  have hn : n = L.length := (h.fs.cell j hj).1
  subst hn
  obtain ⟨h0, xs, h1, hq⟩ := h
  obtain ⟨x, hx, hcx, hox, hbx⟩ := h1.at (effC_get eE L j hj).2.2
  have hbe := owns_blk hox.1
  refine ⟨x, hcx, hox.1, fun b hb => hq x (List.mem_cons_of_mem _ (List.mem_of_getElem? hx)) b (by rw [hbe]; exact hb), fun e => ?_, fun w' l hl hw hll hg => ?_⟩
  · exact (apart_cons.1 h1.2.2.2.2).1 x (List.mem_of_getElem? hx) g rfl (by rw [hbe]; exact e)
  · have h2 := h1.inner (j * 3 + 2) (.ents eE l) hx hg (fun p hp => by rw [hbe]; exact hp) ⟨hl, hw, hll⟩
    rw [← flatMap_set (effC eE) 3 (effC_len _) L j 2 (L.getD j noEff) ⟨(L.getD j noEff).done, (L.getD j noEff).rds, l⟩ _ (getD_some L j noEff hj) (by omega) rfl] at h2
    exact ⟨by rw [List.length_set]; exact h0, xs, by rw [List.length_set]; exact h2, hq⟩
/-- A store and effects: the effects' blocks are none of the store's. -/
theorem OwnSF.apartQ {w : World} {B T : Nat} {eX eE : TypeId} {v u : Value} {S : List Ent} {L : List Eff} (h : OwnSF w B T eX eE v u S L) : OwnFQ w B T (fun p => v.ownBlock ≠ some p ∧ B ≤ p ∧ p < T) eX eE u L := by
  obtain ⟨h1, h2, h3, h4, xs, h5, h6⟩ := h
  exact ⟨h4, xs, h5, fun x hx p hp => ⟨fun e => h6 x hx p e hp, (h5.blk_lt x hx p hp).1, (h5.blk_lt x hx p hp).2.1⟩⟩
/-- All effects are marked, and only blocks of Q have turned. -/
def MarkedQ (w : World) (B T : Nat) (Q : Nat → Prop) (v : Value) (k : Int) (L : List Eff) (e : Ending) (w' : World) : Prop :=
  e = .returned (.int .i64 (k + offX L L.length)) ∧ OwnFQ w' B T Q 39 70 v (marksX k L) ∧ TurnQ Q w w'
set_option maxHeartbeats 2000000 in
theorem markEffectS_only (B T : Nat) (Q : Nat → Prop) (v : Value) (L : List Eff) (k : Int) (w : World) (h : OwnFQ w B T Q 39 70 v L) (hw : wtX L ≤ 4000000) (hk0 : 0 ≤ k) (hk1 : k ≤ 10000000) :
    Calls Try.prog 42 #[v, .int .i64 k] w (MarkedQ w B T Q v k L) := by
  have hoff : ∀ j, j ≤ L.length → offX L j ≤ 8000000 := fun j hj => by
    unfold wtX at hw; have := sumX_take L j; unfold offX; omega
  have HOFF := Lib.hid hoff; clear hoff
  have HSW : Hid (∀ j, j < L.length → (L.getD j noEff).rds.length + (L.getD j noEff).wrs.length ≤ 4000000) := Lib.hid (fun j hj => by have := sumX_len L j hj; unfold wtX at hw; omega)
  have hlen : L.length ≤ 4000000 := by unfold wtX at hw; omega
  clear hw
  rcases h.fs.form with ⟨rfl, rfl⟩ | ⟨g, cap, rfl, hBg, hgT, -⟩
  · have HO := Lib.hid h
    clear h
    go_enter Try.func42, Try.ntmps42
    go_wp2
    go_loop [1, 5] (fun q i => q = .int .i64 k ∧ i = .int .i64 0) (fun _ _ => 0)
    case atStart => exact ⟨rfl, rfl⟩
    case round =>
      obtain ⟨rfl, rfl⟩ := hrel
      go_wp2
      go_ret
      exact ⟨by simp [offX, sumX], HO.out, TurnQ.refl _ _⟩
  · obtain ⟨n, hn⟩ : ∃ n, n = L.length := ⟨_, rfl⟩
    rw [← hn] at h hlen ⊢
    have HN := Lib.hid hn.symm
    clear hn
    have hm0 : OwnFQ w B T Q 39 70 (.slice (some ⟨g, 0, none⟩) n cap) (markXTo k L 0) := by rw [markXTo_zero]; exact h
    clear h
    go_enter Try.func42, Try.ntmps42
    go_wp2
    go_loopw [1, 5] (fun q i wr => ∃ j : Nat, j ≤ n ∧ i = .int .i64 j ∧ q = .int .i64 (k + offX L j) ∧ OwnFQ wr B T Q 39 70 (.slice (some ⟨g, 0, none⟩) n cap) (markXTo k L j) ∧ TurnQ Q w wr) (fun _ i _ => n - (intOf i).toNat)
    case atStart => exact ⟨0, Nat.zero_le _, rfl, by simp [offX, sumX], hm0, TurnQ.refl _ _⟩
    case round =>
      clear hm0
      obtain ⟨j, hj, rfl, rfl, hO, ht⟩ := hrel
      by_cases hlt : j < n
      · have hjL : j < L.length := by rw [HN.out]; exact hlt
        have hjM : j < (markXTo k L j).length := by rw [markXTo_len k L j (by omega)]; exact hjL
        obtain ⟨-, x0, y0, z0, hx0, hy0, hz0, hf0, -, -, -⟩ := hO.fs.cell j hjM
        have hQg := hO.top
        have hof := HOFF.out j (by omega)
        have hon := offX_next L j hjL
        have hle := HSW.out j hjL
        obtain ⟨db, hdb⟩ : ∃ db, db = mk3 (k + offX L j) := ⟨_, rfl⟩
        have hO1 := hO.setBool j hjM db
        have HT1 := Lib.hid (ht.setCell hQg (j * 3) (.bool db))
        obtain ⟨x, hcx, hox, hbx, hxg, hback⟩ := hO1.rdsAt j (by rw [List.length_set]; exact hjM)
        rw [getD_setX _ _ _ hjM, markXTo_get k L j hjL] at hox hback
        simp only [set_twiceX] at hback
        have hlM : ∀ e, j < ((markXTo k L j).set j e).length := fun e => by rw [List.length_set]; exact hjM
        have HB2 : Hid (∀ w' l, w'.ownsRow 0 70 2 x l.length (flatE l) → WfE l → l.length ≤ 4000000 → ((wr.setCell ⟨g, j * 3, none⟩ (.bool db))).grownBy w' x.ownBlock →
            ∃ y, w'.cell? ⟨g, j * 3 + 2, none⟩ = some y ∧ w'.ownsRow 0 70 2 y (L.getD j noEff).wrs.length (flatE (L.getD j noEff).wrs) ∧ (∀ b, y.ownBlock = some b → Q b) ∧
              ∀ w'' l', w''.ownsRow 0 70 2 y l'.length (flatE l') → WfE l' → l'.length ≤ 4000000 → w'.grownBy w'' y.ownBlock → OwnFQ w'' B T Q 39 70 (.slice (some ⟨g, 0, none⟩) n cap) ((markXTo k L j).set j ⟨db, l, l'⟩)) := Lib.hid (fun w' l h1 h2 h3 h4 => by
          have hO2 := hback w' l h1 h2 h3 h4
          obtain ⟨y, hcy, hoy, hby, -, hb2⟩ := hO2.wrsAt j (hlM _)
          rw [getD_setX _ _ _ hjM] at hoy hb2
          simp only [set_twiceX] at hb2
          exact ⟨y, hcy, hoy, hby, hb2⟩)
        have HST := Lib.hid (markXTo_set k L j hjL)
        have HBX := Lib.hid hbx
        have HOX := Lib.hid hox
        clear hback hbx hox hO1 hO ht hy0 hz0 hjM hlM
        obtain ⟨q, hq⟩ : ∃ q, q = offX L j := ⟨_, rfl⟩
        rw [← hq] at hof hon HST hdb ⊢
        obtain ⟨rs, hrs⟩ : ∃ rs, rs = (L.getD j noEff).rds := ⟨_, rfl⟩
        obtain ⟨ws, hws⟩ : ∃ ws, ws = (L.getD j noEff).wrs := ⟨_, rfl⟩
        have HMO : Hid (markOf (k + q) (L.getD j noEff) = ⟨db, marksE (k + q + 1) rs.length, marksE (k + q + 1 + 2 * rs.length) ws.length⟩) := Lib.hid (by rw [hdb, hrs, hws]; rfl)
        rw [HMO.out] at HST
        rw [← hrs] at hon hle HOX
        rw [← hws] at hon hle HB2
        have HS2 := Lib.hid hon
        have hr1 : rs.length ≤ 4000000 := by omega
        have hw1 : ws.length ≤ 4000000 := by omega
        have hkq : 0 ≤ k + (q : Int) := by omega
        have t3 := tmod3 hkq
        have m1 : ((k + (q : Int)) % 3 == 0) = db := by rw [hdb]; rfl
        have m2 : ((k + (q : Int)).tmod 3 == 0) = db := by rw [t3]; exact m1
        clear hq hrs hws hon hdb HMO t3
        go_wp2_with fail
        refine (markEntryS_own 0 rs.length x rs _ _ HOX.out rfl hr1 (by omega) (by omega)).mono ?_; rintro e w2 ⟨rfl, ho2, hg2⟩
        obtain ⟨y, hcy, hoy, hby, hb2⟩ := HB2.out w2 (marksE (k + q + 1) rs.length) (by rw [marksE_len]; exact ho2) (wfE_marks _ _ (by omega) (by omega) hr1) (by rw [marksE_len]; exact hr1) hg2
        have HT2 := Lib.hid (HT1.out.trans (TurnQ.ofGrown hg2 HBX.out))
        have HOY := Lib.hid hoy
        have HBY := Lib.hid hby
        have HB3 := Lib.hid hb2
        clear hg2 ho2 hcx hx0 hoy hby hb2 m1 m2
        go_wp2_with fail
        refine (markEntryS_own 0 ws.length y ws _ _ HOY.out rfl hw1 (by omega) (by omega)).mono ?_; rintro e w3 ⟨rfl, ho3, hg3⟩
        have hO3 := HB3.out w3 (marksE (k + q + 1 + 2 * rs.length) ws.length) (by rw [marksE_len]; exact ho3) (wfE_marks _ _ (by omega) (by omega) hw1) (by rw [marksE_len]; exact hw1) hg3
        rw [HST.out] at hO3
        have HF := Lib.hid hO3
        have HT3 := Lib.hid (HT2.out.trans (TurnQ.ofGrown hg3 HBY.out))
        clear hO3 hg3 ho3 hcy
        go_wp2
        go_roundw
        case rel => exact ⟨j + 1, by omega, by go_num, by rw [HS2.out]; congr 1; omega, HF.out, HT3.out⟩
        case measure => simp [intOf]; omega
      · obtain rfl : j = n := by omega
        have e : markXTo k L j = marksX k L := by rw [← HN.out]; exact markXTo_all k L
        rw [e] at hO
        have HO := Lib.hid hO
        clear hO e
        go_wp2
        go_ret
        exact ⟨by rw [HN.out]; rfl, HO.out, ht⟩
end Go.Proofs.Ytpnahncmhldgdaa
