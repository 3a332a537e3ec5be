/- The walk of the exact law of LayerStore. -/
import Derived.Test.YtcaombogffmopaaLawLayExact
namespace Go.Proofs.Ytcaombogffmopaa
open Go.RowKit
set_option linter.unusedVariables false
theorem RowE.turn {w w' : World} {B T b n : Nat} {l : List Ent} (h : RowE w (some ⟨b, 0, none⟩) n l) (ht : Turn B T w w') (hb : b < B ∨ T ≤ b) : RowE w' (some ⟨b, 0, none⟩) n l := by
  obtain ⟨h1, h2, h3, h4⟩ := h
  refine ⟨h1, h2, fun hl => ?_, h4⟩
  obtain ⟨b', off, he, hc⟩ := h3 hl
  obtain ⟨rfl, rfl⟩ : b = b' ∧ 0 = off := by simpa using he
  refine ⟨b, 0, rfl, fun i hi => ?_⟩
  exact ⟨ht.cell (hc i hi).1 hb, ht.cell (hc i hi).2 hb⟩
theorem owns_turn {w w' : World} {B C T : Nat} {e : TypeId} {size n : Nat} {v : Value} {xs : List Value} (h : w.ownsRow B e size v n xs) (ht : Turn C T w w') (hd : T ≤ B) : w'.ownsRow B e size v n xs :=
  owns_keep h (fun b hb => by rw [owns_blk h] at hb; have := h.lt b hb; exact ht.block b this.2 (by omega))
theorem storeM_len (S : List Ent) (L : List Lay) (k : Int) : (layerStoreM S L k).length ≤ 32 := by
  rw [layerStoreM_eq]; split
  · exact entTo_len _ _
  · simp
set_option maxRecDepth 100000 in
set_option maxHeartbeats 4000000 in
theorem lawExactLayerStore (a : Option Addr) (n cap : Nat) (S : List Ent) (b : Option Addr) (m cap' : Nat) (L : List Lay) (q : Int) (w : World) (h : RowE w a n S) (hc : a = none → cap = 0) (hlc : n ≤ cap) (h' : RowL w b m L) (hc' : b = none → cap' = 0) (hlc' : m ≤ cap') (hq : (Lit.int .i64 q).wf = true) :
    Calls Try.prog 12 #[.slice a n cap, .slice b m cap', .int .i64 q] w (LawTrue w) := by
  have HS := Lib.hid h
  have HR := Lib.hid h'
  have hm := h.2.1
  clear h h'
  go_enter Try.func12, Try.ntmps12
  go_wp2_with fail
  refine (szEntryS_any a n cap 1048576 _ (by omega) (by omega) hm).mono ?_; rintro e w' ⟨rfl, rfl⟩
  by_cases hn : (n : Int) ≤ 1048576
  · rw [if_pos hn]
    have hnn0 : decide ((1048576 : Int) - (n : Int) < 0) = false := by simp; omega
    go_wp2_with fail
    refine (szLayerS_any b m cap' L (1048576 - n) _ HR.out (by omega) (by omega)).mono ?_; rintro e w0 ⟨rfl, hb0⟩
    by_cases hs : (wtL L : Int) ≤ 1048576 - n
    · have hsz : wtL L ≤ 1048576 := by omega
      have hse : n ≤ 1048576 := by omega
      have hnn : decide ((1048576 : Int) - (n : Int) - (wtL L : Int) < 0) = false := by simp; omega
      rw [szM_yes hs]
      clear hs hn
      obtain rfl := HR.out.1
      obtain rfl := HS.out.1
      have hoffL : offL L L.length ≤ 8000000 := by have := sumW_take L L.length; unfold wtL at hsz; unfold offL; omega
      go_wp2_with fail
      refine (toEntryS_any a _ cap S _ (HS.out.below hb0) hse).mono ?_; rintro e w1 ⟨v1, rfl, ho1, hw1, hb1'⟩
      have hb1 := hb0.trans (hb1'.mono hb0.size)
      obtain ⟨g1, c1, rfl, -, hr1⟩ := rowE_of_own ho1 (by omega) hw1
      clear ho1 hb1'
      go_wp2_with fail
      refine (toLayerS_any b _ cap' L _ (HR.out.below hb1) hsz).mono ?_; rintro e w2 ⟨v2, rfl, ho2, hb2'⟩
      have hb2 := hb1.trans (hb2'.mono hb1.size)
      obtain ⟨a2, c2, rfl, hr2, -, hl2⟩ := rowL_of_own ho2
      have hr12 := hr1.below hb2'
      clear ho2 hb2' hr1
      go_wp2_with fail
      refine (layerStore_spec _ _ _ _ c1 c2 S L q _ hr12 hr2).mono ?_; rintro e w3 ⟨vw, rfl, how, hww, hb3'⟩
      have hb3 := hb2.trans (hb3'.mono hb2.size)
      have hpl := storeM_len S L q
      obtain ⟨P, hP⟩ : ∃ P, P = layerStoreM S L q := ⟨_, rfl⟩
      have HP := Lib.hid hP
      rw [← hP] at how hww hpl
      clear hP
      obtain ⟨gw, cw, rfl, hgw0, hrw⟩ := rowE_of_own how (by omega) hww
      have hgw : gw < w3.heap.size := by obtain ⟨g, c, he, _, h3⟩ := how.slice; simp at he; obtain ⟨rfl, _⟩ := he; exact h3
      clear how hb3' hr12 hr2
      go_wp2_with fail
      refine (toEntryS_any a _ cap S _ (HS.out.below hb3) hse).mono ?_; rintro e w4 ⟨vx, rfl, hox, hwx, hb4'⟩
      have hb4 := hb3.trans (hb4'.mono hb3.size)
      have hrw4 := hrw.below hb4'
      obtain ⟨gx, cx, rfl, hgx, hrx⟩ := rowE_of_own hox (by omega) hwx
      have hgx4 : gx < w4.heap.size := by obtain ⟨g, c, he, _, h3⟩ := hox.slice; simp at he; obtain ⟨rfl, _⟩ := he; exact h3
      have hs34 := hb4'.size
      clear hb4' hrw
      go_wp2_with fail
      refine (toLayerS_any b _ cap' L _ (HR.out.below hb4) hsz).mono ?_; rintro e w5 ⟨vy, rfl, hoy, hb5'⟩
      have hb5 := hb4.trans (hb5'.mono hb4.size)
      have hrw5 := hrw4.below hb5'
      have hox5 := hox.below hb5'
      have hrx5 := hrx.below hb5'
      obtain ⟨ay, cy, rfl, hry, -, hly⟩ := rowL_of_own hoy
      have hs45 := hb5'.size
      clear hb5' hrw4 hox hrx
      go_wp2_with fail
      refine (layerStore_impl _ _ _ _ cx cy S L q _ hrx5 hry hly).mono ?_; rintro e w6 ⟨vg, rfl, hog, hwg, hb6'⟩
      have hb6 := hb5.trans (hb6'.mono hb5.size)
      have hrw6 := hrw5.below hb6'
      have hox6 := hox5.below hb6'
      have hoy6 := hoy.below hb6'
      have hrx6 := hrx5.below hb6'
      rw [← HP.out] at hog hwg
      obtain ⟨gg, cg, rfl, hrg, -⟩ := rowE_of_owns hog (by omega) hwg
      clear hb6' hrw5 hox5 hoy hrx5 hry
      go_wp2_with fail
      refine (eqEntryS_same _ _ _ cg cw P _ hrg hrw6).mono ?_; rintro e w7 ⟨rfl, hb7'⟩
      have hb7 := hb6.trans (hb7'.mono hb6.size)
      have hrw7 := hrw6.below hb7'
      have hox7 := hox6.below hb7'
      have hoy7 := hoy6.below hb7'
      have hrx7 := hrx6.below hb7'
      have hog7 := owns_below hog hb7'
      clear hb7' hrw6 hox6 hoy6 hrx6 hog hrg
      go_wp2_with fail
      refine (toEntryS_any a _ cap S _ (HS.out.below hb7) hse).mono ?_; rintro e w8 ⟨v8, rfl, ho8, hw8, hb8'⟩
      have hb8 := hb7.trans (hb8'.mono hb7.size)
      obtain ⟨g8, c8, rfl, -, hr8⟩ := rowE_of_own ho8 (by omega) hw8
      clear ho8
      go_wp2_with fail
      refine (eqEntryS_same _ _ _ cx c8 S _ (hrx7.below hb8') hr8).mono ?_; rintro e w9 ⟨rfl, hb9'⟩
      have hb9 := hb8.trans (hb9'.mono hb8.size)
      have hrw9 := (hrw7.below hb8').below hb9'
      have hox9 := (hox7.below hb8').below hb9'
      have hoy9 := (hoy7.below hb8').below hb9'
      have hog9 := owns_below (owns_below hog7 hb8') hb9'
      clear hb8' hb9' hrw7 hox7 hoy7 hrx7 hog7 hr8
      go_wp2_with fail
      refine (toLayerS_any b _ cap' L _ (HR.out.below hb9) hsz).mono ?_; rintro e w10 ⟨v10, rfl, ho10, hb10'⟩
      have hb10 := hb9.trans (hb10'.mono hb9.size)
      obtain ⟨a10, c10, rfl, hr10, -, -⟩ := rowL_of_own ho10
      clear ho10
      go_wp2_with fail
      refine (eqLayerS_same _ _ _ cy c10 L _ (hoy9.below hb10').row hr10).mono ?_; rintro e w11 ⟨rfl, hb11'⟩
      have hb11 := hb10.trans (hb11'.mono hb10.size)
      have hrw11 := (hrw9.below hb10').below hb11'
      have hox11 := (hox9.below hb10').below hb11'
      have hoy11 := (hoy9.below hb10').below hb11'
      have hog11 := owns_below (owns_below hog9 hb10') hb11'
      clear hb10' hb11' hrw9 hox9 hoy9 hog9 hr10
      go_wp2_with fail
      refine (markEntryS_any _ gx _ cx S 1 _ hox11 rfl (by omega) (by omega) (by omega)).mono ?_; rintro e w12 ⟨rfl, -, hg12⟩
      have hb12 : Below w.heap.size w w12 := hb11.grown hg12 hb11.size (fun k hk => by simp at hk; have := hb3.size; omega)
      have hrw12 := hrw11.grown hg12 (by simp; omega)
      have hoy12 := hoy11.turn (Turn.ofGrown (B := gx) (T := gx + 1) hg12 (fun k hk => by simp at hk; omega)) (.inr (.inl (by omega)))
      have hog12 := owns_grown hog11 hg12 (fun k hk => by simp at hk; omega)
      clear hrw11 hox11 hoy11 hog11 hg12
      go_wp2_with fail
      refine (markLayerS_own _ _ _ L _ _ hoy12 (by omega) (by omega) (by omega)).mono ?_; rintro e w13 ⟨rfl, -, ht13⟩
      have hb13 : Below w.heap.size w w13 := ht13.below hb12 (by have := hb4.size; omega) (by have := hb12.size; omega)
      have hrw13 := hrw12.turn ht13 (.inl (by omega))
      have hog13 := owns_turn hog12 ht13 (Nat.le_refl _)
      have hrg13 := rowE_owned hog13 rfl (by omega) hwg
      clear hrw12 hoy12 hog12 ht13
      have hk13 : decide ((1 : Int) + 2 * (S.length : Int) + (offL L L.length : Int) < 0) = false := by simp; omega
      go_wp2_with fail
      refine (eqEntryS_same _ _ _ cg cw P _ hrg13 hrw13).mono ?_; rintro e w14 ⟨rfl, hb14'⟩
      have hb14 := hb13.trans (hb14'.mono hb13.size)
      have hrw14 := hrw13.below hb14'
      have hog14 := owns_below hog13 hb14'
      have hgwg : some gw ≠ (Value.slice gg P.length cg).ownBlock := owns_lt hog14 (by omega)
      clear hrw13 hog13 hrg13 hb14'
      go_wp2_with fail
      refine (markEntryS_own _ _ _ P 1 _ hog14 rfl (by omega) (by omega) (by omega)).mono ?_; rintro e w15 ⟨rfl, hom, hg15⟩
      have hb15 : Below w.heap.size w w15 := hb14.grown hg15 hb14.size (fun k hk => by have := (hog14.lt k hk).1; have := hb5.size; omega)
      have hrw15 := hrw14.grown hg15 hgwg
      clear hrw14 hog14 hg15
      have hrm : RowE w15 gg P.length (marksE 1 P.length) := rowE_marked hom (by omega)
      have hq0 : decide ((1 : Int) + 2 * (P.length : Int) < 0) = false := by simp; omega
      have hqm : ((1 : Int) + 2 * (P.length : Int) != 1 + 2 * (P.length : Int)) = false := by simp
      go_wp2_with fail
      refine (heldEntryS_any _ _ cg 1 _ hrm (by omega) (by omega) (by omega)).mono ?_; rintro e w' ⟨rfl, rfl⟩
      go_wp2_with fail
      refine (toEntryS_any a _ cap S _ (HS.out.below hb15) hse).mono ?_; rintro e w16 ⟨v16, rfl, ho16, hw16, hb16'⟩
      have hb16 := hb15.trans (hb16'.mono hb15.size)
      obtain ⟨g16, c16, rfl, -, hr16⟩ := rowE_of_own ho16 (by omega) hw16
      clear ho16
      go_wp2_with fail
      refine (toLayerS_any b _ cap' L _ (HR.out.below hb16) hsz).mono ?_; rintro e w17 ⟨v17, rfl, ho17, hb17'⟩
      have hb17 := hb16.trans (hb17'.mono hb16.size)
      obtain ⟨a17, c17, rfl, hr17, -, hl17⟩ := rowL_of_own ho17
      have hr1617 := hr16.below hb17'
      clear ho17 hr16
      go_wp2_with fail
      refine (layerStore_impl _ _ _ _ c16 c17 S L q _ hr1617 hr17 hl17).mono ?_; rintro e w18 ⟨vh, rfl, hoh, hwh, hb18'⟩
      have hb18 := hb17.trans (hb18'.mono hb17.size)
      rw [← HP.out] at hoh hwh
      obtain ⟨gh, ch, rfl, hrh, -⟩ := rowE_of_owns hoh (by omega) hwh
      have hrw18 := ((hrw15.below hb16').below hb17').below hb18'
      have hrm18 := ((hrm.below hb16').below hb17').below hb18'
      clear hrw15 hrm hom hoh hb16' hb17' hb18' hr1617 hr17
      go_wp2_with fail
      refine (eqEntryS_same _ _ _ ch cw P _ hrh hrw18).mono ?_; rintro e w19 ⟨rfl, hb19'⟩
      have hb19 := hb18.trans (hb19'.mono hb18.size)
      have hrm19 := hrm18.below hb19'
      clear hrm18 hrw18 hrh hb19'
      go_wp2_with fail
      refine (heldEntryS_any _ _ cg 1 _ hrm19 (by omega) (by omega) (by omega)).mono ?_; rintro e w' ⟨rfl, rfl⟩
      go_wp2
      go_ret
      exact ⟨rfl, hb19⟩
    · rw [szM_no (by omega)]
      go_wp2
      go_ret
      exact ⟨rfl, hb0⟩
  · rw [if_neg hn]
    go_wp2
    go_ret
    exact ⟨rfl, Below.refl _ _⟩
end Go.Proofs.Ytcaombogffmopaa
