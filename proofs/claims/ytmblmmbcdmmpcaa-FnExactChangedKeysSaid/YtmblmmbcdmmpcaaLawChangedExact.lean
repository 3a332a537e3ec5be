/- The walk of the exact law of ChangedKeys. -/
import Derived.Test.YtmblmmbcdmmpcaaSpecChanged
import Derived.Test.YtmblmmbcdmmpcaaImplChanged
import Derived.Test.YtmblmmbcdmmpcaaConvI
namespace Go.Proofs.Ytmblmmbcdmmpcaa
open Go.RowKit
set_option linter.unusedVariables false
theorem changedM_len (a b : List Ent) : (changedM a b).length ≤ 32 := by
  unfold changedM; split
  · exact Nat.le_trans (List.length_filter_le _ _) (by simp)
  · simp
set_option maxHeartbeats 4000000 in
theorem lawExactChangedKeys (a : Option Addr) (n cap : Nat) (l : List Ent) (a' : Option Addr) (n' cap' : Nat) (l' : List Ent) (w : World) (h : RowE w a n l) (hc : a = none → cap = 0) (hlc : n ≤ cap) (h' : RowE w a' n' l') (hc' : a' = none → cap' = 0) (hlc' : n' ≤ cap') :
    Calls Try.prog 13 #[.slice a n cap, .slice a' n' cap'] w (LawTrue w) := by
  have hm := h.2.1
  have hm' := h'.2.1
  go_enter Try.func13, Try.ntmps13
  go_wp2_with fail
  refine (szEntryS_any a n cap 1048576 _ (by omega) (by omega) hm).mono ?_; rintro e w' ⟨rfl, rfl⟩
  by_cases hs : (n : Int) ≤ 1048576
  · rw [if_pos hs]
    have hsz : n ≤ 1048576 := by omega
    have hnn : (decide ((1048576 : Int) - (n : Int) < 0)) = false := by simp; omega
    go_wp2_with fail
    refine (szEntryS_any a' n' cap' (1048576 - n) _ (by omega) (by omega) hm').mono ?_; rintro e w' ⟨rfl, rfl⟩
    by_cases hs' : (n' : Int) ≤ 1048576 - n
    · rw [if_pos hs']
      have hsz' : n' ≤ 1048576 := by omega
      obtain rfl := h.1
      obtain rfl := h'.1
      have hnn' : (decide ((1048576 : Int) - (l.length : Int) - (l'.length : Int) < 0)) = false := by simp; omega
      go_wp2_with fail
      refine (toEntryS_any a _ cap l _ h hsz).mono ?_; rintro e w1 ⟨v1, rfl, ho1, hw1, hb1⟩
      obtain ⟨g1, c1, rfl, -, hr1⟩ := rowE_of_own ho1 (by omega) hw1
      clear ho1
      go_wp2_with fail
      refine (toEntryS_any a' _ cap' l' _ (h'.below hb1) hsz').mono ?_; rintro e w2 ⟨v2, rfl, ho2, hw2, hb2'⟩
      obtain ⟨g2, c2, rfl, -, hr2⟩ := rowE_of_own ho2 (by omega) hw2
      have hb2 := hb1.trans (hb2'.mono hb1.size)
      clear ho2
      go_wp2_with fail
      refine (changedKeys_spec _ _ _ _ c1 c2 l l' _ (hr1.below hb2') hr2).mono ?_; rintro e w3 ⟨vw, rfl, how, hww, hb3'⟩
      have hb3 := hb2.trans (hb3'.mono hb2.size)
      have hpl := changedM_len l l'
      obtain ⟨gw, cw, rfl, hgw0, hgw, hrw⟩ := rowI_of_own how (by omega) hww
      clear how hr1 hr2 hb2' hb3'
      go_wp2_with fail
      refine (toEntryS_any a _ cap l _ (h.below hb3) hsz).mono ?_; rintro e w4 ⟨vx, rfl, hox, hwx, hb4'⟩
      have hb4 := hb3.trans (hb4'.mono hb3.size)
      have hrw4 := hrw.below hb4'
      obtain ⟨gx, cx, rfl, hgx, hrx⟩ := rowE_of_own hox (by omega) hwx
      have hgx4 : gx < w4.heap.size := by obtain ⟨g, c, he, _, h3⟩ := hox.slice; simp at he; obtain ⟨rfl, _⟩ := he; exact h3
      clear hb4' hrw
      go_wp2_with fail
      refine (toEntryS_any a' _ cap' l' _ (h'.below hb4) hsz').mono ?_; rintro e w5 ⟨vy, rfl, hoy, hwy, hb5'⟩
      have hb5 := hb4.trans (hb5'.mono hb4.size)
      have hrw5 := hrw4.below hb5'
      have hox5 := hox.below hb5'
      have hrx5 := hrx.below hb5'
      obtain ⟨gy, cy, rfl, hgy, hry⟩ := rowE_of_own hoy (by omega) hwy
      have hgy5 : gy < w5.heap.size := by obtain ⟨g, c, he, _, h3⟩ := hoy.slice; simp at he; obtain ⟨rfl, _⟩ := he; exact h3
      clear hb5' hrw4 hox hrx
      go_wp2_with fail
      refine (changedKeys_impl _ _ _ _ cx cy l l' _ hrx5 hry).mono ?_; rintro e w6 ⟨vg, rfl, hog, hwg, hb6'⟩
      have hb6 := hb5.trans (hb6'.mono hb5.size)
      have hrw6 := hrw5.below hb6'
      have hox6 := hox5.below hb6'
      have hoy6 := hoy.below hb6'
      have hrx6 := hrx5.below hb6'
      have hry6 := hry.below hb6'
      have hgw5 : some gw ≠ vg.ownBlock := owns_lt hog (by have := hb4.size; omega)
      obtain ⟨gg, cg, rfl, hrg⟩ := rowI_of_owns hog (by unfold maxLen; omega) hwg
      clear hb6' hrw5 hox5 hrx5 hoy hry
      obtain ⟨P, hP⟩ : ∃ P, P = changedM l l' := ⟨_, rfl⟩
      have HP := Lib.hid hP
      rw [← hP] at hog hrw6 hrg hww hwg hpl hgw5 ⊢
      clear hP
      go_wp2_with fail
      refine (eqIntS_same _ _ _ cg cw P _ hrg hrw6).mono ?_; rintro e w7 ⟨rfl, hb7'⟩
      have hb7 := hb6.trans (hb7'.mono hb6.size)
      go_wp2_with fail
      refine (toEntryS_any a _ cap l _ (h.below hb7) hsz).mono ?_; rintro e w8 ⟨v8, rfl, ho8, hw8, hb8'⟩
      have hb8 := hb7.trans (hb8'.mono hb7.size)
      obtain ⟨g8, c8, rfl, -, hr8⟩ := rowE_of_own ho8 (by omega) hw8
      clear ho8
      go_wp2_with fail
      refine (eqEntryS_same _ _ _ cx c8 l _ ((hrx6.below hb7').below hb8') hr8).mono ?_; rintro e w9 ⟨rfl, hb9'⟩
      have hb9 := hb8.trans (hb9'.mono hb8.size)
      clear hr8
      have hbq : Below w6.heap.size w6 w9 := hb7'.trans ((hb8'.mono hb7'.size).trans (hb9'.mono (Nat.le_trans hb7'.size hb8'.size)))
      have hrw9 := hrw6.below hbq
      have hox9 := hox6.below hbq
      have hoy9 := hoy6.below hbq
      have hry9 := hry6.below hbq
      have hog9 := owns_below hog hbq
      clear hrw6 hox6 hoy6 hrx6 hry6 hrg hog hb7' hb8' hb9' hbq
      go_wp2_with fail
      refine (toEntryS_any a' _ cap' l' _ (h'.below hb9) hsz').mono ?_; rintro e w10 ⟨v10, rfl, ho10, hw10, hb10'⟩
      have hb10 := hb9.trans (hb10'.mono hb9.size)
      obtain ⟨g10, c10, rfl, -, hr10⟩ := rowE_of_own ho10 (by omega) hw10
      clear ho10
      go_wp2_with fail
      refine (eqEntryS_same _ _ _ cy c10 l' _ (hry9.below hb10') hr10).mono ?_; rintro e w11 ⟨rfl, hb11'⟩
      have hb11 := hb10.trans (hb11'.mono hb10.size)
      have hbq : Below w9.heap.size w9 w11 := hb10'.trans (hb11'.mono hb10'.size)
      have hrw11 := hrw9.below hbq
      have hox11 := hox9.below hbq
      have hoy11 := hoy9.below hbq
      have hog11 := owns_below hog9 hbq
      clear hrw9 hox9 hoy9 hry9 hog9 hb10' hb11' hbq hr10
      have hww2 := hb3.size
      have hw24 := hb4.size
      go_wp2_with fail
      refine (markEntryS_any _ gx _ cx l 1 _ hox11 rfl (by omega) (by omega) (by omega)).mono ?_; rintro e w12 ⟨rfl, -, hg12⟩
      have hb12 : Below w.heap.size w w12 := hb11.grown hg12 hb11.size (fun k hk => by simp at hk; omega)
      have hrw12 := hrw11.grown hg12 (by simp; omega)
      have hog12 := owns_grown hog11 hg12 (fun k hk => by simp at hk; omega)
      have hoy12 := hoy11.grown hg12 (fun k hk => by simp at hk; omega)
      clear hrw11 hog11 hoy11 hox11 hg12
      go_wp2_with fail
      refine (markEntryS_any _ gy _ cy l' (1 + 2 * l.length) _ hoy12 rfl (by omega) (by omega) (by omega)).mono ?_; rintro e w13 ⟨rfl, -, hg13⟩
      have hb13 : Below w.heap.size w w13 := hb12.grown hg13 hb12.size (fun k hk => by simp at hk; omega)
      have hrw13 := hrw12.grown hg13 (by simp; omega)
      have hog13 := owns_grown hog12 hg13 (fun k hk => by simp at hk; omega)
      have hrg13 := rowI_owned hog13 (by omega) hwg
      clear hrw12 hog12 hoy12 hg13
      have hk13 : decide ((1 : Int) + 2 * (l.length : Int) + 2 * (l'.length : Int) < 0) = false := by simp; omega
      go_wp2_with fail
      refine (eqIntS_same _ _ _ cg cw P _ hrg13 hrw13).mono ?_; rintro e w14 ⟨rfl, hb14'⟩
      have hb14 := hb13.trans (hb14'.mono hb13.size)
      have hrw14 := hrw13.below hb14'
      have hog14 := owns_below hog13 hb14'
      clear hrw13 hrg13 hog13 hb14'
      go_wp2_with fail
      refine (markIntS_own _ _ _ P 1 _ hog14 rfl (by omega) (by omega) (by omega)).mono ?_; rintro e w15 ⟨rfl, hom, hg15⟩
      have hb15 : Below w.heap.size w w15 := hb14.grown hg15 hb14.size (fun k hk => by have := (hog14.lt k hk).1; have := hb5.size; omega)
      have hrw15 := hrw14.grown hg15 hgw5
      clear hrw14 hog14 hg15
      have hrm : RowI w15 gg P.length (marksI 1 P.length) := rowI_marked hom (by omega)
      have hq0 : decide ((1 : Int) + (P.length : Int) < 0) = false := by simp; omega
      have hqm : ((1 : Int) + (P.length : Int) != 1 + (P.length : Int)) = false := by simp
      go_wp2_with fail
      refine (heldIntS_any _ _ cg 1 _ hrm (by omega) (by omega) (by omega)).mono ?_; rintro e w' ⟨rfl, rfl⟩
      go_wp2_with fail
      refine (toEntryS_any a _ cap l _ (h.below hb15) hsz).mono ?_; rintro e w16 ⟨v16, rfl, ho16, hw16, hb16'⟩
      have hb16 := hb15.trans (hb16'.mono hb15.size)
      obtain ⟨g16, c16, rfl, -, hr16⟩ := rowE_of_own ho16 (by omega) hw16
      clear ho16
      go_wp2_with fail
      refine (toEntryS_any a' _ cap' l' _ (h'.below hb16) hsz').mono ?_; rintro e w17 ⟨v17, rfl, ho17, hw17, hb17'⟩
      have hb17 := hb16.trans (hb17'.mono hb16.size)
      obtain ⟨g17, c17, rfl, -, hr17⟩ := rowE_of_own ho17 (by omega) hw17
      clear ho17
      go_wp2_with fail
      refine (changedKeys_impl _ _ _ _ c16 c17 l l' _ (hr16.below hb17') hr17).mono ?_; rintro e w18 ⟨vh, rfl, hoh, hwh, hb18'⟩
      have hb18 := hb17.trans (hb18'.mono hb17.size)
      rw [← HP.out] at hoh hwh
      obtain ⟨gh, ch, rfl, hrh⟩ := rowI_of_owns hoh (by unfold maxLen; omega) hwh
      have hbq : Below w15.heap.size w15 w18 := hb16'.trans ((hb17'.mono hb16'.size).trans (hb18'.mono (Nat.le_trans hb16'.size hb17'.size)))
      have hrw18 := hrw15.below hbq
      have hrm18 := hrm.below hbq
      clear hrw15 hrm hom hoh hb16' hb17' hb18' hr16 hr17 hbq
      go_wp2_with fail
      refine (eqIntS_same _ _ _ ch cw P _ hrh hrw18).mono ?_; rintro e w19 ⟨rfl, hb19'⟩
      have hb19 := hb18.trans (hb19'.mono hb18.size)
      have hrm19 := hrm18.below hb19'
      clear hrm18 hrw18 hrh hb19'
      go_wp2_with fail
      refine (heldIntS_any _ _ cg 1 _ hrm19 (by omega) (by omega) (by omega)).mono ?_; rintro e w' ⟨rfl, rfl⟩
      go_wp2
      go_ret
      exact ⟨rfl, hb19⟩
    · rw [if_neg hs']
      go_wp2
      go_ret
      exact ⟨rfl, Below.refl _ _⟩
  · rw [if_neg hs]
    go_wp2
    go_ret
    exact ⟨rfl, Below.refl _ _⟩
end Go.Proofs.Ytmblmmbcdmmpcaa
