/- The walk of the exact law of ProofOf. -/
import Derived.Test.YtpaeioabmmkheaaTreeSpec2
import Derived.Test.YtpaeioabmmkheaaConvI
namespace Go.Proofs.Ytpaeioabmmkheaa
open Go.RowKit
set_option linter.unusedVariables false
theorem proofM_len (l : List Ent) (key : Int) : (proofM l key).length ≤ 5 := by
  unfold proofM; split
  · rw [proofTo_len]; omega
  · simp
set_option maxHeartbeats 4000000 in
theorem lawExactProofOf (a : Option Addr) (n cap : Nat) (l : List Ent) (key : Int) (w : World) (h : RowE w a n l) (hc : a = none → cap = 0) (hlc : n ≤ cap) (hkey : (Lit.int .i64 key).wf = true) :
    Calls Try.prog 11 #[.slice a n cap, .int .i64 key] w (LawTrue w) := by
  have hm := h.2.1
  go_enter Try.func11, Try.ntmps11
  go_wp2_with fail
  refine (szEntryS_any a n cap 1048576 _ (by omega) (by omega) hm).mono ?_; rintro e w' ⟨rfl, rfl⟩
  by_cases hs : (n : Int) ≤ 1048576
  · rw [if_pos hs]
    have hsz : n ≤ 1048576 := by omega
    obtain rfl := h.1
    go_wp2_with fail
    refine (toEntryS_any a _ cap l _ h hsz).mono ?_; rintro e w1 ⟨v1, rfl, ho1, hw1, hb1⟩
    obtain ⟨g1, c1, rfl, -, hr1⟩ := rowE_of_own ho1 (by omega) hw1
    clear ho1
    go_wp2_with fail
    refine (proofOf_spec _ _ c1 l key _ hr1).mono ?_; rintro e w3 ⟨vw, rfl, how, hww, hb3'⟩
    have hb3 := hb1.trans (hb3'.mono hb1.size)
    have hpl := proofM_len l key
    obtain ⟨gw, cw, rfl, hgw0, hgw, hrw⟩ := rowI_of_own how (by omega) hww
    clear how hr1 hb3'
    go_wp2_with fail
    refine (toEntryS_any a _ cap l _ (h.below hb3) hsz).mono ?_; rintro e w4 ⟨vx, rfl, hox, hwx, hb4'⟩
    have hb4 := hb3.trans (hb4'.mono hb3.size)
    have hrw4 := hrw.below hb4'
    obtain ⟨gx, cx, rfl, hgx, hrx⟩ := rowE_of_own hox (by omega) hwx
    have hgx4 : gx < w4.heap.size := by obtain ⟨g, c, he, _, h3⟩ := hox.slice; simp at he; obtain ⟨rfl, _⟩ := he; exact h3
    have hgw4 : gw < w4.heap.size := Nat.lt_of_lt_of_le hgw hb4'.size
    clear hb4' hrw
    go_wp2_with fail
    refine (proofOf_impl _ _ cx l key _ hrx).mono ?_; rintro e w6 ⟨vg, rfl, hog, hwg, hb6'⟩
    have hb6 := hb4.trans (hb6'.mono hb4.size)
    have hrw6 := hrw4.below hb6'
    have hox6 := hox.below hb6'
    have hrx6 := hrx.below hb6'
    have hgw5 : some gw ≠ vg.ownBlock := owns_lt hog (by omega)
    obtain ⟨gg, cg, rfl, hrg⟩ := rowI_of_owns hog (by unfold maxLen; omega) hwg
    clear hb6' hrw4 hox hrx
    obtain ⟨P, hP⟩ : ∃ P, P = proofM l key := ⟨_, rfl⟩
    have HP := Lib.hid hP
    rw [← hP] at hog hrw6 hrg hww hwg hpl hgw5 ⊢
    clear hP
    go_wp2_with fail
    refine (eqIntS_same _ _ _ cg cw P _ hrg hrw6).mono ?_; rintro e w7 ⟨rfl, hb7'⟩
    have hb7 := hb6.trans (hb7'.mono hb6.size)
    go_wp2_with fail
    refine (toEntryS_any a _ cap l _ (h.below hb7) hsz).mono ?_; rintro e w8 ⟨v8, rfl, ho8, hw8, hb8'⟩
    have hb8 := hb7.trans (hb8'.mono hb7.size)
    obtain ⟨g8, c8, rfl, -, hr8⟩ := rowE_of_own ho8 (by omega) hw8
    clear ho8
    go_wp2_with fail
    refine (eqEntryS_same _ _ _ cx c8 l _ ((hrx6.below hb7').below hb8') hr8).mono ?_; rintro e w9 ⟨rfl, hb9'⟩
    have hb9 := hb8.trans (hb9'.mono hb8.size)
    have hbq : Below w6.heap.size w6 w9 := hb7'.trans ((hb8'.mono hb7'.size).trans (hb9'.mono (Nat.le_trans hb7'.size hb8'.size)))
    have hrw9 := hrw6.below hbq
    have hox9 := hox6.below hbq
    have hog9 := owns_below hog hbq
    clear hr8 hrw6 hox6 hrx6 hrg hog hb7' hb8' hb9' hbq
    have hww2 := hb3.size
    have hw24 := hb4.size
    go_wp2_with fail
    refine (markEntryS_any _ gx _ cx l 1 _ hox9 rfl (by omega) (by omega) (by omega)).mono ?_; rintro e w12 ⟨rfl, -, hg12⟩
    have hb12 : Below w.heap.size w w12 := hb9.grown hg12 hb9.size (fun k hk => by simp at hk; omega)
    have hrw12 := hrw9.grown hg12 (by simp; omega)
    have hog12 := owns_grown hog9 hg12 (fun k hk => by simp at hk; omega)
    have hrg12 := rowI_owned hog12 (by omega) hwg
    clear hrw9 hog9 hox9 hg12
    have hk13 : decide ((1 : Int) + 2 * (l.length : Int) < 0) = false := by simp; omega
    go_wp2_with fail
    refine (eqIntS_same _ _ _ cg cw P _ hrg12 hrw12).mono ?_; rintro e w14 ⟨rfl, hb14'⟩
    have hb14 := hb12.trans (hb14'.mono hb12.size)
    have hrw14 := hrw12.below hb14'
    have hog14 := owns_below hog12 hb14'
    clear hrw12 hrg12 hog12 hb14'
    go_wp2_with fail
    refine (markIntS_own _ _ _ P 1 _ hog14 rfl (by omega) (by omega) (by omega)).mono ?_; rintro e w15 ⟨rfl, hom, hg15⟩
    have hb15 : Below w.heap.size w w15 := hb14.grown hg15 hb14.size (fun k hk => by have := (hog14.lt k hk).1; omega)
    have hrw15 := hrw14.grown hg15 hgw5
    clear hrw14 hog14 hg15
    have hrm : RowI w15 gg P.length (marksI 1 P.length) := rowI_marked hom (by omega)
    have hq0 : decide ((1 : Int) + (P.length : Int) < 0) = false := by simp; omega
    have hqm : ((1 : Int) + (P.length : Int) != 1 + (P.length : Int)) = false := by simp
    go_wp2_with fail
    refine (heldIntS_any _ _ cg 1 _ hrm (by omega) (by omega) (by omega)).mono ?_; rintro e w' ⟨rfl, rfl⟩
    go_wp2_with fail
    refine (toEntryS_any a _ cap l _ (h.below hb15) hsz).mono ?_; rintro e w16 ⟨v16, rfl, ho16, hw16, hb16'⟩
    have hb16 := hb15.trans (hb16'.mono hb15.size)
    obtain ⟨g16, c16, rfl, -, hr16⟩ := rowE_of_own ho16 (by omega) hw16
    clear ho16
    go_wp2_with fail
    refine (proofOf_impl _ _ c16 l key _ hr16).mono ?_; rintro e w18 ⟨vh, rfl, hoh, hwh, hb18'⟩
    have hb18 := hb16.trans (hb18'.mono hb16.size)
    rw [← HP.out] at hoh hwh
    obtain ⟨gh, ch, rfl, hrh⟩ := rowI_of_owns hoh (by unfold maxLen; omega) hwh
    have hbq : Below w15.heap.size w15 w18 := hb16'.trans (hb18'.mono hb16'.size)
    have hrw18 := hrw15.below hbq
    have hrm18 := hrm.below hbq
    clear hrw15 hrm hom hoh hb16' hb18' hr16 hbq
    go_wp2_with fail
    refine (eqIntS_same _ _ _ ch cw P _ hrh hrw18).mono ?_; rintro e w19 ⟨rfl, hb19'⟩
    have hb19 := hb18.trans (hb19'.mono hb18.size)
    have hrm19 := hrm18.below hb19'
    clear hrm18 hrw18 hrh hb19'
    go_wp2_with fail
    refine (heldIntS_any _ _ cg 1 _ hrm19 (by omega) (by omega) (by omega)).mono ?_; rintro e w' ⟨rfl, rfl⟩
    go_wp2
    go_ret
    exact ⟨rfl, hb19⟩
  · rw [if_neg hs]
    go_wp2
    go_ret
    exact ⟨rfl, Below.refl _ _⟩
end Go.Proofs.Ytpaeioabmmkheaa
