/- The walk of the law FnRunOrder. -/
import Derived.Test.YtfhbolpchmdaoaaDrawOrd2
import Derived.Test.YtfhbolpchmdaoaaImplRunO
import Derived.Test.YtfhbolpchmdaoaaSpecRunO
import Derived.Test.YtfhbolpchmdaoaaConvX
import Derived.Test.YtfhbolpchmdaoaaConv
import Derived.Test.YtfhbolpchmdaoaaOne
namespace Go.Proofs.Ytfhbolpchmdaoaa
open Go.RowKit
set_option linter.unusedVariables false
set_option maxRecDepth 100000 in
set_option maxHeartbeats 4000000 in
theorem lawRunOrder (a : Option Addr) (len cap : Nat) (z : List Int) (w : World) (h : RowB w a len z) (hc : a = none → cap = 0) (hlc : len ≤ cap) :
    Calls Try.prog 6 #[.slice a len cap] w (LawTrue w) := by
  by_cases hs : len ≤ 1048576
  · have hs' : ¬ (1048576 : Int) < (len : Int) := by omega
    go_enter Try.func6, Try.ntmps6
    go_wp2_with fail
    refine (drawRunOrder_any a len cap z w h hlc).mono ?_; rintro e w1 ⟨gS, cS, S, gA, cA, L, gO, cO, O, rfl, hrS, hSl, hrA, hlA, hl20, hrO, hO20, hb1⟩
    clear h hs hs' hc hlc
    have HZ : Hid (some (⟨gS, 0, none⟩ : Addr) = none → cS = 0) := Lib.hid (fun h => by cases h)
    obtain ⟨hPl, hXl⟩ := runOrdM_lens S L O
    obtain ⟨P, hP⟩ : ∃ P, P = (runOrdM S L O).1 := ⟨_, rfl⟩
    obtain ⟨X, hX⟩ : ∃ X, X = (runOrdM S L O).2 := ⟨_, rfl⟩
    have HP := Lib.hid hP
    have HX := Lib.hid hX
    rw [← hP] at hPl
    rw [← hX] at hXl
    have hP4 : P.length ≤ 4000000 := by omega
    clear hP hX
    obtain ⟨m, hm⟩ : ∃ m, m = L.length := ⟨_, rfl⟩
    rw [← hm] at hrA hlA hl20 ⊢
    obtain ⟨q, hq⟩ : ∃ q, q = O.length := ⟨_, rfl⟩
    rw [← hq] at hrO hO20 ⊢
    clear hm hq
    go_wp2_with fail
    refine (runOrder_impl _ _ cS S _ _ cA L _ _ cO O _ hrS HZ.out hrA hrO).mono ?_; rintro e w2 ⟨vG, uG, rfl, hG2, hb2'⟩
    rw [← HP.out, ← HX.out] at hG2
    obtain ⟨aG, cG, rfl, hrG2, hzG⟩ := hG2.row hP4
    obtain ⟨bG, dG, rfl, hfG2, -, -⟩ := rowFs_of_own hG2.effs
    have hrS2 := hrS.below hb2'
    have hrA2 := hrA.below hb2'
    have hrO2 := hrO.below hb2'
    have hb2 := hb1.trans (hb2'.mono hb1.size)
    clear hrS hrA hrO hb1 hb2' hG2 hzG
    go_wp2_with fail
    refine (runOrder_spec _ _ cS S _ _ cA L _ _ cO O _ hrS2 HZ.out hrA2 hrO2).mono ?_; rintro e w3 ⟨vW, uW, rfl, hW3, hb3'⟩
    rw [← HP.out, ← HX.out] at hW3
    obtain ⟨aW, cW, rfl, hrW3, -⟩ := hW3.row hP4
    obtain ⟨bW, dW, rfl, hfW3, -, -⟩ := rowFs_of_own hW3.effs
    have hrS3 := hrS2.below hb3'
    have hrA3 := hrA2.below hb3'
    have hrO3 := hrO2.below hb3'
    have hrG3 := hrG2.below hb3'
    have hfG3 := hfG2.below hb3'
    have hb3 := hb2.trans (hb3'.mono hb2.size)
    clear hrS2 hrA2 hrO2 hrG2 hfG2 hb2 hb3' hW3
    go_wp2_with fail
    refine (sameStore_same _ _ _ cG cW P _ hrG3 hrW3).mono ?_; rintro e w4 ⟨rfl, hd4⟩
    have hb4' := hd4.below w3.heap.size
    have hrS4 := hrS3.below hb4'
    have hrA4 := hrA3.below hb4'
    have hrO4 := hrO3.below hb4'
    have hrG4 := hrG3.below hb4'
    have hfG4 := hfG3.below hb4'
    have hfW4 := hfW3.below hb4'
    have hb4 := hb3.trans (hb4'.mono hb3.size)
    clear hrS3 hrA3 hrO3 hrG3 hfG3 hfW3 hrW3 hb3 hb4' hd4
    go_wp2_with fail
    refine (sameEffects_same _ _ _ dG dW X _ hfG4 hfW4).mono ?_; rintro e w5 ⟨rfl, hb5'⟩
    have hrS5 := hrS4.below hb5'
    have hrA5 := hrA4.below hb5'
    have hrO5 := hrO4.below hb5'
    have hrG5 := hrG4.below hb5'
    have hfG5 := hfG4.below hb5'
    have hb5 := hb4.trans (hb5'.mono hb4.size)
    clear hrS4 hrA4 hrO4 hrG4 hfG4 hfW4 hb4 hb5'
    go_wp2_with fail
    refine (storeValid_spec _ _ cS S _ hrS5).mono ?_; rintro e w6 ⟨rfl, hd6⟩
    have hb6' := hd6.below w5.heap.size
    have hrS6 := hrS5.below hb6'
    have hrA6 := hrA5.below hb6'
    have hrO6 := hrO5.below hb6'
    have hrG6 := hrG5.below hb6'
    have hfG6 := hfG5.below hb6'
    have hb6 := hb5.trans (hb6'.mono hb5.size)
    clear hrS5 hrA5 hrO5 hrG5 hfG5 hb5 hb6' hd6
    have hNO : (storeB S && fitsM L O) = false → P = [] ∧ X = [] := fun h => by rw [HP.out, HX.out, runOrdM_no h]; exact ⟨rfl, rfl⟩
    cases hS : storeB S with
    | false =>
      obtain ⟨e1, e2⟩ := hNO (by rw [hS]; rfl)
      clear hS hNO HP HX
      subst e1 e2
      clear hrG6 hfG6 hrS6 hrA6 hrO6
      go_wp2_with fail
      refine (alive_any _).mono ?_; rintro e w7 ⟨rfl, hb7⟩
      go_wp2
      go_ret
      exact ⟨rfl, hb6.trans (hb7.mono hb6.size)⟩
    | true =>
      have HSB := Lib.hid hS
      have HNO : Hid (fitsM L O = false → P = [] ∧ X = []) := Lib.hid (fun h => hNO (by rw [hS, h]; rfl))
      clear hS hNO
      go_wp2_with fail
      refine (orderFits_spec _ _ cA L _ _ cO O _ hrA6 hrO6).mono ?_; rintro e w7 ⟨rfl, hb7'⟩
      have hrS7 := hrS6.below hb7'
      have hrA7 := hrA6.below hb7'
      have hrG7 := hrG6.below hb7'
      have hfG7 := hfG6.below hb7'
      have hb7 := hb6.trans (hb7'.mono hb6.size)
      clear hrS6 hrA6 hrO6 hrG6 hfG6 hb6 hb7'
      cases hF : fitsM L O with
      | false =>
        obtain ⟨e1, e2⟩ := HNO.out hF
        clear hF HNO HP HX
        subst e1 e2
        clear hrG7 hfG7 hrS7 hrA7
        go_wp2_with fail
        refine (alive_any _).mono ?_; rintro e w8 ⟨rfl, hb8⟩
        go_wp2
        go_ret
        exact ⟨rfl, hb7.trans (hb8.mono hb7.size)⟩
      | true =>
        have HE := Lib.hid (order_serM HSB.out hF)
        clear hF HNO
        go_wp2_with fail
        refine (runSerial_impl _ _ cS S _ _ cA L _ hrS7 HZ.out hrA7).mono ?_; rintro e w8 ⟨v8, u8, rfl, hF8, hb8'⟩
        rw [← HE.out, ← HP.out, ← HX.out] at hF8
        obtain ⟨a8, c8, rfl, hr8, -⟩ := hF8.row hP4
        obtain ⟨b8, d8, rfl, hf8, -, -⟩ := rowFs_of_own hF8.effs
        have hrG8 := hrG7.below hb8'
        have hfG8 := hfG7.below hb8'
        have hb8 := hb7.trans (hb8'.mono hb7.size)
        clear hrS7 hrA7 hrG7 hfG7 hb7 hb8' hF8
        go_wp2_with fail
        refine (sameStore_same _ _ _ cG c8 P _ hrG8 hr8).mono ?_; rintro e w9 ⟨rfl, hd9⟩
        have hb9' := hd9.below w8.heap.size
        have hfG9 := hfG8.below hb9'
        have hf9 := hf8.below hb9'
        have hb9 := hb8.trans (hb9'.mono hb8.size)
        clear hrG8 hr8 hfG8 hf8 hb8 hb9' hd9
        go_wp2_with fail
        refine (sameEffects_same _ _ _ dG d8 X _ hfG9 hf9).mono ?_; rintro e w10 ⟨rfl, hb10⟩
        go_wp2
        go_ret
        exact ⟨rfl, hb9.trans (hb10.mono hb9.size)⟩
  · have hs' : (1048576 : Int) < (len : Int) := by omega
    clear h hlc
    go_enter Try.func6, Try.ntmps6
    go_wp2
    go_ret
    exact ⟨rfl, Below.refl _ _⟩
end Go.Proofs.Ytfhbolpchmdaoaa
