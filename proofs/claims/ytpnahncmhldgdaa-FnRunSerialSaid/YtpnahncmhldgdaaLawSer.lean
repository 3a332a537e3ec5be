/- The walk of the law FnRunSerial. -/
import Derived.Test.YtpnahncmhldgdaaLawActR
import Derived.Test.YtpnahncmhldgdaaImplSer
import Derived.Test.YtpnahncmhldgdaaSerRaw
import Derived.Test.YtpnahncmhldgdaaConvFs
import Derived.Test.YtpnahncmhldgdaaDrawFs
import Derived.Test.YtpnahncmhldgdaaTwo
namespace Go.Proofs.Ytpnahncmhldgdaa
open Go.RowKit
set_option linter.unusedVariables false
theorem RowA.drop {w : World} {b off n : Nat} {l : List Acn} (h : RowA w (some ⟨b, off, none⟩) n l) (k : Nat) (hk : k ≤ n) : RowA w (some ⟨b, off + k * 4, none⟩) (n - k) (l.drop k) := by
  obtain ⟨h1, h2, h3, h4⟩ := h
  refine ⟨by rw [List.length_drop]; omega, by omega, fun hl => ?_, fun x hx => h4 x (List.mem_of_mem_drop hx)⟩
  obtain ⟨b', off', he, hc⟩ := h3 (by omega)
  obtain ⟨rfl, rfl⟩ : b = b' ∧ off = off' := by simpa using he
  refine ⟨b, off + k * 4, rfl, fun i hi => ?_⟩
  have e : (l.drop k).getD i noA = l.getD (k + i) noA := by
    rw [List.getD_eq_getElem?_getD, List.getD_eq_getElem?_getD, List.getElem?_drop]
  have := hc (k + i) (by omega)
  rw [e, show off + k * 4 + i * 4 = off + (k + i) * 4 by omega]; exact this
set_option maxRecDepth 100000 in
set_option maxHeartbeats 4000000 in
theorem lawRunSerial (a : Option Addr) (len cap : Nat) (z : List Int) (w : World) (h : RowB w a len z) (hc : a = none → cap = 0) (hlc : len ≤ cap) :
    Calls Try.prog 3 #[.slice a len cap] w (LawTrue w) := by
  by_cases hs : len ≤ 1048576
  · have hs' : ¬ (1048576 : Int) < (len : Int) := by omega
    go_enter Try.func3, Try.ntmps3
    go_wp2_with fail
    refine (drawRunSerial_any a len cap z w h hlc).mono ?_; rintro e w1 ⟨gS, cS, S, gA, cA, L, rfl, hrS, hSl, hrA, hlA, hl20, hb1⟩
    clear h hs hs' hc hlc
    have HZ : Hid (some (⟨gS, 0, none⟩ : Addr) = none → cS = 0) := Lib.hid (fun h => by cases h)
    have hPl := serM_store S L
    have hXl := serM_len S L
    obtain ⟨P, hP⟩ : ∃ P, P = (serM S L).1 := ⟨_, rfl⟩
    obtain ⟨X, hX⟩ : ∃ X, X = (serM S L).2 := ⟨_, rfl⟩
    have HP := Lib.hid hP
    have HX := Lib.hid hX
    rw [← hP] at hPl
    rw [← hX] at hXl
    have hP4 : P.length ≤ 4000000 := by omega
    clear hP hX
    obtain ⟨m, hm⟩ : ∃ m, m = L.length := ⟨_, rfl⟩
    rw [← hm] at hrA hlA hl20 ⊢
    have HM := Lib.hid hm
    clear hm
    go_wp2_with fail
    refine (runSerial_impl _ _ cS S _ _ cA L _ hrS HZ.out hrA).mono ?_; rintro e w2 ⟨vG, uG, rfl, hG2, hb2'⟩
    rw [← HP.out, ← HX.out] at hG2
    obtain ⟨aG, cG, rfl, hrG2, hzG⟩ := hG2.row hP4
    obtain ⟨bG, dG, rfl, hfG2, -, -⟩ := rowFs_of_own hG2.effs
    have HZG := Lib.hid hzG
    have hrS2 := hrS.below hb2'
    have hrA2 := hrA.below hb2'
    have hb2 := hb1.trans (hb2'.mono hb1.size)
    clear hrS hrA hb1 hb2' hG2 hzG
    go_wp2_with fail
    refine (runSerial_spec _ _ cS S _ _ cA L _ hrS2 HZ.out hrA2).mono ?_; rintro e w3 ⟨vW, uW, rfl, hW3, hb3'⟩
    rw [← HP.out, ← HX.out] at hW3
    obtain ⟨aW, cW, rfl, hrW3, -⟩ := hW3.row hP4
    obtain ⟨bW, dW, rfl, hfW3, -, -⟩ := rowFs_of_own hW3.effs
    have hrS3 := hrS2.below hb3'
    have hrA3 := hrA2.below hb3'
    have hrG3 := hrG2.below hb3'
    have hfG3 := hfG2.below hb3'
    have hb3 := hb2.trans (hb3'.mono hb2.size)
    clear hrS2 hrA2 hrG2 hfG2 hb2 hb3' hW3
    go_wp2_with fail
    refine (sameStore_same _ _ _ cG cW P _ hrG3 hrW3).mono ?_; rintro e w4 ⟨rfl, hd4⟩
    have hb4' := hd4.below w3.heap.size
    have hrS4 := hrS3.below hb4'
    have hrA4 := hrA3.below hb4'
    have hrG4 := hrG3.below hb4'
    have hfG4 := hfG3.below hb4'
    have hfW4 := hfW3.below hb4'
    have hb4 := hb3.trans (hb4'.mono hb3.size)
    clear hrS3 hrA3 hrG3 hfG3 hfW3 hrW3 hb3 hb4' hd4
    go_wp2_with fail
    refine (sameEffects_same _ _ _ dG dW X _ hfG4 hfW4).mono ?_; rintro e w5 ⟨rfl, hb5'⟩
    have hrS5 := hrS4.below hb5'
    have hrA5 := hrA4.below hb5'
    have hrG5 := hrG4.below hb5'
    have hfG5 := hfG4.below hb5'
    have hb5 := hb4.trans (hb5'.mono hb4.size)
    clear hrS4 hrA4 hrG4 hfG4 hfW4 hb4 hb5'
    go_wp2_with fail
    refine (storeValid_spec _ _ cS S _ hrS5).mono ?_; rintro e w6 ⟨rfl, hd6⟩
    have hb6' := hd6.below w5.heap.size
    have hrS6 := hrS5.below hb6'
    have hrA6 := hrA5.below hb6'
    have hrG6 := hrG5.below hb6'
    have hfG6 := hfG5.below hb6'
    have hb6 := hb5.trans (hb6'.mono hb5.size)
    clear hrS5 hrA5 hrG5 hfG5 hb5 hb6' hd6
    have hNO : (storeB S && actsB L) = false → P = [] ∧ X = [] := fun h => by rw [HP.out, HX.out, serM_no h]; exact ⟨rfl, rfl⟩
    cases hS : storeB S with
    | false =>
      obtain ⟨e1, e2⟩ := hNO (by rw [hS]; rfl)
      clear hS hNO HP HX
      subst e1 e2
      clear hrG6 hfG6 hrS6 hrA6
      go_wp2_with fail
      refine (alive_any _).mono ?_; rintro e w7 ⟨rfl, hb7⟩
      go_wp2
      go_ret
      exact ⟨rfl, hb6.trans (hb7.mono hb6.size)⟩
    | true =>
      have HSB := Lib.hid hS
      have HNO : Hid (actsB L = false → P = [] ∧ X = []) := Lib.hid (fun h => hNO (by rw [hS, h]; rfl))
      clear hS hNO
      go_wp2_with fail
      refine (actionsValid_spec _ _ cA L _ hrA6).mono ?_; rintro e w7 ⟨rfl, hb7'⟩
      have hrS7 := hrS6.below hb7'
      have hrA7 := hrA6.below hb7'
      have hrG7 := hrG6.below hb7'
      have hfG7 := hfG6.below hb7'
      have hb7 := hb6.trans (hb7'.mono hb6.size)
      clear hrS6 hrA6 hrG6 hfG6 hb6 hb7'
      cases hA : actsB L with
      | false =>
        obtain ⟨e1, e2⟩ := HNO.out hA
        clear hA HNO HP HX
        subst e1 e2
        clear hrG7 hfG7 hrS7 hrA7
        go_wp2_with fail
        refine (alive_any _).mono ?_; rintro e w8 ⟨rfl, hb8⟩
        go_wp2
        go_ret
        exact ⟨rfl, hb7.trans (hb8.mono hb7.size)⟩
      | true =>
        have HAB := Lib.hid hA
        clear hA HNO
        obtain ⟨k, hk⟩ : ∃ k, k = m / 2 := ⟨_, rfl⟩
        have hkm : k ≤ m := by omega
        have hkc : k ≤ cA := by omega
        have hkd : (m : Int) / 2 = (k : Int) := by omega
        have hpp := ser_parts HSB.out HAB.out k
        have HPB : Hid (storeB P = true) := Lib.hid (by rw [HP.out, serM_yes HSB.out HAB.out]; exact store_ser _ HSB.out)
        have hP1l := serM_store S (L.take k)
        have hX1l := serM_len S (L.take k)
        obtain ⟨P1, hP1⟩ : ∃ P1, P1 = (serM S (L.take k)).1 := ⟨_, rfl⟩
        obtain ⟨X1, hX1⟩ : ∃ X1, X1 = (serM S (L.take k)).2 := ⟨_, rfl⟩
        have HP1 := Lib.hid hP1
        have HX1 := Lib.hid hX1
        rw [← hP1] at hP1l hpp
        rw [← hX1] at hX1l hpp
        obtain ⟨X2, hX2⟩ : ∃ X2, X2 = (serM P1 (L.drop k)).2 := ⟨_, rfl⟩
        have HX2 := Lib.hid hX2
        rw [← hX2, ← HP.out, ← HX.out] at hpp
        have HPP := Lib.hid hpp
        have hX2l : X2.length ≤ 10 := by rw [hX2]; exact serM_len _ _
        clear hpp hP1 hX1 hX2 hk
        have hrT := hrA7.cut hkm
        go_wp2_with fail
        refine (runSerial_impl _ _ cS S _ _ cA (L.take k) _ hrS7 HZ.out hrT).mono ?_; rintro e w8 ⟨v8, u8, rfl, hF8, hb8'⟩
        rw [← HP1.out, ← HX1.out] at hF8
        obtain ⟨a8, c8, rfl, hr8, hz8⟩ := hF8.row (by omega)
        obtain ⟨b8, d8, rfl, hf8, hzf8, -⟩ := rowFs_of_own hF8.effs
        have HZ8 := Lib.hid hz8
        have HZF := Lib.hid hzf8
        clear hzf8
        have hrA8 := hrA7.below hb8'
        have hrG8 := hrG7.below hb8'
        have hfG8 := hfG7.below hb8'
        have hb8 := hb7.trans (hb8'.mono hb7.size)
        clear hrS7 hrA7 hrG7 hfG7 hb7 hb8' hrT hz8 hF8
        by_cases hck : cA = k
        · obtain rfl : m = 0 := by omega
          obtain rfl : k = 0 := by omega
          obtain rfl : cA = 0 := by omega
          have hL : L = [] := List.eq_nil_of_length_eq_zero HM.out.symm
          have hD : RowA w8 (some ⟨gA, 0, none⟩) 0 (L.drop 0) := by rw [hL]; exact rowA_empty _ _
          clear hkd hkm hkc hck hL hlA
          go_wp2_with fail
          refine (runSerial_impl _ _ c8 P1 _ _ 0 (L.drop 0) _ hr8 HZ8.out hD).mono ?_; rintro e w9 ⟨v9, u9, rfl, hF9, hb9'⟩
          rw [HPP.out.1, ← HX2.out] at hF9
          obtain ⟨a9, c9, rfl, hr9, -⟩ := hF9.row hP4
          obtain ⟨b9, d9, rfl, hf9, hz9, -⟩ := rowFs_of_own hF9.effs
          have hrG9 := hrG8.below hb9'
          have hfG9 := hfG8.below hb9'
          have hf89 := hf8.below hb9'
          have hb9 := hb8.trans (hb9'.mono hb8.size)
          have HZ9 := Lib.hid hz9
          clear hrG8 hfG8 hf8 hb8 hb9' hF9 hr8 hrA8 hz9
          go_wp2_with fail
          refine (storeValid_impl _ _ cG P _ hrG9).mono ?_; rintro e w10 ⟨rfl, hb10'⟩
          rw [HPB.out]
          have hr10 := hr9.below hb10'
          have hrG10 := hrG9.below hb10'
          have hfG10 := hfG9.below hb10'
          have hf810 := hf89.below hb10'
          have hf910 := hf9.below hb10'
          have hb10 := hb9.trans (hb10'.mono hb9.size)
          clear hr9 hrG9 hfG9 hf89 hf9 hb9 hb10'
          go_wp2_with fail
          refine (sameStore_same _ _ _ c9 cG P _ hr10 hrG10).mono ?_; rintro e w11 ⟨rfl, hd11⟩
          have hb11' := hd11.below w10.heap.size
          have hfG11 := hfG10.below hb11'
          have hf811 := hf810.below hb11'
          have hf911 := hf910.below hb11'
          have hb11 := hb10.trans (hb11'.mono hb10.size)
          clear hr10 hrG10 hfG10 hf810 hf910 hb10 hb11' hd11
          obtain ⟨xs1, hx1, hl1, hn1, ho1⟩ := rawF_of_row hf811
          obtain ⟨xs2, hx2, hl2, hn2, ho2⟩ := rawF_of_row hf911
          have hown0 : Own (w11.alloc (.cells #[] 39)) w11.heap.size 39 3 (.slice (some ⟨w11.heap.size, 0, none⟩) 0 0) 0 [] := own_lit 39 3 #[] 0 (Nat.le_refl _) (by simp) rfl
          have hbl := (Below.refl w11.heap.size w11).alloc (Nat.le_refl _) (.cells #[] 39)
          have HN1 : Hid (∀ W, Below w11.heap.size w11 W → ∀ ad, b8 = some ad → ∀ j u, xs1[j]? = some u → W.cell? (ad.add j) = some u) := Lib.hid (fun W hb ad e j u hu => (hb.cell (p := ad.add j) (World.block_lt_of_cell? _ _ (hn1 ad e j u hu))).trans (hn1 ad e j u hu))
          have HN2 : Hid (∀ W, Below w11.heap.size w11 W → ∀ ad, b9 = some ad → ∀ j u, xs2[j]? = some u → W.cell? (ad.add j) = some u) := Lib.hid (fun W hb ad e j u hu => (hb.cell (p := ad.add j) (World.block_lt_of_cell? _ _ (hn2 ad e j u hu))).trans (hn2 ad e j u hu))
          have HE1 : Hid (b8 = none → X1.length = 0 ∧ d8 = 0) := Lib.hid (fun e => ⟨by
            rcases Nat.eq_zero_or_pos X1.length with h | h
            · exact h
            · obtain ⟨b', o', he, -⟩ := hf811.2.2 h; (rw [e] at he; cases he), HZF.out e⟩)
          have HE2 : Hid (b9 = none → X2.length = 0 ∧ d9 = 0) := Lib.hid (fun e => ⟨by
            rcases Nat.eq_zero_or_pos X2.length with h | h
            · exact h
            · obtain ⟨b', o', he, -⟩ := hf911.2.2 h; (rw [e] at he; cases he), HZ9.out e⟩)
          have HC1 := Lib.hid (HN1.out _ hbl)
          clear hn1 hn2 hf811 hf911
          go_wp2_with (first | (at_builtin; refine wpList_append_rows (by first | rfl | simp [Region.wanted, yielded]) _ _ 27 rfl w11.heap.size 39 (.agg #[.bool false, .slice none 0 0, .slice none 0 0]) 3 56 Try.underlying27 infoEffS rfl (by decide) _ 0 [] xs1 (by rfl) hown0 b8 X1.length d8 (by rfl) HE1.out hl1 HC1.out ho1 (by omega) (by decide) (by simp) ?_; intro v12 w12 ho12 hg12; have hb12 := hbl.grown hg12 (by simp) (fun q hq => (hown0.1.lt q hq).1); have HC2 := Lib.hid (HN2.out _ hb12); have hs12 := hb12.size; rw [Nat.zero_add, List.nil_append] at ho12; clear hown0) | (at_builtin; refine wpList_append_rows (by first | rfl | simp [Region.wanted, yielded]) _ _ 27 rfl w11.heap.size 39 (.agg #[.bool false, .slice none 0 0, .slice none 0 0]) 3 56 Try.underlying27 infoEffS rfl (by decide) _ X1.length xs1 xs2 (by rfl) ho12 b9 X2.length d9 (by rfl) HE2.out hl2 HC2.out ho2 (by omega) (by decide) hs12 ?_; intro v13 w13 ho13 hg13; have hb13 := hb12.grown hg13 hs12 (fun q hq => (ho12.1.lt q hq).1); have hraw := (hx1.below hb13).append (hx2.below hb13); obtain ⟨a13, c13, rfl, hr13, -, -⟩ := rowFs_of_raw (L := X1 ++ X2) (by rw [List.length_append]; exact ho13.1) hraw; clear ho12))
          rw [HPP.out.2] at hr13
          have hv13 : Value.slice a13 (X1.length + X2.length) c13 = .slice a13 X.length c13 := by rw [← List.length_append, HPP.out.2]
          rw [hv13]
          have hfG13 := hfG11.below hb13
          clear hv13 hraw hg12 hg13 ho13 hb12 hbl hx1 hx2 hfG11
          refine (sameEffects_same _ _ _ c13 dG X _ hr13 hfG13).mono ?_; rintro e w14 ⟨rfl, hb14'⟩
          have hb13w := hb11.trans (hb13.mono hb11.size)
          go_wp2
          go_ret
          exact ⟨rfl, hb13w.trans (hb14'.mono hb13w.size)⟩
        · have hD : RowA w8 (some ⟨gA, k * 4, none⟩) (m - k) (L.drop k) := by have := hrA8.drop k hkm; rw [Nat.zero_add] at this; exact this
          have hkc2 : k < cA := by omega
          go_wp2_with fail
          refine (runSerial_impl _ _ c8 P1 _ _ (cA - k) (L.drop k) _ hr8 HZ8.out hD).mono ?_; rintro e w9 ⟨v9, u9, rfl, hF9, hb9'⟩
          rw [HPP.out.1, ← HX2.out] at hF9
          obtain ⟨a9, c9, rfl, hr9, -⟩ := hF9.row hP4
          obtain ⟨b9, d9, rfl, hf9, hz9, -⟩ := rowFs_of_own hF9.effs
          have hrG9 := hrG8.below hb9'
          have hfG9 := hfG8.below hb9'
          have hf89 := hf8.below hb9'
          have hb9 := hb8.trans (hb9'.mono hb8.size)
          have HZ9 := Lib.hid hz9
          clear hrG8 hfG8 hf8 hb8 hb9' hF9 hr8 hrA8 hz9
          go_wp2_with fail
          refine (storeValid_impl _ _ cG P _ hrG9).mono ?_; rintro e w10 ⟨rfl, hb10'⟩
          rw [HPB.out]
          have hr10 := hr9.below hb10'
          have hrG10 := hrG9.below hb10'
          have hfG10 := hfG9.below hb10'
          have hf810 := hf89.below hb10'
          have hf910 := hf9.below hb10'
          have hb10 := hb9.trans (hb10'.mono hb9.size)
          clear hr9 hrG9 hfG9 hf89 hf9 hb9 hb10'
          go_wp2_with fail
          refine (sameStore_same _ _ _ c9 cG P _ hr10 hrG10).mono ?_; rintro e w11 ⟨rfl, hd11⟩
          have hb11' := hd11.below w10.heap.size
          have hfG11 := hfG10.below hb11'
          have hf811 := hf810.below hb11'
          have hf911 := hf910.below hb11'
          have hb11 := hb10.trans (hb11'.mono hb10.size)
          clear hr10 hrG10 hfG10 hf810 hf910 hb10 hb11' hd11
          obtain ⟨xs1, hx1, hl1, hn1, ho1⟩ := rawF_of_row hf811
          obtain ⟨xs2, hx2, hl2, hn2, ho2⟩ := rawF_of_row hf911
          have hown0 : Own (w11.alloc (.cells #[] 39)) w11.heap.size 39 3 (.slice (some ⟨w11.heap.size, 0, none⟩) 0 0) 0 [] := own_lit 39 3 #[] 0 (Nat.le_refl _) (by simp) rfl
          have hbl := (Below.refl w11.heap.size w11).alloc (Nat.le_refl _) (.cells #[] 39)
          have HN1 : Hid (∀ W, Below w11.heap.size w11 W → ∀ ad, b8 = some ad → ∀ j u, xs1[j]? = some u → W.cell? (ad.add j) = some u) := Lib.hid (fun W hb ad e j u hu => (hb.cell (p := ad.add j) (World.block_lt_of_cell? _ _ (hn1 ad e j u hu))).trans (hn1 ad e j u hu))
          have HN2 : Hid (∀ W, Below w11.heap.size w11 W → ∀ ad, b9 = some ad → ∀ j u, xs2[j]? = some u → W.cell? (ad.add j) = some u) := Lib.hid (fun W hb ad e j u hu => (hb.cell (p := ad.add j) (World.block_lt_of_cell? _ _ (hn2 ad e j u hu))).trans (hn2 ad e j u hu))
          have HE1 : Hid (b8 = none → X1.length = 0 ∧ d8 = 0) := Lib.hid (fun e => ⟨by
            rcases Nat.eq_zero_or_pos X1.length with h | h
            · exact h
            · obtain ⟨b', o', he, -⟩ := hf811.2.2 h; (rw [e] at he; cases he), HZF.out e⟩)
          have HE2 : Hid (b9 = none → X2.length = 0 ∧ d9 = 0) := Lib.hid (fun e => ⟨by
            rcases Nat.eq_zero_or_pos X2.length with h | h
            · exact h
            · obtain ⟨b', o', he, -⟩ := hf911.2.2 h; (rw [e] at he; cases he), HZ9.out e⟩)
          have HC1 := Lib.hid (HN1.out _ hbl)
          clear hn1 hn2 hf811 hf911
          go_wp2_with (first | (at_builtin; refine wpList_append_rows (by first | rfl | simp [Region.wanted, yielded]) _ _ 27 rfl w11.heap.size 39 (.agg #[.bool false, .slice none 0 0, .slice none 0 0]) 3 56 Try.underlying27 infoEffS rfl (by decide) _ 0 [] xs1 (by rfl) hown0 b8 X1.length d8 (by rfl) HE1.out hl1 HC1.out ho1 (by omega) (by decide) (by simp) ?_; intro v12 w12 ho12 hg12; have hb12 := hbl.grown hg12 (by simp) (fun q hq => (hown0.1.lt q hq).1); have HC2 := Lib.hid (HN2.out _ hb12); have hs12 := hb12.size; rw [Nat.zero_add, List.nil_append] at ho12; clear hown0) | (at_builtin; refine wpList_append_rows (by first | rfl | simp [Region.wanted, yielded]) _ _ 27 rfl w11.heap.size 39 (.agg #[.bool false, .slice none 0 0, .slice none 0 0]) 3 56 Try.underlying27 infoEffS rfl (by decide) _ X1.length xs1 xs2 (by rfl) ho12 b9 X2.length d9 (by rfl) HE2.out hl2 HC2.out ho2 (by omega) (by decide) hs12 ?_; intro v13 w13 ho13 hg13; have hb13 := hb12.grown hg13 hs12 (fun q hq => (ho12.1.lt q hq).1); have hraw := (hx1.below hb13).append (hx2.below hb13); obtain ⟨a13, c13, rfl, hr13, -, -⟩ := rowFs_of_raw (L := X1 ++ X2) (by rw [List.length_append]; exact ho13.1) hraw; clear ho12))
          rw [HPP.out.2] at hr13
          have hv13 : Value.slice a13 (X1.length + X2.length) c13 = .slice a13 X.length c13 := by rw [← List.length_append, HPP.out.2]
          rw [hv13]
          have hfG13 := hfG11.below hb13
          clear hv13 hraw hg12 hg13 ho13 hb12 hbl hx1 hx2 hfG11
          refine (sameEffects_same _ _ _ c13 dG X _ hr13 hfG13).mono ?_; rintro e w14 ⟨rfl, hb14'⟩
          have hb13w := hb11.trans (hb13.mono hb11.size)
          go_wp2
          go_ret
          exact ⟨rfl, hb13w.trans (hb14'.mono hb13w.size)⟩
  · have hs' : (1048576 : Int) < (len : Int) := by omega
    clear h hlc
    go_enter Try.func3, Try.ntmps3
    go_wp2
    go_ret
    exact ⟨rfl, Below.refl _ _⟩
end Go.Proofs.Ytpnahncmhldgdaa
