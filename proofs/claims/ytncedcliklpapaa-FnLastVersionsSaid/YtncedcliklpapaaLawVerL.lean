/- The walk of the law FnLastVersions. -/
import Derived.Test.YtncedcliklpapaaDrawVer2
import Derived.Test.YtncedcliklpapaaImplVer2
import Derived.Test.YtncedcliklpapaaTwo
import Derived.Test.YtncedcliklpapaaConv
import Derived.Test.YtncedcliklpapaaOne
import Derived.Test.YtncedcliklpapaaSpecVer3
namespace Go.Proofs.Ytncedcliklpapaa
open Go.RowKit
set_option linter.unusedVariables false
set_option linter.unusedSimpArgs false
/-- What the law asks of the store that remains. -/
theorem last_parts {S : List Ent} {L : List Ver} (h : storeB S = true) (h2 : versB L = true) : storeB (lastVM S L) = true ∧ lastVM S [] = S ∧ ∀ k : Nat, k < 32 → readVM S L k 10 = readL S L k 10 ∧ valueM (lastVM S L) k = (readL S L k 10).1 := by
  have hL := (versB_ok L).1 h2
  have hB : storeB (lastVM S L) = true := by rw [lastVM_yes h h2]; exact (storeB_ok _).2 (ok_lastN h hL)
  refine ⟨hB, ?_, fun k hk => ⟨readVM_yes h h2 (inB_yes (by omega) (by omega)) (by rfl), ?_⟩⟩
  · rw [lastVM_yes h (by rfl)]; exact last_nil h
  · unfold valueM
    rw [hB, inB_yes (by omega : (0 : Int) ≤ k) (by omega)]
    rw [if_pos (by rfl), lastVM_yes h h2]
    exact atM_lastN h hL (by omega) (by omega)
set_option maxHeartbeats 4000000 in
theorem lawLastVersions (a : Option Addr) (len cap : Nat) (z : List Int) (w : World) (h : RowB w a len z) (hc : a = none → cap = 0) (hlc : len ≤ cap) :
    Calls Try.prog 7 #[.slice a len cap] w (LawTrue w) := by
  by_cases hs : len ≤ 1048576
  · have hs' : ¬ (1048576 : Int) < (len : Int) := by omega
    go_enter Try.func7, Try.ntmps7
    go_wp2_with fail
    refine (drawLastVersions_any a len cap z w h hlc).mono ?_; rintro e w1 ⟨g0, c0, S, g, c, L, rfl, hrS, hr, hcc, hSl, hl3, hb1⟩
    clear h hs hs' hc hlc
    obtain ⟨n, hn⟩ : ∃ n, n = L.length := ⟨_, rfl⟩
    obtain ⟨m, hm⟩ : ∃ m, m = S.length := ⟨_, rfl⟩
    rw [← hn] at hr hcc hl3 ⊢
    rw [← hm] at hrS hSl ⊢
    clear hn hm
    have hXl := lastVM_len S L
    have HNO : Hid ((storeB S && versB L) = false → lastVM S L = []) := Lib.hid lastVM_no
    have HYS := Lib.hid (fun h1 h2 => last_parts (S := S) (L := L) h1 h2)
    obtain ⟨X, hX⟩ : ∃ X, lastVM S L = X := ⟨_, rfl⟩
    rw [hX] at hXl HNO HYS
    have HX := Lib.hid hX
    clear hX
    go_wp2_with fail
    refine (lastVersions_impl _ m c0 S _ n c L _ hrS hr).mono ?_; rintro e w2 ⟨v2, rfl, ho2, hw2, hb2'⟩
    rw [HX.out] at ho2 hw2
    obtain ⟨a2, c2, rfl, hr2, -⟩ := rowE_of_owns ho2 (by omega) hw2
    have hrS2 := hrS.below hb2'
    have hrL2 := hr.below hb2'
    have hb2 := hb1.trans (hb2'.mono hb1.size)
    clear hrS hr hb1 hb2' ho2
    go_wp2_with fail
    refine (lastVersions_spec _ m c0 S _ n c L _ hrS2 hrL2).mono ?_; rintro e w3 ⟨v3, rfl, ho3, hw3, hb3'⟩
    rw [HX.out] at ho3 hw3
    obtain ⟨g3, c3, rfl, -, hr3⟩ := rowE_of_own ho3 (by omega) hw3
    have hrS3 := hrS2.below hb3'
    have hrL3 := hrL2.below hb3'
    have hrX3 := hr2.below hb3'
    have hb3 := hb2.trans (hb3'.mono hb2.size)
    clear hrS2 hrL2 hr2 hb2 hb3' ho3
    go_wp2_with fail
    refine (sameStore_same _ _ _ c2 c3 X _ hrX3 hr3).mono ?_; rintro e w4 ⟨rfl, hd4⟩
    have hrS4 := hrS3.below (hd4.below w3.heap.size)
    have hrL4 := hrL3.below (hd4.below w3.heap.size)
    have hrX4 := hrX3.below (hd4.below w3.heap.size)
    have hb4 := hb3.trans ((hd4.below _).mono hb3.size)
    clear hrS3 hrL3 hrX3 hr3 hd4 hb3
    go_wp2_with fail
    refine (storeValid_spec _ m c0 S _ hrS4).mono ?_; rintro e w5 ⟨rfl, hd5⟩
    have hrS5 := hrS4.below (hd5.below w4.heap.size)
    have hrL5 := hrL4.below (hd5.below w4.heap.size)
    have hrX5 := hrX4.below (hd5.below w4.heap.size)
    have hb5 := hb4.trans ((hd5.below _).mono hb4.size)
    clear hrS4 hrL4 hrX4 hd5 hb4
    cases h1 : storeB S with
    | false =>
      have hx := HNO.out (by rw [h1]; rfl)
      subst hx
      clear hrS5 hrL5 hrX5 h1
      go_wp2_with fail
      refine (alive_any _).mono ?_; rintro e w6 ⟨rfl, hb6'⟩
      go_wp2
      go_ret
      exact ⟨rfl, hb5.trans (hb6'.mono hb5.size)⟩
    | true =>
      go_wp2_with fail
      refine (versionsValid_spec _ n c L _ hrL5).mono ?_; rintro e w6 ⟨rfl, hb6'⟩
      have hrS6 := hrS5.below hb6'
      have hrL6 := hrL5.below hb6'
      have hrX6 := hrX5.below hb6'
      have hb6 := hb5.trans (hb6'.mono hb5.size)
      clear hrS5 hrL5 hrX5 hb5 hb6'
      cases h2 : versB L with
      | false =>
        have hx := HNO.out (by rw [h1, h2]; rfl)
        subst hx
        clear hrS6 hrL6 hrX6 h1 h2
        go_wp2_with fail
        refine (alive_any _).mono ?_; rintro e w7 ⟨rfl, hb7'⟩
        go_wp2
        go_ret
        exact ⟨rfl, hb6.trans (hb7'.mono hb6.size)⟩
      | true =>
        obtain ⟨hp1, hp2, hp3⟩ := HYS.out h1 h2
        have HP1 := Lib.hid hp1
        have HP2 := Lib.hid hp2
        have HP3 := Lib.hid hp3
        have HRS := Lib.hid hrS6
        have HRL := Lib.hid hrL6
        have HRX := Lib.hid hrX6
        have HB := Lib.hid hb6
        clear hp1 hp2 hp3 HYS HNO hrS6 hrL6 hrX6 hb6 h1 h2
        go_wp2
        go_loopw [6] (fun i wr => ∃ k : Nat, k ≤ 32 ∧ i = .int .i64 k ∧ Below w6.heap.size w6 wr) (fun i _ => 32 - (intOf i).toNat)
        case atStart => exact ⟨0, Nat.zero_le _, rfl, Below.refl _ _⟩
        case round =>
          obtain ⟨k, hk, rfl, hb⟩ := hrel
          by_cases hlt : k < 32
          · have hd : decide ((k : Int) ≤ 31) = true := by simp; omega
            obtain ⟨hq1, hq2⟩ := HP3.out k hlt
            obtain ⟨zz, hz⟩ : ∃ zz, readL S L (k : Int) 10 = zz := ⟨_, rfl⟩
            rw [hz] at hq1 hq2
            have HQ1 := Lib.hid hq1
            have HQ2 := Lib.hid hq2
            clear hq1 hq2 hz
            obtain ⟨z1, z2⟩ := zz
            have hvv : (z1 != z1) = false := by simp
            go_wp2_with fail
            refine (readVersion_impl _ m c0 S _ n c L (k : Int) 10 _ (HRS.out.below hb) (HRL.out.below hb)).mono ?_; rintro e w7 ⟨rfl, hb7'⟩
            rw [HQ1.out]
            have hb7 := hb.trans (hb7'.mono hb.size)
            clear hb hb7'
            go_wp2_with fail
            refine (valueAt_impl _ _ c2 X (k : Int) _ (HRX.out.below hb7)).mono ?_; rintro e w8 ⟨rfl, hb8'⟩
            rw [HQ2.out]
            have hb8 := hb7.trans (hb8'.mono hb7.size)
            clear hb7 hb8'
            go_wp2
            go_roundw
            case rel => exact ⟨k + 1, by omega, by go_num, hb8⟩
            case measure => simp [intOf]; omega
          · obtain rfl : k = 32 := by omega
            have hd : decide (((32 : Nat) : Int) ≤ 31) = false := by decide
            have hb7 := HB.out.trans (hb.mono HB.out.size)
            have hrX := HRX.out.below hb
            have hrS := HRS.out.below hb
            clear hb
            go_wp2_with fail
            refine (storeValid_impl _ _ c2 X _ hrX).mono ?_; rintro e w8 ⟨rfl, hb8'⟩
            rw [HP1.out]
            have hrS8 := hrS.below hb8'
            have hb8 := hb7.trans (hb8'.mono hb7.size)
            clear hrX hrS hb7 hb8'
            go_wp2_with fail
            refine (lastVersions_impl _ m c0 S none 0 0 [] _ hrS8 (rowV_empty _ _)).mono ?_; rintro e w9 ⟨v9, rfl, ho9, hw9, hb9'⟩
            rw [HP2.out] at ho9 hw9
            have hlS : S.length = m := hrS8.1
            obtain ⟨a9, c9, rfl, hr9, -⟩ := rowE_of_owns ho9 (by omega) hw9
            rw [hlS] at hr9 ⊢
            have hrS9 := hrS8.below hb9'
            have hb9 := hb8.trans (hb9'.mono hb8.size)
            clear hrS8 hb8 hb9' ho9 hlS
            go_wp2_with fail
            refine (sameStore_same _ _ _ c9 c0 S _ hr9 hrS9).mono ?_; rintro e w10 ⟨rfl, hd10⟩
            go_wp2
            go_ret
            exact ⟨rfl, hb9.trans ((hd10.below _).mono hb9.size)⟩
  · have hs' : (1048576 : Int) < (len : Int) := by omega
    clear h hlc
    go_enter Try.func7, Try.ntmps7
    go_wp2
    go_ret
    exact ⟨rfl, Below.refl _ _⟩
end Go.Proofs.Ytncedcliklpapaa
