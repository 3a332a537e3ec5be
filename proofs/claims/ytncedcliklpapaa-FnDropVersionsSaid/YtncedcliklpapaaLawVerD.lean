/- The walk of the law FnDropVersions. -/
import Derived.Test.YtncedcliklpapaaDrawVer2
import Derived.Test.YtncedcliklpapaaImplVer
import Derived.Test.YtncedcliklpapaaConvV2
import Derived.Test.YtncedcliklpapaaOne
namespace Go.Proofs.Ytncedcliklpapaa
open Go.RowKit
set_option linter.unusedVariables false
set_option linter.unusedSimpArgs false
theorem drop_valid {L : List Ver} (h : versB L = true) (by_ : Int) : versB (dropL L by_) = true := (versB_ok _).2 (ok_dropL ((versB_ok L).1 h) by_)
theorem drop_again {L : List Ver} (h : versB L = true) (by_ : Int) : dropVM (dropVM L by_) by_ = dropVM L by_ := by
  have e : dropVM L by_ = dropL L by_ := by unfold dropVM; rw [h]; rfl
  rw [e]; unfold dropVM; rw [drop_valid h]; exact dropL_again L by_
set_option maxHeartbeats 4000000 in
theorem lawDropVersions (a : Option Addr) (len cap : Nat) (z : List Int) (w : World) (h : RowB w a len z) (hc : a = none → cap = 0) (hlc : len ≤ cap) :
    Calls Try.prog 5 #[.slice a len cap] w (LawTrue w) := by
  by_cases hs : len ≤ 1048576
  · have hs' : ¬ (1048576 : Int) < (len : Int) := by omega
    go_enter Try.func5, Try.ntmps5
    go_wp2_with fail
    refine (drawDropVersions_any a len cap z w h hlc).mono ?_; rintro e w1 ⟨g, c, L, by_, rfl, hr, hcc, hl3, hbk, hb1⟩
    clear h hs hs' hc hlc
    obtain ⟨n, hn⟩ : ∃ n, n = L.length := ⟨_, rfl⟩
    have HL := Lib.hid hn.symm
    rw [← hn] at hr hcc hl3 ⊢
    clear hn
    have hDl := dropVM_len L by_
    have HAG := Lib.hid (fun h => drop_again (L := L) h by_)
    have HNO : Hid (versB L = false → dropVM L by_ = []) := Lib.hid (fun h => by unfold dropVM; rw [h]; rfl)
    have HYS : Hid (versB L = true → dropVM L by_ = dropL L by_ ∧ versB (dropVM L by_) = true) := Lib.hid (fun h => by
      have e : dropVM L by_ = dropL L by_ := by unfold dropVM; rw [h]; rfl
      rw [e]; exact ⟨rfl, drop_valid h by_⟩)
    obtain ⟨D, hD⟩ : ∃ D, D = dropVM L by_ := ⟨_, rfl⟩
    have HD := Lib.hid hD.symm
    rw [← hD] at hDl HAG HNO HYS
    clear hD
    go_wp2_with fail
    refine (dropVersions_impl _ n c L by_ _ hr).mono ?_; rintro e w2 ⟨v2, rfl, ho2, hw2, hb2'⟩
    rw [HD.out] at ho2 hw2
    obtain ⟨a2, c2, rfl, hr2, -, -, -⟩ := rowV_of_owns ho2 (by omega) hw2
    have hrL2 := hr.below hb2'
    have hb2 := hb1.trans (hb2'.mono hb1.size)
    clear hr hb1 hb2' ho2
    go_wp2_with fail
    refine (dropVersions_spec _ n c L by_ _ hrL2).mono ?_; rintro e w3 ⟨v3, rfl, ho3, hw3, hb3'⟩
    rw [HD.out] at ho3 hw3
    obtain ⟨g3, c3, rfl, -, -, hr3, -⟩ := rowV_of_own ho3 (by omega) hw3
    have hrL3 := hrL2.below hb3'
    have hrD3 := hr2.below hb3'
    have hb3 := hb2.trans (hb3'.mono hb2.size)
    clear hrL2 hr2 hb2 hb3' ho3
    go_wp2_with fail
    refine (sameVersions_same _ _ _ c2 c3 D _ hrD3 hr3).mono ?_; rintro e w4 ⟨rfl, hd4⟩
    have hrL4 := hrL3.below (hd4.below w3.heap.size)
    have hrD4 := hrD3.below (hd4.below w3.heap.size)
    have hb4 := hb3.trans ((hd4.below _).mono hb3.size)
    clear hrL3 hrD3 hr3 hd4 hb3
    go_wp2_with fail
    refine (versionsValid_spec _ n c L _ hrL4).mono ?_; rintro e w5 ⟨rfl, hb5'⟩
    have hrL5 := hrL4.below hb5'
    have hrD5 := hrD4.below hb5'
    have hb5 := hb4.trans (hb5'.mono hb4.size)
    clear hrL4 hrD4 hb5' hb4
    cases hv : versB L with
    | false =>
      have hD0 := HNO.out hv
      have HB := Lib.hid hb5
      subst hD0
      clear hrL5 hrD5 hv hb5
      go_wp2_with fail
      refine (alive_any _).mono ?_; rintro e w6 ⟨rfl, hb6'⟩
      go_wp2
      go_ret
      exact ⟨rfl, HB.out.trans (hb6'.mono HB.out.size)⟩
    | true =>
      obtain ⟨hD1, hD2⟩ := HYS.out hv
      have HD1 := Lib.hid hD1
      have HD2 := Lib.hid hD2
      have HAG2 := Lib.hid (HAG.out hv)
      have HR := Lib.hid hrL5
      have HRD := Lib.hid hrD5
      have HB := Lib.hid hb5
      clear hv hD1 hD2 HYS HNO HAG hrL5 hrD5 hb5
      go_wp2
      go_loopw [6, 7] (fun q i wr => ∃ k : Nat, k ≤ n ∧ i = .int .i64 k ∧ q = .int .i64 ((dropL (L.take k) by_).length : Int) ∧ wr = w5) (fun _ i _ => n - (intOf i).toNat)
      case atStart => exact ⟨0, Nat.zero_le _, rfl, rfl, rfl⟩
      case round =>
        obtain ⟨k, hk2, rfl, rfl, rfl⟩ := hrel
        by_cases hlt : k < n
        · obtain ⟨d0, d1, d2⟩ := HR.out.cells hlt
          have HN := Lib.hid (dropL_next L by_ k (by rw [HL.out]; exact hlt))
          have hel : (dropL (L.take k) by_).length ≤ 330 := by
            refine Nat.le_trans (List.length_filter_le _ _) ?_
            rw [List.length_take]; omega
          obtain ⟨x, hx⟩ : ∃ x, x = L.getD k noV := ⟨_, rfl⟩
          rw [← hx] at d0 d1 d2 HN
          clear hx
          obtain ⟨p, q, r⟩ := x
          simp only [Nat.zero_add] at d0 d1 d2 HN
          cases e1 : (q == by_) with
          | true =>
            have e2 : (q != by_) = false := by simp [bne, e1]
            have HF : Hid ((dropL (L.take (k + 1)) by_).length = (dropL (L.take k) by_).length) := Lib.hid (by rw [HN.out, if_neg]; simpa using e1)
            clear HN
            go_wp2
            go_roundw
            case rel => exact ⟨k + 1, by omega, by go_num, by rw [HF.out], by first | rfl | trivial⟩
            case measure => simp [intOf]; omega
          | false =>
            have e2 : (q != by_) = true := by simp [bne, e1]
            have HF : Hid ((dropL (L.take (k + 1)) by_).length = (dropL (L.take k) by_).length + 1) := Lib.hid (by rw [HN.out, if_pos (by simpa using e1)]; simp)
            clear HN
            go_wp2
            go_roundw
            case rel => exact ⟨k + 1, by omega, by go_num, by rw [HF.out]; go_num, by first | rfl | trivial⟩
            case measure => simp [intOf]; omega
        · obtain rfl : k = n := by omega
          have e : L.take k = L := List.take_of_length_le (by rw [HL.out]; omega)
          rw [e, ← HD1.out]
          clear e
          have hqq : ((D.length : Int) == (D.length : Int)) = true := by simp
          go_wp2_with fail
          refine (versionsValid_impl _ _ c2 D _ HRD.out).mono ?_; rintro e w6 ⟨rfl, hb6'⟩
          rw [HD2.out]
          have hrD6 := HRD.out.below hb6'
          have hb6 := HB.out.trans (hb6'.mono HB.out.size)
          clear hb6'
          go_wp2_with fail
          refine (dropVersions_impl _ _ c2 D by_ _ hrD6).mono ?_; rintro e w7 ⟨v7, rfl, ho7, hw7, hb7'⟩
          rw [HAG2.out] at ho7 hw7
          obtain ⟨a7, c7, rfl, hr7, -, -, -⟩ := rowV_of_owns ho7 (by omega) hw7
          have hrD7 := hrD6.below hb7'
          have hb7 := hb6.trans (hb7'.mono hb6.size)
          clear hrD6 hb6 hb7' ho7
          go_wp2_with fail
          refine (sameVersions_same _ _ _ c7 c2 D _ hr7 hrD7).mono ?_; rintro e w8 ⟨rfl, hd8⟩
          go_wp2
          go_ret
          exact ⟨rfl, hb7.trans ((hd8.below _).mono hb7.size)⟩
  · have hs' : (1048576 : Int) < (len : Int) := by omega
    clear h hlc
    go_enter Try.func5, Try.ntmps5
    go_wp2
    go_ret
    exact ⟨rfl, Below.refl _ _⟩
end Go.Proofs.Ytncedcliklpapaa
