/- The walk of the law FnSerialVersions. -/
import Derived.Test.YtaaffpolmecicabGreatDrawFs
import Derived.Test.YtaaffpolmecicabGreatImplSer
import Derived.Test.YtaaffpolmecicabGreatKeyC
import Derived.Test.YtaaffpolmecicabGreatImplVer2
import Derived.Test.YtaaffpolmecicabGreatSpecXb
import Derived.Test.YtaaffpolmecicabGreatConvX
import Derived.Test.YtaaffpolmecicabGreatConv
import Derived.Test.YtaaffpolmecicabGreatOne
import Derived.Test.YtaaffpolmecicabGreatVerA
namespace Go.Proofs.YtaaffpolmecicabGreat
open Go.RowKit
set_option linter.unusedVariables false
set_option linter.unusedSimpArgs false
/-- The cells of an element of a row of effects. -/
theorem RowFs.atV {w : World} {a : Option Addr} {n : Nat} {L : List Eff} (h : RowFs w a n L) (k : Nat) (hk : k < n) :
    ∃ (b off : Nat) (a1 : Option Addr) (n1 c1 : Nat) (a2 : Option Addr) (n2 c2 : Nat), a = some ⟨b, off, none⟩ ∧ w.cell? ⟨b, off + k * 3 + 1, none⟩ = some (.slice a1 n1 c1) ∧ w.cell? ⟨b, off + k * 3 + 2, none⟩ = some (.slice a2 n2 c2) ∧ RowE w a1 n1 (L.getD k noEff).rds ∧ RowE w a2 n2 (L.getD k noEff).wrs := by
  obtain ⟨-, -, h3⟩ := h
  obtain ⟨b, o, e, hc⟩ := h3 (by omega)
  obtain ⟨c0, ⟨x, c1, s1⟩, y, c2, s2⟩ := hc k hk
  obtain ⟨a1, n1, cap1, rfl, h1, -⟩ := s1
  obtain ⟨a2, n2, cap2, rfl, h2, -⟩ := s2
  exact ⟨b, o, a1, n1, cap1, a2, n2, cap2, e, c1, c2, h1, h2⟩
theorem getD_memE0 (l : List Ent) (k : Nat) (h : k < l.length) : l.getD k (0, 0) ∈ l := by
  rw [List.getD_eq_getElem?_getD, List.getElem?_eq_getElem h]; exact List.getElem_mem h
/-- What the law asks of the versions of a serial run. -/
theorem ser_parts_vs {S : List Ent} {L : List Acn} (hS : storeB S = true) (hL : actsB L = true) {X : List Eff} (hX : X = (serM S L).2) :
    (∀ k, k ≤ X.length → (vsN X k).length ≤ 320) ∧ (∀ k, k < X.length → putVM (vsN X k) k (X.getD k noEff).wrs = (vsN X (k + 1), true)) ∧
    (∀ k, k < X.length → ∀ j, j < (X.getD k noEff).rds.length → (readVM S (vsN X X.length) ((X.getD k noEff).rds.getD j (0, 0)).1 k).1 = ((X.getD k noEff).rds.getD j (0, 0)).2) ∧ lastVM S (vsN X X.length) = (serM S L).1 := by
  rw [serM_yes hS hL] at hX ⊢
  have hl : X.length = L.length := by rw [hX]; exact serL_len S L
  have hl10 := (actsB_true hL).1
  have hget : ∀ k, k < L.length → X.getD k noEff = runM (serL S (L.take k)).1 (L.getD k noA) := fun k hk => by rw [hX]; exact ser_getV L S k hk
  have hW : ∀ k, k < X.length → writesB (X.getD k noEff).wrs = true := fun k hk => by rw [hget k (by omega)]; exact wr_run _ _
  have hV := fun k hk => vsN_spec (by omega) hW k hk
  have hVB : ∀ k, k ≤ X.length → versB (vsN X k) = true := fun k hk => (versB_ok _).2 (hV k hk).1
  refine ⟨fun k hk => vers_len (hV k hk).1, fun k hk => ?_, fun k hk j hj => ?_, ?_⟩
  · rw [putVM_yes (hVB k (by omega)) (inB_yes (by omega) (by omega)) (hW k hk)]; rfl
  · have hst := store_ser (L.take k) hS
    have hm : (X.getD k noEff).rds.getD j (0, 0) ∈ (X.getD k noEff).rds := getD_memE0 _ _ hj
    have hact : actB (L.getD k noA) = true := (actsB_true hL).2 _ (by rw [List.getD_eq_getElem?_getD, List.getElem?_eq_getElem (by omega : k < L.length)]; exact List.getElem_mem _)
    rw [hget k (by omega)] at hm ⊢
    obtain ⟨r1, r2⟩ := runM_read hst hact _ hm
    rw [readVM_yes hS (hVB _ (Nat.le_refl _)) (inB_yes r1.1 r1.2) (inB_yes (by omega) (by omega)), ← r2]
    have := ser_versions hS hL (key := ((runM (serL S (L.take k)).1 (L.getD k noA)).rds.getD j (0, 0)).1) k (by omega)
    rw [← hX, ← hl] at this
    exact this
  · rw [lastVM_yes hS (hVB _ (Nat.le_refl _))]
    have := vs_last hS hL
    rw [← hX, ← hl] at this
    exact this
set_option maxRecDepth 100000 in
set_option maxHeartbeats 8000000 in
theorem lawSerialVersions (a : Option Addr) (len cap : Nat) (z : List Int) (w : World) (h : RowB w a len z) (hc : a = none → cap = 0) (hlc : len ≤ cap) :
    Calls Tryz.prog 3 #[.slice a len cap] w (LawTrue w) := by
  by_cases hs : len ≤ 1048576
  · have hs' : ¬ (1048576 : Int) < (len : Int) := by omega
    go_enter Tryz.func3, Tryz.ntmps3
    go_wp2_with fail
    refine (drawRunSerial_any a len cap z w h hlc).mono ?_; rintro e w1 ⟨gS, cS, S, gA, cA, L, rfl, hrS, hSl, hrA, hlA, hl20, hb1⟩
    clear h hs hs' hc hlc
    have HZ : Hid (some (⟨gS, 0, none⟩ : Addr) = none → cS = 0) := Lib.hid (fun h => by cases h)
    have hPl := serM_store S L
    have hXl := serM_len S L
    obtain ⟨P, hP⟩ : ∃ P, P = (serM S L).1 := ⟨_, rfl⟩
    obtain ⟨X, hX⟩ : ∃ X, X = (serM S L).2 := ⟨_, rfl⟩
    have HP := Lib.hid hP
    have HX := Lib.hid hX
    have HYS := Lib.hid (fun h1 h2 => ser_parts_vs (S := S) (L := L) h1 h2 hX)
    rw [← hP] at hPl HYS
    rw [← hX] at hXl
    have hP4 : P.length ≤ 4000000 := by omega
    clear hP hX
    obtain ⟨m, hm⟩ : ∃ m, m = L.length := ⟨_, rfl⟩
    rw [← hm] at hrA hlA hl20 ⊢
    clear hm
    obtain ⟨s0, hs0⟩ : ∃ s0, s0 = S.length := ⟨_, rfl⟩
    rw [← hs0] at hrS hSl ⊢
    clear hs0
    go_wp2_with fail
    refine (runSerial_impl _ _ cS S _ _ cA L _ hrS HZ.out hrA).mono ?_; rintro e w2 ⟨vG, uG, rfl, hG2, hb2'⟩
    rw [← HP.out, ← HX.out] at hG2
    obtain ⟨aG, cG, rfl, hrG2, hzG⟩ := hG2.row hP4
    obtain ⟨bG, dG, rfl, hfG2, -, -⟩ := rowFs_of_own hG2.effs
    have hrS2 := hrS.below hb2'
    have hrA2 := hrA.below hb2'
    have hb2 := hb1.trans (hb2'.mono hb1.size)
    clear hrS hrA hb1 hb2' hG2 hzG
    go_wp2_with fail
    refine (runSerial_spec _ _ cS S _ _ cA L _ hrS2 HZ.out hrA2).mono ?_; rintro e w3 ⟨vW, uW, rfl, hW3, hb3'⟩
    rw [← HP.out, ← HX.out] at hW3
    obtain ⟨aW, cW, rfl, hrW3, -⟩ := hW3.row hP4
    obtain ⟨bW, dW, rfl, hfW3, -, -⟩ := rowFs_of_own hW3.effs
    have hrS3 := hrS2.below hb3'
    have hrA3 := hrA2.below hb3'
    have hrG3 := hrG2.below hb3'
    have hfG3 := hfG2.below hb3'
    have hb3 := hb2.trans (hb3'.mono hb2.size)
    clear hrS2 hrA2 hrG2 hfG2 hb2 hb3' hW3
    go_wp2_with fail
    refine (sameStore_same _ _ _ cG cW P _ hrG3 hrW3).mono ?_; rintro e w4 ⟨rfl, hd4⟩
    have hb4' := hd4.below w3.heap.size
    have hrS4 := hrS3.below hb4'
    have hrA4 := hrA3.below hb4'
    have hrG4 := hrG3.below hb4'
    have hfG4 := hfG3.below hb4'
    have hfW4 := hfW3.below hb4'
    have hb4 := hb3.trans (hb4'.mono hb3.size)
    clear hrS3 hrA3 hrG3 hfG3 hfW3 hrW3 hb3 hb4' hd4
    go_wp2_with fail
    refine (sameEffects_same _ _ _ dG dW X _ hfG4 hfW4).mono ?_; rintro e w5 ⟨rfl, hb5'⟩
    have hrS5 := hrS4.below hb5'
    have hrA5 := hrA4.below hb5'
    have hrG5 := hrG4.below hb5'
    have hfG5 := hfG4.below hb5'
    have hb5 := hb4.trans (hb5'.mono hb4.size)
    clear hrS4 hrA4 hrG4 hfG4 hfW4 hb4 hb5'
    go_wp2_with fail
    refine (storeValid_spec _ _ cS S _ hrS5).mono ?_; rintro e w6 ⟨rfl, hd6⟩
    have hb6' := hd6.below w5.heap.size
    have hrS6 := hrS5.below hb6'
    have hrA6 := hrA5.below hb6'
    have hrG6 := hrG5.below hb6'
    have hfG6 := hfG5.below hb6'
    have hb6 := hb5.trans (hb6'.mono hb5.size)
    clear hrS5 hrA5 hrG5 hfG5 hb5 hb6' hd6
    cases hS : storeB S with
    | false =>
      clear hrG6 hfG6 hrS6 hrA6
      go_wp2_with fail
      refine (alive_any _).mono ?_; rintro e w7 ⟨rfl, hb7⟩
      go_wp2
      go_ret
      exact ⟨rfl, hb6.trans (hb7.mono hb6.size)⟩
    | true =>
      have HYS2 := Lib.hid (HYS.out hS)
      clear hS HYS
      go_wp2_with fail
      refine (actionsValid_spec _ _ cA L _ hrA6).mono ?_; rintro e w7 ⟨rfl, hb7'⟩
      have hrS7 := hrS6.below hb7'
      have hrG7 := hrG6.below hb7'
      have hfG7 := hfG6.below hb7'
      have hb7 := hb6.trans (hb7'.mono hb6.size)
      clear hrS6 hrA6 hrG6 hfG6 hb6 hb7'
      cases hA : actsB L with
      | false =>
        clear hA HP HX hrG7 hfG7 hrS7 HYS2
        go_wp2_with fail
        refine (alive_any _).mono ?_; rintro e w8 ⟨rfl, hb8⟩
        go_wp2
        go_ret
        exact ⟨rfl, hb7.trans (hb8.mono hb7.size)⟩
      | true =>
        obtain ⟨hv1, hv2, hv3, hv4⟩ := HYS2.out hA
        have HV1 := Lib.hid hv1
        have HV2 := Lib.hid hv2
        have HV3 := Lib.hid hv3
        have HV4 := Lib.hid hv4
        have HRS := Lib.hid hrS7
        have HRG := Lib.hid hrG7
        have HFG := Lib.hid hfG7
        have HB := Lib.hid hb7
        obtain ⟨n, hn⟩ : ∃ n, n = X.length := ⟨_, rfl⟩
        have HN := Lib.hid hn
        have hE0 : (w7.alloc (.cells #[] 73)).ownsRow w7.heap.size 73 3 (.slice (some ⟨w7.heap.size, 0, none⟩) 0 0) (vsN X 0).length (flatV (vsN X 0)) := (own_lit 73 3 #[] 0 (Nat.le_refl _) (by simp) rfl : Own (w7.alloc (.cells #[] 73)) w7.heap.size 73 3 (.slice (some ⟨w7.heap.size, 0, none⟩) 0 0) 0 []).1
        have hbl := (Below.refl w7.heap.size w7).alloc (Nat.le_refl _) (.cells #[] 73)
        have HE0 := Lib.hid (And.intro hE0 hbl)
        rw [← hn] at hXl HV1 HV2 HV3 HV4 ⊢
        clear hA HP HYS2 hv1 hv2 hv3 hv4 hrS7 hrG7 hfG7 hb7 hn hE0 hbl HX
        go_wp2
        go_loopw [9, 10] (fun v i wr => ∃ k : Nat, k ≤ n ∧ i = .int .i64 k ∧ wr.ownsRow w7.heap.size 73 3 v (vsN X k).length (flatV (vsN X k)) ∧ WfVs (vsN X k) ∧ Below w7.heap.size w7 wr) (fun _ i _ => n - (intOf i).toNat)
        case atStart => exact ⟨0, Nat.zero_le _, rfl, HE0.out.1, fun x hx => (by cases hx), HE0.out.2⟩
        case round =>
          clear HE0
          obtain ⟨k, hk, rfl, ho, hw, hb⟩ := hrel
          have hvl := HV1.out k hk
          obtain ⟨a9, c9, rfl, hrV, -, -, -⟩ := rowV_of_owns ho (by omega) hw
          clear ho
          by_cases hlt : k < n
          · obtain ⟨b, o, a1, n1, k1, a2, n2, k2, e1, d1, d2, hr1, hr2⟩ := (HFG.out.below hb).atV k (by rw [← HN.out]; exact hlt)
            subst e1
            have HPV := Lib.hid (HV2.out k hlt)
            obtain ⟨M, hM⟩ : ∃ M, M = vsN X (k + 1) := ⟨_, rfl⟩
            rw [← hM] at HPV
            have HM := Lib.hid hM
            clear hM hr1
            go_wp2_with fail
            refine (putVersions_impl _ _ c9 (vsN X k) (k : Int) _ n2 k2 _ _ hrV hr2).mono ?_; rintro e w9 ⟨v9, rfl, ho9, hw9, hb9'⟩
            rw [HPV.out] at ho9 hw9 ⊢
            simp only at ho9 hw9 ⊢
            have HO := Lib.hid (owns_mono ho9 hb.size)
            have hb9 := hb.trans (hb9'.mono hb.size)
            clear ho9 hb9' hb hrV hr2 d1 d2 hw
            go_wp2
            go_roundw
            case rel => exact ⟨k + 1, by omega, by go_num, by rw [← HM.out]; exact HO.out, by rw [← HM.out]; exact hw9, hb9⟩
            case measure => simp [intOf]; omega
          · obtain rfl : k = n := by omega
            obtain ⟨V, hV⟩ : ∃ V, V = vsN X k := ⟨_, rfl⟩
            rw [← hV] at hrV hvl HV3 HV4 ⊢
            have HRV := Lib.hid hrV
            obtain ⟨w9, hw9⟩ : ∃ w9, w9 = wr := ⟨wr, rfl⟩
            subst hw9
            have HRS9 := Lib.hid (HRS.out.below hb)
            have HRG9 := Lib.hid (HRG.out.below hb)
            have HFG9 := Lib.hid (HFG.out.below hb)
            have HB9 := Lib.hid (HB.out.trans (hb.mono HB.out.size))
            clear hrV hV hb hw hlt HRS HRG HFG HB
            go_wp2
            go_loopw [13] (fun i wr => ∃ q : Nat, q ≤ k ∧ i = .int .i64 q ∧ Below w9.heap.size w9 wr) (fun i _ => k - (intOf i).toNat)
            case atStart => exact ⟨0, Nat.zero_le _, rfl, Below.refl _ _⟩
            case round =>
              obtain ⟨q, hq, rfl, hb⟩ := hrel
              by_cases hlt : q < k
              · obtain ⟨b, o, a1, n1, k1, a2, n2, k2, e1, d1, d2, hr1, hr2⟩ := (HFG9.out.below hb).atV q (by rw [← HN.out]; exact hlt)
                subst e1
                have hn1 := hr1.1
                have hn1m := hr1.2.1
                unfold maxLen at hn1m
                have HRD := Lib.hid (HV3.out q hlt)
                obtain ⟨R, hR⟩ : ∃ R, R = (X.getD q noEff).rds := ⟨_, rfl⟩
                rw [← hR] at hr1 HRD hn1
                have HN1 := Lib.hid hn1
                have HR1 := Lib.hid hr1
                obtain ⟨wo, hwo⟩ : ∃ wo, wo = wr := ⟨wr, rfl⟩
                subst hwo
                have hbo : b < wo.heap.size := World.block_lt_of_cell? wo ⟨b, o + q * 3 + 1, none⟩ d1
                have HB8 := Lib.hid hb
                have hb0 : Below wo.heap.size wo wo := Below.refl _ _
                clear hR hr2 d2 hr1 hn1 hb
                go_wp2
                go_loopw [14] (fun i wr => ∃ j : Nat, j ≤ n1 ∧ i = .int .i64 j ∧ Below wo.heap.size wo wr) (fun i _ => n1 - (intOf i).toNat)
                case atStart => exact ⟨0, Nat.zero_le _, rfl, hb0⟩
                case round =>
                  clear hb0
                  obtain ⟨j, hj, rfl, hb⟩ := hrel
                  have d3 := (hb.cell (p := ⟨b, o + q * 3 + 1, none⟩) hbo).trans d1
                  by_cases hlj : j < n1
                  · obtain ⟨b4, o4, rfl, hcc⟩ := (HR1.out.below hb).2.2.1 (by omega)
                    obtain ⟨f0, f1⟩ := hcc j hlj
                    have HRJ := Lib.hid (HRD.out j (by rw [HN1.out]; exact hlj))
                    obtain ⟨x, hx⟩ : ∃ x, x = R.getD j (0, 0) := ⟨_, rfl⟩
                    rw [← hx] at f0 f1 HRJ
                    clear hx hcc
                    obtain ⟨p, r⟩ := x
                    simp only at f0 f1 HRJ
                    have hb4 : b4 < wr.heap.size := World.block_lt_of_cell? wr ⟨b4, o4 + j * 2, none⟩ f0
                    have hbw : b < wr.heap.size := Nat.lt_of_lt_of_le hbo hb.size
                    obtain ⟨zz, hz⟩ : ∃ zz, readVM S V p (q : Int) = zz := ⟨_, rfl⟩
                    rw [hz] at HRJ
                    have HZ := Lib.hid hz
                    clear hz
                    obtain ⟨z1, z2⟩ := zz
                    have hzr : z1 = r := HRJ.out
                    subst hzr
                    have hvv : (z1 != z1) = false := by simp
                    clear HRJ
                    go_wp2_with fail
                    refine (readVersion_impl _ s0 cS S _ _ c9 V p (q : Int) _ (HRS9.out.below (HB8.out.trans (hb.mono HB8.out.size))) (HRV.out.below (HB8.out.trans (hb.mono HB8.out.size)))).mono ?_; rintro e w10 ⟨rfl, hb10'⟩
                    rw [HZ.out]
                    have hb10 := hb.trans (hb10'.mono hb.size)
                    have d5 := (hb10'.cell (p := ⟨b, o + q * 3 + 1, none⟩) hbw).trans d3
                    have f3 := (hb10'.cell (p := ⟨b4, o4 + j * 2 + 1, none⟩) hb4).trans f1
                    clear hb hb10' d3 f0 f1
                    go_wp2
                    go_roundw
                    case rel => exact ⟨j + 1, by omega, by go_num, hb10⟩
                    case measure => simp [intOf]; omega
                  · have HBX := Lib.hid (HB8.out.trans (hb.mono HB8.out.size))
                    clear hb
                    go_wp2
                    go_roundw
                    case rel => exact ⟨q + 1, by omega, by go_num, HBX.out⟩
                    case measure => simp [intOf]; omega
              · have hrS10 := HRS9.out.below hb
                have hrV10 := HRV.out.below hb
                have hrG10 := HRG9.out.below hb
                have hb10 := HB9.out.trans (hb.mono HB9.out.size)
                clear hb
                go_wp2_with fail
                refine (lastVersions_impl _ s0 cS S _ _ c9 V _ hrS10 hrV10).mono ?_; rintro e w11 ⟨v11, rfl, ho11, hw11, hb11'⟩
                rw [HV4.out] at ho11 hw11
                obtain ⟨a11, c11, rfl, hr11, -⟩ := rowE_of_owns ho11 hP4 hw11
                have hrG11 := hrG10.below hb11'
                have hb11 := hb10.trans (hb11'.mono hb10.size)
                clear hrS10 hrV10 hrG10 hb10 hb11' ho11
                go_wp2_with fail
                refine (sameStore_same _ _ _ c11 cG P _ hr11 hrG11).mono ?_; rintro e w12 ⟨rfl, hd12⟩
                go_wp2
                go_ret
                exact ⟨rfl, hb11.trans ((hd12.below _).mono hb11.size)⟩
  · have hs' : (1048576 : Int) < (len : Int) := by omega
    clear h hlc
    go_enter Tryz.func3, Tryz.ntmps3
    go_wp2
    go_ret
    exact ⟨rfl, Below.refl _ _⟩
end Go.Proofs.YtaaffpolmecicabGreat
