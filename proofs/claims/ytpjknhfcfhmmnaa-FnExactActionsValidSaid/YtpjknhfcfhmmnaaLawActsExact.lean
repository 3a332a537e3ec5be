/- The walks of the exact laws of ActionValid, ActionsValid, ActionReads, ActionWrites. -/
import Derived.Test.YtpjknhfcfhmmnaaDrawAc
import Derived.Test.YtpjknhfcfhmmnaaFive
import Derived.Test.YtpjknhfcfhmmnaaConvA
import Derived.Test.YtpjknhfcfhmmnaaConv
namespace Go.Proofs.Ytpjknhfcfhmmnaa
open Go.RowKit
set_option linter.unusedVariables false
theorem ActAt.below {w w' : World} {G : Nat} {p q r t : Int} (h : ActAt w G p q r t) (hb : Below w.heap.size w w') : ActAt w' G p q r t := h.grown (Below.grownBy hb none) (by simp)
set_option maxHeartbeats 4000000 in
theorem lawExactActionValid (p q r t : Int) (w : World) (hw : WfA ⟨p, q, r, t⟩) :
    Calls Try.prog 5 #[.agg #[.int .i64 p, .int .i64 q, .int .i64 r, .int .i64 t]] w (LawTrue w) := by
  clear hw
  have hA := actAt_new w 32 p q r t
  have hb0 := (Below.refl w.heap.size w).alloc (Nat.le_refl _) (.cells #[.int .i64 p, .int .i64 q, .int .i64 r, .int .i64 t] 32)
  have HA := Lib.hid hA
  have HB0 := Lib.hid hb0
  clear hA hb0
  go_enter Try.func5, Try.ntmps5
  go_wp2_with fail
  refine (toAction_any p q r t _).mono ?_; rintro e w1 ⟨rfl, hb1'⟩
  have HA1 := Lib.hid (HA.out.below hb1')
  have hb1 := HB0.out.trans (hb1'.mono HB0.out.size)
  clear hb1'
  go_wp2_with fail
  refine (actionValid_spec p q r t _).mono ?_; rintro e w2 ⟨rfl, hb2'⟩
  obtain ⟨⟨c1, c2, c3, c4⟩, -⟩ := HA1.out.below hb2'
  have hb2 := hb1.trans (hb2'.mono hb1.size)
  obtain ⟨v, hv⟩ : ∃ v, v = actB ⟨p, q, r, t⟩ := ⟨_, rfl⟩
  rw [← hv]
  have HV := Lib.hid hv
  have hvv : (v != v) = false := by simp
  clear hb2' hb1 hv
  go_wp2_with fail
  refine (toAction_any p q r t _).mono ?_; rintro e w3 ⟨rfl, hb3'⟩
  have hb3 := hb2.trans (hb3'.mono hb2.size)
  clear c1 c2 c3 c4 hb3' hb2
  go_wp2_with fail
  refine (actionValid_impl p q r t _).mono ?_; rintro e w4 ⟨rfl, hb4'⟩
  rw [← HV.out]
  have hb4 := hb3.trans (hb4'.mono hb3.size)
  clear hb4' hb3
  go_wp2
  go_ret
  exact ⟨rfl, hb4⟩
set_option maxHeartbeats 4000000 in
theorem lawExactActionReads (p q r t : Int) (w : World) (hw : WfA ⟨p, q, r, t⟩) :
    Calls Try.prog 7 #[.agg #[.int .i64 p, .int .i64 q, .int .i64 r, .int .i64 t]] w (LawTrue w) := by
  clear hw
  have hA := actAt_new w 32 p q r t
  have hb0 := (Below.refl w.heap.size w).alloc (Nat.le_refl _) (.cells #[.int .i64 p, .int .i64 q, .int .i64 r, .int .i64 t] 32)
  have HA := Lib.hid hA
  have HB0 := Lib.hid hb0
  clear hA hb0
  go_enter Try.func7, Try.ntmps7
  go_wp2_with fail
  refine (toAction_any p q r t _).mono ?_; rintro e w1 ⟨rfl, hb1'⟩
  have HA1 := Lib.hid (HA.out.below hb1')
  have hb1 := HB0.out.trans (hb1'.mono HB0.out.size)
  clear hb1'
  go_wp2_with fail
  refine (actionReads_spec p q r t _).mono ?_; rintro e w2 ⟨vw, rfl, how, hww, hb2'⟩
  have HA2 := Lib.hid (HA1.out.below hb2')
  obtain ⟨⟨c1, c2, c3, c4⟩, -⟩ := HA2.out
  have hb2 := hb1.trans (hb2'.mono hb1.size)
  have hpl := readsM_len ⟨p, q, r, t⟩
  obtain ⟨gw, cw, rfl, hgw0, hgw, hrw⟩ := rowI_of_own how (by omega) hww
  clear how hb1 hb2'
  go_wp2_with fail
  refine (toAction_any p q r t _).mono ?_; rintro e w3 ⟨rfl, hb3'⟩
  have HA3 := Lib.hid (HA2.out.below hb3')
  have hb3 := hb2.trans (hb3'.mono hb2.size)
  have hrw3 := hrw.below hb3'
  have hgw3 : gw < w3.heap.size := Nat.lt_of_lt_of_le hgw hb3'.size
  clear c1 c2 c3 c4 hb3' hb2 hrw
  go_wp2_with fail
  refine (actionReads_impl p q r t _).mono ?_; rintro e w6 ⟨vg, rfl, hog, hwg, hb6'⟩
  have HA6 := Lib.hid (HA3.out.below hb6')
  obtain ⟨⟨c1, c2, c3, c4⟩, -⟩ := HA6.out
  have hb6 := hb3.trans (hb6'.mono hb3.size)
  have hrw6 := hrw3.below hb6'
  have hgw5 : some gw ≠ vg.ownBlock := owns_lt hog (by omega)
  have hGb : some w.heap.size ≠ vg.ownBlock := owns_lt hog (World.block_lt_of_cell? w3 ⟨w.heap.size, 0, none⟩ HA3.out.1.1)
  have hog0 := owns_mono hog (show w.heap.size ≤ w3.heap.size from hb3.size)
  obtain ⟨gg, cg, rfl, hrg⟩ := rowI_of_owns hog (by unfold maxLen; omega) hwg
  clear hb6' hrw3 hog
  obtain ⟨P, hP⟩ : ∃ P, P = readsM ⟨p, q, r, t⟩ := ⟨_, rfl⟩
  have HP := Lib.hid hP
  rw [← hP] at hog0 hrw6 hrg hww hwg hpl hgw5 hGb ⊢
  clear hP
  go_wp2_with fail
  refine (eqIntS_same _ _ _ cg cw P _ hrg hrw6).mono ?_; rintro e w7 ⟨rfl, hb7'⟩
  have HA7 := Lib.hid (HA6.out.below hb7')
  have hb7 := hb6.trans (hb7'.mono hb6.size)
  have hrw7 := hrw6.below hb7'
  have hog7 := owns_below hog0 hb7'
  clear c1 c2 c3 c4 hb7' hb6 hrw6 hog0 hrg
  go_wp2_with fail
  refine (markIntS_own _ _ _ P 1 _ hog7 rfl (by omega) (by omega) (by omega)).mono ?_; rintro e w15 ⟨rfl, hom, hg15⟩
  have hb15 : Below w.heap.size w w15 := hb7.grown hg15 hb7.size (fun k hk => by have := (hog7.lt k hk).1; omega)
  have hrw15 := hrw7.grown hg15 hgw5
  have HA15 := Lib.hid (HA7.out.grown hg15 hGb)
  clear hrw7 hog7 hg15 hb7
  have hrm : RowI w15 gg P.length (marksI 1 P.length) := rowI_marked hom (by omega)
  have hq0 : decide ((1 : Int) + (P.length : Int) < 0) = false := by simp; omega
  have hqm : ((1 : Int) + (P.length : Int) != 1 + (P.length : Int)) = false := by simp
  obtain ⟨⟨c1, c2, c3, c4⟩, -⟩ := HA15.out
  go_wp2_with fail
  refine (heldIntS_any _ _ cg 1 _ hrm (by omega) (by omega) (by omega)).mono ?_; rintro e w' ⟨rfl, rfl⟩
  go_wp2_with fail
  refine (toAction_any p q r t _).mono ?_; rintro e w16 ⟨rfl, hb16'⟩
  have hb16 := hb15.trans (hb16'.mono hb15.size)
  clear c1 c2 c3 c4
  go_wp2_with fail
  refine (actionReads_impl p q r t _).mono ?_; rintro e w18 ⟨vh, rfl, hoh, hwh, hb18'⟩
  have hb18 := hb16.trans (hb18'.mono hb16.size)
  rw [← HP.out] at hoh hwh
  obtain ⟨gh, ch, rfl, hrh⟩ := rowI_of_owns hoh (by unfold maxLen; omega) hwh
  have hbq : Below w15.heap.size w15 w18 := hb16'.trans (hb18'.mono hb16'.size)
  have hrw18 := hrw15.below hbq
  have hrm18 := hrm.below hbq
  clear hrw15 hrm hom hoh hb16' hb18' hbq hb15 hb16
  go_wp2_with fail
  refine (eqIntS_same _ _ _ ch cw P _ hrh hrw18).mono ?_; rintro e w19 ⟨rfl, hb19'⟩
  have hb19 := hb18.trans (hb19'.mono hb18.size)
  have hrm19 := hrm18.below hb19'
  clear hrm18 hrw18 hrh hb19' hb18
  go_wp2_with fail
  refine (heldIntS_any _ _ cg 1 _ hrm19 (by omega) (by omega) (by omega)).mono ?_; rintro e w' ⟨rfl, rfl⟩
  go_wp2
  go_ret
  exact ⟨rfl, hb19⟩
set_option maxHeartbeats 4000000 in
theorem lawExactActionWrites (p q r t : Int) (w : World) (hw : WfA ⟨p, q, r, t⟩) :
    Calls Try.prog 8 #[.agg #[.int .i64 p, .int .i64 q, .int .i64 r, .int .i64 t]] w (LawTrue w) := by
  clear hw
  have hA := actAt_new w 32 p q r t
  have hb0 := (Below.refl w.heap.size w).alloc (Nat.le_refl _) (.cells #[.int .i64 p, .int .i64 q, .int .i64 r, .int .i64 t] 32)
  have HA := Lib.hid hA
  have HB0 := Lib.hid hb0
  clear hA hb0
  go_enter Try.func8, Try.ntmps8
  go_wp2_with fail
  refine (toAction_any p q r t _).mono ?_; rintro e w1 ⟨rfl, hb1'⟩
  have HA1 := Lib.hid (HA.out.below hb1')
  have hb1 := HB0.out.trans (hb1'.mono HB0.out.size)
  clear hb1'
  go_wp2_with fail
  refine (actionWrites_spec p q r t _).mono ?_; rintro e w2 ⟨vw, rfl, how, hww, hb2'⟩
  have HA2 := Lib.hid (HA1.out.below hb2')
  obtain ⟨⟨c1, c2, c3, c4⟩, -⟩ := HA2.out
  have hb2 := hb1.trans (hb2'.mono hb1.size)
  have hpl := writesM_len ⟨p, q, r, t⟩
  obtain ⟨gw, cw, rfl, hgw0, hgw, hrw⟩ := rowI_of_own how (by omega) hww
  clear how hb1 hb2'
  go_wp2_with fail
  refine (toAction_any p q r t _).mono ?_; rintro e w3 ⟨rfl, hb3'⟩
  have HA3 := Lib.hid (HA2.out.below hb3')
  have hb3 := hb2.trans (hb3'.mono hb2.size)
  have hrw3 := hrw.below hb3'
  have hgw3 : gw < w3.heap.size := Nat.lt_of_lt_of_le hgw hb3'.size
  clear c1 c2 c3 c4 hb3' hb2 hrw
  go_wp2_with fail
  refine (actionWrites_impl p q r t _).mono ?_; rintro e w6 ⟨vg, rfl, hog, hwg, hb6'⟩
  have HA6 := Lib.hid (HA3.out.below hb6')
  obtain ⟨⟨c1, c2, c3, c4⟩, -⟩ := HA6.out
  have hb6 := hb3.trans (hb6'.mono hb3.size)
  have hrw6 := hrw3.below hb6'
  have hgw5 : some gw ≠ vg.ownBlock := owns_lt hog (by omega)
  have hGb : some w.heap.size ≠ vg.ownBlock := owns_lt hog (World.block_lt_of_cell? w3 ⟨w.heap.size, 0, none⟩ HA3.out.1.1)
  have hog0 := owns_mono hog (show w.heap.size ≤ w3.heap.size from hb3.size)
  obtain ⟨gg, cg, rfl, hrg⟩ := rowI_of_owns hog (by unfold maxLen; omega) hwg
  clear hb6' hrw3 hog
  obtain ⟨P, hP⟩ : ∃ P, P = writesM ⟨p, q, r, t⟩ := ⟨_, rfl⟩
  have HP := Lib.hid hP
  rw [← hP] at hog0 hrw6 hrg hww hwg hpl hgw5 hGb ⊢
  clear hP
  go_wp2_with fail
  refine (eqIntS_same _ _ _ cg cw P _ hrg hrw6).mono ?_; rintro e w7 ⟨rfl, hb7'⟩
  have HA7 := Lib.hid (HA6.out.below hb7')
  have hb7 := hb6.trans (hb7'.mono hb6.size)
  have hrw7 := hrw6.below hb7'
  have hog7 := owns_below hog0 hb7'
  clear c1 c2 c3 c4 hb7' hb6 hrw6 hog0 hrg
  go_wp2_with fail
  refine (markIntS_own _ _ _ P 1 _ hog7 rfl (by omega) (by omega) (by omega)).mono ?_; rintro e w15 ⟨rfl, hom, hg15⟩
  have hb15 : Below w.heap.size w w15 := hb7.grown hg15 hb7.size (fun k hk => by have := (hog7.lt k hk).1; omega)
  have hrw15 := hrw7.grown hg15 hgw5
  have HA15 := Lib.hid (HA7.out.grown hg15 hGb)
  clear hrw7 hog7 hg15 hb7
  have hrm : RowI w15 gg P.length (marksI 1 P.length) := rowI_marked hom (by omega)
  have hq0 : decide ((1 : Int) + (P.length : Int) < 0) = false := by simp; omega
  have hqm : ((1 : Int) + (P.length : Int) != 1 + (P.length : Int)) = false := by simp
  obtain ⟨⟨c1, c2, c3, c4⟩, -⟩ := HA15.out
  go_wp2_with fail
  refine (heldIntS_any _ _ cg 1 _ hrm (by omega) (by omega) (by omega)).mono ?_; rintro e w' ⟨rfl, rfl⟩
  go_wp2_with fail
  refine (toAction_any p q r t _).mono ?_; rintro e w16 ⟨rfl, hb16'⟩
  have hb16 := hb15.trans (hb16'.mono hb15.size)
  clear c1 c2 c3 c4
  go_wp2_with fail
  refine (actionWrites_impl p q r t _).mono ?_; rintro e w18 ⟨vh, rfl, hoh, hwh, hb18'⟩
  have hb18 := hb16.trans (hb18'.mono hb16.size)
  rw [← HP.out] at hoh hwh
  obtain ⟨gh, ch, rfl, hrh⟩ := rowI_of_owns hoh (by unfold maxLen; omega) hwh
  have hbq : Below w15.heap.size w15 w18 := hb16'.trans (hb18'.mono hb16'.size)
  have hrw18 := hrw15.below hbq
  have hrm18 := hrm.below hbq
  clear hrw15 hrm hom hoh hb16' hb18' hbq hb15 hb16
  go_wp2_with fail
  refine (eqIntS_same _ _ _ ch cw P _ hrh hrw18).mono ?_; rintro e w19 ⟨rfl, hb19'⟩
  have hb19 := hb18.trans (hb19'.mono hb18.size)
  have hrm19 := hrm18.below hb19'
  clear hrm18 hrw18 hrh hb19' hb18
  go_wp2_with fail
  refine (heldIntS_any _ _ cg 1 _ hrm19 (by omega) (by omega) (by omega)).mono ?_; rintro e w' ⟨rfl, rfl⟩
  go_wp2
  go_ret
  exact ⟨rfl, hb19⟩
set_option maxHeartbeats 4000000 in
theorem lawExactActionsValid (a : Option Addr) (n cap : Nat) (l : List Acn) (w : World) (h : RowA w a n l) (hc : a = none → cap = 0) (hlc : n ≤ cap) :
    Calls Try.prog 6 #[.slice a n cap] w (LawTrue w) := by
  have hm := h.2.1
  go_enter Try.func6, Try.ntmps6
  go_wp2_with fail
  refine (szActionS_any a n cap 1048576 _ (by omega) (by omega) hm).mono ?_; rintro e w' ⟨rfl, rfl⟩
  by_cases hs : (n : Int) ≤ 1048576
  · rw [if_pos hs]
    have hsz : n ≤ 1048576 := by omega
    obtain rfl := h.1
    go_wp2_with fail
    refine (toActionS_any a _ cap l _ h hsz).mono ?_; rintro e w1 ⟨v1, rfl, ho1, hw1, hb1⟩
    obtain ⟨g1, c1, rfl, -, -, hr1, hl1⟩ := rowA_of_own ho1 (by omega) hw1
    clear ho1
    go_wp2_with fail
    refine (actionsValid_spec _ _ c1 l _ hr1).mono ?_; rintro e w2 ⟨rfl, hb2'⟩
    have hb2 := hb1.trans (hb2'.mono hb1.size)
    clear hr1 hb2' hb1
    obtain ⟨v, hv⟩ : ∃ v, v = actsB l := ⟨_, rfl⟩
    rw [← hv]
    have HV := Lib.hid hv
    have hvv : (v != v) = false := by simp
    clear hv
    go_wp2_with fail
    refine (toActionS_any a _ cap l _ (h.below hb2) hsz).mono ?_; rintro e w3 ⟨v3, rfl, ho3, hw3, hb3'⟩
    have hb3 := hb2.trans (hb3'.mono hb2.size)
    obtain ⟨g3, c3, rfl, -, -, hr3, hl3⟩ := rowA_of_own ho3 (by omega) hw3
    clear ho3 hb3' hb2
    go_wp2_with fail
    refine (actionsValid_impl _ _ c3 l _ hr3).mono ?_; rintro e w4 ⟨rfl, hb4'⟩
    rw [← HV.out]
    have hr4 := hr3.below hb4'
    have hb4 := hb3.trans (hb4'.mono hb3.size)
    clear hr3 hb4' hb3
    go_wp2_with fail
    refine (toActionS_any a _ cap l _ (h.below hb4) hsz).mono ?_; rintro e w5 ⟨v5, rfl, ho5, hw5, hb5'⟩
    have hb5 := hb4.trans (hb5'.mono hb4.size)
    have hr5 := hr4.below hb5'
    obtain ⟨g5, c5, rfl, -, -, hr6, hl5⟩ := rowA_of_own ho5 (by omega) hw5
    clear ho5 hb5' hb4 hr4
    go_wp2_with fail
    refine (eqActionS_same _ _ _ c3 c5 l _ hr5 hr6).mono ?_; rintro e w6 ⟨rfl, hb6'⟩
    have hb6 := hb5.trans (hb6'.mono hb5.size)
    clear hr5 hr6 hb6' hb5
    go_wp2
    go_ret
    exact ⟨rfl, hb6⟩
  · rw [if_neg hs]
    go_wp2
    go_ret
    exact ⟨rfl, Below.refl _ _⟩
end Go.Proofs.Ytpjknhfcfhmmnaa
