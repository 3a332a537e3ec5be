/- The walks of the exact laws of VersionsValid, ReadVersion, DropVersions (gen9/lawex9.py). -/
import Derived.Test.YtncedcliklpapaaExLib
import Derived.Test.YtncedcliklpapaaConvV
import Derived.Test.YtncedcliklpapaaImplVer
import Derived.Test.YtncedcliklpapaaImplVer2
import Derived.Test.YtncedcliklpapaaSpecVer5
namespace Go.Proofs.Ytncedcliklpapaa
open Go.RowKit
set_option linter.unusedVariables false
set_option linter.unusedSimpArgs false
set_option maxRecDepth 100000 in
set_option maxHeartbeats 8000000 in
theorem lawExactVersionsValid (a0 : Option Addr) (n0 q0 : Nat) (L0 : List Ver) (w : World) (h0 : RowV w a0 n0 L0) (hz0 : a0 = none → q0 = 0) (hq0 : n0 ≤ q0) :
    Calls Try.prog 8 #[.slice a0 n0 q0] w (LawTrue w) := by
  have HR0 := Lib.hid h0
  have hm0 := h0.2.1
  clear h0 hz0 hq0
  go_enter Try.func8, Try.ntmps8
  go_wp2_with fail
  refine (szVersionS_any a0 n0 q0 (1048576) _ (by omega) (by omega) hm0).mono ?_; rintro e w' ⟨rfl, rfl⟩
  by_cases hz0 : (n0 : Int) ≤ 1048576
  · rw [if_pos hz0]
    have hs0 : n0 ≤ 1048576 := by omega
    have hk0 : decide ((1048576 : Int) - (n0 : Int) < 0) = false := by simp; omega
    obtain rfl := HR0.out.1
    obtain ⟨v, hv⟩ : ∃ v, versB L0 = v := ⟨_, rfl⟩
    have HV := Lib.hid hv
    have hvv : (v != v) = false := by simp
    clear hv
    go_wp2_with fail
    refine (toVersionS_any a0 _ q0 L0 _ HR0.out hs0).mono ?_; rintro e w1 ⟨v1, rfl, ho1, hw1, hb1'⟩
    have hb1 := hb1'
    obtain ⟨gt1, ct1, rfl, hB1, hl1, hr1, hc1⟩ := rowV_of_own ho1 (by omega) hw1
    have hrt0_1 := hr1
    clear hb1' ho1 hw1 hr1 hc1
    go_wp2_with fail
    refine (versionsValid_spec _ _ ct1 L0 _ hrt0_1).mono ?_; rintro e w2 ⟨rfl, hb2'⟩
    rw [HV.out]
    have hb2 := hb1.trans (hb2'.mono hb1.size)
    have hrt0_2 := hrt0_1.below hb2'
    have HBW := Lib.hid hb2
    clear hrt0_1 hb2' hb1
    clear hrt0_2
    go_wp2_with fail
    refine (toVersionS_any a0 _ q0 L0 _ (HR0.out.below hb2) hs0).mono ?_; rintro e w3 ⟨v3, rfl, ho3, hw3, hb3'⟩
    have hb3 := hb2.trans (hb3'.mono hb2.size)
    obtain ⟨gx0, cx0, rfl, hB3, hl3, hr3, hc3⟩ := rowV_of_own ho3 (by omega) hw3
    have hlt0 := (ho3.1.lt gx0 rfl).2
    have hsz0 := hb3'.size
    have HWX0 := Lib.hid hw3
    have hox0_3 := ho3
    clear hb2 hb3' ho3 hw3 hr3 hc3
    go_wp2_with fail
    refine (versionsValid_impl _ _ cx0 L0 _ (rowV_owned hox0_3.1 rfl (by omega) HWX0.out)).mono ?_; rintro e w4 ⟨rfl, hb4'⟩
    rw [HV.out]
    have hb4 := hb3.trans (hb4'.mono hb3.size)
    have hox0_4 := hox0_3.below hb4'
    clear hox0_3 hb4' hb3
    go_wp2_with fail
    refine (toVersionS_any a0 _ q0 L0 _ (HR0.out.below hb4) hs0).mono ?_; rintro e w5 ⟨v5, rfl, ho5, hw5, hb5'⟩
    have hb5 := hb4.trans (hb5'.mono hb4.size)
    have hox0_5 := hox0_4.below hb5'
    obtain ⟨gt5, ct5, rfl, hB5, hl5, hr5, hc5⟩ := rowV_of_own ho5 (by omega) hw5
    have hrt0_5 := hr5
    clear hox0_4 hb4 hb5' ho5 hw5 hr5 hc5
    go_wp2_with fail
    refine (eqVersionS_same _ _ _ cx0 ct5 L0 _ (rowV_owned hox0_5.1 rfl (by omega) HWX0.out) hrt0_5).mono ?_; rintro e w6 ⟨rfl, hb6'⟩
    have hb6 := hb5.trans (hb6'.mono hb5.size)
    have hox0_6 := hox0_5.below hb6'
    clear hox0_5 hb6' hb5 hrt0_5
    go_wp2
    go_ret
    exact ⟨rfl, hb6⟩
  · rw [if_neg hz0]
    go_wp2
    go_ret
    exact ⟨rfl, Below.refl _ _⟩
set_option maxRecDepth 100000 in
set_option maxHeartbeats 8000000 in
theorem lawExactReadVersion (a0 : Option Addr) (n0 q0 : Nat) (L0 : List Ent) (a1 : Option Addr) (n1 q1 : Nat) (L1 : List Ver) (x2 : Int) (x3 : Int) (w : World) (h0 : RowE w a0 n0 L0) (hz0 : a0 = none → q0 = 0) (hq0 : n0 ≤ q0) (h1 : RowV w a1 n1 L1) (hz1 : a1 = none → q1 = 0) (hq1 : n1 ≤ q1) (h2 : (Lit.int .i64 x2).wf = true) (h3 : (Lit.int .i64 x3).wf = true) :
    Calls Try.prog 9 #[.slice a0 n0 q0, .slice a1 n1 q1, .int .i64 x2, .int .i64 x3] w (LawTrue w) := by
  have HR0 := Lib.hid h0
  have hm0 := h0.2.1
  have HR1 := Lib.hid h1
  have hm1 := h1.2.1
  clear h0 hz0 hq0 h1 hz1 hq1
  go_enter Try.func9, Try.ntmps9
  go_wp2_with fail
  refine (szEntryS_any a0 n0 q0 (1048576) _ (by omega) (by omega) hm0).mono ?_; rintro e w' ⟨rfl, rfl⟩
  by_cases hz0 : (n0 : Int) ≤ 1048576
  · rw [if_pos hz0]
    have hs0 : n0 ≤ 1048576 := by omega
    have hk0 : decide ((1048576 : Int) - (n0 : Int) < 0) = false := by simp; omega
    go_wp2_with fail
    refine (szVersionS_any a1 n1 q1 (1048576 - (n0 : Int)) _ (by omega) (by omega) hm1).mono ?_; rintro e w' ⟨rfl, rfl⟩
    by_cases hz1 : (n1 : Int) ≤ 1048576 - (n0 : Int)
    · rw [if_pos hz1]
      have hs1 : n1 ≤ 1048576 := by omega
      have hk1 : decide ((1048576 : Int) - (n0 : Int) - (n1 : Int) < 0) = false := by simp; omega
      obtain rfl := HR0.out.1
      obtain rfl := HR1.out.1
      obtain ⟨vv, hv⟩ : ∃ vv, readVM L0 L1 x2 x3 = vv := ⟨_, rfl⟩
      have HV := Lib.hid hv
      clear hv
      obtain ⟨z1, z2⟩ := vv
      have hv1 : (z1 != z1) = false := by simp
      have hv2 : (z2 != z2) = false := by simp
      go_wp2_with fail
      refine (toEntryS_any a0 _ q0 L0 _ HR0.out hs0).mono ?_; rintro e w1 ⟨v1, rfl, ho1, hw1, hb1'⟩
      have hb1 := hb1'
      obtain ⟨gt1, ct1, rfl, hB1, hr1⟩ := rowE_of_own ho1 (by omega) hw1
      have hrt0_1 := hr1
      clear hb1' ho1 hw1 hr1
      go_wp2_with fail
      refine (toVersionS_any a1 _ q1 L1 _ (HR1.out.below hb1) hs1).mono ?_; rintro e w2 ⟨v2, rfl, ho2, hw2, hb2'⟩
      have hb2 := hb1.trans (hb2'.mono hb1.size)
      have hrt0_2 := hrt0_1.below hb2'
      obtain ⟨gt2, ct2, rfl, hB2, hl2, hr2, hc2⟩ := rowV_of_own ho2 (by omega) hw2
      have hrt1_2 := hr2
      clear hrt0_1 hb1 hb2' ho2 hw2 hr2 hc2
      go_wp2_with fail
      refine (readVersion_spec _ _ ct1 L0 _ _ ct2 L1 x2 x3 _ hrt0_2 hrt1_2).mono ?_; rintro e w3 ⟨rfl, hb3'⟩
      rw [HV.out]
      have hb3 := hb2.trans (hb3'.mono hb2.size)
      have hrt0_3 := hrt0_2.below hb3'
      have hrt1_3 := hrt1_2.below hb3'
      have HBW := Lib.hid hb3
      clear hrt0_2 hrt1_2 hb3' hb2
      clear hrt0_3
      clear hrt1_3
      go_wp2_with fail
      refine (toEntryS_any a0 _ q0 L0 _ (HR0.out.below hb3) hs0).mono ?_; rintro e w4 ⟨v4, rfl, ho4, hw4, hb4'⟩
      have hb4 := hb3.trans (hb4'.mono hb3.size)
      obtain ⟨gx0, cx0, rfl, hB4, hr4⟩ := rowE_of_own ho4 (by omega) hw4
      have hlt0 := (ho4.1.lt gx0 rfl).2
      have hsz0 := hb4'.size
      have HWX0 := Lib.hid hw4
      have hox0_4 := ho4
      clear hb3 hb4' ho4 hw4 hr4
      go_wp2_with fail
      refine (toVersionS_any a1 _ q1 L1 _ (HR1.out.below hb4) hs1).mono ?_; rintro e w5 ⟨v5, rfl, ho5, hw5, hb5'⟩
      have hb5 := hb4.trans (hb5'.mono hb4.size)
      have hox0_5 := hox0_4.below hb5'
      obtain ⟨gx1, cx1, rfl, hB5, hl5, hr5, hc5⟩ := rowV_of_own ho5 (by omega) hw5
      have hlt1 := (ho5.1.lt gx1 rfl).2
      have hsz1 := hb5'.size
      have HWX1 := Lib.hid hw5
      have hox1_5 := ho5
      clear hox0_4 hb4 hb5' ho5 hw5 hr5 hc5
      go_wp2_with fail
      refine (readVersion_impl _ _ cx0 L0 _ _ cx1 L1 x2 x3 _ (rowE_owned hox0_5.1 rfl (by omega) HWX0.out) (rowV_owned hox1_5.1 rfl (by omega) HWX1.out)).mono ?_; rintro e w6 ⟨rfl, hb6'⟩
      rw [HV.out]
      have hb6 := hb5.trans (hb6'.mono hb5.size)
      have hox0_6 := hox0_5.below hb6'
      have hox1_6 := hox1_5.below hb6'
      clear hox0_5 hox1_5 hb6' hb5
      go_wp2_with fail
      refine (toEntryS_any a0 _ q0 L0 _ (HR0.out.below hb6) hs0).mono ?_; rintro e w7 ⟨v7, rfl, ho7, hw7, hb7'⟩
      have hb7 := hb6.trans (hb7'.mono hb6.size)
      have hox0_7 := hox0_6.below hb7'
      have hox1_7 := hox1_6.below hb7'
      obtain ⟨gt7, ct7, rfl, hB7, hr7⟩ := rowE_of_own ho7 (by omega) hw7
      have hrt0_7 := hr7
      clear hox0_6 hox1_6 hb6 hb7' ho7 hw7 hr7
      go_wp2_with fail
      refine (eqEntryS_same _ _ _ cx0 ct7 L0 _ (rowE_owned hox0_7.1 rfl (by omega) HWX0.out) hrt0_7).mono ?_; rintro e w8 ⟨rfl, hb8'⟩
      have hb8 := hb7.trans (hb8'.mono hb7.size)
      have hox0_8 := hox0_7.below hb8'
      have hox1_8 := hox1_7.below hb8'
      clear hox0_7 hox1_7 hb8' hb7 hrt0_7
      go_wp2_with fail
      refine (toVersionS_any a1 _ q1 L1 _ (HR1.out.below hb8) hs1).mono ?_; rintro e w9 ⟨v9, rfl, ho9, hw9, hb9'⟩
      have hb9 := hb8.trans (hb9'.mono hb8.size)
      have hox0_9 := hox0_8.below hb9'
      have hox1_9 := hox1_8.below hb9'
      obtain ⟨gt9, ct9, rfl, hB9, hl9, hr9, hc9⟩ := rowV_of_own ho9 (by omega) hw9
      have hrt1_9 := hr9
      clear hox0_8 hox1_8 hb8 hb9' ho9 hw9 hr9 hc9
      go_wp2_with fail
      refine (eqVersionS_same _ _ _ cx1 ct9 L1 _ (rowV_owned hox1_9.1 rfl (by omega) HWX1.out) hrt1_9).mono ?_; rintro e w10 ⟨rfl, hb10'⟩
      have hb10 := hb9.trans (hb10'.mono hb9.size)
      have hox0_10 := hox0_9.below hb10'
      have hox1_10 := hox1_9.below hb10'
      clear hox0_9 hox1_9 hb10' hb9 hrt1_9
      go_wp2
      go_ret
      exact ⟨rfl, hb10⟩
    · rw [if_neg hz1]
      go_wp2
      go_ret
      exact ⟨rfl, Below.refl _ _⟩
  · rw [if_neg hz0]
    go_wp2
    go_ret
    exact ⟨rfl, Below.refl _ _⟩
set_option maxRecDepth 100000 in
set_option maxHeartbeats 8000000 in
theorem lawExactDropVersions (a0 : Option Addr) (n0 q0 : Nat) (L0 : List Ver) (x1 : Int) (w : World) (h0 : RowV w a0 n0 L0) (hz0 : a0 = none → q0 = 0) (hq0 : n0 ≤ q0) (h1 : (Lit.int .i64 x1).wf = true) :
    Calls Try.prog 10 #[.slice a0 n0 q0, .int .i64 x1] w (LawTrue w) := by
  have HR0 := Lib.hid h0
  have hm0 := h0.2.1
  clear h0 hz0 hq0
  go_enter Try.func10, Try.ntmps10
  go_wp2_with fail
  refine (szVersionS_any a0 n0 q0 (1048576) _ (by omega) (by omega) hm0).mono ?_; rintro e w' ⟨rfl, rfl⟩
  by_cases hz0 : (n0 : Int) ≤ 1048576
  · rw [if_pos hz0]
    have hs0 : n0 ≤ 1048576 := by omega
    have hk0 : decide ((1048576 : Int) - (n0 : Int) < 0) = false := by simp; omega
    obtain rfl := HR0.out.1
    have hRl := dropVM_len L0 x1
    obtain ⟨R, hR⟩ : ∃ R, R = dropVM L0 x1 := ⟨_, rfl⟩
    have HV := Lib.hid hR
    rw [← hR] at hRl
    clear hR
    go_wp2_with fail
    refine (toVersionS_any a0 _ q0 L0 _ HR0.out hs0).mono ?_; rintro e w1 ⟨v1, rfl, ho1, hw1, hb1'⟩
    have hb1 := hb1'
    obtain ⟨gt1, ct1, rfl, hB1, hl1, hr1, hc1⟩ := rowV_of_own ho1 (by omega) hw1
    have hrt0_1 := hr1
    clear hb1' ho1 hw1 hr1 hc1
    go_wp2_with fail
    refine (dropVersions_spec _ _ ct1 L0 x1 _ hrt0_1).mono ?_; rintro e w2 ⟨vW, rfl, hoW, hwW, hb2'⟩
    rw [← HV.out] at hoW hwW
    have hb2 := hb1.trans (hb2'.mono hb1.size)
    have hrt0_2 := hrt0_1.below hb2'
    obtain ⟨gW, cW, rfl, hBW, hlW, hrW_2, hcW⟩ := rowV_of_own hoW (by omega) hwW
    clear hoW hwW
    have HBW := Lib.hid hb2
    clear hrt0_1 hb2' hb1
    clear hrt0_2
    go_wp2_with fail
    refine (toVersionS_any a0 _ q0 L0 _ (HR0.out.below hb2) hs0).mono ?_; rintro e w3 ⟨v3, rfl, ho3, hw3, hb3'⟩
    have hb3 := hb2.trans (hb3'.mono hb2.size)
    have hrW_3 := hrW_2.below hb3'
    obtain ⟨gx0, cx0, rfl, hB3, hl3, hr3, hc3⟩ := rowV_of_own ho3 (by omega) hw3
    have hlt0 := (ho3.1.lt gx0 rfl).2
    have hsz0 := hb3'.size
    have HWX0 := Lib.hid hw3
    have hox0_3 := ho3
    clear hrW_2 hb2 hb3' ho3 hw3 hr3 hc3
    go_wp2_with fail
    refine (dropVersions_impl _ _ cx0 L0 x1 _ (rowV_owned hox0_3.1 rfl (by omega) HWX0.out)).mono ?_; rintro e w4 ⟨vG, rfl, hoG, hwG, hb4'⟩
    rw [← HV.out] at hoG hwG
    have hb4 := hb3.trans (hb4'.mono hb3.size)
    have hrW_4 := hrW_3.below hb4'
    have hox0_4 := hox0_3.below hb4'
    obtain ⟨aG, cG, rfl, hrG, -, -, -⟩ := rowV_of_owns hoG (by first | omega | (unfold maxLen; omega)) hwG
    have HWG := Lib.hid hwG
    have hoG_4 := hoG
    have hszG := hb4'.size
    clear hrG hoG hwG
    clear hrW_3 hox0_3 hb4' hb3
    go_wp2_with fail
    refine (eqVersionS_same _ _ _ cG cW R _ (rowV_owned hoG_4 rfl (by omega) HWG.out) hrW_4).mono ?_; rintro e w5 ⟨rfl, hb5'⟩
    have hb5 := hb4.trans (hb5'.mono hb4.size)
    have hrW_5 := hrW_4.below hb5'
    have hox0_5 := hox0_4.below hb5'
    have hoG_5 := owns_below hoG_4 hb5'
    clear hrW_4 hox0_4 hoG_4 hb5' hb4
    go_wp2_with fail
    refine (toVersionS_any a0 _ q0 L0 _ (HR0.out.below hb5) hs0).mono ?_; rintro e w6 ⟨v6, rfl, ho6, hw6, hb6'⟩
    have hb6 := hb5.trans (hb6'.mono hb5.size)
    have hrW_6 := hrW_5.below hb6'
    have hox0_6 := hox0_5.below hb6'
    have hoG_6 := owns_below hoG_5 hb6'
    obtain ⟨gt6, ct6, rfl, hB6, hl6, hr6, hc6⟩ := rowV_of_own ho6 (by omega) hw6
    have hrt0_6 := hr6
    clear hrW_5 hox0_5 hoG_5 hb5 hb6' ho6 hw6 hr6 hc6
    go_wp2_with fail
    refine (eqVersionS_same _ _ _ cx0 ct6 L0 _ (rowV_owned hox0_6.1 rfl (by omega) HWX0.out) hrt0_6).mono ?_; rintro e w7 ⟨rfl, hb7'⟩
    have hb7 := hb6.trans (hb7'.mono hb6.size)
    have hrW_7 := hrW_6.below hb7'
    have hox0_7 := hox0_6.below hb7'
    have hoG_7 := owns_below hoG_6 hb7'
    clear hrW_6 hox0_6 hoG_6 hb7' hb6 hrt0_6
    have hws := HBW.out.size
    go_wp2_with fail
    refine (markVersionS_any _ gx0 _ cx0 L0 (1) _ hox0_7 rfl (by omega) (by omega) (by omega)).mono ?_; rintro e w8 ⟨rfl, -, hg8⟩
    have hb8 : Below w.heap.size w w8 := hb7.grown hg8 hb7.size (fun k hk => by simp at hk; omega)
    have hrW_8 := hrW_7.grown hg8 (by simp; omega)
    have hoG_8 := owns_grown hoG_7 hg8 (fun k hk => by simp at hk; omega)
    clear hrW_7 hoG_7 hg8 hb7 hox0_7
    have hkk : decide ((1 : Int) + 3 * (L0.length : Int) < 0) = false := by simp; omega
    go_wp2_with fail
    refine (eqVersionS_same _ _ _ cG cW R _ (rowV_owned hoG_8 rfl (by omega) HWG.out) hrW_8).mono ?_; rintro e w9 ⟨rfl, hb9'⟩
    have hb9 := hb8.trans (hb9'.mono hb8.size)
    have hrW_9 := hrW_8.below hb9'
    have hoG_9 := owns_below hoG_8 hb9'
    clear hrW_8 hoG_8 hb9' hb8
    go_wp2_with fail
    refine (markVersionS_own _ _ _ R 1 _ hoG_9 rfl (by omega) (by omega) (by omega)).mono ?_; rintro e w10 ⟨rfl, hom, hg10⟩
    have hb10 : Below w.heap.size w w10 := hb9.grown hg10 hb9.size (fun k hk => by have := (hoG_9.lt k hk).1; omega)
    have hrW_10 := hrW_9.grown hg10 (fun e => by have := (hoG_9.lt gW e.symm).1; omega)
    have hrm_10 : RowV w10 aG R.length (marksV 1 R.length) := rowV_marked hom (by omega)
    clear hrW_9 hb9 hg10 hom hoG_9
    have hq0 : decide ((1 : Int) + 3 * (R.length : Int) < 0) = false := by simp; omega
    have hqm : ((1 : Int) + 3 * (R.length : Int) != 1 + 3 * (R.length : Int)) = false := by simp
    go_wp2_with fail
    refine (heldVersionS_any _ _ cG 1 _ hrm_10 (by omega) (by omega) (by omega)).mono ?_; rintro e w' ⟨rfl, rfl⟩
    go_wp2_with fail
    refine (toVersionS_any a0 _ q0 L0 _ (HR0.out.below hb10) hs0).mono ?_; rintro e w11 ⟨v11, rfl, ho11, hw11, hb11'⟩
    have hb11 := hb10.trans (hb11'.mono hb10.size)
    have hrW_11 := hrW_10.below hb11'
    have hrm_11 := hrm_10.below hb11'
    obtain ⟨gt11, ct11, rfl, hB11, hl11, hr11, hc11⟩ := rowV_of_own ho11 (by omega) hw11
    have hrt0_11 := hr11
    clear hrW_10 hrm_10 hb10 hb11' ho11 hw11 hr11 hc11
    go_wp2_with fail
    refine (dropVersions_impl _ _ ct11 L0 x1 _ hrt0_11).mono ?_; rintro e w12 ⟨vH, rfl, hoH, hwH, hb12'⟩
    rw [← HV.out] at hoH hwH
    have hb12 := hb11.trans (hb12'.mono hb11.size)
    have hrW_12 := hrW_11.below hb12'
    have hrm_12 := hrm_11.below hb12'
    have hrt0_12 := hrt0_11.below hb12'
    obtain ⟨aH, cH, rfl, hrH, -, -, -⟩ := rowV_of_owns hoH (by first | omega | (unfold maxLen; omega)) hwH
    have hrH_12 := hrH
    clear hoH hwH hrH
    clear hrW_11 hrm_11 hrt0_11 hb12' hb11
    clear hrt0_12
    go_wp2_with fail
    refine (eqVersionS_same _ _ _ cH cW R _ hrH_12 hrW_12).mono ?_; rintro e w13 ⟨rfl, hb13'⟩
    have hb13 := hb12.trans (hb13'.mono hb12.size)
    have hrW_13 := hrW_12.below hb13'
    have hrm_13 := hrm_12.below hb13'
    have hrH_13 := hrH_12.below hb13'
    clear hrW_12 hrm_12 hrH_12 hb13' hb12
    go_wp2_with fail
    refine (heldVersionS_any _ _ cG 1 _ hrm_13 (by omega) (by omega) (by omega)).mono ?_; rintro e w' ⟨rfl, rfl⟩
    go_wp2
    go_ret
    exact ⟨rfl, hb13⟩
  · rw [if_neg hz0]
    go_wp2
    go_ret
    exact ⟨rfl, Below.refl _ _⟩
end Go.Proofs.Ytncedcliklpapaa
