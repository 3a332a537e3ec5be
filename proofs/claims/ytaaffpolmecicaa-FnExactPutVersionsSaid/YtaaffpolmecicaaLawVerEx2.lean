/- The walks of the exact laws of PutVersions, LastVersions (gen9/lawex9.py). -/
import Derived.Test.YtaaffpolmecicaaExLib
import Derived.Test.YtaaffpolmecicaaConvV
import Derived.Test.YtaaffpolmecicaaKeyC
import Derived.Test.YtaaffpolmecicaaImplVer2
import Derived.Test.YtaaffpolmecicaaSpecV
import Derived.Test.YtaaffpolmecicaaSpecVer3
namespace Go.Proofs.Ytaaffpolmecicaa
open Go.RowKit
set_option linter.unusedVariables false
set_option linter.unusedSimpArgs false
set_option maxRecDepth 100000 in
set_option maxHeartbeats 8000000 in
theorem lawExactPutVersions (a0 : Option Addr) (n0 q0 : Nat) (L0 : List Ver) (x1 : Int) (a2 : Option Addr) (n2 q2 : Nat) (L2 : List Ent) (w : World) (h0 : RowV w a0 n0 L0) (hz0 : a0 = none → q0 = 0) (hq0 : n0 ≤ q0) (h1 : (Lit.int .i64 x1).wf = true) (h2 : RowE w a2 n2 L2) (hz2 : a2 = none → q2 = 0) (hq2 : n2 ≤ q2) :
    Calls Try.prog 10 #[.slice a0 n0 q0, .int .i64 x1, .slice a2 n2 q2] w (LawTrue w) := by
  have HR0 := Lib.hid h0
  have hm0 := h0.2.1
  have HR2 := Lib.hid h2
  have hm2 := h2.2.1
  clear h0 hz0 hq0 h2 hz2 hq2
  go_enter Try.func10, Try.ntmps10
  go_wp2_with fail
  refine (szVersionS_any a0 n0 q0 (1048576) _ (by omega) (by omega) hm0).mono ?_; rintro e w' ⟨rfl, rfl⟩
  by_cases hz0 : (n0 : Int) ≤ 1048576
  · rw [if_pos hz0]
    have hs0 : n0 ≤ 1048576 := by omega
    have hk0 : decide ((1048576 : Int) - (n0 : Int) < 0) = false := by simp; omega
    go_wp2_with fail
    refine (szEntryS_any a2 n2 q2 (1048576 - (n0 : Int)) _ (by omega) (by omega) hm2).mono ?_; rintro e w' ⟨rfl, rfl⟩
    by_cases hz2 : (n2 : Int) ≤ 1048576 - (n0 : Int)
    · rw [if_pos hz2]
      have hs2 : n2 ≤ 1048576 := by omega
      have hk2 : decide ((1048576 : Int) - (n0 : Int) - (n2 : Int) < 0) = false := by simp; omega
      obtain rfl := HR0.out.1
      obtain rfl := HR2.out.1
      have hRl := putVM_len L0 x1 L2
      obtain ⟨pz, hz⟩ : ∃ pz, putVM L0 x1 L2 = pz := ⟨_, rfl⟩
      rw [hz] at hRl
      have HV := Lib.hid hz
      clear hz
      obtain ⟨R, ok⟩ := pz
      simp only at hRl
      have hok : (ok != ok) = false := by simp
      go_wp2_with fail
      refine (toVersionS_any a0 _ q0 L0 _ HR0.out hs0).mono ?_; rintro e w1 ⟨v1, rfl, ho1, hw1, hb1'⟩
      have hb1 := hb1'
      obtain ⟨gt1, ct1, rfl, hB1, hl1, hr1, hc1⟩ := rowV_of_own ho1 (by omega) hw1
      have hrt0_1 := hr1
      clear hb1' ho1 hw1 hr1 hc1
      go_wp2_with fail
      refine (toEntryS_any a2 _ q2 L2 _ (HR2.out.below hb1) hs2).mono ?_; rintro e w2 ⟨v2, rfl, ho2, hw2, hb2'⟩
      have hb2 := hb1.trans (hb2'.mono hb1.size)
      have hrt0_2 := hrt0_1.below hb2'
      obtain ⟨gt2, ct2, rfl, hB2, hr2⟩ := rowE_of_own ho2 (by omega) hw2
      have hrt2_2 := hr2
      clear hrt0_1 hb1 hb2' ho2 hw2 hr2
      go_wp2_with fail
      refine (putVersions_spec _ _ ct1 L0 x1 _ _ ct2 L2 _ hrt0_2 hrt2_2).mono ?_; rintro e w3 ⟨vW, rfl, hoW, hwW, hb3'⟩
      rw [HV.out] at hoW hwW ⊢
      simp only at hoW hwW ⊢
      have hb3 := hb2.trans (hb3'.mono hb2.size)
      have hrt0_3 := hrt0_2.below hb3'
      have hrt2_3 := hrt2_2.below hb3'
      obtain ⟨gW, cW, rfl, hBW, hlW, hrW_3, hcW⟩ := rowV_of_own hoW (by omega) hwW
      clear hoW hwW
      have HBW := Lib.hid hb3
      clear hrt0_2 hrt2_2 hb3' hb2
      clear hrt0_3
      clear hrt2_3
      go_wp2_with fail
      refine (toVersionS_any a0 _ q0 L0 _ (HR0.out.below hb3) hs0).mono ?_; rintro e w4 ⟨v4, rfl, ho4, hw4, hb4'⟩
      have hb4 := hb3.trans (hb4'.mono hb3.size)
      have hrW_4 := hrW_3.below hb4'
      obtain ⟨gx0, cx0, rfl, hB4, hl4, hr4, hc4⟩ := rowV_of_own ho4 (by omega) hw4
      have hlt0 := (ho4.1.lt gx0 rfl).2
      have hsz0 := hb4'.size
      have HWX0 := Lib.hid hw4
      have hox0_4 := ho4
      clear hrW_3 hb3 hb4' ho4 hw4 hr4 hc4
      go_wp2_with fail
      refine (toEntryS_any a2 _ q2 L2 _ (HR2.out.below hb4) hs2).mono ?_; rintro e w5 ⟨v5, rfl, ho5, hw5, hb5'⟩
      have hb5 := hb4.trans (hb5'.mono hb4.size)
      have hrW_5 := hrW_4.below hb5'
      have hox0_5 := hox0_4.below hb5'
      obtain ⟨gx2, cx2, rfl, hB5, hr5⟩ := rowE_of_own ho5 (by omega) hw5
      have hlt2 := (ho5.1.lt gx2 rfl).2
      have hsz2 := hb5'.size
      have HWX2 := Lib.hid hw5
      have hox2_5 := ho5
      clear hrW_4 hox0_4 hb4 hb5' ho5 hw5 hr5
      go_wp2_with fail
      refine (putVersions_impl _ _ cx0 L0 x1 _ _ cx2 L2 _ (rowV_owned hox0_5.1 rfl (by omega) HWX0.out) (rowE_owned hox2_5.1 rfl (by omega) HWX2.out)).mono ?_; rintro e w6 ⟨vG, rfl, hoG, hwG, hb6'⟩
      rw [HV.out] at hoG hwG ⊢
      simp only at hoG hwG ⊢
      have hb6 := hb5.trans (hb6'.mono hb5.size)
      have hrW_6 := hrW_5.below hb6'
      have hox0_6 := hox0_5.below hb6'
      have hox2_6 := hox2_5.below hb6'
      obtain ⟨aG, cG, rfl, hrG, -, -, -⟩ := rowV_of_owns hoG (by first | omega | (unfold maxLen; omega)) hwG
      have HWG := Lib.hid hwG
      have hoG_6 := hoG
      have hszG := hb6'.size
      clear hrG hoG hwG
      clear hrW_5 hox0_5 hox2_5 hb6' hb5
      go_wp2_with fail
      refine (eqVersionS_same _ _ _ cG cW R _ (rowV_owned hoG_6 rfl (by omega) HWG.out) hrW_6).mono ?_; rintro e w7 ⟨rfl, hb7'⟩
      have hb7 := hb6.trans (hb7'.mono hb6.size)
      have hrW_7 := hrW_6.below hb7'
      have hox0_7 := hox0_6.below hb7'
      have hox2_7 := hox2_6.below hb7'
      have hoG_7 := owns_below hoG_6 hb7'
      clear hrW_6 hox0_6 hox2_6 hoG_6 hb7' hb6
      go_wp2_with fail
      refine (toVersionS_any a0 _ q0 L0 _ (HR0.out.below hb7) hs0).mono ?_; rintro e w8 ⟨v8, rfl, ho8, hw8, hb8'⟩
      have hb8 := hb7.trans (hb8'.mono hb7.size)
      have hrW_8 := hrW_7.below hb8'
      have hox0_8 := hox0_7.below hb8'
      have hox2_8 := hox2_7.below hb8'
      have hoG_8 := owns_below hoG_7 hb8'
      obtain ⟨gt8, ct8, rfl, hB8, hl8, hr8, hc8⟩ := rowV_of_own ho8 (by omega) hw8
      have hrt0_8 := hr8
      clear hrW_7 hox0_7 hox2_7 hoG_7 hb7 hb8' ho8 hw8 hr8 hc8
      go_wp2_with fail
      refine (eqVersionS_same _ _ _ cx0 ct8 L0 _ (rowV_owned hox0_8.1 rfl (by omega) HWX0.out) hrt0_8).mono ?_; rintro e w9 ⟨rfl, hb9'⟩
      have hb9 := hb8.trans (hb9'.mono hb8.size)
      have hrW_9 := hrW_8.below hb9'
      have hox0_9 := hox0_8.below hb9'
      have hox2_9 := hox2_8.below hb9'
      have hoG_9 := owns_below hoG_8 hb9'
      clear hrW_8 hox0_8 hox2_8 hoG_8 hb9' hb8 hrt0_8
      go_wp2_with fail
      refine (toEntryS_any a2 _ q2 L2 _ (HR2.out.below hb9) hs2).mono ?_; rintro e w10 ⟨v10, rfl, ho10, hw10, hb10'⟩
      have hb10 := hb9.trans (hb10'.mono hb9.size)
      have hrW_10 := hrW_9.below hb10'
      have hox0_10 := hox0_9.below hb10'
      have hox2_10 := hox2_9.below hb10'
      have hoG_10 := owns_below hoG_9 hb10'
      obtain ⟨gt10, ct10, rfl, hB10, hr10⟩ := rowE_of_own ho10 (by omega) hw10
      have hrt2_10 := hr10
      clear hrW_9 hox0_9 hox2_9 hoG_9 hb9 hb10' ho10 hw10 hr10
      go_wp2_with fail
      refine (eqEntryS_same _ _ _ cx2 ct10 L2 _ (rowE_owned hox2_10.1 rfl (by omega) HWX2.out) hrt2_10).mono ?_; rintro e w11 ⟨rfl, hb11'⟩
      have hb11 := hb10.trans (hb11'.mono hb10.size)
      have hrW_11 := hrW_10.below hb11'
      have hox0_11 := hox0_10.below hb11'
      have hox2_11 := hox2_10.below hb11'
      have hoG_11 := owns_below hoG_10 hb11'
      clear hrW_10 hox0_10 hox2_10 hoG_10 hb11' hb10 hrt2_10
      have hws := HBW.out.size
      go_wp2_with fail
      refine (markVersionS_any _ gx0 _ cx0 L0 (1) _ hox0_11 rfl (by omega) (by omega) (by omega)).mono ?_; rintro e w12 ⟨rfl, -, hg12⟩
      have hb12 : Below w.heap.size w w12 := hb11.grown hg12 hb11.size (fun k hk => by simp at hk; omega)
      have hrW_12 := hrW_11.grown hg12 (by simp; omega)
      have hox2_12 := hox2_11.grown hg12 (fun k hk => by simp at hk; omega)
      have hoG_12 := owns_grown hoG_11 hg12 (fun k hk => by simp at hk; omega)
      clear hrW_11 hox2_11 hoG_11 hg12 hb11 hox0_11
      go_wp2_with fail
      refine (markEntryS_any _ gx2 _ cx2 L2 (1 + 3 * (L0.length : Int)) _ hox2_12 rfl (by omega) (by omega) (by omega)).mono ?_; rintro e w13 ⟨rfl, -, hg13⟩
      have hb13 : Below w.heap.size w w13 := hb12.grown hg13 hb12.size (fun k hk => by simp at hk; omega)
      have hrW_13 := hrW_12.grown hg13 (by simp; omega)
      have hoG_13 := owns_grown hoG_12 hg13 (fun k hk => by simp at hk; omega)
      clear hrW_12 hoG_12 hg13 hb12 hox2_12
      have hkk : decide ((1 : Int) + 3 * (L0.length : Int) + 2 * (L2.length : Int) < 0) = false := by simp; omega
      go_wp2_with fail
      refine (eqVersionS_same _ _ _ cG cW R _ (rowV_owned hoG_13 rfl (by omega) HWG.out) hrW_13).mono ?_; rintro e w14 ⟨rfl, hb14'⟩
      have hb14 := hb13.trans (hb14'.mono hb13.size)
      have hrW_14 := hrW_13.below hb14'
      have hoG_14 := owns_below hoG_13 hb14'
      clear hrW_13 hoG_13 hb14' hb13
      go_wp2_with fail
      refine (markVersionS_own _ _ _ R 1 _ hoG_14 rfl (by omega) (by omega) (by omega)).mono ?_; rintro e w15 ⟨rfl, hom, hg15⟩
      have hb15 : Below w.heap.size w w15 := hb14.grown hg15 hb14.size (fun k hk => by have := (hoG_14.lt k hk).1; omega)
      have hrW_15 := hrW_14.grown hg15 (fun e => by have := (hoG_14.lt gW e.symm).1; omega)
      have hrm_15 : RowV w15 aG R.length (marksV 1 R.length) := rowV_marked hom (by omega)
      clear hrW_14 hb14 hg15 hom hoG_14
      have hq0 : decide ((1 : Int) + 3 * (R.length : Int) < 0) = false := by simp; omega
      have hqm : ((1 : Int) + 3 * (R.length : Int) != 1 + 3 * (R.length : Int)) = false := by simp
      go_wp2_with fail
      refine (heldVersionS_any _ _ cG 1 _ hrm_15 (by omega) (by omega) (by omega)).mono ?_; rintro e w' ⟨rfl, rfl⟩
      go_wp2_with fail
      refine (toVersionS_any a0 _ q0 L0 _ (HR0.out.below hb15) hs0).mono ?_; rintro e w16 ⟨v16, rfl, ho16, hw16, hb16'⟩
      have hb16 := hb15.trans (hb16'.mono hb15.size)
      have hrW_16 := hrW_15.below hb16'
      have hrm_16 := hrm_15.below hb16'
      obtain ⟨gt16, ct16, rfl, hB16, hl16, hr16, hc16⟩ := rowV_of_own ho16 (by omega) hw16
      have hrt0_16 := hr16
      clear hrW_15 hrm_15 hb15 hb16' ho16 hw16 hr16 hc16
      go_wp2_with fail
      refine (toEntryS_any a2 _ q2 L2 _ (HR2.out.below hb16) hs2).mono ?_; rintro e w17 ⟨v17, rfl, ho17, hw17, hb17'⟩
      have hb17 := hb16.trans (hb17'.mono hb16.size)
      have hrW_17 := hrW_16.below hb17'
      have hrm_17 := hrm_16.below hb17'
      have hrt0_17 := hrt0_16.below hb17'
      obtain ⟨gt17, ct17, rfl, hB17, hr17⟩ := rowE_of_own ho17 (by omega) hw17
      have hrt2_17 := hr17
      clear hrW_16 hrm_16 hrt0_16 hb16 hb17' ho17 hw17 hr17
      go_wp2_with fail
      refine (putVersions_impl _ _ ct16 L0 x1 _ _ ct17 L2 _ hrt0_17 hrt2_17).mono ?_; rintro e w18 ⟨vH, rfl, hoH, hwH, hb18'⟩
      rw [HV.out] at hoH hwH ⊢
      simp only at hoH hwH ⊢
      have hb18 := hb17.trans (hb18'.mono hb17.size)
      have hrW_18 := hrW_17.below hb18'
      have hrm_18 := hrm_17.below hb18'
      have hrt0_18 := hrt0_17.below hb18'
      have hrt2_18 := hrt2_17.below hb18'
      obtain ⟨aH, cH, rfl, hrH, -, -, -⟩ := rowV_of_owns hoH (by first | omega | (unfold maxLen; omega)) hwH
      have hrH_18 := hrH
      clear hoH hwH hrH
      clear hrW_17 hrm_17 hrt0_17 hrt2_17 hb18' hb17
      clear hrt0_18
      clear hrt2_18
      go_wp2_with fail
      refine (eqVersionS_same _ _ _ cH cW R _ hrH_18 hrW_18).mono ?_; rintro e w19 ⟨rfl, hb19'⟩
      have hb19 := hb18.trans (hb19'.mono hb18.size)
      have hrW_19 := hrW_18.below hb19'
      have hrm_19 := hrm_18.below hb19'
      have hrH_19 := hrH_18.below hb19'
      clear hrW_18 hrm_18 hrH_18 hb19' hb18
      go_wp2_with fail
      refine (heldVersionS_any _ _ cG 1 _ hrm_19 (by omega) (by omega) (by omega)).mono ?_; rintro e w' ⟨rfl, rfl⟩
      go_wp2
      go_ret
      exact ⟨rfl, hb19⟩
    · rw [if_neg hz2]
      go_wp2
      go_ret
      exact ⟨rfl, Below.refl _ _⟩
  · rw [if_neg hz0]
    go_wp2
    go_ret
    exact ⟨rfl, Below.refl _ _⟩
end Go.Proofs.Ytaaffpolmecicaa
