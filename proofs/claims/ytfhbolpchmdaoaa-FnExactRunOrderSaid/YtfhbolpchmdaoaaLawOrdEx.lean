/- The walk of the exact law of RunOrder (gen8/lawex8.py). -/
import Derived.Test.YtfhbolpchmdaoaaExLib
import Derived.Test.YtfhbolpchmdaoaaExLibF
import Derived.Test.YtfhbolpchmdaoaaImplRunO
import Derived.Test.YtfhbolpchmdaoaaSpecRunO
namespace Go.Proofs.Ytfhbolpchmdaoaa
open Go.RowKit
set_option linter.unusedVariables false
theorem runOrdM_wt (S : List Ent) (L : List Acn) (O : List Int) : wtX (runOrdM S L O).2 ≤ 1000 := by
  cases h : (storeB S && fitsM L O) with
  | false => rw [runOrdM_no h]; simp [wtX, sumX]
  | true =>
    rw [Bool.and_eq_true] at h
    rw [order_serM h.1 h.2]
    exact serM_wt S L
set_option maxRecDepth 100000 in
set_option maxHeartbeats 8000000 in
theorem lawExactRunOrder (a0 : Option Addr) (n0 q0 : Nat) (L0 : List Ent) (a1 : Option Addr) (n1 q1 : Nat) (L1 : List Acn) (a2 : Option Addr) (n2 q2 : Nat) (L2 : List Int) (w : World) (h0 : RowE w a0 n0 L0) (hz0 : a0 = none → q0 = 0) (hq0 : n0 ≤ q0) (h1 : RowA w a1 n1 L1) (hz1 : a1 = none → q1 = 0) (hq1 : n1 ≤ q1) (h2 : RowI w a2 n2 L2) (hz2 : a2 = none → q2 = 0) (hq2 : n2 ≤ q2) :
    Calls Try.prog 12 #[.slice a0 n0 q0, .slice a1 n1 q1, .slice a2 n2 q2] w (LawTrue w) := by
  have HR0 := Lib.hid h0
  have hm0 := h0.2.1
  have HR1 := Lib.hid h1
  have hm1 := h1.2.1
  have HR2 := Lib.hid h2
  have hm2 := h2.2.1
  clear h0 hz0 hq0 h1 hz1 hq1 h2 hz2 hq2
  by_cases hs2 : n2 ≤ 1048576
  · have hd2 : ¬ (1048576 : Int) < (n2 : Int) := by omega
    go_enter Try.func12, Try.ntmps12
    go_wp2_with fail
    refine (szEntryS_any a0 n0 q0 (1048576) _ (by omega) (by omega) hm0).mono ?_; rintro e w' ⟨rfl, rfl⟩
    by_cases hz0 : (n0 : Int) ≤ 1048576
    · rw [if_pos hz0]
      have hs0 : n0 ≤ 1048576 := by omega
      have hk0 : decide ((1048576 : Int) - (n0 : Int) < 0) = false := by simp; omega
      go_wp2_with fail
      refine (szActionS_any a1 n1 q1 (1048576 - (n0 : Int)) _ (by omega) (by omega) hm1).mono ?_; rintro e w' ⟨rfl, rfl⟩
      by_cases hz1 : (n1 : Int) ≤ 1048576 - (n0 : Int)
      · rw [if_pos hz1]
        have hs1 : n1 ≤ 1048576 := by omega
        have hk1 : decide ((1048576 : Int) - (n0 : Int) - (n1 : Int) < 0) = false := by simp; omega
        obtain rfl := HR0.out.1
        obtain rfl := HR1.out.1
        obtain rfl := HR2.out.1
        obtain ⟨hPl, hXl⟩ := runOrdM_lens L0 L1 L2
        have hXw := runOrdM_wt L0 L1 L2
        obtain ⟨P, hP⟩ : ∃ P, P = (runOrdM L0 L1 L2).1 := ⟨_, rfl⟩
        obtain ⟨X, hX⟩ : ∃ X, X = (runOrdM L0 L1 L2).2 := ⟨_, rfl⟩
        have HP := Lib.hid hP
        have HX := Lib.hid hX
        rw [← hP] at hPl
        rw [← hX] at hXl hXw
        have hXo : offX X X.length ≤ 3000 := by
          have h1 := sumX_take X X.length
          unfold wtX at hXw; unfold offX; omega
        clear hP hX
        have hP4 : P.length ≤ 4000000 := by omega
        go_wp2_with fail
        refine (toEntryS_any a0 _ q0 L0 _ HR0.out hs0).mono ?_; rintro e w1 ⟨v1, rfl, ho1, hw1, hb1'⟩
        have hb1 := hb1'
        obtain ⟨gt1, ct1, rfl, hB1, hr1⟩ := rowE_of_own ho1 (by omega) hw1
        have hrt0_1 := hr1
        clear hb1' ho1 hw1 hr1
        go_wp2_with fail
        refine (toActionS_any a1 _ q1 L1 _ (HR1.out.below hb1) hs1).mono ?_; rintro e w2 ⟨v2, rfl, ho2, hw2, hb2'⟩
        have hb2 := hb1.trans (hb2'.mono hb1.size)
        have hrt0_2 := hrt0_1.below hb2'
        obtain ⟨gt2, ct2, rfl, hB2, hl2, hr2, hc2⟩ := rowA_of_own ho2 (by omega) hw2
        have hrt1_2 := hr2
        clear hrt0_1 hb1 hb2' ho2 hw2 hr2 hc2
        go_wp2_with fail
        refine (toIntS_own a2 _ q2 L2 _ (HR2.out.below hb2) hs2).mono ?_; rintro e w3 ⟨v3, rfl, ho3, hw3, hb3'⟩
        have hb3 := hb2.trans (hb3'.mono hb2.size)
        have hrt0_3 := hrt0_2.below hb3'
        have hrt1_3 := hrt1_2.below hb3'
        obtain ⟨gt3, ct3, rfl, hB3, hl3, hr3⟩ := rowI_of_own ho3 (by omega) hw3
        have hrt2_3 := hr3
        clear hrt0_2 hrt1_2 hb2 hb3' ho3 hw3 hr3
        go_wp2_with fail
        refine (runOrder_spec _ _ ct1 L0 _ _ ct2 L1 _ _ ct3 L2 _ hrt0_3 (fun h => by cases h) hrt1_3 hrt2_3).mono ?_; rintro e w4 ⟨vW, uW, rfl, hW, hb4'⟩
        rw [← HP.out, ← HX.out] at hW
        have hb4 := hb3.trans (hb4'.mono hb3.size)
        have hrt0_4 := hrt0_3.below hb4'
        have hrt1_4 := hrt1_3.below hb4'
        have hrt2_4 := hrt2_3.below hb4'
        obtain ⟨aW, cW, rfl, -, -⟩ := hW.row hP4
        obtain ⟨bW, dW, rfl, -, -, -⟩ := rowFs_of_own hW.effs
        have hW_4 := hW
        clear hW
        have HBW := Lib.hid hb4
        clear hrt0_3 hrt1_3 hrt2_3 hb4' hb3
        clear hrt0_4
        clear hrt1_4
        clear hrt2_4
        go_wp2_with fail
        refine (toEntryS_any a0 _ q0 L0 _ (HR0.out.below hb4) hs0).mono ?_; rintro e w5 ⟨v5, rfl, ho5, hw5, hb5'⟩
        have hb5 := hb4.trans (hb5'.mono hb4.size)
        have hW_5 := hW_4.below hb5'
        obtain ⟨gx0, cx0, rfl, hB5, hr5⟩ := rowE_of_own ho5 (by omega) hw5
        have hlt0 := (ho5.1.lt gx0 rfl).2
        have hsz0 := hb5'.size
        have HWX0 := Lib.hid hw5
        have hox0_5 := ho5
        clear hW_4 hb4 hb5' ho5 hw5 hr5
        go_wp2_with fail
        refine (toActionS_any a1 _ q1 L1 _ (HR1.out.below hb5) hs1).mono ?_; rintro e w6 ⟨v6, rfl, ho6, hw6, hb6'⟩
        have hb6 := hb5.trans (hb6'.mono hb5.size)
        have hW_6 := hW_5.below hb6'
        have hox0_6 := hox0_5.below hb6'
        obtain ⟨gx1, cx1, rfl, hB6, hl6, hr6, hc6⟩ := rowA_of_own ho6 (by omega) hw6
        have hlt1 := (ho6.1.lt gx1 rfl).2
        have hsz1 := hb6'.size
        have HWX1 := Lib.hid hw6
        have hox1_6 := ho6
        clear hW_5 hox0_5 hb5 hb6' ho6 hw6 hr6 hc6
        go_wp2_with fail
        refine (toIntS_own a2 _ q2 L2 _ (HR2.out.below hb6) hs2).mono ?_; rintro e w7 ⟨v7, rfl, ho7, hw7, hb7'⟩
        have hb7 := hb6.trans (hb7'.mono hb6.size)
        have hW_7 := hW_6.below hb7'
        have hox0_7 := hox0_6.below hb7'
        have hox1_7 := hox1_6.below hb7'
        obtain ⟨gx2, cx2, rfl, hB7, hl7, hr7⟩ := rowI_of_own ho7 (by omega) hw7
        have hlt2 := (ho7.1.lt gx2 rfl).2
        have hsz2 := hb7'.size
        have HWX2 := Lib.hid hw7
        have hox2_7 := ho7
        clear hW_6 hox0_6 hox1_6 hb6 hb7' ho7 hw7 hr7
        go_wp2_with fail
        refine (runOrder_impl _ _ cx0 L0 _ _ cx1 L1 _ _ cx2 L2 _ (rowE_owned hox0_7.1 rfl (by omega) HWX0.out) (fun h => by cases h) (rowA_owned hox1_7.1 rfl (by omega) HWX1.out) (rowI_owned hox2_7.1 (by omega) HWX2.out)).mono ?_; rintro e w8 ⟨vG, uG, rfl, hG, hb8'⟩
        rw [← HP.out, ← HX.out] at hG
        have hb8 := hb7.trans (hb8'.mono hb7.size)
        have hW_8 := hW_7.below hb8'
        have hox0_8 := hox0_7.below hb8'
        have hox1_8 := hox1_7.below hb8'
        have hox2_8 := hox2_7.below hb8'
        obtain ⟨aG, cG, rfl, -, -⟩ := hG.row hP4
        obtain ⟨bG, dG, rfl, -, -, -⟩ := rowFs_of_own hG.effs
        have hG_8 := hG
        have hszG := hb8'.size
        clear hG
        clear hW_7 hox0_7 hox1_7 hox2_7 hb8' hb7
        go_wp2_with fail
        refine (eqEntryS_same _ _ _ cG cW P _ (hG_8.reads hP4).1 (hW_8.reads hP4).1).mono ?_; rintro e w9 ⟨rfl, hb9'⟩
        have hb9 := hb8.trans (hb9'.mono hb8.size)
        have hW_9 := hW_8.below hb9'
        have hox0_9 := hox0_8.below hb9'
        have hox1_9 := hox1_8.below hb9'
        have hox2_9 := hox2_8.below hb9'
        have hG_9 := hG_8.below hb9'
        clear hW_8 hox0_8 hox1_8 hox2_8 hG_8 hb9' hb8
        go_wp2_with fail
        refine (eqEffectS_same _ _ _ dG dW X _ (hG_9.reads hP4).2 (hW_9.reads hP4).2).mono ?_; rintro e w10 ⟨rfl, hb10'⟩
        have hb10 := hb9.trans (hb10'.mono hb9.size)
        have hW_10 := hW_9.below hb10'
        have hox0_10 := hox0_9.below hb10'
        have hox1_10 := hox1_9.below hb10'
        have hox2_10 := hox2_9.below hb10'
        have hG_10 := hG_9.below hb10'
        clear hW_9 hox0_9 hox1_9 hox2_9 hG_9 hb10' hb9
        go_wp2_with fail
        refine (toEntryS_any a0 _ q0 L0 _ (HR0.out.below hb10) hs0).mono ?_; rintro e w11 ⟨v11, rfl, ho11, hw11, hb11'⟩
        have hb11 := hb10.trans (hb11'.mono hb10.size)
        have hW_11 := hW_10.below hb11'
        have hox0_11 := hox0_10.below hb11'
        have hox1_11 := hox1_10.below hb11'
        have hox2_11 := hox2_10.below hb11'
        have hG_11 := hG_10.below hb11'
        obtain ⟨gt11, ct11, rfl, hB11, hr11⟩ := rowE_of_own ho11 (by omega) hw11
        have hrt0_11 := hr11
        clear hW_10 hox0_10 hox1_10 hox2_10 hG_10 hb10 hb11' ho11 hw11 hr11
        go_wp2_with fail
        refine (eqEntryS_same _ _ _ cx0 ct11 L0 _ (rowE_owned hox0_11.1 rfl (by omega) HWX0.out) hrt0_11).mono ?_; rintro e w12 ⟨rfl, hb12'⟩
        have hb12 := hb11.trans (hb12'.mono hb11.size)
        have hW_12 := hW_11.below hb12'
        have hox0_12 := hox0_11.below hb12'
        have hox1_12 := hox1_11.below hb12'
        have hox2_12 := hox2_11.below hb12'
        have hG_12 := hG_11.below hb12'
        clear hW_11 hox0_11 hox1_11 hox2_11 hG_11 hb12' hb11 hrt0_11
        go_wp2_with fail
        refine (toActionS_any a1 _ q1 L1 _ (HR1.out.below hb12) hs1).mono ?_; rintro e w13 ⟨v13, rfl, ho13, hw13, hb13'⟩
        have hb13 := hb12.trans (hb13'.mono hb12.size)
        have hW_13 := hW_12.below hb13'
        have hox0_13 := hox0_12.below hb13'
        have hox1_13 := hox1_12.below hb13'
        have hox2_13 := hox2_12.below hb13'
        have hG_13 := hG_12.below hb13'
        obtain ⟨gt13, ct13, rfl, hB13, hl13, hr13, hc13⟩ := rowA_of_own ho13 (by omega) hw13
        have hrt1_13 := hr13
        clear hW_12 hox0_12 hox1_12 hox2_12 hG_12 hb12 hb13' ho13 hw13 hr13 hc13
        go_wp2_with fail
        refine (eqActionS_same _ _ _ cx1 ct13 L1 _ (rowA_owned hox1_13.1 rfl (by omega) HWX1.out) hrt1_13).mono ?_; rintro e w14 ⟨rfl, hb14'⟩
        have hb14 := hb13.trans (hb14'.mono hb13.size)
        have hW_14 := hW_13.below hb14'
        have hox0_14 := hox0_13.below hb14'
        have hox1_14 := hox1_13.below hb14'
        have hox2_14 := hox2_13.below hb14'
        have hG_14 := hG_13.below hb14'
        clear hW_13 hox0_13 hox1_13 hox2_13 hG_13 hb14' hb13 hrt1_13
        go_wp2_with fail
        refine (toIntS_own a2 _ q2 L2 _ (HR2.out.below hb14) hs2).mono ?_; rintro e w15 ⟨v15, rfl, ho15, hw15, hb15'⟩
        have hb15 := hb14.trans (hb15'.mono hb14.size)
        have hW_15 := hW_14.below hb15'
        have hox0_15 := hox0_14.below hb15'
        have hox1_15 := hox1_14.below hb15'
        have hox2_15 := hox2_14.below hb15'
        have hG_15 := hG_14.below hb15'
        obtain ⟨gt15, ct15, rfl, hB15, hl15, hr15⟩ := rowI_of_own ho15 (by omega) hw15
        have hrt2_15 := hr15
        clear hW_14 hox0_14 hox1_14 hox2_14 hG_14 hb14 hb15' ho15 hw15 hr15
        go_wp2_with fail
        refine (eqIntS_same _ _ _ cx2 ct15 L2 _ (rowI_owned hox2_15.1 (by omega) HWX2.out) hrt2_15).mono ?_; rintro e w16 ⟨rfl, hb16'⟩
        have hb16 := hb15.trans (hb16'.mono hb15.size)
        have hW_16 := hW_15.below hb16'
        have hox0_16 := hox0_15.below hb16'
        have hox1_16 := hox1_15.below hb16'
        have hox2_16 := hox2_15.below hb16'
        have hG_16 := hG_15.below hb16'
        clear hW_15 hox0_15 hox1_15 hox2_15 hG_15 hb16' hb15 hrt2_15
        have hws := HBW.out.size
        go_wp2_with fail
        refine (markEntryS_any _ gx0 _ cx0 L0 (1) _ hox0_16 rfl (by omega) (by omega) (by omega)).mono ?_; rintro e w17 ⟨rfl, -, hg17⟩
        have hb17 : Below w.heap.size w w17 := hb16.grown hg17 hb16.size (fun k hk => by simp at hk; omega)
        have hW_17 := hW_16.grown1 hg17 (by first | exact .inl (by omega) | exact .inr (by omega))
        have hox1_17 := hox1_16.grown hg17 (fun k hk => by simp at hk; omega)
        have hox2_17 := hox2_16.grown hg17 (fun k hk => by simp at hk; omega)
        have hG_17 := hG_16.grown1 hg17 (by first | exact .inl (by omega) | exact .inr (by omega))
        clear hW_16 hox1_16 hox2_16 hG_16 hg17 hb16 hox0_16
        go_wp2_with fail
        refine (markActionS_ownX _ gx1 _ cx1 _ (1 + 2 * (L0.length : Int)) _ hox1_17.1 (by omega) (by omega) (by omega)).mono ?_; rintro e w18 ⟨rfl, hg18⟩
        have hb18 : Below w.heap.size w w18 := hb17.grown hg18 hb17.size (fun k hk => by simp at hk; omega)
        have hW_18 := hW_17.grown1 hg18 (by first | exact .inl (by omega) | exact .inr (by omega))
        have hox2_18 := hox2_17.grown hg18 (fun k hk => by simp at hk; omega)
        have hG_18 := hG_17.grown1 hg18 (by first | exact .inl (by omega) | exact .inr (by omega))
        clear hW_17 hox2_17 hG_17 hg18 hb17 hox1_17
        go_wp2_with fail
        refine (markIntS_any _ gx2 _ cx2 L2 (1 + 2 * (L0.length : Int) + 4 * (L1.length : Int)) _ hox2_18 rfl (by omega) (by omega) (by omega)).mono ?_; rintro e w19 ⟨rfl, -, hg19⟩
        have hb19 : Below w.heap.size w w19 := hb18.grown hg19 hb18.size (fun k hk => by simp at hk; omega)
        have hW_19 := hW_18.grown1 hg19 (by first | exact .inl (by omega) | exact .inr (by omega))
        have hG_19 := hG_18.grown1 hg19 (by first | exact .inl (by omega) | exact .inr (by omega))
        clear hW_18 hG_18 hg19 hb18 hox2_18
        have hkk : decide ((1 : Int) + 2 * (L0.length : Int) + 4 * (L1.length : Int) + (L2.length : Int) < 0) = false := by simp; omega
        go_wp2_with fail
        refine (eqEntryS_same _ _ _ cG cW P _ (hG_19.reads hP4).1 (hW_19.reads hP4).1).mono ?_; rintro e w20 ⟨rfl, hb20'⟩
        have hb20 := hb19.trans (hb20'.mono hb19.size)
        have hW_20 := hW_19.below hb20'
        have hG_20 := hG_19.below hb20'
        clear hW_19 hG_19 hb20' hb19
        go_wp2_with fail
        refine (eqEffectS_same _ _ _ dG dW X _ (hG_20.reads hP4).2 (hW_20.reads hP4).2).mono ?_; rintro e w21 ⟨rfl, hb21'⟩
        have hb21 := hb20.trans (hb21'.mono hb20.size)
        have hW_21 := hW_20.below hb21'
        have hG_21 := hG_20.below hb21'
        clear hW_20 hG_20 hb21' hb20
        have hQ_21 := hG_21.apartQ
        go_wp2_with fail
        refine (markEntryS_own _ _ _ P 1 _ hG_21.1 rfl (by omega) (by omega) (by omega)).mono ?_; rintro e w22 ⟨rfl, hom, hg22⟩
        have hb22 : Below w.heap.size w w22 := hb21.grown hg22 hb21.size (fun k hk => by have := (hG_21.1.lt k hk).1; omega)
        have hW_22 := hW_21.keep (w' := w22) (fun p hp h1 h2 => hg22.block p hp (fun e => by have := (hG_21.1.lt p e.symm).1; omega))
        have hQ_22 := hQ_21.keep (w' := w22) (fun p hp h1 => hg22.block p hp (fun e => h1.1 e.symm))
        clear hg22 hW_21 hQ_21 hb21 hG_21
        go_wp2_with fail
        refine (markEffectS_only _ _ _ _ X (1 + 2 * (P.length : Int)) _ hQ_22 (by omega) (by omega) (by omega)).mono ?_; rintro e w23 ⟨rfl, hQ_23, ht23⟩
        have hb23 : Below w.heap.size w w23 := ht23.below hb22 (fun p hp => by have := hp.2.1; omega) hb22.size
        have hW_23 := hW_22.keep (w' := w23) (fun p hp h1 h2 => ht23.block p hp (fun hq => by have := hq.2.1; omega))
        have hom2 := owns_keep (w' := w23) hom (fun p hp => by rw [owns_blk hom] at hp; exact ht23.block p (hom.lt p hp).2 (fun hq => hq.1 hp))
        have hrm_23 : RowE w23 aG P.length (marksE 1 P.length) := rowE_marked hom2 hP4
        have hfm_23 : RowFs w23 bG X.length (marksX (1 + 2 * (P.length : Int)) X) := hQ_23.reads (marksX_len _ _)
        clear hQ_22 hQ_23 ht23 hW_22 hom hom2 hb22
        obtain ⟨f, hf⟩ : ∃ f, f = offX X X.length := ⟨_, rfl⟩
        have HF := Lib.hid hf
        rw [← hf] at hXo ⊢
        clear hf
        have hq0 : decide ((1 : Int) + 2 * (P.length : Int) < 0) = false := by simp; omega
        have hq1 : decide ((1 : Int) + 2 * (P.length : Int) + (f : Int) < 0) = false := by simp; omega
        have hqm : ((1 : Int) + 2 * (P.length : Int) + (f : Int) != 1 + 2 * (P.length : Int) + (f : Int)) = false := by simp
        go_wp2_with fail
        refine (heldEntryS_any _ _ cG 1 _ hrm_23 (by omega) (by omega) (by omega)).mono ?_; rintro e w' ⟨rfl, rfl⟩
        go_wp2_with fail
        refine (heldEffectS_any _ _ dG X (1 + 2 * (P.length : Int)) _ hfm_23 rfl (by omega) (by omega) (by omega)).mono ?_; rintro e w' ⟨rfl, rfl⟩
        rw [← HF.out]
        go_wp2_with fail
        refine (toEntryS_any a0 _ q0 L0 _ (HR0.out.below hb23) hs0).mono ?_; rintro e w24 ⟨v24, rfl, ho24, hw24, hb24'⟩
        have hb24 := hb23.trans (hb24'.mono hb23.size)
        have hW_24 := hW_23.below hb24'
        have hrm_24 := hrm_23.below hb24'
        have hfm_24 := hfm_23.below hb24'
        obtain ⟨gt24, ct24, rfl, hB24, hr24⟩ := rowE_of_own ho24 (by omega) hw24
        have hrt0_24 := hr24
        clear hW_23 hrm_23 hfm_23 hb23 hb24' ho24 hw24 hr24
        go_wp2_with fail
        refine (toActionS_any a1 _ q1 L1 _ (HR1.out.below hb24) hs1).mono ?_; rintro e w25 ⟨v25, rfl, ho25, hw25, hb25'⟩
        have hb25 := hb24.trans (hb25'.mono hb24.size)
        have hW_25 := hW_24.below hb25'
        have hrm_25 := hrm_24.below hb25'
        have hfm_25 := hfm_24.below hb25'
        have hrt0_25 := hrt0_24.below hb25'
        obtain ⟨gt25, ct25, rfl, hB25, hl25, hr25, hc25⟩ := rowA_of_own ho25 (by omega) hw25
        have hrt1_25 := hr25
        clear hW_24 hrm_24 hfm_24 hrt0_24 hb24 hb25' ho25 hw25 hr25 hc25
        go_wp2_with fail
        refine (toIntS_own a2 _ q2 L2 _ (HR2.out.below hb25) hs2).mono ?_; rintro e w26 ⟨v26, rfl, ho26, hw26, hb26'⟩
        have hb26 := hb25.trans (hb26'.mono hb25.size)
        have hW_26 := hW_25.below hb26'
        have hrm_26 := hrm_25.below hb26'
        have hfm_26 := hfm_25.below hb26'
        have hrt0_26 := hrt0_25.below hb26'
        have hrt1_26 := hrt1_25.below hb26'
        obtain ⟨gt26, ct26, rfl, hB26, hl26, hr26⟩ := rowI_of_own ho26 (by omega) hw26
        have hrt2_26 := hr26
        clear hW_25 hrm_25 hfm_25 hrt0_25 hrt1_25 hb25 hb26' ho26 hw26 hr26
        go_wp2_with fail
        refine (runOrder_impl _ _ ct24 L0 _ _ ct25 L1 _ _ ct26 L2 _ hrt0_26 (fun h => by cases h) hrt1_26 hrt2_26).mono ?_; rintro e w27 ⟨vH, uH, rfl, hH, hb27'⟩
        rw [← HP.out, ← HX.out] at hH
        have hb27 := hb26.trans (hb27'.mono hb26.size)
        have hW_27 := hW_26.below hb27'
        have hrm_27 := hrm_26.below hb27'
        have hfm_27 := hfm_26.below hb27'
        have hrt0_27 := hrt0_26.below hb27'
        have hrt1_27 := hrt1_26.below hb27'
        have hrt2_27 := hrt2_26.below hb27'
        obtain ⟨aH, cH, rfl, -, -⟩ := hH.row hP4
        obtain ⟨bH, dH, rfl, -, -, -⟩ := rowFs_of_own hH.effs
        have hH_27 := hH
        clear hH
        clear hW_26 hrm_26 hfm_26 hrt0_26 hrt1_26 hrt2_26 hb27' hb26
        clear hrt0_27
        clear hrt1_27
        clear hrt2_27
        go_wp2_with fail
        refine (eqEntryS_same _ _ _ cH cW P _ (hH_27.reads hP4).1 (hW_27.reads hP4).1).mono ?_; rintro e w28 ⟨rfl, hb28'⟩
        have hb28 := hb27.trans (hb28'.mono hb27.size)
        have hW_28 := hW_27.below hb28'
        have hrm_28 := hrm_27.below hb28'
        have hfm_28 := hfm_27.below hb28'
        have hH_28 := hH_27.below hb28'
        clear hW_27 hrm_27 hfm_27 hH_27 hb28' hb27
        go_wp2_with fail
        refine (eqEffectS_same _ _ _ dH dW X _ (hH_28.reads hP4).2 (hW_28.reads hP4).2).mono ?_; rintro e w29 ⟨rfl, hb29'⟩
        have hb29 := hb28.trans (hb29'.mono hb28.size)
        have hW_29 := hW_28.below hb29'
        have hrm_29 := hrm_28.below hb29'
        have hfm_29 := hfm_28.below hb29'
        have hH_29 := hH_28.below hb29'
        clear hW_28 hrm_28 hfm_28 hH_28 hb29' hb28
        go_wp2_with fail
        refine (heldEntryS_any _ _ cG 1 _ hrm_29 (by omega) (by omega) (by omega)).mono ?_; rintro e w' ⟨rfl, rfl⟩
        go_wp2_with fail
        refine (heldEffectS_any _ _ dG X (1 + 2 * (P.length : Int)) _ hfm_29 rfl (by omega) (by omega) (by omega)).mono ?_; rintro e w' ⟨rfl, rfl⟩
        rw [← HF.out]
        go_wp2
        go_ret
        exact ⟨rfl, hb29⟩
      · rw [if_neg hz1]
        go_wp2
        go_ret
        exact ⟨rfl, Below.refl _ _⟩
    · rw [if_neg hz0]
      go_wp2
      go_ret
      exact ⟨rfl, Below.refl _ _⟩
  · have hd2 : (1048576 : Int) < (n2 : Int) := by omega
    go_enter Try.func12, Try.ntmps12
    go_wp2
    go_ret
    exact ⟨rfl, Below.refl _ _⟩
end Go.Proofs.Ytfhbolpchmdaoaa
