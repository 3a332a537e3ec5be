/- The walk of the law FnApplyEffect. -/
import Derived.Test.YtakbkomgmajnfaaLawActR
import Derived.Test.YtakbkomgmajnfaaImplApp
import Derived.Test.YtakbkomgmajnfaaSpecEff3
import Derived.Test.YtakbkomgmajnfaaTwo
import Derived.Test.YtakbkomgmajnfaaDrawEffs2
namespace Go.Proofs.Ytakbkomgmajnfaa
open Go.RowKit
set_option linter.unusedVariables false
theorem valueM_in2 {l : List Ent} (h : storeB l = true) {k : Int} (h0 : 0 ≤ k) (h1 : k ≤ 31) : valueM l k = atM l k := by simp [valueM, h, inB_yes h0 h1]
theorem applyM_len (S W : List Ent) : (applyM S W).length ≤ 1000 := by
  cases hS : storeB S with
  | false => rw [applyM_no (by rw [hS]; rfl)]; simp
  | true =>
    cases hW : writesB W with
    | false => rw [applyM_no (by rw [hS, hW]; rfl)]; simp
    | true => rw [applyM_yes hS hW]; have := store_len (ok_applyM hS hW); omega
theorem applyM_more {S W : List Ent} (h : (applyM S W).length ≠ 0) : storeB S = true ∧ writesB W = true := by
  cases hS : storeB S with
  | false => rw [applyM_no (by rw [hS]; rfl)] at h; simp at h
  | true =>
    cases hW : writesB W with
    | false => rw [applyM_no (by rw [hS, hW]; rfl)] at h; simp at h
    | true => exact ⟨rfl, rfl⟩
set_option warningAsError false in
set_option maxRecDepth 100000 in
set_option maxHeartbeats 8000000 in
theorem lawApplyEffect (a : Option Addr) (len cap : Nat) (z : List Int) (w : World) (h : RowB w a len z) (hc : a = none → cap = 0) (hlc : len ≤ cap) :
    Calls Try.prog 6 #[.slice a len cap] w (LawTrue w) := by
  by_cases hs : len ≤ 1048576
  · have hs' : ¬ (1048576 : Int) < (len : Int) := by omega
    go_enter Try.func6, Try.ntmps6
    go_wp2_with fail
    refine (drawApplyEffect_any a len cap z w h hlc).mono ?_; rintro e w1 ⟨gS, cS, S, x, a1, c1, a2, c2, rfl, hrS, hSl, hf1, hl1, hl2, z1, z2, hb1⟩
    clear h hs hs'
    have hE1 := eAt_new w1 39 x.done (.slice a1 x.rds.length c1) (.slice a2 x.wrs.length c2)
    have hbl := (Below.refl w1.heap.size w1).alloc (Nat.le_refl _) (.cells #[.bool x.done, .slice a1 x.rds.length c1, .slice a2 x.wrs.length c2] 39)
    have hrS2 := hrS.below hbl
    have hf2 := hf1.below hbl
    have hb2 := hb1.trans (hbl.mono hb1.size)
    clear hrS hf1 hb1 hbl
    go_wp2_with fail
    obtain ⟨w2, hw2⟩ : ∃ w2, w2 = w1.alloc (.cells #[.bool x.done, .slice a1 x.rds.length c1, .slice a2 x.wrs.length c2] 39) := ⟨_, rfl⟩
    rw [← hw2] at hE1 hrS2 hf2 hb2 ⊢
    clear hw2
    obtain ⟨E, hEe⟩ : ∃ E, E = w1.heap.size := ⟨_, rfl⟩
    rw [← hEe] at hE1 ⊢
    clear hEe
    have hPL := applyM_len S x.wrs
    obtain ⟨P, hP⟩ : ∃ P, P = applyM S x.wrs := ⟨_, rfl⟩
    have HP := Lib.hid hP
    rw [← hP] at hPL
    clear hP
    refine (applyEffect_impl _ _ cS S _ _ _ _ _ _ _ x.wrs _ hrS2 hf2.2).mono ?_; rintro e w3 ⟨v3, rfl, ho3, hw3, hb3'⟩
    rw [← HP.out] at ho3 hw3
    obtain ⟨gx, cx, rfl, hx3, -⟩ := rowE_of_owns ho3 (by omega) hw3
    have hrS3 := hrS2.below hb3'
    have hf3 := hf2.below hb3'
    have hb3 := hb2.trans (hb3'.mono hb2.size)
    have HE3 := Lib.hid (hE1.below hb3')
    have hE3 := HE3.out
    obtain ⟨⟨e0, e1, e2⟩, -⟩ := hE3
    clear hE1 hrS2 hf2 hb2 hb3' ho3 hw3
    go_wp2_with fail
    refine (applyEffect_spec _ _ cS S _ _ _ _ _ _ _ x.wrs _ hrS3 hf3.2 (fun h => by cases h)).mono ?_; rintro e w4 ⟨v4, rfl, ho4, hw4, hb4'⟩
    rw [← HP.out] at ho4 hw4
    obtain ⟨g4, c4, rfl, -, hy4⟩ := rowE_of_own ho4 (by omega) hw4
    have hx4 := hx3.below hb4'
    have hrS4 := hrS3.below hb4'
    have hf4 := hf3.below hb4'
    have hb4 := hb3.trans (hb4'.mono hb3.size)
    have HE4 := Lib.hid (HE3.out.below hb4')
    clear hrS3 hf3 hb3 hb4' HE3 e0 e1 e2 ho4 hw4 hx3
    go_wp2_with fail
    refine (sameStore_same _ _ _ _ _ P _ hx4 hy4).mono ?_; rintro e w5 ⟨rfl, hd5⟩
    have hb5' := hd5.below w4.heap.size
    have hx5 := hx4.below hb5'
    have hrS5 := hrS4.below hb5'
    have hf5 := hf4.below hb5'
    have hb5 := hb4.trans (hb5'.mono hb4.size)
    have HE5 := Lib.hid (HE4.out.below hb5')
    clear hrS4 hf4 hb4 hb5' HE4 hx4 hy4 hd5
    by_cases h0 : P.length = 0
    · rw [h0]
      clear h0 hx5 hrS5 hf5
      go_wp2_with fail
      refine (alive_any _).mono ?_; rintro e w11 ⟨rfl, hb11⟩
      go_wp2
      go_ret
      exact ⟨rfl, hb5.trans (hb11.mono hb5.size)⟩
    · obtain ⟨hS, hW⟩ := applyM_more (show (applyM S x.wrs).length ≠ 0 by rw [← HP.out]; exact h0)
      have hT : P = applyL S x.wrs := HP.out.trans (applyM_yes hS hW)
      have HT1 : Hid (storeB P = true) := Lib.hid (by rw [hT]; exact ok_applyM hS hW)
      have HAG : Hid (applyM P x.wrs = P) := Lib.hid (by rw [applyM_yes HT1.out hW, hT, applied_again hS hW])
      have HVD : Hid (∀ k : Nat, k < x.wrs.length → valueM P (x.wrs.getD k (0, 0)).1 = (x.wrs.getD k (0, 0)).2) := Lib.hid (fun k hk => by
        obtain ⟨⟨m0, m1⟩, -⟩ := wrE_mem hW k hk
        rw [valueM_in2 HT1.out m0 m1, hT]; exact applied_at hW k hk)
      have HCL : Hid ((changedM S P).length ≤ x.wrs.length) := Lib.hid (by rw [hT]; exact changed_le hS hW)
      have p0 : ((P.length : Int) == 0) = false := by simpa using h0
      have p1 : ¬ (P.length : Int) = 0 := by omega
      clear hS hW hT h0 HP
      obtain ⟨⟨e0, e1, e2⟩, -⟩ := HE5.out
      obtain ⟨n, hn⟩ : ∃ n, n = x.wrs.length := ⟨_, rfl⟩
      have hq5 := hf5.2
      rw [← hn] at e2 hq5 HVD HCL hl2
      clear hn HE5 hf5
      have hEl : E < w5.heap.size := World.block_lt_of_cell? w5 ⟨E, 0, none⟩ e0
      go_wp2
      go_loopw [6] (fun i wr => ∃ k : Nat, k ≤ n ∧ i = .int .i64 k ∧ Below w5.heap.size w5 wr) (fun i _ => n - (intOf i).toNat)
      case atStart => exact ⟨0, Nat.zero_le _, rfl, Below.refl _ _⟩
      case round =>
        obtain ⟨k, hk, rfl, hbr⟩ := hrel
        have f0 := below_cl hbr hEl e0
        have f1 := below_cl hbr hEl e1
        have f2 := below_cl hbr hEl e2
        have hEr : E < wr.heap.size := World.block_lt_of_cell? wr ⟨E, 0, none⟩ f0
        have hxr := hx5.below hbr
        have hqr := hq5.below hbr
        by_cases hlt : k < n
        · obtain ⟨b', off, rfl, hc⟩ := hqr.2.2.1 (by omega)
          obtain ⟨hc1, hc2⟩ := hc k hlt
          have hbl : b' < wr.heap.size := World.block_lt_of_cell? wr ⟨b', off + k * 2, none⟩ hc1
          have HNX := Lib.hid (HVD.out k hlt)
          clear hc
          obtain ⟨u, hu⟩ : ∃ u, u = (x.wrs.getD k (0, 0)).1 := ⟨_, rfl⟩
          obtain ⟨y, hy⟩ : ∃ y, y = (x.wrs.getD k (0, 0)).2 := ⟨_, rfl⟩
          rw [← hu] at hc1
          rw [← hy] at hc2
          rw [← hu, ← hy] at HNX
          clear hu hy
          have q1 : (0 : Int) ≤ (k : Int) := by omega
          have q2 : (k : Int) < (n : Int) := by omega
          have hMX : n ≤ maxLen := hqr.2.1
          clear hqr f0 f1 e0 e1 e2
          have hyy : (y != y) = false := by simp
          go_wp2_with fail
          go_region_held3 (fun w' => w'.cell? ⟨E, 2, none⟩ = some (.slice (some ⟨b', off, none⟩) n c2) ∧ w'.cell? ⟨b', off + k * 2, none⟩ = some (.int .i64 u) ∧ w'.cell? ⟨b', off + k * 2 + 1, none⟩ = some (.int .i64 y)) (first | exact ⟨f2, hc1, hc2⟩ | exact ⟨g1, g2, g3⟩ | go_keep)
            ((go_at_call 29; refine (valueAt_impl _ _ _ P u _ (by exact hxr)).mono ?_; rintro e w13 ⟨rfl, hb13'⟩; rw [HNX.out]; have hb13 : Below wr.heap.size wr w13 := (by first | exact hb13' | exact (Below.refl _ wr).drew.trans hb13' | exact (Below.refl _ wr).drew.drew.trans hb13'); have g1 := below_cl hb13 hEr f2; have g2 := below_cl hb13 hbl hc1; have g3 := below_cl hb13 hbl hc2))
          all_goals
            have HB13 := Lib.hid (hbr.trans (hb13.mono hbr.size))
            clear hb13 hb13' hc1 hc2 g1 g2 g3 hbr f2 hxr
            go_wp2
            go_roundw
            case rel => exact ⟨k + 1, by omega, by go_num, HB13.out⟩
            case measure => simp [intOf]; omega
        · obtain rfl : k = n := by omega
          have hrSr := hrS5.below hbr
          have HBW := Lib.hid (hb5.trans (hbr.mono hb5.size))
          clear hx5 hrS5 hq5 e0 e1 e2 HVD hbr hEl hb5 p0 p1
          obtain ⟨m, hm⟩ : ∃ m, m = (changedM S P).length := ⟨_, rfl⟩
          have HM := Lib.hid hm
          rw [← hm] at HCL
          clear hm
          have hmk : m ≤ k := HCL.out
          have hm3 : decide ((m : Int) ≤ (k : Int)) = true := by simp; omega
          have hm4 : (m : Int) ≤ (k : Int) := by omega
          have HB : Below wr.heap.size wr wr := Below.refl _ _
          have hx := hxr
          have hs := hrSr
          have hq := hqr
          have g0 := f0
          have g1 := f1
          have g2 := f2
          go_upto_region 14 with (fail)
          first | (go_region_held3 (fun w' => w'.cell? ⟨E, 0, none⟩ = some (.bool x.done) ∧ w'.cell? ⟨E, 1, none⟩ = some (.slice a1 x.rds.length c1) ∧ w'.cell? ⟨E, 2, none⟩ = some (.slice a2 k c2)) (first | exact ⟨g0, g1, g2⟩ | go_keep)
            (first | (go_at_call 30; refine (storeValid_impl _ _ _ P _ (by exact hx)).mono ?_; rintro e w13 ⟨rfl, hb13'⟩; rw [HT1.out]; have HB : Below wr.heap.size wr w13 := (by first | exact HB.trans (hb13'.mono HB.size) | exact HB.trans (((Below.refl _ _).drew.trans hb13').mono HB.size) | exact HB.trans (((Below.refl _ _).drew.drew.trans hb13').mono HB.size)); have g0 := below_cl HB hEr f0; have g1 := below_cl HB hEr f1; have g2 := below_cl HB hEr f2; have hx := hxr.below HB; have hs := hrSr.below HB; have hq := hqr.below HB) | (go_at_call 28; refine (applyEffect_impl _ _ _ P _ _ _ _ _ _ _ x.wrs _ (by exact hx) (by exact hq)).mono ?_; rintro e w13 ⟨v13, rfl, ho13, hw13, hb13'⟩; rw [HAG.out] at ho13 hw13; obtain ⟨gy, cy, rfl, hy, -⟩ := rowE_of_owns ho13 (by omega) hw13; have HB : Below wr.heap.size wr w13 := (by first | exact HB.trans (hb13'.mono HB.size) | exact HB.trans (((Below.refl _ _).drew.trans hb13').mono HB.size) | exact HB.trans (((Below.refl _ _).drew.drew.trans hb13').mono HB.size)); have g0 := below_cl HB hEr f0; have g1 := below_cl HB hEr f1; have g2 := below_cl HB hEr f2; have hx := hxr.below HB; have hs := hrSr.below HB; have hq := hqr.below HB) | (go_at_call 32; refine (sameStore_same _ _ _ _ _ _ _ (by exact hy) (by exact hx)).mono ?_; rintro e w13 ⟨rfl, hd13⟩; have HB : Below wr.heap.size wr w13 := (by first | exact HB.trans (hd13.below _) | exact HB.trans ((Below.refl _ _).drew.trans (hd13.below _)) | exact HB.trans ((Below.refl _ _).drew.drew.trans (hd13.below _))); have g0 := below_cl HB hEr f0; have g1 := below_cl HB hEr f1; have g2 := below_cl HB hEr f2; have hx := hxr.below HB; have hs := hrSr.below HB; have hq := hqr.below HB) | (go_at_call 35; refine (changedKeys_impl _ _ _ _ _ _ S P _ (by exact hs) (by exact hx)).mono ?_; rintro e w13 ⟨v13, rfl, ho13, hw13, hb13'⟩; rw [← HM.out] at ho13; obtain ⟨gz, cz, rfl, -⟩ := rowI_of_owns ho13 (by unfold maxLen; omega) hw13; have HB : Below wr.heap.size wr w13 := (by first | exact HB.trans (hb13'.mono HB.size) | exact HB.trans (((Below.refl _ _).drew.trans hb13').mono HB.size) | exact HB.trans (((Below.refl _ _).drew.drew.trans hb13').mono HB.size)); have g0 := below_cl HB hEr f0; have g1 := below_cl HB hEr f1; have g2 := below_cl HB hEr f2; have hx := hxr.below HB; have hs := hrSr.below HB; have hq := hqr.below HB))) | fail
          all_goals
            have HBE := Lib.hid HB
            clear HB g0 g1 g2 hx hs hq
            go_wp2
            go_ret
            exact ⟨rfl, HBW.out.trans (HBE.out.mono HBW.out.size)⟩
  · have hs' : (1048576 : Int) < (len : Int) := by omega
    clear h hlc
    go_enter Try.func6, Try.ntmps6
    go_wp2
    go_ret
    exact ⟨rfl, Below.refl _ _⟩
end Go.Proofs.Ytakbkomgmajnfaa
