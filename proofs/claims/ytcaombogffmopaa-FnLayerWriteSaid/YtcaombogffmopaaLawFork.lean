/- The walk of the law FnForkLayer. -/
import Derived.Test.YtcaombogffmopaaLawLays
import Derived.Test.YtcaombogffmopaaLawForkExact
namespace Go.Proofs.Ytcaombogffmopaa
open Go.RowKit
set_option linter.unusedVariables false
theorem forkM_no {L : List Lay} {n : Int} (h : layersB L = false) : forkM L n = ([], false) := by rw [forkM_eq, h]; rfl
theorem forkM_out {L : List Lay} {n : Int} (h : layersB L = true) (h2 : (inB n (-1) ((L.length : Int) - 1) && decide (L.length ≠ 20)) = false) : forkM L n = (L, false) := by rw [forkM_eq, h, h2]; rfl
theorem forkM_yes {L : List Lay} {n : Int} (h : layersB L = true) (h2 : (inB n (-1) ((L.length : Int) - 1) && decide (L.length ≠ 20)) = true) : forkM L n = (L ++ [(n, [])], true) := by rw [forkM_eq, h, h2]; rfl
theorem rowE_two_nine (w : World) : RowE (w.alloc (.cells #[.int .i64 2, .int .i64 9] 42)) (some ⟨w.heap.size, 0, none⟩) 1 [((2 : Int), (9 : Int))] :=
  rowE_owned (cap := 1) (own_lit (w := w) (B := 0) 42 2 #[.int .i64 2, .int .i64 9] 1 (Nat.zero_le _) (by unfold maxLen; omega) rfl).1 rfl (by simp) (by intro e he; simp at he; subst he; exact ⟨by decide, by decide⟩)
set_option maxRecDepth 100000 in
set_option maxHeartbeats 1000000 in
theorem lawForkLayer (a : Option Addr) (len cap : Nat) (z : List Int) (w : World) (h : RowB w a len z) (hc : a = none → cap = 0) (hlc : len ≤ cap) :
    Calls Try.prog 5 #[.slice a len cap] w (LawTrue w) := by
  by_cases hs : len ≤ 1048576
  · have hs' : ¬ (1048576 : Int) < (len : Int) := by omega
    go_enter Try.func5, Try.ntmps5
    go_wp2_with fail
    refine (drawForkLayer_any a len cap z w h hlc).mono ?_; rintro e w1 ⟨v, L, n, rfl, ⟨av, cv, rfl, hrl, hnil, hlen, hsm⟩, hn0, hn1, hb1⟩
    have hl20 := hsm.1
    have hnw : (Lit.int .i64 n).wf = true := WalkArith.wf_i64 (by omega)
    clear h hs hs' hsm hnil
    go_wp2_with fail
    refine (forkLayer_impl _ _ cv L n _ hrl hlen hnw).mono ?_; rintro e w2 ⟨vx, rfl, hx, hb2'⟩
    have hb2 := hb1.trans (hb2'.mono hb1.size)
    have hrl2 := hrl.below hb2'
    obtain ⟨ax, cx, rfl, hrx, -, hlx⟩ := rowL_of_own hx
    clear hrl hb2' hx
    go_wp2_with fail
    refine (forkLayer_spec _ _ cv L n _ hrl2 hnw).mono ?_; rintro e w3 ⟨vy, rfl, hy, hb3'⟩
    have hb3 := hb2.trans (hb3'.mono hb2.size)
    have hrl3 := hrl2.below hb3'
    have hrx3 := hrx.below hb3'
    obtain ⟨ay, cy, rfl, hry, -, -⟩ := rowL_of_own hy
    clear hrl2 hrx hb3' hy hnw
    obtain ⟨P, hP⟩ : ∃ P, P = (forkM L n).1 := ⟨_, rfl⟩
    obtain ⟨pb, hpb⟩ : ∃ pb, pb = (forkM L n).2 := ⟨_, rfl⟩
    rw [← hP] at hrx3 hry hlx ⊢
    rw [← hpb]
    have HP := Lib.hid hP
    have HPB := Lib.hid hpb
    clear hP hpb
    have hpp : (pb != pb) = false := by simp
    go_wp2_with fail
    refine (sameLayers_same _ _ _ cx cy P _ hrx3 hry).mono ?_; rintro e w4 ⟨rfl, hd4⟩
    have hb4 := hb3.trans (hd4.below _)
    have hrl4 := hrl3.below (hd4.below w3.heap.size)
    have hrx4 := hrx3.below (hd4.below w3.heap.size)
    clear hrl3 hrx3 hry hd4 hb3 hpp
    have hP := HP.out
    have hpb := HPB.out
    clear HP HPB
    cases hL : layersB L with
    | false =>
      rw [forkM_no hL] at hP hpb
      subst hP; subst hpb
      clear hL
      go_wp2_with fail
      refine (alive_any _).mono ?_; rintro e w5 ⟨rfl, hb5⟩
      go_wp2
      go_ret
      exact ⟨rfl, hb4.trans (hb5.mono hb4.size)⟩
    | true =>
      cases hi : (inB n (-1) ((L.length : Int) - 1) && decide (L.length ≠ 20)) with
      | false =>
        rw [forkM_out hL hi] at hP hpb
        subst hP; subst hpb
        clear hi hL
        by_cases h0 : P.length = 0
        · have hz : ((P.length : Int) == 0) = true := by simp; exact List.eq_nil_of_length_eq_zero h0
          clear h0
          go_wp2_with fail
          refine (alive_any _).mono ?_; rintro e w5 ⟨rfl, hb5⟩
          go_wp2
          go_ret
          exact ⟨rfl, hb4.trans (hb5.mono hb4.size)⟩
        · have hz : ((P.length : Int) == 0) = false := by simp; intro h; exact h0 (by rw [h]; rfl)
          clear h0
          go_wp2_with fail
          refine (sameLayers_same _ _ _ cx cv P _ hrx4 hrl4).mono ?_; rintro e w5 ⟨rfl, hd5⟩
          have hb5 := hb4.trans (hd5.below _)
          go_wp2_with fail
          refine (alive_any _).mono ?_; rintro e w6 ⟨rfl, hb6⟩
          go_wp2
          go_ret
          exact ⟨rfl, hb5.trans (hb6.mono hb5.size)⟩
      | true =>
        rw [forkM_yes hL hi] at hP hpb
        subst hpb
        simp only [Bool.and_eq_true, decide_eq_true_eq] at hi
        have hib := inB_true hi.1
        have HPV : Hid (layersB P = true) := Lib.hid (by rw [hP]; exact layersB_snoc hL (by omega) (by omega) hi.2)
        have HST : Hid (layerStoreM [((2 : Int), (9 : Int))] P L.length = layerStoreM [((2 : Int), (9 : Int))] L n) := Lib.hid (by rw [hP]; exact store_fork hL (by omega) (by omega) hi.2)
        have HPL : Hid (P.length = L.length + 1) := Lib.hid (by rw [hP]; simp)
        have HTK : Hid (P.take L.length = L) := Lib.hid (by rw [hP]; exact List.take_left)
        have hple : L.length ≤ P.length := by rw [HPL.out]; omega
        have hcle : L.length ≤ cx := by omega
        have hrc := hrx4.cut hple
        rw [HTK.out] at hrc
        have hpe : ((P.length : Int) == (L.length : Int) + 1) = true := by rw [HPL.out]; simp
        clear hi hib hP hL
        have hs4 := rowE_two_nine w4
        have hbl := (Below.refl w4.heap.size w4).alloc (Nat.le_refl _) (.cells #[.int .i64 2, .int .i64 9] 42)
        have HS4 := Lib.hid hs4
        have HRX := Lib.hid (hrx4.below hbl)
        have HRC := Lib.hid (hrc.below hbl)
        have HRL := Lib.hid (hrl4.below hbl)
        have hb5 := hb4.trans (hbl.mono hb4.size)
        clear hs4 hrx4 hrc hrl4 hbl
        go_wp2_with fail
        refine (layersValid_impl _ _ cx P _ HRX.out hlx).mono ?_; rintro e w6 ⟨rfl, hb6'⟩
        have hb6 := hb5.trans (hb6'.mono hb5.size)
        rw [HPV.out]
        have HS6 := Lib.hid (HS4.out.below hb6')
        have HX6 := Lib.hid (HRX.out.below hb6')
        have HC6 := Lib.hid (HRC.out.below hb6')
        have HL6 := Lib.hid (HRL.out.below hb6')
        clear hb6' hb5 HS4 HRX HRC HRL
        go_wp2_with fail
        refine (sameLayers_same _ _ _ cx cv L _ HC6.out HL6.out).mono ?_; rintro e w7 ⟨rfl, hd7⟩
        have hb7 := hb6.trans (hd7.below _)
        have HS7 := Lib.hid (HS6.out.below (hd7.below w6.heap.size))
        have HX7 := Lib.hid (HX6.out.below (hd7.below w6.heap.size))
        have HL7 := Lib.hid (HL6.out.below (hd7.below w6.heap.size))
        clear hd7 hb6 HS6 HX6 HC6 HL6
        go_wp2_with fail
        refine (layerStore_impl _ _ _ _ _ cx [((2 : Int), (9 : Int))] P L.length _ HS7.out HX7.out hlx).mono ?_; rintro e w8 ⟨v8, rfl, ho8, hw8, hb8'⟩
        have hb8 := hb7.trans (hb8'.mono hb7.size)
        have HS8 := Lib.hid (HS7.out.below hb8')
        have HL8 := Lib.hid (HL7.out.below hb8')
        rw [HST.out] at ho8 hw8
        have hpl : (layerStoreM [((2 : Int), (9 : Int))] L n).length ≤ 4000000 := by
          rw [layerStoreM_ok]; split
          · exact Nat.le_trans (entTo_len _ _) (by omega)
          · simp
        obtain ⟨T, hT⟩ : ∃ T, T = layerStoreM [((2 : Int), (9 : Int))] L n := ⟨_, rfl⟩
        have HTT := Lib.hid hT
        rw [← hT] at ho8 hw8 hpl
        clear hT HST
        obtain ⟨g8, c8, rfl, hr8, -⟩ := rowE_of_owns ho8 hpl hw8
        clear hb8' ho8 hb7 HS7 HX7 HL7
        go_wp2_with fail
        refine (layerStore_impl _ _ _ _ _ cv [((2 : Int), (9 : Int))] L n _ HS8.out HL8.out hlen).mono ?_; rintro e w9 ⟨v9, rfl, ho9, hw9, hb9'⟩
        have hb9 := hb8.trans (hb9'.mono hb8.size)
        rw [← HTT.out] at ho9 hw9
        obtain ⟨g9, c9, rfl, hr9, -⟩ := rowE_of_owns ho9 hpl hw9
        have hr89 := hr8.below hb9'
        clear hb9' ho9 hb8 hr8
        go_wp2_with fail
        refine (sameStore_same _ _ _ c8 c9 T _ hr89 hr9).mono ?_; rintro e w10 ⟨rfl, hd10⟩
        go_wp2
        go_ret
        exact ⟨rfl, hb9.trans (hd10.below _)⟩
  · have hs' : (1048576 : Int) < (len : Int) := by omega
    clear h hlc
    go_enter Try.func5, Try.ntmps5
    go_wp2
    go_ret
    exact ⟨rfl, Below.refl _ _⟩
end Go.Proofs.Ytcaombogffmopaa
