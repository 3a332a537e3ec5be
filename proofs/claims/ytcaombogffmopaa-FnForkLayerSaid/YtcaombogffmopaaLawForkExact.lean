/- The walks of the exact laws of ForkLayer: what they give owns its memory. -/
import Derived.Test.YtcaombogffmopaaSpecF
import Derived.Test.YtcaombogffmopaaFour
import Derived.Test.YtcaombogffmopaaConvF
namespace Go.Proofs.Ytcaombogffmopaa
open Go.RowKit
set_option linter.unusedVariables false
theorem OwnL.row {w : World} {B T : Nat} {eL eE : TypeId} {a : Option Addr} {cap : Nat} {L : List Lay} (h : OwnL w B T eL eE (.slice a L.length cap) L) : RowL w a L.length L := by
  obtain ⟨a', cap', he, hr, -⟩ := rowL_of_own h
  simp only [Value.slice.injEq, true_and] at he
  obtain ⟨rfl, rfl⟩ := he
  exact hr
theorem OwnL.rowM {w : World} {B T : Nat} {eL eE : TypeId} {a : Option Addr} {n cap : Nat} {k : Int} {L : List Lay} (h : OwnL w B T eL eE (.slice a n cap) (marksL k L)) (hn : n = L.length) : RowL w a n (marksL k L) := by
  have e : n = (marksL k L).length := by rw [marksL_len]; exact hn
  rw [e] at h ⊢
  exact h.row
theorem wt_valid {L : List Lay} (h : layersB L = true) : wtL L ≤ 1000 := by
  have h20 := ((layersB_iff L).1 h).2
  have : ∀ k, k ≤ L.length → sumW (L.take k) ≤ 32 * k := by
    intro k
    induction k with
    | zero => intro _; simp [sumW]
    | succ k ih =>
      intro hk
      rw [sumW_next L k (by omega)]
      have := ih (by omega)
      have := wr_len ((writesB_ok _).2 (lay_wr h k (by omega)))
      omega
  have h2 := this L.length (Nat.le_refl _)
  rw [List.take_of_length_le (Nat.le_refl _)] at h2
  unfold wtL; omega
theorem wt_fork (L : List Lay) (n : Int) (h : wtL L ≤ 1048576) : wtL (forkM L n).1 ≤ 1048577 := by
  rw [forkM_eq]
  split
  · split
    · unfold wtL at *; simp [sumW_append, sumW]; omega
    · simp only; omega
  · simp [wtL, sumW]
theorem wt_write (L : List Lay) (n key val : Int) (h : wtL L ≤ 1048576) : wtL (layerWriteM L n key val).1 ≤ 1048577 := by
  rw [layerWriteM_eq]
  split
  · rename_i hL
    split
    · rename_i hi
      simp only [Bool.and_eq_true] at hi
      obtain ⟨⟨h1, h2⟩, h3⟩ := hi
      have b1 := inB_true h1; have b2 := inB_true h2; have b3 := inB_true h3
      have := wt_valid (layersB_write (n := n) (key := key) (val := val) hL b1.1 (by omega) b2.1 b2.2 b3.1 b3.2)
      simp only; omega
    · simp only; omega
  · simp [wtL, sumW]
set_option maxRecDepth 100000 in
set_option maxHeartbeats 4000000 in
theorem lawExactForkLayer (a : Option Addr) (n cap : Nat) (L : List Lay) (q : Int) (w : World) (h : RowL w a n L) (hc : a = none → cap = 0) (hlc : n ≤ cap) (hq : (Lit.int .i64 q).wf = true) :
    Calls Try.prog 10 #[.slice a n cap, .int .i64 q] w (LawTrue w) := by
  have HR := Lib.hid h
  clear h
  go_enter Try.func10, Try.ntmps10
  go_wp2_with fail
  refine (szLayerS_any a n cap L 1048576 _ HR.out (by omega) (by omega)).mono ?_; rintro e w0 ⟨rfl, hb0⟩
  by_cases hs : (wtL L : Int) ≤ 1048576
  · have hsz : wtL L ≤ 1048576 := by omega
    have hnn : decide ((1048576 : Int) - (wtL L : Int) < 0) = false := by simp; omega
    rw [szM_yes hs]
    clear hs
    obtain rfl := HR.out.1
    go_wp2_with fail
    refine (toLayerS_any a _ cap L _ (HR.out.below hb0) hsz).mono ?_; rintro e w1 ⟨v1, rfl, ho1, hb1'⟩
    have hb1 := hb0.trans (hb1'.mono hb0.size)
    obtain ⟨a1, c1, rfl, hr1, -, hl1⟩ := rowL_of_own ho1
    clear ho1 hb1'
    go_wp2_with fail
    refine (forkLayer_spec _ _ c1 L q _ hr1 hq).mono ?_; rintro e w2 ⟨vw, rfl, how, hb2'⟩
    have hb2 := hb1.trans (hb2'.mono hb1.size)
    have hwt := wt_fork L q hsz
    obtain ⟨P, hP⟩ : ∃ P, P = (forkM L q).1 := ⟨_, rfl⟩
    obtain ⟨pb, hpb⟩ : ∃ pb, pb = (forkM L q).2 := ⟨_, rfl⟩
    have HP := Lib.hid hP
    have HPB := Lib.hid hpb
    rw [← hP] at how hwt
    rw [← hpb]
    clear hP hpb
    have hpp : (pb != pb) = false := by simp
    have hoffP : offL P P.length ≤ 8000000 := by have := sumW_take P P.length; unfold wtL at hwt; unfold offL; omega
    have hoffL : offL L L.length ≤ 8000000 := by have := sumW_take L L.length; unfold wtL at hsz; unfold offL; omega
    obtain ⟨aw, cw, rfl, -, -, -⟩ := rowL_of_own how
    clear hr1 hb2' 
    go_wp2_with fail
    refine (toLayerS_any a _ cap L _ (HR.out.below hb2) hsz).mono ?_; rintro e w3 ⟨vx, rfl, hox, hb3'⟩
    have hb3 := hb2.trans (hb3'.mono hb2.size)
    have how3 := how.below hb3'
    obtain ⟨ax, cx, rfl, hrx, -, hlx⟩ := rowL_of_own hox
    have hs23 := hb3'.size
    clear how hb3'
    go_wp2_with fail
    refine (forkLayer_impl _ _ cx L q _ hrx hlx hq).mono ?_; rintro e w4 ⟨vg, rfl, hog, hb4'⟩
    have hb4 := hb3.trans (hb4'.mono hb3.size)
    have how4 := how3.below hb4'
    have hox4 := hox.below hb4'
    have hs34 := hb4'.size
    rw [← HP.out] at hog
    rw [← HPB.out]
    obtain ⟨ag, cg, rfl, -, -, -⟩ := rowL_of_own hog
    clear hb4' how3 hox hrx
    go_wp2_with fail
    refine (eqLayerS_same _ _ _ cg cw P _ hog.row how4.row).mono ?_; rintro e w5 ⟨rfl, hb5'⟩
    have hb5 := hb4.trans (hb5'.mono hb4.size)
    have how5 := how4.below hb5'
    have hox5 := hox4.below hb5'
    have hog5 := hog.below hb5'
    have hs45 := hb5'.size
    clear how4 hox4 hog hb5'
    go_wp2_with fail
    refine (toLayerS_any a _ cap L _ (HR.out.below hb5) hsz).mono ?_; rintro e w6 ⟨v6, rfl, ho6, hb6'⟩
    have hb6 := hb5.trans (hb6'.mono hb5.size)
    obtain ⟨a6, c6, rfl, hr6, -, -⟩ := rowL_of_own ho6
    go_wp2_with fail
    refine (eqLayerS_same _ _ _ cx c6 L _ (hox5.below hb6').row hr6).mono ?_; rintro e w7 ⟨rfl, hb7'⟩
    have hb7 := hb6.trans (hb7'.mono hb6.size)
    have how7 := (how5.below hb6').below hb7'
    have hox7 := (hox5.below hb6').below hb7'
    have hog7 := (hog5.below hb6').below hb7'
    have hs57 : w5.heap.size ≤ w7.heap.size := Nat.le_trans hb6'.size hb7'.size
    clear how5 hox5 hog5 hb6' hb7' hr6 ho6
    go_wp2_with fail
    refine (markLayerS_own _ _ _ L 1 _ hox7 (by omega) (by omega) (by omega)).mono ?_; rintro e w8 ⟨rfl, -, ht8⟩
    have hb8 : Below w.heap.size w w8 := ht8.below hb7 (by have := hb2.size; omega) (by have := hb7.size; omega)
    have how8 := how7.turn ht8 (.inl (Nat.le_refl _))
    have hog8 := hog7.turn ht8 (.inr (.inl (Nat.le_refl _)))
    clear how7 hog7 hox7 ht8
    have hk8 : decide ((1 : Int) + (offL L L.length : Int) < 0) = false := by simp; omega
    go_wp2_with fail
    refine (eqLayerS_same _ _ _ cg cw P _ hog8.row how8.row).mono ?_; rintro e w9 ⟨rfl, hb9'⟩
    have hb9 := hb8.trans (hb9'.mono hb8.size)
    have how9 := how8.below hb9'
    have hog9 := hog8.below hb9'
    clear how8 hog8 hb9'
    go_wp2_with fail
    refine (markLayerS_own _ _ _ P 1 _ hog9 (by omega) (by omega) (by omega)).mono ?_; rintro e w10 ⟨rfl, hom, ht10⟩
    have hb10 : Below w.heap.size w w10 := ht10.below hb9 (by have := hb3.size; omega) (by have := hb9.size; omega)
    have how10 := how9.turn ht10 (.inl hs23)
    have hrm := hom.rowM rfl
    clear how9 hog9 hom ht10
    have hq0 : decide ((1 : Int) + (offL P P.length : Int) < 0) = false := by simp; omega
    have hqm : ((1 : Int) + (offL P P.length : Int) != 1 + (offL P P.length : Int)) = false := by simp
    go_wp2_with fail
    refine (heldLayerS_any _ _ cg P 1 _ hrm rfl (by omega) (by omega) (by omega)).mono ?_; rintro e w' ⟨rfl, rfl⟩
    go_wp2_with fail
    refine (toLayerS_any a _ cap L _ (HR.out.below hb10) hsz).mono ?_; rintro e w11 ⟨v11, rfl, ho11, hb11'⟩
    have hb11 := hb10.trans (hb11'.mono hb10.size)
    obtain ⟨a11, c11, rfl, hr11, -, hl11⟩ := rowL_of_own ho11
    clear ho11
    go_wp2_with fail
    refine (forkLayer_impl _ _ c11 L q _ hr11 hl11 hq).mono ?_; rintro e w12 ⟨vh, rfl, hoh, hb12'⟩
    have hb12 := hb11.trans (hb12'.mono hb11.size)
    rw [← HP.out] at hoh
    rw [← HPB.out]
    obtain ⟨ah, ch, rfl, hrh, -, -⟩ := rowL_of_own hoh
    have how12 := (how10.below hb11').below hb12'
    have hrm12 := (hrm.below hb11').below hb12'
    clear how10 hrm hoh hb11' hb12' hr11
    go_wp2_with fail
    refine (eqLayerS_same _ _ _ ch cw P _ hrh how12.row).mono ?_; rintro e w13 ⟨rfl, hb13'⟩
    have hb13 := hb12.trans (hb13'.mono hb12.size)
    have hrm13 := hrm12.below hb13'
    clear hrm12 how12 hrh hb13'
    go_wp2_with fail
    refine (heldLayerS_any _ _ cg P 1 _ hrm13 rfl (by omega) (by omega) (by omega)).mono ?_; rintro e w' ⟨rfl, rfl⟩
    go_wp2
    go_ret
    exact ⟨rfl, hb13⟩
  · rw [szM_no (by omega)]
    go_wp2
    go_ret
    exact ⟨rfl, hb0⟩
end Go.Proofs.Ytcaombogffmopaa
