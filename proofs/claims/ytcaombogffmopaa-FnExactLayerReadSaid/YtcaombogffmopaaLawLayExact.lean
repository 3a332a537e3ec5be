/- The walks of the exact laws of LayersValid and LayerRead. -/
import Derived.Test.YtcaombogffmopaaLawForkExact
namespace Go.Proofs.Ytcaombogffmopaa
open Go.RowKit
set_option linter.unusedVariables false
set_option maxHeartbeats 1000000 in
theorem lawExactLayersValid (a : Option Addr) (n cap : Nat) (L : List Lay) (w : World) (h : RowL w a n L) (hc : a = none → cap = 0) (hlc : n ≤ cap) :
    Calls Try.prog 8 #[.slice a n cap] w (LawTrue w) := by
  have HR := Lib.hid h
  clear h
  go_enter Try.func8, Try.ntmps8
  go_wp2_with fail
  refine (szLayerS_any a n cap L 1048576 _ HR.out (by omega) (by omega)).mono ?_; rintro e w0 ⟨rfl, hb0⟩
  by_cases hs : (wtL L : Int) ≤ 1048576
  · have hsz : wtL L ≤ 1048576 := by omega
    have hnn : decide ((1048576 : Int) - (wtL L : Int) < 0) = false := by simp; omega
    rw [szM_yes hs]
    clear hs
    obtain rfl := HR.out.1
    go_wp2_with fail
    refine (toLayerS_any a _ cap L _ (HR.out.below hb0) hsz).mono ?_; rintro e w1 ⟨v1, rfl, ho1, hb1'⟩
    have hb1 := hb0.trans (hb1'.mono hb0.size)
    obtain ⟨a1, c1, rfl, hr1, -, hl1⟩ := rowL_of_own ho1
    clear ho1 hb1'
    go_wp2_with fail
    refine (layersValid_spec _ _ c1 L _ hr1).mono ?_; rintro e w2 ⟨rfl, hd2⟩
    have hb2 := hb1.trans (hd2.below _)
    go_wp2_with fail
    refine (toLayerS_any a _ cap L _ (HR.out.below hb2) hsz).mono ?_; rintro e w3 ⟨v3, rfl, ho3, hb3'⟩
    have hb3 := hb2.trans (hb3'.mono hb2.size)
    obtain ⟨a3, c3, rfl, hr3, -, hl3⟩ := rowL_of_own ho3
    clear ho3 hb3' hr1 hd2
    go_wp2_with fail
    refine (layersValid_impl _ _ c3 L _ hr3 hl3).mono ?_; rintro e w4 ⟨rfl, hb4'⟩
    have hb4 := hb3.trans (hb4'.mono hb3.size)
    have hr4 := hr3.below hb4'
    obtain ⟨sb, hsb⟩ : ∃ sb, sb = layersB L := ⟨_, rfl⟩
    rw [← hsb]
    clear hsb hr3 hb4'
    have hne : (sb != sb) = false := by simp
    go_wp2_with fail
    refine (toLayerS_any a _ cap L _ (HR.out.below hb4) hsz).mono ?_; rintro e w5 ⟨v5, rfl, ho5, hb5'⟩
    have hb5 := hb4.trans (hb5'.mono hb4.size)
    obtain ⟨a5, c5, rfl, hr5, -, -⟩ := rowL_of_own ho5
    clear ho5
    go_wp2_with fail
    refine (eqLayerS_same _ _ _ c3 c5 L _ (hr4.below hb5') hr5).mono ?_; rintro e w6 ⟨rfl, hb6'⟩
    have hb6 := hb5.trans (hb6'.mono hb5.size)
    go_wp2
    go_ret
    exact ⟨rfl, hb6⟩
  · rw [szM_no (by omega)]
    go_wp2
    go_ret
    exact ⟨rfl, hb0⟩
set_option maxHeartbeats 1000000 in
theorem lawExactLayerRead (a : Option Addr) (n cap : Nat) (S : List Ent) (b : Option Addr) (m cap' : Nat) (L : List Lay) (q key : Int) (w : World) (h : RowE w a n S) (hc : a = none → cap = 0) (hlc : n ≤ cap) (h' : RowL w b m L) (hc' : b = none → cap' = 0) (hlc' : m ≤ cap') (hq : (Lit.int .i64 q).wf = true) (hkw : (Lit.int .i64 key).wf = true) :
    Calls Try.prog 9 #[.slice a n cap, .slice b m cap', .int .i64 q, .int .i64 key] w (LawTrue w) := by
  have HS := Lib.hid h
  have HR := Lib.hid h'
  have hm := h.2.1
  clear h h'
  go_enter Try.func9, Try.ntmps9
  go_wp2_with fail
  refine (szEntryS_any a n cap 1048576 _ (by omega) (by omega) hm).mono ?_; rintro e w' ⟨rfl, rfl⟩
  by_cases hn : (n : Int) ≤ 1048576
  · rw [if_pos hn]
    have hnn0 : decide ((1048576 : Int) - (n : Int) < 0) = false := by simp; omega
    go_wp2_with fail
    refine (szLayerS_any b m cap' L (1048576 - n) _ HR.out (by omega) (by omega)).mono ?_; rintro e w0 ⟨rfl, hb0⟩
    by_cases hs : (wtL L : Int) ≤ 1048576 - n
    · have hsz : wtL L ≤ 1048576 := by omega
      have hse : n ≤ 1048576 := by omega
      have hnn : decide ((1048576 : Int) - (n : Int) - (wtL L : Int) < 0) = false := by simp; omega
      rw [szM_yes hs]
      clear hs hn
      obtain rfl := HR.out.1
      obtain rfl := HS.out.1
      go_wp2_with fail
      refine (toEntryS_any a _ cap S _ (HS.out.below hb0) hse).mono ?_; rintro e w1 ⟨v1, rfl, ho1, hw1, hb1'⟩
      have hb1 := hb0.trans (hb1'.mono hb0.size)
      obtain ⟨g1, c1, rfl, -, hr1⟩ := rowE_of_own ho1 (by omega) hw1
      clear ho1 hb1'
      go_wp2_with fail
      refine (toLayerS_any b _ cap' L _ (HR.out.below hb1) hsz).mono ?_; rintro e w2 ⟨v2, rfl, ho2, hb2'⟩
      have hb2 := hb1.trans (hb2'.mono hb1.size)
      obtain ⟨a2, c2, rfl, hr2, -, hl2⟩ := rowL_of_own ho2
      have hr12 := hr1.below hb2'
      clear ho2 hb2' hr1
      go_wp2_with fail
      refine (layerRead_spec _ _ _ _ c1 c2 S L q key _ hr12 hr2).mono ?_; rintro e w3 ⟨rfl, hd3⟩
      have hb3 := hb2.trans (hd3.below _)
      clear hd3 hr12 hr2
      go_wp2_with fail
      refine (toEntryS_any a _ cap S _ (HS.out.below hb3) hse).mono ?_; rintro e w4 ⟨v4, rfl, ho4, hw4, hb4'⟩
      have hb4 := hb3.trans (hb4'.mono hb3.size)
      obtain ⟨g4, c4, rfl, -, hr4⟩ := rowE_of_own ho4 (by omega) hw4
      clear ho4 hb4'
      go_wp2_with fail
      refine (toLayerS_any b _ cap' L _ (HR.out.below hb4) hsz).mono ?_; rintro e w5 ⟨v5, rfl, ho5, hb5'⟩
      have hb5 := hb4.trans (hb5'.mono hb4.size)
      obtain ⟨a5, c5, rfl, hr5, -, hl5⟩ := rowL_of_own ho5
      have hr45 := hr4.below hb5'
      clear ho5 hb5' hr4
      go_wp2_with fail
      refine (layerRead_impl _ _ _ _ c4 c5 S L q key _ hr45 hr5 hl5).mono ?_; rintro e w6 ⟨rfl, hb6'⟩
      have hb6 := hb5.trans (hb6'.mono hb5.size)
      have hr46 := hr45.below hb6'
      have hr56 := hr5.below hb6'
      clear hb6' hr45 hr5
      obtain ⟨sb, hsb⟩ : ∃ sb, sb = layerReadM S L q key := ⟨_, rfl⟩
      rw [← hsb]
      clear hsb
      have hne : (sb != sb) = false := by simp
      go_wp2_with fail
      refine (toEntryS_any a _ cap S _ (HS.out.below hb6) hse).mono ?_; rintro e w7 ⟨v7, rfl, ho7, hw7, hb7'⟩
      have hb7 := hb6.trans (hb7'.mono hb6.size)
      obtain ⟨g7, c7, rfl, -, hr7⟩ := rowE_of_own ho7 (by omega) hw7
      clear ho7
      go_wp2_with fail
      refine (eqEntryS_same _ _ _ c4 c7 S _ (hr46.below hb7') hr7).mono ?_; rintro e w8 ⟨rfl, hb8'⟩
      have hb8 := hb7.trans (hb8'.mono hb7.size)
      have hr58 := (hr56.below hb7').below hb8'
      clear hb7' hb8' hr46 hr56 hr7
      go_wp2_with fail
      refine (toLayerS_any b _ cap' L _ (HR.out.below hb8) hsz).mono ?_; rintro e w9 ⟨v9, rfl, ho9, hb9'⟩
      have hb9 := hb8.trans (hb9'.mono hb8.size)
      obtain ⟨a9, c9, rfl, hr9, -, -⟩ := rowL_of_own ho9
      clear ho9
      go_wp2_with fail
      refine (eqLayerS_same _ _ _ c5 c9 L _ (hr58.below hb9') hr9).mono ?_; rintro e w10 ⟨rfl, hb10'⟩
      have hb10 := hb9.trans (hb10'.mono hb9.size)
      go_wp2
      go_ret
      exact ⟨rfl, hb10⟩
    · rw [szM_no (by omega)]
      go_wp2
      go_ret
      exact ⟨rfl, hb0⟩
  · rw [if_neg hn]
    go_wp2
    go_ret
    exact ⟨rfl, Below.refl _ _⟩
end Go.Proofs.Ytcaombogffmopaa
