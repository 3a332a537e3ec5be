/- The walks of the exact laws of DoneCount and EffectsSum. -/
import Derived.Test.YtpnahncmhldgdaaConvFs
import Derived.Test.YtpnahncmhldgdaaImplSer
import Derived.Test.YtpnahncmhldgdaaLawActR
namespace Go.Proofs.Ytpnahncmhldgdaa
open Go.RowKit
set_option linter.unusedVariables false
set_option maxRecDepth 100000 in
set_option maxHeartbeats 4000000 in
theorem lawExactDoneCount (a : Option Addr) (n cap : Nat) (L : List Eff) (w : World) (h : RowFs w a n L) (hc : a = none → cap = 0) (hlc : n ≤ cap) :
    Calls Try.prog 9 #[.slice a n cap] w (LawTrue w) := by
  have HR := Lib.hid h
  clear h hc hlc
  go_enter Try.func9, Try.ntmps9
  go_wp2_with fail
  refine (szEffectS_any a n cap L 1048576 _ HR.out (by omega) (by omega)).mono ?_; rintro e w1 ⟨rfl, hb1⟩
  by_cases hs : (wtX L : Int) ≤ 1048576
  · rw [szX_yes hs]
    have hwt : wtX L ≤ 1048576 := by omega
    have hnn : decide ((1048576 : Int) - (wtX L : Int) < 0) = false := by simp; omega
    obtain rfl := HR.out.1
    have hln : L.length ≤ 1048576 := by unfold wtX at hwt; omega
    have HW := Lib.hid hwt
    clear hs hwt
    go_wp2_with fail
    refine (toEffectS_any a _ cap L _ (HR.out.below hb1) HW.out).mono ?_; rintro e w2 ⟨v2, rfl, ho2, hb2'⟩
    have hb2 := hb1.trans (hb2'.mono hb1.size)
    obtain ⟨a2, c2, rfl, hr2, -, -⟩ := rowFs_of_own ho2
    clear ho2 hb1 hb2'
    go_wp2_with fail
    refine (doneCount_spec _ _ c2 L _ hr2).mono ?_; rintro e w' ⟨rfl, rfl⟩
    have hb3 := hb2
    clear hr2
    go_wp2_with fail
    refine (toEffectS_any a _ cap L _ (HR.out.below hb3) HW.out).mono ?_; rintro e w4 ⟨v4, rfl, ho4, hb4'⟩
    have hb4 := hb3.trans (hb4'.mono hb3.size)
    obtain ⟨a4, c4, rfl, hr4, -, -⟩ := rowFs_of_own ho4
    clear ho4 hb3 hb4'
    go_wp2_with fail
    refine (doneCount_impl _ _ c4 L _ hr4).mono ?_; rintro e w5 ⟨rfl, hb5'⟩
    have hr5 := hr4.below hb5'
    have hb5 := hb4.trans (hb5'.mono hb4.size)
    clear hr4 hb4 hb5'
    obtain ⟨q, hq⟩ : ∃ q : Int, q = ((doneN L : Nat) : Int) := ⟨_, rfl⟩
    rw [← hq]
    have hqq : (q != q) = false := by simp
    clear hq
    go_wp2_with fail
    refine (toEffectS_any a _ cap L _ (HR.out.below hb5) HW.out).mono ?_; rintro e w6 ⟨v6, rfl, ho6, hb6'⟩
    have hr6' := hr5.below hb6'
    have hb6 := hb5.trans (hb6'.mono hb5.size)
    obtain ⟨a6, c6, rfl, hr6, -, -⟩ := rowFs_of_own ho6
    clear ho6 hb5 hb6' hr5
    go_wp2_with fail
    refine (eqEffectS_same _ _ _ c4 c6 L _ hr6' hr6).mono ?_; rintro e w7 ⟨rfl, hb7'⟩
    go_wp2
    go_ret
    exact ⟨rfl, hb6.trans (hb7'.mono hb6.size)⟩
  · rw [szX_no (by omega)]
    go_wp2
    go_ret
    exact ⟨rfl, hb1⟩
set_option maxRecDepth 100000 in
set_option maxHeartbeats 4000000 in
theorem lawExactEffectsSum (a : Option Addr) (n cap : Nat) (L : List Eff) (w : World) (h : RowFs w a n L) (hc : a = none → cap = 0) (hlc : n ≤ cap) :
    Calls Try.prog 10 #[.slice a n cap] w (LawTrue w) := by
  have HR := Lib.hid h
  clear h hc hlc
  go_enter Try.func10, Try.ntmps10
  go_wp2_with fail
  refine (szEffectS_any a n cap L 1048576 _ HR.out (by omega) (by omega)).mono ?_; rintro e w1 ⟨rfl, hb1⟩
  by_cases hs : (wtX L : Int) ≤ 1048576
  · rw [szX_yes hs]
    have hwt : wtX L ≤ 1048576 := by omega
    have hnn : decide ((1048576 : Int) - (wtX L : Int) < 0) = false := by simp; omega
    obtain rfl := HR.out.1
    have hln : L.length ≤ 1048576 := by unfold wtX at hwt; omega
    have HSM : Hid (∀ x ∈ L, x.rds.length + x.wrs.length ≤ 1500000) := Lib.hid (fun x hx => by
      obtain ⟨k, hk, rfl⟩ := List.getElem_of_mem hx
      have := sumX_len L k hk
      rw [List.getD_eq_getElem?_getD, List.getElem?_eq_getElem hk] at this
      unfold wtX at hwt
      simp only [Option.getD_some] at this
      omega)
    have HW := Lib.hid hwt
    clear hs hwt
    go_wp2_with fail
    refine (toEffectS_any a _ cap L _ (HR.out.below hb1) HW.out).mono ?_; rintro e w2 ⟨v2, rfl, ho2, hb2'⟩
    have hb2 := hb1.trans (hb2'.mono hb1.size)
    obtain ⟨a2, c2, rfl, hr2, -, -⟩ := rowFs_of_own ho2
    clear ho2 hb1 hb2'
    go_wp2_with fail
    refine (effectsSum_spec _ _ c2 L _ hr2 HSM.out (by omega)).mono ?_; rintro e w3 ⟨rfl, hb3'⟩
    have hb3 := hb2.trans (hb3'.mono hb2.size)
    clear hr2
    go_wp2_with fail
    refine (toEffectS_any a _ cap L _ (HR.out.below hb3) HW.out).mono ?_; rintro e w4 ⟨v4, rfl, ho4, hb4'⟩
    have hb4 := hb3.trans (hb4'.mono hb3.size)
    obtain ⟨a4, c4, rfl, hr4, -, -⟩ := rowFs_of_own ho4
    clear ho4 hb3 hb4'
    go_wp2_with fail
    refine (effectsSum_impl _ _ c4 L _ hr4 HSM.out (by omega)).mono ?_; rintro e w5 ⟨rfl, hb5'⟩
    have hr5 := hr4.below hb5'
    have hb5 := hb4.trans (hb5'.mono hb4.size)
    clear hr4 hb4 hb5'
    obtain ⟨q, hq⟩ : ∃ q : Int, q = effsSumM L := ⟨_, rfl⟩
    rw [← hq]
    have hqq : (q != q) = false := by simp
    clear hq
    go_wp2_with fail
    refine (toEffectS_any a _ cap L _ (HR.out.below hb5) HW.out).mono ?_; rintro e w6 ⟨v6, rfl, ho6, hb6'⟩
    have hr6' := hr5.below hb6'
    have hb6 := hb5.trans (hb6'.mono hb5.size)
    obtain ⟨a6, c6, rfl, hr6, -, -⟩ := rowFs_of_own ho6
    clear ho6 hb5 hb6' hr5
    go_wp2_with fail
    refine (eqEffectS_same _ _ _ c4 c6 L _ hr6' hr6).mono ?_; rintro e w7 ⟨rfl, hb7'⟩
    go_wp2
    go_ret
    exact ⟨rfl, hb6.trans (hb7'.mono hb6.size)⟩
  · rw [szX_no (by omega)]
    go_wp2
    go_ret
    exact ⟨rfl, hb1⟩
end Go.Proofs.Ytpnahncmhldgdaa
