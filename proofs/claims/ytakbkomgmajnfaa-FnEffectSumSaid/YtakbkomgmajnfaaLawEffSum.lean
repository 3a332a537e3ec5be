/- The walk of the law FnEffectSum. -/
import Derived.Test.YtakbkomgmajnfaaLawActR
import Derived.Test.YtakbkomgmajnfaaImplNum
import Derived.Test.YtakbkomgmajnfaaSpecEff4
import Derived.Test.YtakbkomgmajnfaaDrawEffs2
namespace Go.Proofs.Ytakbkomgmajnfaa
open Go.RowKit
set_option linter.unusedVariables false
set_option maxRecDepth 100000 in
set_option maxHeartbeats 4000000 in
theorem lawEffectSum (a : Option Addr) (len cap : Nat) (z : List Int) (w : World) (h : RowB w a len z) (hc : a = none → cap = 0) (hlc : len ≤ cap) :
    Calls Try.prog 7 #[.slice a len cap] w (LawTrue w) := by
  by_cases hs : len ≤ 1048576
  · have hs' : ¬ (1048576 : Int) < (len : Int) := by omega
    go_enter Try.func7, Try.ntmps7
    go_wp2_with fail
    refine (drawEffectSum_any a len cap z w h hlc).mono ?_; rintro e w1 ⟨x, a1, c1, a2, c2, rfl, hf1, hl1, hl2, z1, z2, hb1⟩
    clear h hs hs'
    have hE1 := eAt_new w1 39 x.done (.slice a1 x.rds.length c1) (.slice a2 x.wrs.length c2)
    have hbl := (Below.refl w1.heap.size w1).alloc (Nat.le_refl _) (.cells #[.bool x.done, .slice a1 x.rds.length c1, .slice a2 x.wrs.length c2] 39)
    have hf2 := hf1.below hbl
    have hb2 := hb1.trans (hbl.mono hb1.size)
    clear hf1 hb1 hbl
    go_wp2_with fail
    obtain ⟨w2, hw2⟩ : ∃ w2, w2 = w1.alloc (.cells #[.bool x.done, .slice a1 x.rds.length c1, .slice a2 x.wrs.length c2] 39) := ⟨_, rfl⟩
    rw [← hw2] at hE1 hf2 hb2 ⊢
    clear hw2
    obtain ⟨E, hEe⟩ : ∃ E, E = w1.heap.size := ⟨_, rfl⟩
    rw [← hEe] at hE1 ⊢
    clear hEe
    have HFL := Lib.hid (@effSum_flip x)
    have HCS := Lib.hid (sumOfM_cases 3 (numsM x))
    refine (effectSum_impl _ _ _ _ _ _ x _ hf2 z1 z2 (by omega)).mono ?_; rintro e w3 ⟨rfl, hb3'⟩
    have hf3 := hf2.below hb3'
    have hb3 := hb2.trans (hb3'.mono hb2.size)
    have HE3 := Lib.hid (hE1.below hb3')
    have hE3 := HE3.out
    obtain ⟨⟨e0, e1, e2⟩, -⟩ := hE3
    clear hE1 hf2 hb2 hb3'
    go_wp2_with fail
    refine (effectSum_spec _ _ _ _ _ _ x _ hf3 (by omega)).mono ?_; rintro e w4 ⟨rfl, hb4'⟩
    have hf4 := hf3.below hb4'
    have hb4 := hb3.trans (hb4'.mono hb3.size)
    have HE4 := Lib.hid (HE3.out.below hb4')
    have hE4 := HE4.out
    obtain ⟨⟨f0, f1, f2⟩, -⟩ := hE4
    clear hf3 hb3 hb4' HE3 e0 e1 e2
    obtain ⟨n, hN⟩ : ∃ n, n = effSumM x := ⟨_, rfl⟩
    have HN := Lib.hid hN
    have HFL2 : Hid (0 ≤ n → effSumM ⟨!x.done, x.rds, x.wrs⟩ ≠ n) := Lib.hid (by rw [hN]; exact HFL.out)
    have HCS2 : Hid (n = -1 ∨ (0 ≤ n ∧ n ≤ 1000002)) := Lib.hid (by
      rcases HCS.out with h | ⟨h1, h2, -⟩
      · exact .inl (hN.trans h)
      · exact .inr ⟨hN ▸ h1, hN ▸ h2⟩)
    rw [← hN]
    clear hN HFL HCS
    have hnn : (n != n) = false := by simp
    by_cases h0 : n = -1
    · subst h0
      go_wp2_with fail
      refine (alive_any _).mono ?_; rintro e w11 ⟨rfl, hb11⟩
      go_wp2
      go_ret
      exact ⟨rfl, hb4.trans (hb11.mono hb4.size)⟩
    · obtain ⟨p0, p1⟩ : 0 ≤ n ∧ n ≤ 1000002 := by
        rcases HCS2.out with h | h
        · exact absurd h h0
        · exact h
      have hfl := HFL2.out p0
      obtain ⟨m, hM⟩ : ∃ m, m = effSumM ⟨!x.done, x.rds, x.wrs⟩ := ⟨_, rfl⟩
      have HM := Lib.hid hM
      rw [← hM] at hfl
      have hmn : (m != n) = true := by simpa using hfl
      have q1 : decide (n < 0) = false := by simp; omega
      have q2 : decide (n < 1000003) = true := by simp; omega
      have q3 : ¬ n < 0 := by omega
      have q4 : n < 1000003 := by omega
      clear hM hfl h0
      go_wp2_with fail
      refine (effectSum_impl _ _ _ _ _ _ ⟨!x.done, x.rds, x.wrs⟩ _ hf4 z1 z2 (by omega)).mono ?_; rintro e w5 ⟨rfl, hb5'⟩
      rw [← HM.out]
      go_wp2
      go_ret
      exact ⟨rfl, hb4.trans (hb5'.mono hb4.size)⟩
  · have hs' : (1048576 : Int) < (len : Int) := by omega
    clear h hlc
    go_enter Try.func7, Try.ntmps7
    go_wp2
    go_ret
    exact ⟨rfl, Below.refl _ _⟩
end Go.Proofs.Ytakbkomgmajnfaa
