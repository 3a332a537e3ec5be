/- The walk of the exact law of EffectSum. -/
import Derived.Test.YtakbkomgmajnfaaToEff
import Derived.Test.YtakbkomgmajnfaaConvEff
import Derived.Test.YtakbkomgmajnfaaImplNum
import Derived.Test.YtakbkomgmajnfaaSpecEff4
import Derived.Test.YtakbkomgmajnfaaLawActR
namespace Go.Proofs.Ytakbkomgmajnfaa
open Go.RowKit
set_option linter.unusedVariables false
theorem toEffect_x (x : Eff) (a : Option Addr) (n c : Nat) (b : Option Addr) (m c2 : Nat) (w : World) (h : RowF w a n b m x) (hn : n ≤ 1048576) (hm : m ≤ 1048576) :
    Calls Try.prog 51 #[.agg #[.bool x.done, .slice a n c, .slice b m c2]] w (NewF w 32 x) := toEffect_any x.done a n c b m c2 x.rds x.wrs w h hn hm
set_option warningAsError false in
set_option maxRecDepth 100000 in
set_option maxHeartbeats 4000000 in
theorem lawExactEffectSum (dn : Bool) (a : Option Addr) (n c : Nat) (b : Option Addr) (m c2 : Nat) (R W : List Ent) (w : World) (h : RowF w a n b m ⟨dn, R, W⟩ ∧ (a = none → c = 0) ∧ n ≤ c ∧ (b = none → c2 = 0) ∧ m ≤ c2) :
    Calls Try.prog 11 #[.agg #[.bool dn, .slice a n c, .slice b m c2]] w (LawTrue w) := by
  obtain ⟨x, rfl, rfl, rfl⟩ : ∃ x : Eff, x.done = dn ∧ x.rds = R ∧ x.wrs = W := ⟨⟨dn, R, W⟩, rfl, rfl, rfl⟩
  have hf : RowF w a n b m x := h.1
  clear h
  have hbl := (Below.refl w.heap.size w).alloc (Nat.le_refl _) (.cells #[.bool x.done, .slice a n c, .slice b m c2] 67)
  have hA0 := eAt_new w 67 x.done (.slice a n c) (.slice b m c2)
  have HF := Lib.hid (hf.below hbl)
  have HBL := Lib.hid hbl
  have HA0 := Lib.hid hA0
  have hm1 := hf.1.2.1
  have hm2 := hf.2.2.1
  clear hf hbl hA0
  go_enter Try.func11, Try.ntmps11
  go_wp2_with fail
  refine (szEffect_any x.done a n c b m c2 1048576 _ (by omega) (by omega) hm1 hm2).mono ?_; rintro e w1 ⟨rfl, hb1'⟩
  have HB1 := Lib.hid (HBL.out.trans (hb1'.mono HBL.out.size))
  have HF1 := Lib.hid (HF.out.below hb1')
  have HA1 := Lib.hid (HA0.out.below hb1')
  clear HBL HF HA0 hb1'
  by_cases hs : ((n : Int) + m) ≤ 1048576
  · rw [if_pos hs]
    have hnn0 : decide ((1048576 : Int) - (n : Int) - (m : Int) < 0) = false := by simp; omega
    have hn1 : n ≤ 1048576 := by omega
    have hn2 : m ≤ 1048576 := by omega
    have hn3 : n + m ≤ 1500000 := by omega
    obtain ⟨⟨e0, e1, e2⟩, -⟩ := HA1.out
    go_wp2_with fail
    refine (toEffect_x x a n c b m c2 _ HF1.out hn1 hn2).mono ?_; rintro e w2 ⟨v2, rfl, ho2, hb2'⟩
    obtain rfl := HF1.out.1.1
    obtain rfl := HF1.out.2.1
    obtain ⟨a2, ca2, b2, cb2, rfl, hf2, -⟩ := ho2.rows (by omega) (by omega)
    have hb2 := HB1.out.trans (hb2'.mono HB1.out.size)
    have HF2 := Lib.hid (HF1.out.below hb2')
    have HA2 := Lib.hid (HA1.out.below hb2')
    clear HB1 HF1 HA1 hb2' ho2 e0 e1 e2
    go_wp2_with fail
    refine (effectSum_spec _ _ _ _ _ _ x _ hf2 hn3).mono ?_; rintro e w3 ⟨rfl, hb3'⟩
    have hb3 := hb2.trans (hb3'.mono hb2.size)
    have HF3 := Lib.hid (HF2.out.below hb3')
    have HA3 := Lib.hid (HA2.out.below hb3')
    clear HF2 HA2 hb2 hb3' hf2
    obtain ⟨⟨e0, e1, e2⟩, -⟩ := HA3.out
    go_wp2_with fail
    refine (toEffect_x x _ _ _ _ _ _ _ HF3.out hn1 hn2).mono ?_; rintro e w4 ⟨v4, rfl, ho4, hb4'⟩
    obtain ⟨aX, cX, bX, dX, rfl, hf4, -, -, -, zz1, zz2⟩ := ho4.rows (by omega) (by omega)
    have hb4 := hb3.trans (hb4'.mono hb3.size)
    have HF4 := Lib.hid (HF3.out.below hb4')
    have HA4 := Lib.hid (HA3.out.below hb4')
    clear HF3 HA3 hb3 hb4' ho4 e0 e1 e2
    have hX4 := eAt_new w4 39 x.done (.slice aX x.rds.length cX) (.slice bX x.wrs.length dX)
    have hbl := (Below.refl w4.heap.size w4).alloc (Nat.le_refl _) (.cells #[.bool x.done, .slice aX x.rds.length cX, .slice bX x.wrs.length dX] 39)
    have hf5 := hf4.below hbl
    have hb5 := hb4.trans (hbl.mono hb4.size)
    have HF5 := Lib.hid (HF4.out.below hbl)
    have HA5 := Lib.hid (HA4.out.below hbl)
    clear HF4 HA4 hb4 hf4 hbl
    go_wp2_with fail
    obtain ⟨w5, hw5⟩ : ∃ w5, w5 = w4.alloc (.cells #[.bool x.done, .slice aX x.rds.length cX, .slice bX x.wrs.length dX] 39) := ⟨_, rfl⟩
    rw [← hw5] at hX4 hf5 hb5 HF5 HA5 ⊢
    clear hw5
    obtain ⟨X, hXe⟩ : ∃ X, X = w4.heap.size := ⟨_, rfl⟩
    rw [← hXe] at hX4 ⊢
    clear hXe
    refine (effectSum_impl _ _ _ _ _ _ x _ hf5 zz1 zz2 hn3).mono ?_; rintro e w6 ⟨rfl, hb6'⟩
    have hf6 := hf5.below hb6'
    have hb6 := hb5.trans (hb6'.mono hb5.size)
    have HF6 := Lib.hid (HF5.out.below hb6')
    have HA6 := HA5.out.below hb6'
    have hX6 := hX4.below hb6'
    clear HF5 HA5 hb5 hf5 hb6' hX4
    obtain ⟨A, hAe⟩ : ∃ A, A = w.heap.size := ⟨_, rfl⟩
    rw [← hAe] at HA6 ⊢
    clear hAe
    have hAl := HA6.2.2
    have hXl := hX6.2.2
    obtain ⟨⟨a0, a1, a2'⟩, -⟩ := HA6
    obtain ⟨⟨f0, f1, f2⟩, -⟩ := hX6
    obtain ⟨s, hs⟩ : ∃ s, s = effSumM x := ⟨_, rfl⟩
    rw [← hs]
    have hss : (s != s) = false := by simp
    clear hs
    go_wp2_with fail
    go_region_held3 (fun w' => (w'.cell? ⟨A, 0, none⟩ = some (.bool x.done) ∧ w'.cell? ⟨A, 1, none⟩ = some (.slice a x.rds.length c) ∧ w'.cell? ⟨A, 2, none⟩ = some (.slice b x.wrs.length c2)) ∧ w'.cell? ⟨X, 0, none⟩ = some (.bool x.done) ∧ w'.cell? ⟨X, 1, none⟩ = some (.slice aX x.rds.length cX) ∧ w'.cell? ⟨X, 2, none⟩ = some (.slice bX x.wrs.length dX)) (first | exact ⟨⟨a0, a1, a2'⟩, f0, f1, f2⟩ | exact ⟨⟨d0, d1, d2'⟩, y0, y1, y2⟩ | exact ⟨⟨g0, g1, g2⟩, z0, z1, z2⟩ | go_keep)
      (first | (go_at_call 51; refine (toEffect_x x _ _ _ _ _ _ _ (by exact HF6.out) hn1 hn2).mono ?_; rintro e w7 ⟨v7, rfl, ho7, hb7'⟩; obtain ⟨a7, c7, b7, e7, rfl, hf7, -⟩ := ho7.rows (by omega) (by omega); have HB7 : Below w6.heap.size w6 w7 := (by first | exact hb7' | exact (Below.refl _ w6).drew.trans hb7' | exact (Below.refl _ w6).drew.drew.trans hb7'); have hf6' := hf6.below HB7; have d0 := below_cl HB7 hAl a0; have d1 := below_cl HB7 hAl a1; have d2' := below_cl HB7 hAl a2'; have y0 := below_cl HB7 hXl f0; have y1 := below_cl HB7 hXl f1; have y2 := below_cl HB7 hXl f2) | (go_at_call 45; refine (eqEffect_same _ _ _ _ _ _ _ _ _ _ x _ (by exact hf6') (by exact hf7)).mono ?_; rintro e w8 ⟨rfl, hb8'⟩; have HB8 : Below w6.heap.size w6 w8 := (by first | exact HB7.trans (hb8'.mono HB7.size) | exact HB7.trans (((Below.refl _ _).drew.trans hb8').mono HB7.size)); have g0 := below_cl HB8 hAl a0; have g1 := below_cl HB8 hAl a1; have g2 := below_cl HB8 hAl a2'; have z0 := below_cl HB8 hXl f0; have z1 := below_cl HB8 hXl f1; have z2 := below_cl HB8 hXl f2))
    all_goals
      have HBE := Lib.hid (hb6.trans (HB8.mono hb6.size))
      clear HB7 HB8
      go_wp2
      go_ret
      exact ⟨rfl, HBE.out⟩
  · rw [if_neg hs]
    go_wp2
    go_ret
    exact ⟨rfl, HB1.out⟩
end Go.Proofs.Ytakbkomgmajnfaa
