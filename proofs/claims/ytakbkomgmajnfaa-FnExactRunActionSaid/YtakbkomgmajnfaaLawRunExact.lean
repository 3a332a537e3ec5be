/- The walk of the exact law of RunAction. -/
import Derived.Test.YtakbkomgmajnfaaEffHold
import Derived.Test.YtakbkomgmajnfaaConvEff
import Derived.Test.YtakbkomgmajnfaaConvA
import Derived.Test.YtakbkomgmajnfaaSpecEff2
import Derived.Test.YtakbkomgmajnfaaImplRun
import Derived.Test.YtakbkomgmajnfaaLawActR
import Derived.Deep.RegionLaw
import Derived.Deep.DeepCutAuto
namespace Go.Proofs.Ytakbkomgmajnfaa
open Go.RowKit
set_option linter.unusedVariables false
/-- A new effect in a block of its own, its rows apart and new. -/
def CutF (w0 : World) (x : Eff) (s : Value) (wx : World) : Prop :=
  ∃ G B T a ca b cb, s = .pointer (some ⟨G, 0, none⟩) ∧ EAt wx G x.done (.slice a x.rds.length ca) (.slice b x.wrs.length cb) ∧ Row2 wx B T a ca b cb x ∧
    w0.heap.size ≤ B ∧ T ≤ wx.heap.size ∧ Below w0.heap.size w0 wx
theorem cutF_new {w0 w3 w4 : World} {x : Eff} {dn : Bool} {v u : Value} (hF : OwnF w4 w3.heap.size 32 (.agg #[.bool dn, v, u]) x) (hb : Below w0.heap.size w0 w4) (h3 : w0.heap.size ≤ w3.heap.size) (h1 : x.rds.length ≤ 4000000) (h2 : x.wrs.length ≤ 4000000) (T : TypeId) :
    CutF w0 x (.pointer (some ⟨w4.heap.size, 0, none⟩)) (w4.alloc (.cells #[.bool dn, v, u] T)) := by
  obtain ⟨a, c, b, d, he, h4, -⟩ := row2_rows hF h1 h2
  simp only [Value.agg.injEq, Array.mk.injEq, List.cons.injEq, and_true, Value.bool.injEq] at he
  obtain ⟨rfl, rfl, rfl⟩ := he
  exact ⟨_, w3.heap.size, w4.heap.size, a, c, b, d, rfl, eAt_new _ _ _ _ _, h4.below ((Below.refl _ _).alloc (Nat.le_refl _) _), h3, by simp, hb.alloc hb.size _⟩
theorem cutF_set {w0 w3 w4 : World} {x : Eff} {dn : Bool} {v u : Value} {G : Nat} (hF : OwnF w4 w3.heap.size 32 (.agg #[.bool dn, v, u]) x) (hb : Below w0.heap.size w0 w4) (h3 : w0.heap.size ≤ w3.heap.size) (h1 : x.rds.length ≤ 4000000) (h2 : x.wrs.length ≤ 4000000)
    (hz : ZAt w4 G) (hG : w0.heap.size ≤ G) (hG3 : G < w3.heap.size) : CutF w0 x (.pointer (some ⟨G, 0, none⟩)) (((w4.setCell ⟨G, 0, none⟩ (.bool dn)).setCell ⟨G, 1, none⟩ v).setCell ⟨G, 2, none⟩ u) := by
  obtain ⟨a, c, b, d, he, h4, -⟩ := row2_rows hF h1 h2
  simp only [Value.agg.injEq, Array.mk.injEq, List.cons.injEq, and_true, Value.bool.injEq] at he
  obtain ⟨rfl, rfl, rfl⟩ := he
  have hzE : EAt w4 G false (.slice none 0 0) (.slice none 0 0) := hz
  exact ⟨_, w3.heap.size, w4.heap.size, a, c, b, d, rfl, ((hzE.set0 _).set1 _).set2 _, ((h4.grown1 (set_grown _ G 0 _) (.inl hG3)).grown1 (set_grown _ G 1 _) (.inl hG3)).grown1 (set_grown _ G 2 _) (.inl hG3), h3, by simp [World.setCell], below_set3 hb hG 0 1 2 _ _ _⟩
theorem al_cl {w : World} {G o : Nat} {v : Value} (hc : w.cell? ⟨G, o, none⟩ = some v) : ∀ x, (w.alloc x).cell? ⟨G, o, none⟩ = some v := fun x =>
  below_cl ((Below.refl w.heap.size w).alloc (Nat.le_refl _) x) (World.block_lt_of_cell? w ⟨G, o, none⟩ hc) hc
set_option warningAsError false in
set_option maxRecDepth 100000 in
set_option maxHeartbeats 8000000 in
theorem lawExactRunAction (a : Option Addr) (n cap : Nat) (S : List Ent) (p q r t : Int) (w : World) (h : RowE w a n S) (hc : a = none → cap = 0) (hlc : n ≤ cap) (hw : WfA ⟨p, q, r, t⟩) :
    Calls Try.prog 9 #[.slice a n cap, .agg #[.int .i64 p, .int .i64 q, .int .i64 r, .int .i64 t]] w (LawTrue w) := by
  clear hw hc hlc
  have hm := h.2.1
  have hbl := (Below.refl w.heap.size w).alloc (Nat.le_refl _) (.cells #[.int .i64 p, .int .i64 q, .int .i64 r, .int .i64 t] 60)
  have HS := Lib.hid (h.below hbl)
  have HA := Lib.hid (actAt_new w 60 p q r t)
  have HBL := Lib.hid hbl
  clear h hbl
  go_enter Try.func9, Try.ntmps9
  go_wp2_with fail
  obtain ⟨w0, hw0⟩ : ∃ w0, w0 = w.alloc (.cells #[.int .i64 p, .int .i64 q, .int .i64 r, .int .i64 t] 60) := ⟨_, rfl⟩
  rw [← hw0] at HS HA HBL ⊢
  clear hw0
  obtain ⟨A, hAe⟩ : ∃ A, A = w.heap.size := ⟨_, rfl⟩
  rw [← hAe] at HA ⊢
  have HAe := Lib.hid hAe
  clear hAe
  refine (szEntryS_any a n cap 1048576 _ (by omega) (by omega) hm).mono ?_; rintro e w' ⟨rfl, rfl⟩
  by_cases hs : (n : Int) ≤ 1048576
  · rw [if_pos hs]
    have hnn0 : decide ((1048576 : Int) - (n : Int) < 0) = false := by simp; omega
    have hse : n ≤ 1048576 := by omega
    obtain rfl := HS.out.1
    clear hm hs
    have hRL : (runM S ⟨p, q, r, t⟩).rds.length ≤ 2 := runM_rlen S ⟨p, q, r, t⟩
    have hWL : (runM S ⟨p, q, r, t⟩).wrs.length ≤ 32 := runM_wlen S ⟨p, q, r, t⟩
    obtain ⟨X, hX⟩ : ∃ X, X = runM S ⟨p, q, r, t⟩ := ⟨_, rfl⟩
    have HX := Lib.hid hX
    rw [← hX] at hRL hWL
    have hRL4 : X.rds.length ≤ 4000000 := by omega
    have hWL4 : X.wrs.length ≤ 4000000 := by omega
    clear hX
    have hAl : A < w0.heap.size := World.block_lt_of_cell? w0 ⟨A, 0, none⟩ HA.out.1.1
    go_upto_region 5 with (fail)
    go_cut [6] (fun s6 wx => CutF w0 X s6 wx)
    case first =>
      obtain ⟨⟨a0, a1, a2, a3⟩, -⟩ := HA.out
      have u0 := al_cl a0
      have u1 := al_cl a1
      have u2 := al_cl a2
      have u3 := al_cl a3
      go_region_law (first | (go_simp; go_at_call 43; refine (toEntryS_any a _ cap S w0.drew (show RowE w0.drew a S.length S from HS.out) hse).mono ?_; rintro e w2 ⟨v2, rfl, ho2, hw2, hb2'⟩; have HB2 : Below w0.heap.size w0 w2 := (Below.refl _ w0).drew.trans hb2'; obtain ⟨g2, cp2, rfl, -, hr2⟩ := rowE_of_own ho2 (Nat.le_trans hse (by decide)) hw2; have d0 := below_cl HB2 hAl a0; have d1 := below_cl HB2 hAl a1; have d2 := below_cl HB2 hAl a2; have d3 := below_cl HB2 hAl a3; have t0 := al_cl d0; have t1 := al_cl d1; have t2 := al_cl d2; have t3 := al_cl d3; have s2 := HB2.size) | (go_simp; go_at_call 43; refine (toEntryS_any a _ cap S (w0.alloc (.cells #[.bool false, .slice none 0 0, .slice none 0 0] 39)).drew (show RowE (w0.alloc (.cells #[.bool false, .slice none 0 0, .slice none 0 0] 39)).drew a S.length S from RowE.below HS.out ((Below.refl _ w0).alloc (Nat.le_refl _) (.cells #[.bool false, .slice none 0 0, .slice none 0 0] 39)).drew) hse).mono ?_; rintro e w2 ⟨v2, rfl, ho2, hw2, hb2'⟩; have HB2 : Below w0.heap.size w0 w2 := ((Below.refl _ w0).alloc (Nat.le_refl _) (.cells #[.bool false, .slice none 0 0, .slice none 0 0] 39)).drew.trans (hb2'.mono (show w0.heap.size ≤ (w0.alloc (.cells #[.bool false, .slice none 0 0, .slice none 0 0] 39)).heap.size by simp)); have hz2 : ZAt w2 w0.heap.size := ZAt.below (show ZAt (w0.alloc (.cells #[.bool false, .slice none 0 0, .slice none 0 0] 39)).drew w0.heap.size from zAt_new w0 _) hb2' (show w0.heap.size < (w0.alloc (.cells #[.bool false, .slice none 0 0, .slice none 0 0] 39)).heap.size by simp); obtain ⟨g2, cp2, rfl, -, hr2⟩ := rowE_of_own ho2 (Nat.le_trans hse (by decide)) hw2; have d0 := below_cl HB2 hAl a0; have d1 := below_cl HB2 hAl a1; have d2 := below_cl HB2 hAl a2; have d3 := below_cl HB2 hAl a3; have t0 := al_cl d0; have t1 := al_cl d1; have t2 := al_cl d2; have t3 := al_cl d3; have s2 := HB2.size) | (go_simp; go_at_call 44; refine (toAction_any p q r t w2).mono ?_; rintro e w3 ⟨rfl, hb3⟩; have hr3 := hr2.below hb3; have HB3 := HB2.trans (hb3.mono HB2.size); have s3 := hb3.size; (try have hz3 := hz2.below hb3 hz2.2.2)) | (go_simp; go_at_call 44; refine (toAction_any p q r t (w2.alloc (.cells #[.bool false, .slice none 0 0, .slice none 0 0] 39))).mono ?_; rintro e w3 ⟨rfl, hb3'⟩; have hz3 : ZAt w3 w2.heap.size := ZAt.below (zAt_new w2 _) hb3' (by simp); have hb3 : Below w2.heap.size w2 w3 := ((Below.refl _ w2).alloc (Nat.le_refl _) (.cells #[.bool false, .slice none 0 0, .slice none 0 0] 39)).trans (hb3'.mono (by simp)); have hr3 := hr2.below hb3; have HB3 := HB2.trans (hb3.mono HB2.size); have s3 := hb3.size) | (go_simp; go_at_call 26; refine (runAction_spec _ _ cp2 S p q r t w3 hr3).mono ?_; rintro e w4 ⟨v4, rfl, hF4, hb4⟩; rw [← HX.out] at hF4; obtain ⟨a4, c4, b4, e4, rfl, -⟩ := hF4.rows hRL4 hWL4; have HB4 := HB3.trans (hb4.mono HB3.size); have s4 := hb4.size; (try have hz4 := hz3.below hb4 hz3.2.2); (try have hz5 := hz3.2.2); (try (obtain ⟨⟨j0, j1, j2⟩, ⟨j3, j4, j5⟩, j6⟩ := hz4))) | (go_simp; go_at_call 26; refine (runAction_spec _ _ cp2 S p q r t (w3.alloc (.cells #[.bool false, .slice none 0 0, .slice none 0 0] 39)) (hr3.below ((Below.refl _ w3).alloc (Nat.le_refl _) (.cells #[.bool false, .slice none 0 0, .slice none 0 0] 39)))).mono ?_; rintro e w4 ⟨v4, rfl, hF4, hb4'⟩; have hb4 : Below w3.heap.size w3 w4 := ((Below.refl _ w3).alloc (Nat.le_refl _) (.cells #[.bool false, .slice none 0 0, .slice none 0 0] 39)).trans (hb4'.mono (by simp)); rw [← HX.out] at hF4; obtain ⟨a4, c4, b4, e4, rfl, -⟩ := hF4.rows hRL4 hWL4; have HB4 := HB3.trans (hb4.mono HB3.size); have s4 := hb4.size; have hz4 : ZAt w4 w3.heap.size := ZAt.below (zAt_new w3 _) hb4' (by simp); have hz5 : w3.heap.size < (w3.alloc (.cells #[.bool false, .slice none 0 0, .slice none 0 0] 39)).heap.size := (by simp); have hz6 : w3.heap.size ≤ (w3.alloc (.cells #[.bool false, .slice none 0 0, .slice none 0 0] 39)).heap.size := (by simp); obtain ⟨⟨j0, j1, j2⟩, ⟨j3, j4, j5⟩, j6⟩ := hz4))
      all_goals
        go_wp2_with fail
        go_meet
        first | exact cutF_new hF4 HB4 (by omega) hRL4 hWL4 _ | exact cutF_set hF4 HB4 (by omega) hRL4 hWL4 ⟨⟨j0, j1, j2⟩, ⟨j3, j4, j5⟩, j6⟩ (by omega) (by omega)
    case rest =>
      obtain ⟨G, BW, TW, aw, cw, bw, ew, rfl, hG1, hW1, hBW, hTW, hb1⟩ := hcut
      obtain ⟨w1, hw1⟩ : ∃ w1, w1 = wc := ⟨_, rfl⟩
      subst hw1
      have hGl := hG1.2.2
      have hb0 := HBL.out
      obtain ⟨⟨a0, a1, a2, a3⟩, -⟩ := actAt_below HA.out hb1
      go_wp2_with fail
      refine (toEntryS_any a _ cap S _ (HS.out.below hb1) hse).mono ?_; rintro e w2 ⟨vx, rfl, hox, hwx, hb2'⟩
      have hb2 := hb1.trans (hb2'.mono hb1.size)
      have hG2 := hG1.below hb2'
      have hW2 := hW1.below hb2'
      obtain ⟨gx, cx, rfl, hgx, hrx2⟩ := rowE_of_own hox (by omega) hwx
      have hgx2 : gx < w2.heap.size := (hox.1.lt gx rfl).2
      clear hG1 hW1 a0 a1 a2 a3 hb2'
      obtain ⟨⟨a0, a1, a2, a3⟩, -⟩ := actAt_below HA.out hb2
      go_wp2_with fail
      refine (toAction_any p q r t _).mono ?_; rintro e w3 ⟨rfl, hb3'⟩
      have hb3 := hb2.trans (hb3'.mono hb2.size)
      have hG3 := hG2.below hb3'
      have hW3 := hW2.below hb3'
      have hox3 := hox.below hb3'
      have hrx3 := hrx2.below hb3'
      have hs3 := hb3'.size
      clear hG2 hW2 hox hrx2 a0 a1 a2 a3 hb3'
      go_wp2_with fail
      refine (runAction_impl _ _ cx S p q r t _ hrx3).mono ?_; rintro e w4 ⟨v4, rfl, hF4, hb4'⟩
      rw [← HX.out] at hF4
      obtain ⟨aH, cH, bH, eH, rfl, hH4, -⟩ := row2_rows hF4 hRL4 hWL4
      have hb4 := hb3.trans (hb4'.mono hb3.size)
      have hG4 := hG3.below hb4'
      have hW4 := hW3.below hb4'
      have hox4 := hox3.below hb4'
      have hs4 := hb4'.size
      clear hG3 hW3 hox3 hrx3 hF4 hb4'
      have hN5 := eAt_new w4 39 X.done (.slice aH X.rds.length cH) (.slice bH X.wrs.length eH)
      have hbl := (Below.refl w4.heap.size w4).alloc (Nat.le_refl _) (.cells #[.bool X.done, .slice aH X.rds.length cH, .slice bH X.wrs.length eH] 39)
      have hb5 := hb4.trans (hbl.mono hb4.size)
      have hG5 := hG4.below hbl
      have hW5 := hW4.below hbl
      have hox5 := hox4.below hbl
      have hH5 := hH4.below hbl
      clear hG4 hW4 hox4 hH4 hbl
      go_upto_region 8 with (fail)
      obtain ⟨w5, hw5⟩ : ∃ w5, w5 = w4.alloc (.cells #[.bool X.done, .slice aH X.rds.length cH, .slice bH X.wrs.length eH] 39) := ⟨_, rfl⟩
      rw [← hw5] at hN5 hb5 hG5 hW5 hox5 hH5 ⊢
      clear hw5
      obtain ⟨H, hHe⟩ : ∃ H, H = w4.heap.size := ⟨_, rfl⟩
      have hHg : w3.heap.size ≤ H := by omega
      have hHT : w4.heap.size ≤ H := by omega
      rw [← hHe] at hN5 hH5 ⊢
      clear hHe
      obtain ⟨f0, f1, f2⟩ := hN5.1
      obtain ⟨g0, g1, g2⟩ := hG5.1
      go_wp2_with fail
      refine (eqEffect_same _ _ _ _ _ _ _ _ _ _ X _ hH5.row hW5.row).mono ?_; rintro e w6 ⟨rfl, hb6'⟩
      have hb6 := hb5.trans (hb6'.mono hb5.size)
      have hG6 := hG5.below hb6'
      have hW6 := hW5.below hb6'
      have hox6 := hox5.below hb6'
      have hH6 := hH5.below hb6'
      have hN6 := hN5.below hb6'
      clear f0 f1 f2 g0 g1 g2 hG5 hW5 hox5 hH5 hN5 hb6'
      go_wp2_with fail
      refine (toEntryS_any a _ cap S _ (HS.out.below hb6) hse).mono ?_; rintro e w7 ⟨v7, rfl, ho7, hw7, hb7'⟩
      have hb7 := hb6.trans (hb7'.mono hb6.size)
      obtain ⟨g7, c7, rfl, -, hr7⟩ := rowE_of_own ho7 (by omega) hw7
      have hrx7 : RowE w7 (some ⟨gx, 0, none⟩) S.length S := rowE_owned (owns_below hox6.1 hb7') rfl (by omega) hwx
      clear ho7
      go_wp2_with fail
      refine (eqEntryS_same _ _ _ cx c7 S _ hrx7 hr7).mono ?_; rintro e w8 ⟨rfl, hb8'⟩
      have hb68 := hb7'.trans (hb8'.mono hb7'.size)
      have hb8 := hb7.trans (hb8'.mono hb7.size)
      have hG8 := hG6.below hb68
      have hW8 := hW6.below hb68
      have hox8 := hox6.below hb68
      have hH8 := hH6.below hb68
      have hN8 := hN6.below hb68
      clear hG6 hW6 hox6 hH6 hN6 hb7' hb8' hb68 hrx7 hr7
      go_wp2_with fail
      refine (markEntryS_any _ gx _ cx S 1 _ hox8 rfl (by omega) (by omega) (by omega)).mono ?_; rintro e w9 ⟨rfl, -, hg9⟩
      have hb9 : Below w0.heap.size w0 w9 := hb8.grown hg9 hb8.size (fun k hk => by simp at hk; have := hb1.size; omega)
      have hG9 := hG8.grown hg9 (by simp; omega)
      have hN9 := hN8.grown hg9 (by simp; omega)
      have hW9 := hW8.grown1 hg9 (.inr (by omega))
      have hH9 := hH8.grown1 hg9 (.inl (by omega))
      clear hG8 hW8 hox8 hH8 hN8 hg9
      obtain ⟨f0, f1, f2⟩ := hN9.1
      obtain ⟨g0, g1, g2⟩ := hG9.1
      have hk9 : decide ((1 : Int) + 2 * (S.length : Int) < 0) = false := by simp; omega
      go_wp2_with fail
      refine (eqEffect_same _ _ _ _ _ _ _ _ _ _ X _ hH9.row hW9.row).mono ?_; rintro e w10 ⟨rfl, hb10'⟩
      have hb10 := hb9.trans (hb10'.mono hb9.size)
      have hG10 := hG9.below hb10'
      have hW10 := hW9.below hb10'
      have hH10 := hH9.below hb10'
      have hN10 := hN9.below hb10'
      clear f0 f1 f2 g0 g1 g2 hG9 hW9 hH9 hN9 hb10'
      obtain ⟨f0, f1, f2⟩ := hN10.1
      have hs10 : w3.heap.size ≤ w10.heap.size := by have := hN10.2.2; omega
      go_wp2_with fail
      refine (markEffect_row _ _ _ _ _ _ X 1 _ hH10 (by omega) (by omega) (by omega) (by omega) hs10).mono ?_; rintro e w11 ⟨rfl, hm1, hm2, ht11, hbB⟩
      obtain ⟨hk1, hk2⟩ := markedF_rows hm1 hm2 (by omega) (by omega) (by omega) (by omega)
      have hb11 : Below w0.heap.size w0 w11 := hb10.trans (hbB.mono (by have := hb3.size; omega))
      have hG11 := hG10.two hH10 ht11 (.inl (by omega))
      have hN11 := hN10.two hH10 ht11 (.inr (Nat.le_refl _))
      have hW11 := hW10.two hH10 ht11 (.inr (by omega))
      clear f0 f1 f2 hG10 hW10 hH10 hN10 ht11 hbB hm1 hm2
      obtain ⟨f0, f1, f2⟩ := hN11.1
      have hq0 : decide ((1 : Int) + 2 * (X.rds.length : Int) + 2 * (X.wrs.length : Int) < 0) = false := by simp; omega
      have hqm : ((1 : Int) + 2 * (X.rds.length : Int) + 2 * (X.wrs.length : Int) != 1 + 2 * (X.rds.length : Int) + 2 * (X.wrs.length : Int)) = false := by simp
      go_wp2_with fail
      refine (heldEffect_any _ _ _ _ _ _ _ 1 _ hk1 hk2 (by omega) (by omega) (by omega) (by omega)).mono ?_; rintro e w12 ⟨rfl, hb12'⟩
      have hb12 := hb11.trans (hb12'.mono hb11.size)
      have hG12 := hG11.below hb12'
      have hW12 := hW11.below hb12'
      have hN12 := hN11.below hb12'
      have hk1' := hk1.below hb12'
      have hk2' := hk2.below hb12'
      have hAl12 : A < w12.heap.size := Nat.lt_of_lt_of_le hAl hb12.size
      clear f0 f1 f2 hG11 hW11 hN11 hb12' hk1 hk2
      have HA12 := Lib.hid (actAt_below HA.out hb12)
      have HS12 := Lib.hid (HS.out.below hb12)
      go_upto_region 24 with (fail)
      go_cut [12] (fun s12 wx => CutF w12 X s12 wx)
      case first =>
        obtain ⟨⟨a0, a1, a2, a3⟩, -⟩ := HA12.out
        clear hAl
        have hAl := hAl12
        have u0 := al_cl a0
        have u1 := al_cl a1
        have u2 := al_cl a2
        have u3 := al_cl a3
        go_region_law (first | (go_simp; go_at_call 43; refine (toEntryS_any a _ cap S w12.drew (show RowE w12.drew a S.length S from HS12.out) hse).mono ?_; rintro e w2 ⟨v2, rfl, ho2, hw2, hb2'⟩; have HB2 : Below w12.heap.size w12 w2 := (Below.refl _ w12).drew.trans hb2'; obtain ⟨g2, cp2, rfl, -, hr2⟩ := rowE_of_own ho2 (Nat.le_trans hse (by decide)) hw2; have d0 := below_cl HB2 hAl a0; have d1 := below_cl HB2 hAl a1; have d2 := below_cl HB2 hAl a2; have d3 := below_cl HB2 hAl a3; have t0 := al_cl d0; have t1 := al_cl d1; have t2 := al_cl d2; have t3 := al_cl d3; have s2 := HB2.size) | (go_simp; go_at_call 43; refine (toEntryS_any a _ cap S (w12.alloc (.cells #[.bool false, .slice none 0 0, .slice none 0 0] 39)).drew (show RowE (w12.alloc (.cells #[.bool false, .slice none 0 0, .slice none 0 0] 39)).drew a S.length S from RowE.below HS12.out ((Below.refl _ w12).alloc (Nat.le_refl _) (.cells #[.bool false, .slice none 0 0, .slice none 0 0] 39)).drew) hse).mono ?_; rintro e w2 ⟨v2, rfl, ho2, hw2, hb2'⟩; have HB2 : Below w12.heap.size w12 w2 := ((Below.refl _ w12).alloc (Nat.le_refl _) (.cells #[.bool false, .slice none 0 0, .slice none 0 0] 39)).drew.trans (hb2'.mono (show w12.heap.size ≤ (w12.alloc (.cells #[.bool false, .slice none 0 0, .slice none 0 0] 39)).heap.size by simp)); have hz2 : ZAt w2 w12.heap.size := ZAt.below (show ZAt (w12.alloc (.cells #[.bool false, .slice none 0 0, .slice none 0 0] 39)).drew w12.heap.size from zAt_new w12 _) hb2' (show w12.heap.size < (w12.alloc (.cells #[.bool false, .slice none 0 0, .slice none 0 0] 39)).heap.size by simp); obtain ⟨g2, cp2, rfl, -, hr2⟩ := rowE_of_own ho2 (Nat.le_trans hse (by decide)) hw2; have d0 := below_cl HB2 hAl a0; have d1 := below_cl HB2 hAl a1; have d2 := below_cl HB2 hAl a2; have d3 := below_cl HB2 hAl a3; have t0 := al_cl d0; have t1 := al_cl d1; have t2 := al_cl d2; have t3 := al_cl d3; have s2 := HB2.size) | (go_simp; go_at_call 44; refine (toAction_any p q r t w2).mono ?_; rintro e w3 ⟨rfl, hb3⟩; have hr3 := hr2.below hb3; have HB3 := HB2.trans (hb3.mono HB2.size); have s3 := hb3.size; (try have hz3 := hz2.below hb3 hz2.2.2)) | (go_simp; go_at_call 44; refine (toAction_any p q r t (w2.alloc (.cells #[.bool false, .slice none 0 0, .slice none 0 0] 39))).mono ?_; rintro e w3 ⟨rfl, hb3'⟩; have hz3 : ZAt w3 w2.heap.size := ZAt.below (zAt_new w2 _) hb3' (by simp); have hb3 : Below w2.heap.size w2 w3 := ((Below.refl _ w2).alloc (Nat.le_refl _) (.cells #[.bool false, .slice none 0 0, .slice none 0 0] 39)).trans (hb3'.mono (by simp)); have hr3 := hr2.below hb3; have HB3 := HB2.trans (hb3.mono HB2.size); have s3 := hb3.size) | (go_simp; go_at_call 21; refine (runAction_impl _ _ cp2 S p q r t w3 hr3).mono ?_; rintro e w4 ⟨v4, rfl, hF4, hb4⟩; rw [← HX.out] at hF4; obtain ⟨a4, c4, b4, e4, rfl, -⟩ := hF4.rows hRL4 hWL4; have HB4 := HB3.trans (hb4.mono HB3.size); have s4 := hb4.size; (try have hz4 := hz3.below hb4 hz3.2.2); (try have hz5 := hz3.2.2); (try (obtain ⟨⟨j0, j1, j2⟩, ⟨j3, j4, j5⟩, j6⟩ := hz4))) | (go_simp; go_at_call 21; refine (runAction_impl _ _ cp2 S p q r t (w3.alloc (.cells #[.bool false, .slice none 0 0, .slice none 0 0] 39)) (hr3.below ((Below.refl _ w3).alloc (Nat.le_refl _) (.cells #[.bool false, .slice none 0 0, .slice none 0 0] 39)))).mono ?_; rintro e w4 ⟨v4, rfl, hF4, hb4'⟩; have hb4 : Below w3.heap.size w3 w4 := ((Below.refl _ w3).alloc (Nat.le_refl _) (.cells #[.bool false, .slice none 0 0, .slice none 0 0] 39)).trans (hb4'.mono (by simp)); rw [← HX.out] at hF4; obtain ⟨a4, c4, b4, e4, rfl, -⟩ := hF4.rows hRL4 hWL4; have HB4 := HB3.trans (hb4.mono HB3.size); have s4 := hb4.size; have hz4 : ZAt w4 w3.heap.size := ZAt.below (zAt_new w3 _) hb4' (by simp); have hz5 : w3.heap.size < (w3.alloc (.cells #[.bool false, .slice none 0 0, .slice none 0 0] 39)).heap.size := (by simp); have hz6 : w3.heap.size ≤ (w3.alloc (.cells #[.bool false, .slice none 0 0, .slice none 0 0] 39)).heap.size := (by simp); obtain ⟨⟨j0, j1, j2⟩, ⟨j3, j4, j5⟩, j6⟩ := hz4))
        all_goals
          go_wp2_with fail
          go_meet
          first | exact cutF_new hF4 HB4 (by omega) hRL4 hWL4 _ | exact cutF_set hF4 HB4 (by omega) hRL4 hWL4 ⟨⟨j0, j1, j2⟩, ⟨j3, j4, j5⟩, j6⟩ (by omega) (by omega)
      case rest =>
        obtain ⟨K, BK, TK, aK, cK, bK, eK, rfl, hK13, hV13, -, -, hb13'⟩ := hcut
        have hb13 := hb12.trans (hb13'.mono hb12.size)
        have hG13 := hG12.below hb13'
        have hW13 := hW12.below hb13'
        have hN13 := hN12.below hb13'
        have hk13 := hk1'.below hb13'
        have hk13' := hk2'.below hb13'
        clear hG12 hW12 hN12 hk1' hk2' hb13' HA12 HS12
        obtain ⟨f0, f1, f2⟩ := hK13.1
        obtain ⟨g0, g1, g2⟩ := hG13.1
        go_wp2_with fail
        refine (eqEffect_same _ _ _ _ _ _ _ _ _ _ X _ hV13.row hW13.row).mono ?_; rintro e w14 ⟨rfl, hb14'⟩
        have hb14 := hb13.trans (hb14'.mono hb13.size)
        have hN14 := hN13.below hb14'
        have hk14 := hk13.below hb14'
        have hk14' := hk13'.below hb14'
        clear f0 f1 f2 g0 g1 g2 hG13 hW13 hN13 hK13 hV13 hk13 hk13' hb14'
        obtain ⟨f0, f1, f2⟩ := hN14.1
        go_wp2_with fail
        refine (heldEffect_any _ _ _ _ _ _ _ 1 _ hk14 hk14' (by omega) (by omega) (by omega) (by omega)).mono ?_; rintro e w15 ⟨rfl, hb15'⟩
        have hb15 := hb14.trans (hb15'.mono hb14.size)
        go_wp2
        go_ret
        exact ⟨rfl, hb0.trans (hb15.mono hb0.size)⟩
  · rw [if_neg hs]
    go_wp2
    go_ret
    exact ⟨rfl, HBL.out⟩
end Go.Proofs.Ytakbkomgmajnfaa
