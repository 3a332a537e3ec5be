/- The walk of the law FnLayerEffect. -/
import Derived.Test.YtakbkomgmajnfaaLawActR
import Derived.Test.YtakbkomgmajnfaaImplApp
import Derived.Test.YtakbkomgmajnfaaFour

namespace Go.Proofs.Ytakbkomgmajnfaa
open Go.RowKit
set_option linter.unusedVariables false
theorem fork_none : forkM [] (-1) = ([(-1, [])], true) := by decide
set_option maxRecDepth 100000 in
set_option maxHeartbeats 8000000 in
theorem lawLayerEffect (a : Option Addr) (len cap : Nat) (z : List Int) (w : World) (h : RowB w a len z) (hc : a = none → cap = 0) (hlc : len ≤ cap) :
    Calls Try.prog 8 #[.slice a len cap] w (LawTrue w) := by
  by_cases hs : len ≤ 1048576
  · have hs' : ¬ (1048576 : Int) < (len : Int) := by omega
    go_enter Try.func8, Try.ntmps8
    go_wp2_with fail
    refine (drawRunAction_any a len cap z w h hlc).mono ?_; rintro e w1 ⟨gS, cS, S, p, q, r, t, rfl, hrS, hSl, -, -, -, -, hb1⟩
    clear h hs hs'
    have hA1 := actAt_new w1 24 p q r t
    have hbl := (Below.refl w1.heap.size w1).alloc (Nat.le_refl _) (.cells #[.int .i64 p, .int .i64 q, .int .i64 r, .int .i64 t] 24)
    have hrS1 := hrS.below hbl
    have hb1' := hb1.trans (hbl.mono hb1.size)
    clear hrS hbl
    go_wp2_with fail
    obtain ⟨wa, hwa⟩ : ∃ wa, wa = w1.alloc (.cells #[.int .i64 p, .int .i64 q, .int .i64 r, .int .i64 t] 24) := ⟨_, rfl⟩
    rw [← hwa] at hA1 hrS1 hb1' ⊢
    clear hwa
    obtain ⟨A, hAe⟩ : ∃ A, A = w1.heap.size := ⟨_, rfl⟩
    rw [← hAe] at hA1 ⊢
    clear hAe hb1
    refine (runAction_impl _ _ cS S p q r t _ hrS1).mono ?_; rintro e w2 ⟨v2, rfl, hF2, hb2'⟩
    have hA2 := actAt_below hA1 hb2'
    have hrS2 := hrS1.below hb2'
    have hb2 := hb1'.trans (hb2'.mono hb1'.size)
    have HRL := Lib.hid (Nat.le_trans (runM_rlen S ⟨p, q, r, t⟩) (show 2 ≤ 4000000 by omega))
    have HWL := Lib.hid (Nat.le_trans (runM_wlen S ⟨p, q, r, t⟩) (show 32 ≤ 4000000 by omega))
    have HW32 := Lib.hid (runM_wlen S ⟨p, q, r, t⟩)
    have HWR := Lib.hid (wr_run S ⟨p, q, r, t⟩)
    obtain ⟨X, hX⟩ : ∃ X, X = runM S ⟨p, q, r, t⟩ := ⟨_, rfl⟩
    have HX := Lib.hid hX
    rw [← hX] at hF2 HRL HWL HWR HW32
    obtain ⟨a2, c2, b2, d2, rfl, hf2, -⟩ := hF2.rows HRL.out HWL.out
    have hE3 := eAt_new w2 39 X.done (.slice a2 X.rds.length c2) (.slice b2 X.wrs.length d2)
    have hbl := (Below.refl w2.heap.size w2).alloc (Nat.le_refl _) (.cells #[.bool X.done, .slice a2 X.rds.length c2, .slice b2 X.wrs.length d2] 39)
    have hA3 := actAt_below hA2 hbl
    have hrS3 := hrS2.below hbl
    have hf3 := hf2.below hbl
    have hb3 := hb2.trans (hbl.mono hb2.size)
    clear hX hF2 hb2' hA1 hrS1 hb1' hA2 hrS2 hf2 hb2 hbl
    go_wp2_with fail
    obtain ⟨w3, hw3⟩ : ∃ w3, w3 = w2.alloc (.cells #[.bool X.done, .slice a2 X.rds.length c2, .slice b2 X.wrs.length d2] 39) := ⟨_, rfl⟩
    rw [← hw3] at hE3 hA3 hrS3 hf3 hb3 ⊢
    clear hw3
    obtain ⟨E, hEe⟩ : ∃ E, E = w2.heap.size := ⟨_, rfl⟩
    rw [← hEe] at hE3 ⊢
    clear hEe
    have HA3 := Lib.hid hA3
    have HE3 := Lib.hid hE3
    have hEl := hE3.2.2
    have hAl : A < w3.heap.size := World.block_lt_of_cell? w3 ⟨A, 0, none⟩ hA3.1.1
    obtain ⟨⟨q0, q1, q2, q3⟩, -⟩ := hA3
    obtain ⟨⟨e0, e1, e2⟩, -⟩ := hE3
    have hfN : True := trivial
    go_region_held3 (fun w' => (w'.cell? ⟨A, 0, none⟩ = some (.int .i64 p) ∧ w'.cell? ⟨A, 1, none⟩ = some (.int .i64 q) ∧ w'.cell? ⟨A, 2, none⟩ = some (.int .i64 r) ∧ w'.cell? ⟨A, 3, none⟩ = some (.int .i64 t)) ∧ w'.cell? ⟨E, 0, none⟩ = some (.bool X.done) ∧ w'.cell? ⟨E, 1, none⟩ = some (.slice a2 X.rds.length c2) ∧ w'.cell? ⟨E, 2, none⟩ = some (.slice b2 X.wrs.length d2)) (first | exact ⟨⟨q0, q1, q2, q3⟩, e0, e1, e2⟩ | exact ⟨⟨d0, d1, d2', d3⟩, x0, x1, x2⟩ | exact ⟨⟨f0, f1, f2, f3⟩, y0, y1, y2⟩ | go_keep)
      (first | (go_at_call 26; refine (runAction_spec _ _ cS S p q r t _ (by exact hrS3)).mono ?_; rintro e w8 ⟨v8, rfl, hF8, hb8'⟩; have hF9 := hF8; rw [← HX.out] at hF9; obtain ⟨a8, ca8, b8, cb8, rfl, hfN, -⟩ := hF9.rows HRL.out HWL.out; have HBN : Below w3.heap.size w3 w8 := (by first | exact (Below.refl _ w3).drew.trans hb8' | exact hb8' | exact (Below.refl _ w3).drew.drew.trans hb8'); have hfQ := hf3.below HBN; have d0 := below_cl HBN hAl q0; have d1 := below_cl HBN hAl q1; have d2' := below_cl HBN hAl q2; have d3 := below_cl HBN hAl q3; have x0 := below_cl HBN hEl e0; have x1 := below_cl HBN hEl e1; have x2 := below_cl HBN hEl e2) | (go_at_call 20; refine (sameEffect_same _ _ _ _ _ _ _ _ _ _ X _ (by exact hfQ) (by exact hfN)).mono ?_; rintro e w9 ⟨rfl, hb9'⟩; have HB9 : Below w3.heap.size w3 w9 := (by first | exact HBN.trans (hb9'.mono HBN.size) | exact HBN.trans (((Below.refl _ _).drew.trans hb9').mono HBN.size)); have f0 := below_cl HB9 hAl q0; have f1 := below_cl HB9 hAl q1; have f2 := below_cl HB9 hAl q2; have f3 := below_cl HB9 hAl q3; have y0 := below_cl HB9 hEl e0; have y1 := below_cl HB9 hEl e1; have y2 := below_cl HB9 hEl e2))
    all_goals
      have hrS9 := hrS3.below HB9
      have hf9 := hf3.below HB9
      have hb9 := hb3.trans (HB9.mono hb3.size)
      have HE9 := Lib.hid (HE3.out.below HB9)
      clear hrS3 hf3 hb3 HB9 hb9' HBN hfQ hfN hF8 hF9 q0 q1 q2 q3 e0 e1 e2 d0 d1 d2' d3 x0 x1 x2 f0 f1 f2 f3 y0 y1 y2 HA3 HE3 hAl hEl
      go_wp2_with fail
      refine (storeValid_spec _ _ cS S _ hrS9).mono ?_; rintro e w10 ⟨rfl, hd10⟩
      have hb10' := hd10.below w9.heap.size
      have hrS10 := hrS9.below hb10'
      have hf10 := hf9.below hb10'
      have hb10 := hb9.trans (hb10'.mono hb9.size)
      have HE10 := Lib.hid (HE9.out.below hb10')
      clear hrS9 hf9 hb9 hb10' hd10 HE9
      cases hS : storeB S with
      | false =>
        clear hS
        go_wp2_with fail
        refine (alive_any _).mono ?_; rintro e w11 ⟨rfl, hb11⟩
        go_wp2
        go_ret
        exact ⟨rfl, hb10.trans (hb11.mono hb10.size)⟩
      | true =>
        have HS := Lib.hid hS
        clear hS
        go_wp2_with fail
        refine (forkLayer_impl none 0 0 [] (-1) _ (rowL_empty _ _) (Nat.le_refl _) (by decide)).mono ?_; rintro e w11 ⟨v11, rfl, ho11, hb11'⟩
        rw [fork_none] at ho11 ⊢
        have hrS11 := hrS10.below hb11'
        have hf11 := hf10.below hb11'
        have hb11 := hb10.trans (hb11'.mono hb10.size)
        have HE11 := Lib.hid (HE10.out.below hb11')
        obtain ⟨al, cl, rfl, hrL11, -, hll⟩ := rowL_of_own ho11
        clear hrS10 hf10 hb10 hb11' HE10 ho11
        have hNW : ∃ n, n = X.wrs.length := ⟨_, rfl⟩
        obtain ⟨n, hn⟩ := hNW
        have HN := Lib.hid hn
        obtain ⟨⟨e0, e1, e2⟩, -⟩ := HE11.out
        rw [← hn] at e2 HW32
        have hf11' := hf11.2
        rw [← hn] at hf11'
        have hlL : Hid (∃ T, T = applyL S X.wrs ∧ layerStoreM S [(-1, X.wrs)] 0 = T ∧ applyM S X.wrs = T ∧ T.length ≤ 1000) := Lib.hid ⟨_, rfl, layer_shows HS.out HWR.out, applyM_yes HS.out HWR.out, by
          have hok : Ok (applyL S X.wrs) := ok_applyL ((storeB_ok S).1 HS.out) ((writesB_ok _).1 HWR.out).2
          have := store_len ((storeB_ok _).2 hok)
          omega⟩
        have hL0 : RowL w11 al 1 [(-1, X.wrs.take 0)] := hrL11
        have hll' : 1 ≤ cl := hll
        clear hn hrL11 hll
        have hEl : E < w11.heap.size := World.block_lt_of_cell? w11 ⟨E, 0, none⟩ e0
        have hq32 : n ≤ 32 := HW32.out
        go_wp2
        go_loopw [6, 7, 8, 9, 10] (fun v o i _ _ wr => ∃ (k : Nat) (gl : Option Addr) (cl : Nat), k ≤ n ∧ v = .slice gl 1 cl ∧ 1 ≤ cl ∧ o = .bool true ∧ i = .int .i64 k ∧ RowL wr gl 1 [(-1, X.wrs.take k)] ∧ Below w11.heap.size w11 wr) (fun _ _ i _ _ _ => n - (intOf i).toNat)
        case atStart => exact ⟨0, al, cl, Nat.zero_le _, rfl, hll', rfl, rfl, hL0, Below.refl _ _⟩
        case round =>
          clear hL0 hll'
          obtain ⟨k, gl, cm, hk, rfl, hll, rfl, rfl, hrl, hbr⟩ := hrel
          have f0 := below_cl hbr hEl e0
          have f1 := below_cl hbr hEl e1
          have f2 := below_cl hbr hEl e2
          have hEr : E < wr.heap.size := World.block_lt_of_cell? wr ⟨E, 0, none⟩ f0
          by_cases hlt : k < n
          · have hqr := hf11'.below hbr
            obtain ⟨b', off, rfl, hc⟩ := hqr.2.2.1 (by omega)
            obtain ⟨hc1, hc2⟩ := hc k hlt
            have hbl : b' < wr.heap.size := World.block_lt_of_cell? wr ⟨b', off + k * 2, none⟩ hc1
            have HNX := Lib.hid (write_next HWR.out k (by rw [← HN.out]; exact hlt))
            clear hc hqr
            obtain ⟨x, hx⟩ : ∃ x, x = (X.wrs.getD k (0, 0)).1 := ⟨_, rfl⟩
            obtain ⟨y, hy⟩ : ∃ y, y = (X.wrs.getD k (0, 0)).2 := ⟨_, rfl⟩
            rw [← hx] at hc1
            rw [← hy] at hc2
            rw [← hx, ← hy] at HNX
            clear hx hy
            have q1 : (0 : Int) ≤ (k : Int) := by omega
            have q2 : (k : Int) < (n : Int) := by omega
            have hMX : n ≤ maxLen := hf11'.2.1
            go_wp2_with fail
            go_region_held3 (fun w' => w'.cell? ⟨E, 2, none⟩ = some (.slice (some ⟨b', off, none⟩) n d2) ∧ w'.cell? ⟨b', off + k * 2, none⟩ = some (.int .i64 x) ∧ w'.cell? ⟨b', off + k * 2 + 1, none⟩ = some (.int .i64 y)) (first | exact ⟨f2, hc1, hc2⟩ | exact ⟨g1, g2, g3⟩ | go_keep)
              ((go_at_call 40; refine (layerWrite_impl _ _ _ _ 0 x y _ (by exact hrl) hll (by decide)).mono ?_; rintro e w12 ⟨v12, rfl, ho12, hb12'⟩; rw [HNX.out] at ho12 ⊢; have hb12 : Below wr.heap.size wr w12 := (by first | exact hb12' | exact (Below.refl _ wr).drew.trans hb12' | exact (Below.refl _ wr).drew.drew.trans hb12'); have g1 := below_cl hb12 hEr f2; have g2 := below_cl hb12 hbl hc1; have g3 := below_cl hb12 hbl hc2; obtain ⟨gl2, cl2, rfl, hrl2, -, hll2⟩ := rowL_of_own ho12))
            all_goals
              have HRL2 := Lib.hid (show RowL w12 gl2 1 [(-1, X.wrs.take (k + 1))] from hrl2)
              have HLL2 := Lib.hid (show 1 ≤ cl2 from hll2)
              have HB12 := Lib.hid (hbr.trans (hb12.mono hbr.size))
              clear ho12 hb12 hb12' hc1 hc2 g1 g2 g3 hbr hrl2 hll2 f0 f1 f2
              go_wp2
              go_roundw
              case rel => exact ⟨k + 1, gl2, cl2, by omega, rfl, HLL2.out, rfl, by go_num, HRL2.out, HB12.out⟩
              case measure => simp [intOf]; omega
          · obtain rfl : k = n := by omega
            obtain ⟨T, hT, h1, h2, h3⟩ := hlL.out
            have e : X.wrs.take k = X.wrs := List.take_of_length_le (by rw [← HN.out]; omega)
            rw [e] at hrl
            have H1 := Lib.hid h1
            have H2 := Lib.hid h2
            have H3 := Lib.hid h3
            have hsr := hrS11.below hbr
            have hqr := hf11.below hbr
            have hbw := hb11.trans (hbr.mono hb11.size)
            clear hT h1 h2 h3 e e0 e1 e2 hq32
            have hqn : RowE wr b2 k X.wrs := by have := hqr.2; rw [← HN.out] at this; exact this
            clear hqr
            go_wp2
            go_region_held3 (fun w' => w'.cell? ⟨E, 0, none⟩ = some (.bool X.done) ∧ w'.cell? ⟨E, 1, none⟩ = some (.slice a2 X.rds.length c2) ∧ w'.cell? ⟨E, 2, none⟩ = some (.slice b2 k d2)) (first | exact ⟨f0, f1, f2⟩ | exact ⟨g0, g1, g2⟩ | exact ⟨i0, i1, i2⟩ | exact ⟨j0, j1, j2⟩ | go_keep)
              (first | (go_at_call 41; refine (layerStore_impl _ _ _ _ _ _ S [(-1, X.wrs)] 0 _ (by exact hsr) (by exact hrl) hll).mono ?_; rintro e w12 ⟨v12, rfl, ho12, hw12, hb12'⟩; rw [H1.out] at ho12 hw12; have hb12 : Below wr.heap.size wr w12 := (by first | exact hb12' | exact (Below.refl _ wr).drew.trans hb12' | exact (Below.refl _ wr).drew.drew.trans hb12'); have g0 := below_cl hb12 hEr f0; have g1 := below_cl hb12 hEr f1; have g2 := below_cl hb12 hEr f2; have hs12 := hsr.below hb12; have hq12 := hqn.below hb12; obtain ⟨gy, cy, rfl, hy12, -⟩ := rowE_of_owns ho12 (by have := H3.out; omega) hw12) | (go_at_call 28; refine (applyEffect_impl _ _ _ S _ _ _ _ _ _ _ X.wrs _ (by exact hs12) (by exact hq12)).mono ?_; rintro e w13 ⟨v13, rfl, ho13, hw13, hb13'⟩; rw [H2.out] at ho13 hw13; have hb13 : Below wr.heap.size wr w13 := (by first | exact hb12.trans (hb13'.mono hb12.size) | exact hb12.trans (((Below.refl _ _).drew.trans hb13').mono hb12.size)); have i0 := below_cl hb13 hEr f0; have i1 := below_cl hb13 hEr f1; have i2 := below_cl hb13 hEr f2; have hy13 := RowE.below hy12 (by first | exact hb13' | exact (Below.refl _ _).drew.trans hb13'); obtain ⟨gz, cz, rfl, hz13, -⟩ := rowE_of_owns ho13 (by have := H3.out; omega) hw13) | (go_at_call 32; refine (sameStore_same _ _ _ _ _ T _ (by exact hy13) (by exact hz13)).mono ?_; rintro e w14 ⟨rfl, hd14⟩; have hb14 : Below wr.heap.size wr w14 := (by first | exact hb13.trans (hd14.below _) | exact hb13.trans ((Below.refl _ _).drew.trans (hd14.below _))); have j0 := below_cl hb14 hEr f0; have j1 := below_cl hb14 hEr f1; have j2 := below_cl hb14 hEr f2))
            all_goals
              have HB14 := Lib.hid (hbw.trans (hb14.mono hbw.size))
              clear ho12 hw12 hb12 hb12' ho13 hw13 hb13 hb13' hb14 hd14 hbw f0 f1 f2 g0 g1 g2 i0 i1 i2 j0 j1 j2 hy12 hy13 hz13 hs12 hq12
              go_wp2
              go_ret
              exact ⟨rfl, HB14.out⟩
  · have hs' : (1048576 : Int) < (len : Int) := by omega
    clear h hlc
    go_enter Try.func8, Try.ntmps8
    go_wp2
    go_ret
    exact ⟨rfl, Below.refl _ _⟩
end Go.Proofs.Ytakbkomgmajnfaa
