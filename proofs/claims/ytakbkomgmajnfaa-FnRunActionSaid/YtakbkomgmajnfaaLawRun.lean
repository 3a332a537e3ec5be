/- The walk of the law FnRunAction. -/
import Derived.Test.YtakbkomgmajnfaaLawActR
import Derived.Test.YtakbkomgmajnfaaImplApp
import Derived.Test.YtakbkomgmajnfaaFive
import Derived.Test.YtakbkomgmajnfaaTwo
namespace Go.Proofs.Ytakbkomgmajnfaa
open Go.RowKit
set_option linter.unusedVariables false
theorem valueM_in' {l : List Ent} (h : storeB l = true) {k : Int} (h0 : 0 ≤ k) (h1 : k ≤ 31) : valueM l k = atM l k := by simp [valueM, h, inB_yes h0 h1]
set_option warningAsError false in
set_option maxRecDepth 100000 in
set_option maxHeartbeats 8000000 in
theorem lawRunAction (a : Option Addr) (len cap : Nat) (z : List Int) (w : World) (h : RowB w a len z) (hc : a = none → cap = 0) (hlc : len ≤ cap) :
    Calls Try.prog 5 #[.slice a len cap] w (LawTrue w) := by
  by_cases hs : len ≤ 1048576
  · have hs' : ¬ (1048576 : Int) < (len : Int) := by omega
    go_enter Try.func5, Try.ntmps5
    go_wp2_with fail
    refine (drawRunAction_any a len cap z w h hlc).mono ?_; rintro e w1 ⟨gS, cS, S, p, q, r, t, rfl, hrS, hSl, -, -, -, -, hb1⟩
    clear h hs hs'
    have hA1 := actAt_new w1 24 p q r t
    have hbl := (Below.refl w1.heap.size w1).alloc (Nat.le_refl _) (.cells #[.int .i64 p, .int .i64 q, .int .i64 r, .int .i64 t] 24)
    have hrS1 := hrS.below hbl
    have hb1' := hb1.trans (hbl.mono hb1.size)
    clear hrS hbl
    go_wp2_with fail
    obtain ⟨wa, hwa⟩ : ∃ wa, wa = w1.alloc (.cells #[.int .i64 p, .int .i64 q, .int .i64 r, .int .i64 t] 24) := ⟨_, rfl⟩
    rw [← hwa] at hA1 hrS1 hb1' ⊢
    clear hwa
    obtain ⟨A, hAe⟩ : ∃ A, A = w1.heap.size := ⟨_, rfl⟩
    rw [← hAe] at hA1 ⊢
    clear hAe hb1
    refine (runAction_impl _ _ cS S p q r t _ hrS1).mono ?_; rintro e w2 ⟨v2, rfl, hF2, hb2'⟩
    have hA2 := actAt_below hA1 hb2'
    have hrS2 := hrS1.below hb2'
    have hb2 := hb1'.trans (hb2'.mono hb1'.size)
    have HRL := Lib.hid (Nat.le_trans (runM_rlen S ⟨p, q, r, t⟩) (show 2 ≤ 4000000 by omega))
    have HWL := Lib.hid (Nat.le_trans (runM_wlen S ⟨p, q, r, t⟩) (show 32 ≤ 4000000 by omega))
    have HW32 := Lib.hid (runM_wlen S ⟨p, q, r, t⟩)
    have HWR := Lib.hid (wr_run S ⟨p, q, r, t⟩)
    obtain ⟨X, hX⟩ : ∃ X, X = runM S ⟨p, q, r, t⟩ := ⟨_, rfl⟩
    have HX := Lib.hid hX
    rw [← hX] at hF2 HRL HWL HWR HW32
    obtain ⟨a2, c2, b2, d2, rfl, hf2, -⟩ := hF2.rows HRL.out HWL.out
    have hE3 := eAt_new w2 39 X.done (.slice a2 X.rds.length c2) (.slice b2 X.wrs.length d2)
    have hbl := (Below.refl w2.heap.size w2).alloc (Nat.le_refl _) (.cells #[.bool X.done, .slice a2 X.rds.length c2, .slice b2 X.wrs.length d2] 39)
    have hA3 := actAt_below hA2 hbl
    have hrS3 := hrS2.below hbl
    have hf3 := hf2.below hbl
    have hb3 := hb2.trans (hbl.mono hb2.size)
    clear hX hF2 hb2' hA1 hrS1 hb1' hA2 hrS2 hf2 hb2 hbl
    go_wp2_with fail
    obtain ⟨w3, hw3⟩ : ∃ w3, w3 = w2.alloc (.cells #[.bool X.done, .slice a2 X.rds.length c2, .slice b2 X.wrs.length d2] 39) := ⟨_, rfl⟩
    rw [← hw3] at hE3 hA3 hrS3 hf3 hb3 ⊢
    clear hw3
    obtain ⟨E, hEe⟩ : ∃ E, E = w2.heap.size := ⟨_, rfl⟩
    rw [← hEe] at hE3 ⊢
    clear hEe
    have HA3 := Lib.hid hA3
    have HE3 := Lib.hid hE3
    have hEl := hE3.2.2
    have hAl : A < w3.heap.size := World.block_lt_of_cell? w3 ⟨A, 0, none⟩ hA3.1.1
    obtain ⟨⟨q0, q1, q2, q3⟩, -⟩ := hA3
    obtain ⟨⟨e0, e1, e2⟩, -⟩ := hE3
    have hfN : True := trivial
    go_region_held3 (fun w' => (w'.cell? ⟨A, 0, none⟩ = some (.int .i64 p) ∧ w'.cell? ⟨A, 1, none⟩ = some (.int .i64 q) ∧ w'.cell? ⟨A, 2, none⟩ = some (.int .i64 r) ∧ w'.cell? ⟨A, 3, none⟩ = some (.int .i64 t)) ∧ w'.cell? ⟨E, 0, none⟩ = some (.bool X.done) ∧ w'.cell? ⟨E, 1, none⟩ = some (.slice a2 X.rds.length c2) ∧ w'.cell? ⟨E, 2, none⟩ = some (.slice b2 X.wrs.length d2)) (first | exact ⟨⟨q0, q1, q2, q3⟩, e0, e1, e2⟩ | exact ⟨⟨d0, d1, d2', d3⟩, x0, x1, x2⟩ | exact ⟨⟨f0, f1, f2, f3⟩, y0, y1, y2⟩ | go_keep)
      (first | (go_at_call 26; refine (runAction_spec _ _ cS S p q r t _ (by exact hrS3)).mono ?_; rintro e w8 ⟨v8, rfl, hF8, hb8'⟩; have hF9 := hF8; rw [← HX.out] at hF9; obtain ⟨a8, ca8, b8, cb8, rfl, hfN, -⟩ := hF9.rows HRL.out HWL.out; have HBN : Below w3.heap.size w3 w8 := (by first | exact (Below.refl _ w3).drew.trans hb8' | exact hb8' | exact (Below.refl _ w3).drew.drew.trans hb8'); have hfQ := hf3.below HBN; have d0 := below_cl HBN hAl q0; have d1 := below_cl HBN hAl q1; have d2' := below_cl HBN hAl q2; have d3 := below_cl HBN hAl q3; have x0 := below_cl HBN hEl e0; have x1 := below_cl HBN hEl e1; have x2 := below_cl HBN hEl e2) | (go_at_call 20; refine (sameEffect_same _ _ _ _ _ _ _ _ _ _ X _ (by exact hfQ) (by exact hfN)).mono ?_; rintro e w9 ⟨rfl, hb9'⟩; have HB9 : Below w3.heap.size w3 w9 := (by first | exact HBN.trans (hb9'.mono HBN.size) | exact HBN.trans (((Below.refl _ _).drew.trans hb9').mono HBN.size)); have f0 := below_cl HB9 hAl q0; have f1 := below_cl HB9 hAl q1; have f2 := below_cl HB9 hAl q2; have f3 := below_cl HB9 hAl q3; have y0 := below_cl HB9 hEl e0; have y1 := below_cl HB9 hEl e1; have y2 := below_cl HB9 hEl e2))
    all_goals
      have hrS9 := hrS3.below HB9
      have hf9 := hf3.below HB9
      have hb9 := hb3.trans (HB9.mono hb3.size)
      have HE9 := Lib.hid (HE3.out.below HB9)
      have HA9 := Lib.hid (actAt_below HA3.out HB9)
      clear hrS3 hf3 hb3 HB9 hb9' HBN hfQ hfN hF8 hF9 q0 q1 q2 q3 e0 e1 e2 d0 d1 d2' d3 x0 x1 x2 f0 f1 f2 f3 y0 y1 y2 HA3 HE3 hAl hEl
      obtain ⟨⟨e0, e1, e2⟩, -⟩ := HE9.out
      obtain ⟨⟨a0, a1, a2', a3⟩, -⟩ := HA9.out
      go_wp2_with fail
      refine (storeValid_spec _ _ cS S _ hrS9).mono ?_; rintro e w10 ⟨rfl, hd10⟩
      have hb10' := hd10.below w9.heap.size
      have hrS10 := hrS9.below hb10'
      have hf10 := hf9.below hb10'
      have hb10 := hb9.trans (hb10'.mono hb9.size)
      have HE10 := Lib.hid (HE9.out.below hb10')
      have HA10 := Lib.hid (actAt_below HA9.out hb10')
      clear hrS9 hf9 hb9 hb10' hd10 HE9 HA9 e0 e1 e2 a0 a1 a2' a3
      have hN0 : (storeB S && actB ⟨p, q, r, t⟩) = false → X.done = false ∧ X.rds.length = 0 ∧ X.wrs.length = 0 := fun h => by
        have : X = noEff := by rw [HX.out, runM_no h]
        subst this; exact ⟨rfl, rfl, rfl⟩
      cases hS : storeB S with
      | false =>
        obtain ⟨n0, n1, n2⟩ := hN0 (by rw [hS]; rfl)
        obtain ⟨⟨e0, e1, e2⟩, -⟩ := HE10.out
        rw [n0] at e0
        rw [n1] at e1
        rw [n2] at e2
        clear hS n0 n1 n2 hN0 hrS10 hf10
        go_wp2_with fail
        refine (alive_any _).mono ?_; rintro e w11 ⟨rfl, hb11⟩
        go_wp2
        go_ret
        exact ⟨rfl, hb10.trans (hb11.mono hb10.size)⟩
      | true =>
        have HS := Lib.hid hS
        have HN0 : Hid (actB ⟨p, q, r, t⟩ = false → X.done = false ∧ X.rds.length = 0 ∧ X.wrs.length = 0) := Lib.hid (fun h => hN0 (by rw [hS, h]; rfl))
        obtain ⟨⟨a0, a1, a2', a3⟩, -⟩ := HA10.out
        clear hS hN0
        go_wp2_with fail
        refine (actionValid_spec p q r t _).mono ?_; rintro e w11 ⟨rfl, hb11'⟩
        have hrS11 := hrS10.below hb11'
        have hf11 := hf10.below hb11'
        have hb11 := hb10.trans (hb11'.mono hb10.size)
        have HE11 := Lib.hid (HE10.out.below hb11')
        have HA11 := Lib.hid (actAt_below HA10.out hb11')
        clear hrS10 hf10 hb10 hb11' HE10 HA10 a0 a1 a2' a3
        obtain ⟨⟨e0, e1, e2⟩, -⟩ := HE11.out
        cases hv : actB ⟨p, q, r, t⟩ with
        | false =>
          obtain ⟨n0, n1, n2⟩ := HN0.out hv
          rw [n0] at e0
          rw [n1] at e1
          rw [n2] at e2
          clear hv n0 n1 n2 HN0 hrS11 hf11
          go_wp2_with fail
          refine (alive_any _).mono ?_; rintro e w12 ⟨rfl, hb12⟩
          go_wp2
          go_ret
          exact ⟨rfl, hb11.trans (hb12.mono hb11.size)⟩
        | true =>
          have HV := Lib.hid hv
          clear hv HN0
          go_wp2_with fail
          refine (applyEffect_impl _ _ _ S _ _ _ _ _ _ _ X.wrs _ hrS11 hf11.2).mono ?_; rintro e w12 ⟨v12, rfl, ho12, hw12, hb12'⟩
          rw [applyM_yes HS.out HWR.out] at ho12 hw12
          have HT : Hid (storeB (applyL S X.wrs) = true ∧ (applyL S X.wrs).length ≤ 1000 ∧ (X.done = false → applyL S X.wrs = S) ∧ ((p = 2 ∨ p = 4 ∨ X.done = false) → totalM (applyL S X.wrs) = totalM S)) := Lib.hid (by
            have hok := ok_applyM HS.out HWR.out
            have h32 := store_len hok
            refine ⟨hok, by omega, fun hd => ?_, fun hk => ?_⟩
            · rw [HX.out] at hd ⊢
              rw [run_undone hd]; rfl
            · rw [totalM, totalM, if_pos hok, if_pos HS.out]
              rw [HX.out] at hk ⊢
              exact run_total HS.out HV.out hk)
          have HRD : Hid (∀ k : Nat, k < X.rds.length → valueM S (X.rds.getD k (0, 0)).1 = (X.rds.getD k (0, 0)).2) := Lib.hid (fun k hk => by
            have hm : X.rds.getD k (0, 0) ∈ X.rds := by rw [List.getD_eq_getElem?_getD, List.getElem?_eq_getElem hk]; exact List.getElem_mem hk
            have hm2 := hm
            generalize X.rds.getD k (0, 0) = e at hm2 ⊢
            rw [HX.out] at hm2
            obtain ⟨⟨x1, x2⟩, x3⟩ := runM_read HS.out HV.out e hm2
            rw [valueM_in' HS.out x1 x2]; exact x3)
          have hn2 : X.rds.length ≤ 2 := by rw [HX.out]; exact runM_rlen _ _
          have HRN : Hid (X.rds.length = (readsM ⟨p, q, r, t⟩).length) := Lib.hid (by rw [HX.out]; exact runM_reads HS.out HV.out)
          obtain ⟨T, hT⟩ : ∃ T, T = applyL S X.wrs := ⟨_, rfl⟩
          rw [← hT] at ho12 hw12 HT
          clear hT
          obtain ⟨gx, cx, rfl, hx12, -⟩ := rowE_of_owns ho12 (by have := HT.out.2.1; omega) hw12
          have hrS12 := hrS11.below hb12'
          have hf12 := (hf11.below hb12').1
          have hb12 := hb11.trans (hb12'.mono hb11.size)
          have HE12 := Lib.hid (HE11.out.below hb12')
          have HA12 := Lib.hid (actAt_below HA11.out hb12')
          clear hrS11 hf11 hb11 hb12' HE11 HA11 ho12 hw12 e0 e1 e2
          obtain ⟨⟨e0, e1, e2⟩, -⟩ := HE12.out
          obtain ⟨⟨a0, a1, a2', a3⟩, -⟩ := HA12.out
          obtain ⟨dn, hdn⟩ : ∃ dn, dn = X.done := ⟨_, rfl⟩
          obtain ⟨n, hn⟩ : ∃ n, n = X.rds.length := ⟨_, rfl⟩
          rw [← hdn] at e0 HT
          rw [← hn] at e1 hf12 HRD HRN hn2
          have HDN := Lib.hid hdn
          clear hdn hn HE12 HA12
          have hEl : E < w12.heap.size := World.block_lt_of_cell? w12 ⟨E, 0, none⟩ e0
          have hAl : A < w12.heap.size := World.block_lt_of_cell? w12 ⟨A, 0, none⟩ a0
          go_wp2
          go_loopw [7] (fun i wr => ∃ k : Nat, k ≤ n ∧ i = .int .i64 k ∧ Below w12.heap.size w12 wr) (fun i _ => n - (intOf i).toNat)
          case atStart => exact ⟨0, Nat.zero_le _, rfl, Below.refl _ _⟩
          case round =>
            obtain ⟨k, hk, rfl, hbr⟩ := hrel
            have f0 := below_cl hbr hEl e0
            have f1 := below_cl hbr hEl e1
            have f2 := below_cl hbr hEl e2
            have hEr : E < wr.heap.size := World.block_lt_of_cell? wr ⟨E, 0, none⟩ f0
            have hrSr := hrS12.below hbr
            by_cases hlt : k < n
            · have hqr := hf12.below hbr
              obtain ⟨b', off, rfl, hc⟩ := hqr.2.2.1 (by omega)
              obtain ⟨hc1, hc2⟩ := hc k hlt
              have hbl : b' < wr.heap.size := World.block_lt_of_cell? wr ⟨b', off + k * 2, none⟩ hc1
              have HNX := Lib.hid (HRD.out k hlt)
              clear hc
              obtain ⟨x, hx⟩ : ∃ x, x = (X.rds.getD k (0, 0)).1 := ⟨_, rfl⟩
              obtain ⟨y, hy⟩ : ∃ y, y = (X.rds.getD k (0, 0)).2 := ⟨_, rfl⟩
              rw [← hx] at hc1
              rw [← hy] at hc2
              rw [← hx, ← hy] at HNX
              clear hx hy
              have q1 : (0 : Int) ≤ (k : Int) := by omega
              have q2 : (k : Int) < (n : Int) := by omega
              have hMX : n ≤ maxLen := hqr.2.1
              clear hqr f0 f2 a0 a1 a2' a3 e0 e1 e2
              have hyy : (y != y) = false := by simp
              go_wp2_with fail
              go_region_held3 (fun w' => w'.cell? ⟨E, 1, none⟩ = some (.slice (some ⟨b', off, none⟩) n c2) ∧ w'.cell? ⟨b', off + k * 2, none⟩ = some (.int .i64 x) ∧ w'.cell? ⟨b', off + k * 2 + 1, none⟩ = some (.int .i64 y)) (first | exact ⟨f1, hc1, hc2⟩ | exact ⟨g1, g2, g3⟩ | go_keep)
                ((go_at_call 29; refine (valueAt_impl _ _ _ S x _ (by exact hrSr)).mono ?_; rintro e w13 ⟨rfl, hb13'⟩; rw [HNX.out]; have hb13 : Below wr.heap.size wr w13 := (by first | exact hb13' | exact (Below.refl _ wr).drew.trans hb13' | exact (Below.refl _ wr).drew.drew.trans hb13'); have g1 := below_cl hb13 hEr f1; have g2 := below_cl hb13 hbl hc1; have g3 := below_cl hb13 hbl hc2))
              all_goals
                have HB13 := Lib.hid (hbr.trans (hb13.mono hbr.size))
                clear hb13 hb13' hc1 hc2 g1 g2 g3 hbr f1 hrSr
                go_wp2
                go_roundw
                case rel => exact ⟨k + 1, by omega, by go_num, HB13.out⟩
                case measure => simp [intOf]; omega
            · obtain rfl : k = n := by omega
              have i0 := below_cl hbr hAl a0
              have i1 := below_cl hbr hAl a1
              have i2 := below_cl hbr hAl a2'
              have i3 := below_cl hbr hAl a3
              have hAr : A < wr.heap.size := World.block_lt_of_cell? wr ⟨A, 0, none⟩ i0
              have hxr := hx12.below hbr
              have hbw := hb12.trans (hbr.mono hb12.size)
              have HBW := Lib.hid hbw
              have hrl : (readsM ⟨p, q, r, t⟩).length ≤ 2 := by rw [← HRN.out]; exact hn2
              have HRL2 := Lib.hid hrl
              clear hf12 hx12 hrS12 e0 e1 e2 a0 a1 a2' a3 HRD hbr hbw hrl hEl hAl
              have hcs : (∃ kp : Bool, (dn = false → T = S) ∧ (kp = true → totalM T = totalM S) ∧ ((p = 2 ∧ kp = true) ∨ (p ≠ 2 ∧ p = 4 ∧ kp = true) ∨ (p ≠ 2 ∧ p ≠ 4 ∧ kp = !dn))) := by
                by_cases h2 : p = 2
                · exact ⟨true, HT.out.2.2.1, fun _ => HT.out.2.2.2 (.inl h2), .inl ⟨h2, rfl⟩⟩
                · by_cases h4 : p = 4
                  · exact ⟨true, HT.out.2.2.1, fun _ => HT.out.2.2.2 (.inr (.inl h4)), .inr (.inl ⟨h2, h4, rfl⟩)⟩
                  · exact ⟨!dn, HT.out.2.2.1, fun h => HT.out.2.2.2 (.inr (.inr (by simpa using h))), .inr (.inr ⟨h2, h4, rfl⟩)⟩
              have HT1 := Lib.hid HT.out.1
              clear HT
              obtain ⟨kp, hts, htt, hkp⟩ := hcs
              have HTS := Lib.hid hts
              have HTT := Lib.hid htt
              clear hts htt
              have HB : Below wr.heap.size wr wr := Below.refl _ _
              have hx := hxr
              have hs := hrSr
              have g0 := f0
              have g1 := f1
              have c0 := i0
              have c1 := i1
              have c2' := i2
              have c3 := i3
              -- WAYS
              rcases hkp with ⟨rfl, rfl⟩ | ⟨h2, rfl, rfl⟩ | ⟨h2, h4, rfl⟩
              · cases dn with
                | false =>
                  have HKT := Lib.hid (HTT.out rfl)
                  obtain rfl := HTS.out rfl
                  clear HTS HTT
                  go_upto_region 16 with (fail)
                  go_region_held3 (fun w' => (w'.cell? ⟨A, 0, none⟩ = some (.int .i64 2) ∧ w'.cell? ⟨A, 1, none⟩ = some (.int .i64 q) ∧ w'.cell? ⟨A, 2, none⟩ = some (.int .i64 r) ∧ w'.cell? ⟨A, 3, none⟩ = some (.int .i64 t)) ∧ w'.cell? ⟨E, 0, none⟩ = some (.bool false) ∧ w'.cell? ⟨E, 1, none⟩ = some (.slice a2 k c2)) (first | exact ⟨⟨c0, c1, c2', c3⟩, g0, g1⟩ | go_keep)
                    (first | (go_at_call 30; refine (storeValid_impl _ _ _ T _ (by exact hx)).mono ?_; rintro e w13 ⟨rfl, hb13'⟩; rw [HT1.out]; have HB : Below wr.heap.size wr w13 := (by first | exact HB.trans (hb13'.mono HB.size) | exact HB.trans (((Below.refl _ _).drew.trans hb13').mono HB.size) | exact HB.trans (((Below.refl _ _).drew.drew.trans hb13').mono HB.size)); have g0 := below_cl HB hEr f0; have g1 := below_cl HB hEr f1; have c0 := below_cl HB hAr i0; have c1 := below_cl HB hAr i1; have c2' := below_cl HB hAr i2; have c3 := below_cl HB hAr i3; have hx := hxr.below HB; have hs := hrSr.below HB) | (go_at_call 31; refine (storeTotal_impl _ _ _ _ _ (by first | exact hx | exact hs)).mono ?_; rintro e w13 ⟨rfl, hb13'⟩; (try rw [HKT.out]); have HB : Below wr.heap.size wr w13 := (by first | exact HB.trans (hb13'.mono HB.size) | exact HB.trans (((Below.refl _ _).drew.trans hb13').mono HB.size) | exact HB.trans (((Below.refl _ _).drew.drew.trans hb13').mono HB.size)); have g0 := below_cl HB hEr f0; have g1 := below_cl HB hEr f1; have c0 := below_cl HB hAr i0; have c1 := below_cl HB hAr i1; have c2' := below_cl HB hAr i2; have c3 := below_cl HB hAr i3; have hx := hxr.below HB; have hs := hrSr.below HB) | (go_at_call 32; refine (sameStore_same _ _ _ _ _ _ _ (by exact hx) (by exact hs)).mono ?_; rintro e w13 ⟨rfl, hd13⟩; have HB : Below wr.heap.size wr w13 := (by first | exact HB.trans (hd13.below _) | exact HB.trans ((Below.refl _ _).drew.trans (hd13.below _)) | exact HB.trans ((Below.refl _ _).drew.drew.trans (hd13.below _))); have g0 := below_cl HB hEr f0; have g1 := below_cl HB hEr f1; have c0 := below_cl HB hAr i0; have c1 := below_cl HB hAr i1; have c2' := below_cl HB hAr i2; have c3 := below_cl HB hAr i3; have hx := hxr.below HB; have hs := hrSr.below HB) | (go_at_call 13; refine (actionReads_impl _ q r t _).mono ?_; rintro e w13 ⟨v13, rfl, ho13, hw13, hb13'⟩; obtain ⟨gz, cz, rfl, -⟩ := rowI_of_owns ho13 (by have := HRL2.out; unfold maxLen; omega) hw13; rw [← HRN.out]; have HB : Below wr.heap.size wr w13 := (by first | exact HB.trans (hb13'.mono HB.size) | exact HB.trans (((Below.refl _ _).drew.trans hb13').mono HB.size) | exact HB.trans (((Below.refl _ _).drew.drew.trans hb13').mono HB.size)); have g0 := below_cl HB hEr f0; have g1 := below_cl HB hEr f1; have c0 := below_cl HB hAr i0; have c1 := below_cl HB hAr i1; have c2' := below_cl HB hAr i2; have c3 := below_cl HB hAr i3; have hx := hxr.below HB; have hs := hrSr.below HB))
                  all_goals
                    have HBE := Lib.hid HB
                    clear HB g0 g1 c0 c1 c2' c3 hx hs
                    go_wp2
                    go_ret
                    exact ⟨rfl, HBW.out.trans (HBE.out.mono HBW.out.size)⟩
                | true =>
                  have HKT := Lib.hid (HTT.out rfl)
                  clear HTS HTT
                  go_upto_region 16 with (fail)
                  first | (go_region_held3 (fun w' => (w'.cell? ⟨A, 0, none⟩ = some (.int .i64 2) ∧ w'.cell? ⟨A, 1, none⟩ = some (.int .i64 q) ∧ w'.cell? ⟨A, 2, none⟩ = some (.int .i64 r) ∧ w'.cell? ⟨A, 3, none⟩ = some (.int .i64 t)) ∧ w'.cell? ⟨E, 0, none⟩ = some (.bool true) ∧ w'.cell? ⟨E, 1, none⟩ = some (.slice a2 k c2)) (first | exact ⟨⟨c0, c1, c2', c3⟩, g0, g1⟩ | go_keep)
                    (first | (go_at_call 30; refine (storeValid_impl _ _ _ T _ (by exact hx)).mono ?_; rintro e w13 ⟨rfl, hb13'⟩; rw [HT1.out]; have HB : Below wr.heap.size wr w13 := (by first | exact HB.trans (hb13'.mono HB.size) | exact HB.trans (((Below.refl _ _).drew.trans hb13').mono HB.size) | exact HB.trans (((Below.refl _ _).drew.drew.trans hb13').mono HB.size)); have g0 := below_cl HB hEr f0; have g1 := below_cl HB hEr f1; have c0 := below_cl HB hAr i0; have c1 := below_cl HB hAr i1; have c2' := below_cl HB hAr i2; have c3 := below_cl HB hAr i3; have hx := hxr.below HB; have hs := hrSr.below HB) | (go_at_call 31; refine (storeTotal_impl _ _ _ _ _ (by first | exact hx | exact hs)).mono ?_; rintro e w13 ⟨rfl, hb13'⟩; (try rw [HKT.out]); have HB : Below wr.heap.size wr w13 := (by first | exact HB.trans (hb13'.mono HB.size) | exact HB.trans (((Below.refl _ _).drew.trans hb13').mono HB.size) | exact HB.trans (((Below.refl _ _).drew.drew.trans hb13').mono HB.size)); have g0 := below_cl HB hEr f0; have g1 := below_cl HB hEr f1; have c0 := below_cl HB hAr i0; have c1 := below_cl HB hAr i1; have c2' := below_cl HB hAr i2; have c3 := below_cl HB hAr i3; have hx := hxr.below HB; have hs := hrSr.below HB) | (go_at_call 13; refine (actionReads_impl _ q r t _).mono ?_; rintro e w13 ⟨v13, rfl, ho13, hw13, hb13'⟩; obtain ⟨gz, cz, rfl, -⟩ := rowI_of_owns ho13 (by have := HRL2.out; unfold maxLen; omega) hw13; rw [← HRN.out]; have HB : Below wr.heap.size wr w13 := (by first | exact HB.trans (hb13'.mono HB.size) | exact HB.trans (((Below.refl _ _).drew.trans hb13').mono HB.size) | exact HB.trans (((Below.refl _ _).drew.drew.trans hb13').mono HB.size)); have g0 := below_cl HB hEr f0; have g1 := below_cl HB hEr f1; have c0 := below_cl HB hAr i0; have c1 := below_cl HB hAr i1; have c2' := below_cl HB hAr i2; have c3 := below_cl HB hAr i3; have hx := hxr.below HB; have hs := hrSr.below HB))) | fail
                  all_goals
                    have HBE := Lib.hid HB
                    clear HB g0 g1 c0 c1 c2' c3 hx hs
                    go_wp2
                    go_ret
                    exact ⟨rfl, HBW.out.trans (HBE.out.mono HBW.out.size)⟩
              · cases dn with
                | false =>
                  have HKT := Lib.hid (HTT.out rfl)
                  obtain rfl := HTS.out rfl
                  clear HTS HTT
                  go_upto_region 16 with (fail)
                  go_region_held3 (fun w' => (w'.cell? ⟨A, 0, none⟩ = some (.int .i64 4) ∧ w'.cell? ⟨A, 1, none⟩ = some (.int .i64 q) ∧ w'.cell? ⟨A, 2, none⟩ = some (.int .i64 r) ∧ w'.cell? ⟨A, 3, none⟩ = some (.int .i64 t)) ∧ w'.cell? ⟨E, 0, none⟩ = some (.bool false) ∧ w'.cell? ⟨E, 1, none⟩ = some (.slice a2 k c2)) (first | exact ⟨⟨c0, c1, c2', c3⟩, g0, g1⟩ | go_keep)
                    (first | (go_at_call 30; refine (storeValid_impl _ _ _ T _ (by exact hx)).mono ?_; rintro e w13 ⟨rfl, hb13'⟩; rw [HT1.out]; have HB : Below wr.heap.size wr w13 := (by first | exact HB.trans (hb13'.mono HB.size) | exact HB.trans (((Below.refl _ _).drew.trans hb13').mono HB.size) | exact HB.trans (((Below.refl _ _).drew.drew.trans hb13').mono HB.size)); have g0 := below_cl HB hEr f0; have g1 := below_cl HB hEr f1; have c0 := below_cl HB hAr i0; have c1 := below_cl HB hAr i1; have c2' := below_cl HB hAr i2; have c3 := below_cl HB hAr i3; have hx := hxr.below HB; have hs := hrSr.below HB) | (go_at_call 31; refine (storeTotal_impl _ _ _ _ _ (by first | exact hx | exact hs)).mono ?_; rintro e w13 ⟨rfl, hb13'⟩; (try rw [HKT.out]); have HB : Below wr.heap.size wr w13 := (by first | exact HB.trans (hb13'.mono HB.size) | exact HB.trans (((Below.refl _ _).drew.trans hb13').mono HB.size) | exact HB.trans (((Below.refl _ _).drew.drew.trans hb13').mono HB.size)); have g0 := below_cl HB hEr f0; have g1 := below_cl HB hEr f1; have c0 := below_cl HB hAr i0; have c1 := below_cl HB hAr i1; have c2' := below_cl HB hAr i2; have c3 := below_cl HB hAr i3; have hx := hxr.below HB; have hs := hrSr.below HB) | (go_at_call 32; refine (sameStore_same _ _ _ _ _ _ _ (by exact hx) (by exact hs)).mono ?_; rintro e w13 ⟨rfl, hd13⟩; have HB : Below wr.heap.size wr w13 := (by first | exact HB.trans (hd13.below _) | exact HB.trans ((Below.refl _ _).drew.trans (hd13.below _)) | exact HB.trans ((Below.refl _ _).drew.drew.trans (hd13.below _))); have g0 := below_cl HB hEr f0; have g1 := below_cl HB hEr f1; have c0 := below_cl HB hAr i0; have c1 := below_cl HB hAr i1; have c2' := below_cl HB hAr i2; have c3 := below_cl HB hAr i3; have hx := hxr.below HB; have hs := hrSr.below HB) | (go_at_call 13; refine (actionReads_impl _ q r t _).mono ?_; rintro e w13 ⟨v13, rfl, ho13, hw13, hb13'⟩; obtain ⟨gz, cz, rfl, -⟩ := rowI_of_owns ho13 (by have := HRL2.out; unfold maxLen; omega) hw13; rw [← HRN.out]; have HB : Below wr.heap.size wr w13 := (by first | exact HB.trans (hb13'.mono HB.size) | exact HB.trans (((Below.refl _ _).drew.trans hb13').mono HB.size) | exact HB.trans (((Below.refl _ _).drew.drew.trans hb13').mono HB.size)); have g0 := below_cl HB hEr f0; have g1 := below_cl HB hEr f1; have c0 := below_cl HB hAr i0; have c1 := below_cl HB hAr i1; have c2' := below_cl HB hAr i2; have c3 := below_cl HB hAr i3; have hx := hxr.below HB; have hs := hrSr.below HB))
                  all_goals
                    have HBE := Lib.hid HB
                    clear HB g0 g1 c0 c1 c2' c3 hx hs
                    go_wp2
                    go_ret
                    exact ⟨rfl, HBW.out.trans (HBE.out.mono HBW.out.size)⟩
                | true =>
                  have HKT := Lib.hid (HTT.out rfl)
                  clear HTS HTT
                  go_upto_region 16 with (fail)
                  first | (go_region_held3 (fun w' => (w'.cell? ⟨A, 0, none⟩ = some (.int .i64 4) ∧ w'.cell? ⟨A, 1, none⟩ = some (.int .i64 q) ∧ w'.cell? ⟨A, 2, none⟩ = some (.int .i64 r) ∧ w'.cell? ⟨A, 3, none⟩ = some (.int .i64 t)) ∧ w'.cell? ⟨E, 0, none⟩ = some (.bool true) ∧ w'.cell? ⟨E, 1, none⟩ = some (.slice a2 k c2)) (first | exact ⟨⟨c0, c1, c2', c3⟩, g0, g1⟩ | go_keep)
                    (first | (go_at_call 30; refine (storeValid_impl _ _ _ T _ (by exact hx)).mono ?_; rintro e w13 ⟨rfl, hb13'⟩; rw [HT1.out]; have HB : Below wr.heap.size wr w13 := (by first | exact HB.trans (hb13'.mono HB.size) | exact HB.trans (((Below.refl _ _).drew.trans hb13').mono HB.size) | exact HB.trans (((Below.refl _ _).drew.drew.trans hb13').mono HB.size)); have g0 := below_cl HB hEr f0; have g1 := below_cl HB hEr f1; have c0 := below_cl HB hAr i0; have c1 := below_cl HB hAr i1; have c2' := below_cl HB hAr i2; have c3 := below_cl HB hAr i3; have hx := hxr.below HB; have hs := hrSr.below HB) | (go_at_call 31; refine (storeTotal_impl _ _ _ _ _ (by first | exact hx | exact hs)).mono ?_; rintro e w13 ⟨rfl, hb13'⟩; (try rw [HKT.out]); have HB : Below wr.heap.size wr w13 := (by first | exact HB.trans (hb13'.mono HB.size) | exact HB.trans (((Below.refl _ _).drew.trans hb13').mono HB.size) | exact HB.trans (((Below.refl _ _).drew.drew.trans hb13').mono HB.size)); have g0 := below_cl HB hEr f0; have g1 := below_cl HB hEr f1; have c0 := below_cl HB hAr i0; have c1 := below_cl HB hAr i1; have c2' := below_cl HB hAr i2; have c3 := below_cl HB hAr i3; have hx := hxr.below HB; have hs := hrSr.below HB) | (go_at_call 13; refine (actionReads_impl _ q r t _).mono ?_; rintro e w13 ⟨v13, rfl, ho13, hw13, hb13'⟩; obtain ⟨gz, cz, rfl, -⟩ := rowI_of_owns ho13 (by have := HRL2.out; unfold maxLen; omega) hw13; rw [← HRN.out]; have HB : Below wr.heap.size wr w13 := (by first | exact HB.trans (hb13'.mono HB.size) | exact HB.trans (((Below.refl _ _).drew.trans hb13').mono HB.size) | exact HB.trans (((Below.refl _ _).drew.drew.trans hb13').mono HB.size)); have g0 := below_cl HB hEr f0; have g1 := below_cl HB hEr f1; have c0 := below_cl HB hAr i0; have c1 := below_cl HB hAr i1; have c2' := below_cl HB hAr i2; have c3 := below_cl HB hAr i3; have hx := hxr.below HB; have hs := hrSr.below HB))) | fail
                  all_goals
                    have HBE := Lib.hid HB
                    clear HB g0 g1 c0 c1 c2' c3 hx hs
                    go_wp2
                    go_ret
                    exact ⟨rfl, HBW.out.trans (HBE.out.mono HBW.out.size)⟩
              · cases dn with
                | false =>
                  have HKT := Lib.hid (HTT.out rfl)
                  have x2 : (p == 2) = false := by simpa using h2
                  have x4 : (p == 4) = false := by simpa using h4
                  obtain rfl := HTS.out rfl
                  clear HTS HTT
                  go_upto_region 16 with (fail)
                  go_region_held3 (fun w' => (w'.cell? ⟨A, 0, none⟩ = some (.int .i64 p) ∧ w'.cell? ⟨A, 1, none⟩ = some (.int .i64 q) ∧ w'.cell? ⟨A, 2, none⟩ = some (.int .i64 r) ∧ w'.cell? ⟨A, 3, none⟩ = some (.int .i64 t)) ∧ w'.cell? ⟨E, 0, none⟩ = some (.bool false) ∧ w'.cell? ⟨E, 1, none⟩ = some (.slice a2 k c2)) (first | exact ⟨⟨c0, c1, c2', c3⟩, g0, g1⟩ | go_keep)
                    (first | (go_at_call 30; refine (storeValid_impl _ _ _ T _ (by exact hx)).mono ?_; rintro e w13 ⟨rfl, hb13'⟩; rw [HT1.out]; have HB : Below wr.heap.size wr w13 := (by first | exact HB.trans (hb13'.mono HB.size) | exact HB.trans (((Below.refl _ _).drew.trans hb13').mono HB.size) | exact HB.trans (((Below.refl _ _).drew.drew.trans hb13').mono HB.size)); have g0 := below_cl HB hEr f0; have g1 := below_cl HB hEr f1; have c0 := below_cl HB hAr i0; have c1 := below_cl HB hAr i1; have c2' := below_cl HB hAr i2; have c3 := below_cl HB hAr i3; have hx := hxr.below HB; have hs := hrSr.below HB) | (go_at_call 31; refine (storeTotal_impl _ _ _ _ _ (by first | exact hx | exact hs)).mono ?_; rintro e w13 ⟨rfl, hb13'⟩; (try rw [HKT.out]); have HB : Below wr.heap.size wr w13 := (by first | exact HB.trans (hb13'.mono HB.size) | exact HB.trans (((Below.refl _ _).drew.trans hb13').mono HB.size) | exact HB.trans (((Below.refl _ _).drew.drew.trans hb13').mono HB.size)); have g0 := below_cl HB hEr f0; have g1 := below_cl HB hEr f1; have c0 := below_cl HB hAr i0; have c1 := below_cl HB hAr i1; have c2' := below_cl HB hAr i2; have c3 := below_cl HB hAr i3; have hx := hxr.below HB; have hs := hrSr.below HB) | (go_at_call 32; refine (sameStore_same _ _ _ _ _ _ _ (by exact hx) (by exact hs)).mono ?_; rintro e w13 ⟨rfl, hd13⟩; have HB : Below wr.heap.size wr w13 := (by first | exact HB.trans (hd13.below _) | exact HB.trans ((Below.refl _ _).drew.trans (hd13.below _)) | exact HB.trans ((Below.refl _ _).drew.drew.trans (hd13.below _))); have g0 := below_cl HB hEr f0; have g1 := below_cl HB hEr f1; have c0 := below_cl HB hAr i0; have c1 := below_cl HB hAr i1; have c2' := below_cl HB hAr i2; have c3 := below_cl HB hAr i3; have hx := hxr.below HB; have hs := hrSr.below HB) | (go_at_call 13; refine (actionReads_impl _ q r t _).mono ?_; rintro e w13 ⟨v13, rfl, ho13, hw13, hb13'⟩; obtain ⟨gz, cz, rfl, -⟩ := rowI_of_owns ho13 (by have := HRL2.out; unfold maxLen; omega) hw13; rw [← HRN.out]; have HB : Below wr.heap.size wr w13 := (by first | exact HB.trans (hb13'.mono HB.size) | exact HB.trans (((Below.refl _ _).drew.trans hb13').mono HB.size) | exact HB.trans (((Below.refl _ _).drew.drew.trans hb13').mono HB.size)); have g0 := below_cl HB hEr f0; have g1 := below_cl HB hEr f1; have c0 := below_cl HB hAr i0; have c1 := below_cl HB hAr i1; have c2' := below_cl HB hAr i2; have c3 := below_cl HB hAr i3; have hx := hxr.below HB; have hs := hrSr.below HB))
                  all_goals
                    have HBE := Lib.hid HB
                    clear HB g0 g1 c0 c1 c2' c3 hx hs
                    go_wp2
                    go_ret
                    exact ⟨rfl, HBW.out.trans (HBE.out.mono HBW.out.size)⟩
                | true =>
                  have x2 : (p == 2) = false := by simpa using h2
                  have x4 : (p == 4) = false := by simpa using h4
                  clear HTS HTT
                  go_upto_region 16 with (fail)
                  first | (go_region_held3 (fun w' => (w'.cell? ⟨A, 0, none⟩ = some (.int .i64 p) ∧ w'.cell? ⟨A, 1, none⟩ = some (.int .i64 q) ∧ w'.cell? ⟨A, 2, none⟩ = some (.int .i64 r) ∧ w'.cell? ⟨A, 3, none⟩ = some (.int .i64 t)) ∧ w'.cell? ⟨E, 0, none⟩ = some (.bool true) ∧ w'.cell? ⟨E, 1, none⟩ = some (.slice a2 k c2)) (first | exact ⟨⟨c0, c1, c2', c3⟩, g0, g1⟩ | go_keep)
                    (first | (go_at_call 30; refine (storeValid_impl _ _ _ T _ (by exact hx)).mono ?_; rintro e w13 ⟨rfl, hb13'⟩; rw [HT1.out]; have HB : Below wr.heap.size wr w13 := (by first | exact HB.trans (hb13'.mono HB.size) | exact HB.trans (((Below.refl _ _).drew.trans hb13').mono HB.size) | exact HB.trans (((Below.refl _ _).drew.drew.trans hb13').mono HB.size)); have g0 := below_cl HB hEr f0; have g1 := below_cl HB hEr f1; have c0 := below_cl HB hAr i0; have c1 := below_cl HB hAr i1; have c2' := below_cl HB hAr i2; have c3 := below_cl HB hAr i3; have hx := hxr.below HB; have hs := hrSr.below HB) | (go_at_call 13; refine (actionReads_impl _ q r t _).mono ?_; rintro e w13 ⟨v13, rfl, ho13, hw13, hb13'⟩; obtain ⟨gz, cz, rfl, -⟩ := rowI_of_owns ho13 (by have := HRL2.out; unfold maxLen; omega) hw13; rw [← HRN.out]; have HB : Below wr.heap.size wr w13 := (by first | exact HB.trans (hb13'.mono HB.size) | exact HB.trans (((Below.refl _ _).drew.trans hb13').mono HB.size) | exact HB.trans (((Below.refl _ _).drew.drew.trans hb13').mono HB.size)); have g0 := below_cl HB hEr f0; have g1 := below_cl HB hEr f1; have c0 := below_cl HB hAr i0; have c1 := below_cl HB hAr i1; have c2' := below_cl HB hAr i2; have c3 := below_cl HB hAr i3; have hx := hxr.below HB; have hs := hrSr.below HB))) | fail
                  all_goals
                    have HBE := Lib.hid HB
                    clear HB g0 g1 c0 c1 c2' c3 hx hs
                    go_wp2
                    go_ret
                    exact ⟨rfl, HBW.out.trans (HBE.out.mono HBW.out.size)⟩
  · have hs' : (1048576 : Int) < (len : Int) := by omega
    clear h hlc
    go_enter Try.func5, Try.ntmps5
    go_wp2
    go_ret
    exact ⟨rfl, Below.refl _ _⟩
end Go.Proofs.Ytakbkomgmajnfaa
