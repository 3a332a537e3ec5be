/- The walk of the law FnSwapTwice. -/
import Derived.Test.YtpnahncmhldgdaaLawActR
import Derived.Test.YtpnahncmhldgdaaImplRun
import Derived.Test.YtpnahncmhldgdaaConvFs
import Derived.Test.YtpnahncmhldgdaaDrawAc
import Derived.Test.YtpnahncmhldgdaaImplSer
namespace Go.Proofs.Ytpnahncmhldgdaa
open Go.RowKit
set_option linter.unusedVariables false
/-- Two actions in a literal. -/
theorem rowA_lit2 (w : World) (T : TypeId) {x y : Acn} (hx : WfA x) (hy : WfA y) :
    RowA (w.alloc (.cells #[.int .i64 x.kind, .int .i64 x.src, .int .i64 x.dst, .int .i64 x.amt, .int .i64 y.kind, .int .i64 y.src, .int .i64 y.dst, .int .i64 y.amt] T)) (some ⟨w.heap.size, 0, none⟩) 2 [x, y] := by
  refine ⟨rfl, by unfold maxLen; omega, fun _ => ⟨w.heap.size, 0, rfl, fun i hi => ?_⟩, fun z hz => ?_⟩
  · rcases (by omega : i = 0 ∨ i = 1) with rfl | rfl <;> simp [go_sem]
  · simp at hz; rcases hz with rfl | rfl <;> assumption
theorem swap_valid {p q r t : Int} (h : actB ⟨p, q, r, t⟩ = true) : actB ⟨4, q, r, 0⟩ = true := by
  simp only [actB, Bool.and_eq_true] at h ⊢
  exact ⟨⟨h.1.1, by decide⟩, by simp [restB]⟩
set_option warningAsError false in
set_option maxRecDepth 100000 in
set_option maxHeartbeats 8000000 in
theorem lawSwapTwice (a : Option Addr) (len cap : Nat) (z : List Int) (w : World) (h : RowB w a len z) (hc : a = none → cap = 0) (hlc : len ≤ cap) :
    Calls Try.prog 6 #[.slice a len cap] w (LawTrue w) := by
  by_cases hs : len ≤ 1048576
  · have hs' : ¬ (1048576 : Int) < (len : Int) := by omega
    go_enter Try.func6, Try.ntmps6
    go_wp2_with fail
    refine (drawRunAction_any a len cap z w h hlc).mono ?_; rintro e w1 ⟨gS, cS, S, p, q, r, t, rfl, hrS, hSl, hp0, hq0, hr0, ht0, hb1⟩
    have HWA := Lib.hid (wfA_of hp0 hq0 hr0 ht0)
    clear h hs hs' hp0 hq0 hr0 ht0
    have hA1 := actAt_new w1 42 p q r t
    have hbl := (Below.refl w1.heap.size w1).alloc (Nat.le_refl _) (.cells #[.int .i64 p, .int .i64 q, .int .i64 r, .int .i64 t] 42)
    have hrS1 := hrS.below hbl
    have hb1' := hb1.trans (hbl.mono hb1.size)
    clear hrS hbl
    go_upto_region 4 with (fail)
    obtain ⟨wa, hwa⟩ : ∃ wa, wa = w1.alloc (.cells #[.int .i64 p, .int .i64 q, .int .i64 r, .int .i64 t] 42) := ⟨_, rfl⟩
    rw [← hwa] at hA1 hrS1 hb1' ⊢
    clear hwa
    obtain ⟨A, hAe⟩ : ∃ A, A = w1.heap.size := ⟨_, rfl⟩
    rw [← hAe] at hA1 ⊢
    clear hAe hb1
    have HRL := Lib.hid (Nat.le_trans (runM_rlen S ⟨p, q, r, t⟩) (show 2 ≤ 4000000 by omega))
    have HWL := Lib.hid (Nat.le_trans (runM_wlen S ⟨p, q, r, t⟩) (show 32 ≤ 4000000 by omega))
    obtain ⟨X, hX⟩ : ∃ X, X = runM S ⟨p, q, r, t⟩ := ⟨_, rfl⟩
    have HX := Lib.hid hX
    rw [← hX] at HRL HWL
    clear hX
    have hAl : A < wa.heap.size := World.block_lt_of_cell? wa ⟨A, 0, none⟩ hA1.1.1
    obtain ⟨q0, q1, q2, q3⟩ := hA1.1
    go_region_held3 (fun w' => w'.cell? ⟨A, 0, none⟩ = some (.int .i64 p) ∧ w'.cell? ⟨A, 1, none⟩ = some (.int .i64 q) ∧ w'.cell? ⟨A, 2, none⟩ = some (.int .i64 r) ∧ w'.cell? ⟨A, 3, none⟩ = some (.int .i64 t)) (first | exact ⟨q0, q1, q2, q3⟩ | exact ⟨d0, d1, d2, d3⟩ | exact ⟨x0, x1, x2, x3⟩ | exact ⟨f0, f1, f2, f3⟩ | go_keep)
      (first | (go_at_call 26; refine (runAction_impl _ _ cS S p q r t _ (by exact hrS1)).mono ?_; rintro e w7 ⟨v7, rfl, hF7, hb7'⟩; rw [← HX.out] at hF7; obtain ⟨a7, c7, b7, g7, rfl, hf7, -⟩ := hF7.rows HRL.out HWL.out; have HB7 : Below wa.heap.size wa w7 := (by first | exact hb7' | exact (Below.refl _ wa).drew.trans hb7' | exact (Below.refl _ wa).drew.drew.trans hb7'); have hrS7 := hrS1.below HB7; have d0 := below_cl HB7 hAl q0; have d1 := below_cl HB7 hAl q1; have d2 := below_cl HB7 hAl q2; have d3 := below_cl HB7 hAl q3) | (go_at_call 31; refine (runAction_spec _ _ cS S p q r t _ (by exact hrS7)).mono ?_; rintro e w8 ⟨v8, rfl, hF8, hb8'⟩; rw [← HX.out] at hF8; obtain ⟨a8, c8, b8, g8, rfl, hf8, -⟩ := hF8.rows HRL.out HWL.out; have hb78 : Below w7.heap.size w7 w8 := (by first | exact hb8' | exact (Below.refl _ w7).drew.trans hb8' | exact (Below.refl _ w7).drew.drew.trans hb8'); have HB8 := HB7.trans (hb78.mono HB7.size); have hf7' := hf7.below hb78; have x0 := below_cl HB8 hAl q0; have x1 := below_cl HB8 hAl q1; have x2 := below_cl HB8 hAl q2; have x3 := below_cl HB8 hAl q3) | (go_at_call 30; refine (sameEffect_same _ _ _ _ _ _ _ _ _ _ X _ (by exact hf7') (by exact hf8)).mono ?_; rintro e w9 ⟨rfl, hb9'⟩; have HB9 : Below wa.heap.size wa w9 := (by first | exact HB8.trans (hb9'.mono HB8.size) | exact HB8.trans (((Below.refl _ _).drew.trans hb9').mono HB8.size)); have f0 := below_cl HB9 hAl q0; have f1 := below_cl HB9 hAl q1; have f2 := below_cl HB9 hAl q2; have f3 := below_cl HB9 hAl q3))
    all_goals
      have hrS9 := hrS1.below HB9
      have hb9 := hb1'.trans (HB9.mono hb1'.size)
      have HA9 := Lib.hid (actAt_below hA1 HB9)
      clear hrS1 hb1' HB9 hb9' HB7 HB8 hb78 hf7 hf7' hf8 hF7 hF8 hrS7 q0 q1 q2 q3 d0 d1 d2 d3 x0 x1 x2 x3 f0 f1 f2 f3 hA1 hAl HX HRL HWL
      go_wp2_with fail
      refine (storeValid_spec _ _ cS S _ hrS9).mono ?_; rintro e w10 ⟨rfl, hd10⟩
      have hb10' := hd10.below w9.heap.size
      have hrS10 := hrS9.below hb10'
      have hb10 := hb9.trans (hb10'.mono hb9.size)
      have HA10 := Lib.hid (actAt_below HA9.out hb10')
      clear hrS9 hb9 hb10' hd10 HA9
      cases hS : storeB S with
      | false =>
        clear hS hrS10
        go_wp2_with fail
        refine (alive_any _).mono ?_; rintro e w11 ⟨rfl, hb11⟩
        go_wp2
        go_ret
        exact ⟨rfl, hb10.trans (hb11.mono hb10.size)⟩
      | true =>
        have HS := Lib.hid hS
        clear hS
        obtain ⟨a0, a1, a2, a3⟩ := HA10.out.1
        go_wp2_with fail
        refine (actionValid_spec p q r t _).mono ?_; rintro e w11 ⟨rfl, hb11'⟩
        have hrS11 := hrS10.below hb11'
        have hb11 := hb10.trans (hb11'.mono hb10.size)
        have HA11 := Lib.hid (actAt_below HA10.out hb11')
        clear hrS10 hb10 hb11' HA10 a0 a1 a2 a3
        cases hv : actB ⟨p, q, r, t⟩ with
        | false =>
          clear hv hrS11
          go_wp2_with fail
          refine (alive_any _).mono ?_; rintro e w12 ⟨rfl, hb12⟩
          go_wp2
          go_ret
          exact ⟨rfl, hb11.trans (hb12.mono hb11.size)⟩
        | true =>
          have HV := Lib.hid hv
          clear hv
          obtain ⟨a0, a1, a2, a3⟩ := HA11.out.1
          have HWS : Hid (WfA ⟨4, q, r, 0⟩) := Lib.hid ⟨show (Lit.int .i64 4).wf = true by decide, HWA.out.2.1, HWA.out.2.2.1, show (Lit.int .i64 0).wf = true by decide⟩
          have HSW : Hid ((serM S [⟨4, q, r, 0⟩, ⟨4, q, r, 0⟩]).1 = S ∧ doneN (serM S [⟨4, q, r, 0⟩, ⟨4, q, r, 0⟩]).2 = 2) := Lib.hid (swap_twice HS.out (swap_valid HV.out))
          have hbl := (Below.refl w11.heap.size w11).alloc (Nat.le_refl _) (.cells #[.int .i64 4, .int .i64 q, .int .i64 r, .int .i64 0] 42)
          have hA12 := actAt_new w11 42 4 q r 0
          have hrS12 := hrS11.below hbl
          have hb12 := hb11.trans (hbl.mono hb11.size)
          clear hrS11 hb11 hbl
          go_upto_region 9 with (fail)
          clear a0 a1 a2 a3 HA11 HV HS HWA
          obtain ⟨w12, hw12⟩ : ∃ w12, w12 = w11.alloc (.cells #[.int .i64 4, .int .i64 q, .int .i64 r, .int .i64 0] 42) := ⟨_, rfl⟩
          rw [← hw12] at hA12 hrS12 hb12 ⊢
          clear hw12
          obtain ⟨B, hBe⟩ : ∃ B, B = w11.heap.size := ⟨_, rfl⟩
          rw [← hBe] at hA12 ⊢
          clear hBe
          obtain ⟨a0, a1, a2, a3⟩ := hA12.1
          have hbl := (Below.refl w12.heap.size w12).alloc (Nat.le_refl _) (.cells #[.int .i64 4, .int .i64 q, .int .i64 r, .int .i64 0, .int .i64 4, .int .i64 q, .int .i64 r, .int .i64 0] 42)
          have hrS13 := hrS12.below hbl
          have hra13 := rowA_lit2 w12 42 HWS.out HWS.out
          have hb13 := hb12.trans (hbl.mono hb12.size)
          have HZN : Hid (some (⟨gS, 0, none⟩ : Addr) = none → cS = 0) := Lib.hid (fun h => by cases h)
          clear hrS12 hb12 hbl
          go_wp2_with fail
          refine (runSerial_impl _ _ cS S _ _ 2 [⟨4, q, r, 0⟩, ⟨4, q, r, 0⟩] _ hrS13 HZN.out hra13).mono ?_; rintro e w14 ⟨v14, u14, rfl, hSF, hb14'⟩
          rw [HSW.out.1] at hSF
          obtain ⟨L2, hL2⟩ : ∃ L2, L2 = (serM S [⟨4, q, r, 0⟩, ⟨4, q, r, 0⟩]).2 := ⟨_, rfl⟩
          have HD2 : Hid (((doneN L2 : Nat) : Int) = 2) := Lib.hid (by rw [hL2, HSW.out.2]; rfl)
          rw [← hL2] at hSF
          obtain ⟨av, cv, rfl, hrv, -⟩ := hSF.row (by omega)
          obtain ⟨au, cu, rfl, hru, -, -⟩ := rowFs_of_own hSF.effs
          have hrS14 := hrS13.below hb14'
          have hb14 := hb13.trans (hb14'.mono hb13.size)
          clear hL2 hSF hrS13 hra13 hb13 hb14' a0 a1 a2 a3 hA12
          go_wp2_with fail
          refine (sameStore_same _ _ _ cv cS S _ hrv hrS14).mono ?_; rintro e w15 ⟨rfl, hd15⟩
          have hb15' := hd15.below w14.heap.size
          have hru15 := hru.below hb15'
          have hb15 := hb14.trans (hb15'.mono hb14.size)
          clear hru hb14 hb15' hd15 hrv hrS14
          go_wp2_with fail
          refine (doneCount_impl _ _ cu L2 _ hru15).mono ?_; rintro e w16 ⟨rfl, hb16'⟩
          rw [HD2.out]
          go_wp2
          go_ret
          exact ⟨rfl, hb15.trans (hb16'.mono hb15.size)⟩
  · have hs' : (1048576 : Int) < (len : Int) := by omega
    clear h hlc
    go_enter Try.func6, Try.ntmps6
    go_wp2
    go_ret
    exact ⟨rfl, Below.refl _ _⟩
end Go.Proofs.Ytpnahncmhldgdaa
