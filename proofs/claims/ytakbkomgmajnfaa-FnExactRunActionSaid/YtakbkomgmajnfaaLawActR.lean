/- The walk of the law FnActionReads. -/
import Derived.Test.YtakbkomgmajnfaaLawActW
import Derived.Test.YtakbkomgmajnfaaTwo
import Derived.BigQuiet
import Derived.Deep.RegionHeld3
namespace Go.Proofs.Ytakbkomgmajnfaa
open Go.RowKit
set_option linter.unusedVariables false
theorem hasKey_yes (a : Option Addr) (n cap : Nat) (l : List Int) (x : Int) (w : World) (h : RowI w a n l) (hx : x ∈ l) :
    Calls Try.prog 19 #[.slice a n cap, .int .i64 x] w fun e w' => e = .returned (.bool true) ∧ w' = w :=
  (hasKey_any a n cap l x w h).mono fun e w' ⟨h1, h2⟩ => ⟨by rw [h1, decide_eq_true hx], h2.symm⟩
theorem hasKey_no (a : Option Addr) (n cap : Nat) (l : List Int) (x : Int) (w : World) (h : RowI w a n l) (hx : x ∉ l) :
    Calls Try.prog 19 #[.slice a n cap, .int .i64 x] w fun e w' => e = .returned (.bool false) ∧ w' = w :=
  (hasKey_any a n cap l x w h).mono fun e w' ⟨h1, h2⟩ => ⟨by rw [h1, decide_eq_false hx], h2.symm⟩
theorem put_two (k : Nat) (hk : k < 6) : (putM twoE k 55).2 = true ∧ storeB (putM twoE k 55).1 = true ∧ (putM twoE k 55).1.length ≤ 3 ∧ ∀ key : Int, atM (putM twoE k 55).1 key = if key = k then 55 else atM twoE key := by
  have h1 : putM twoE k 55 = (putRaw k 55 twoE, true) := by
    unfold putM
    rw [twoE_store, inB_yes (by omega) (by omega), inB_yes (by omega) (by omega)]; rfl
  rw [h1]
  refine ⟨rfl, (storeB_ok _).2 (ok_put ((storeB_ok _).1 twoE_store) (by omega) (by omega) (by omega) (by omega)), ?_, fun key => atM_put _ _ _ _⟩
  rcases (by omega : k = 0 ∨ k = 1 ∨ k = 2 ∨ k = 3 ∨ k = 4 ∨ k = 5) with rfl | rfl | rfl | rfl | rfl | rfl <;> decide
set_option maxRecDepth 100000 in
set_option maxHeartbeats 4000000 in
theorem lawActionReads (a : Option Addr) (len cap : Nat) (z : List Int) (w : World) (h : RowB w a len z) (hc : a = none → cap = 0) (hlc : len ≤ cap) :
    Calls Try.prog 3 #[.slice a len cap] w (LawTrue w) := by
  by_cases hs : len ≤ 1048576
  · have hs' : ¬ (1048576 : Int) < (len : Int) := by omega
    go_enter Try.func3, Try.ntmps3
    go_wp2_with fail
    refine (drawActionReads_any a len cap z w h hlc).mono ?_; rintro e w1 ⟨p, q, r, t, rfl, hb1⟩
    clear h hs hs'
    go_wp2_with fail
    refine (actionReads_impl p q r t _).mono ?_; rintro e w2 ⟨v2, rfl, ho2, hw2, hb2'⟩
    have hA2 := actAt_below (actAt_new w1 24 p q r t) hb2'
    obtain ⟨A, hAe⟩ : ∃ A, A = w1.heap.size := ⟨_, rfl⟩
    rw [← hAe] at hA2 ⊢
    have hb2 : Below w.heap.size w w2 := (hb1.alloc hb1.size _).trans (hb2'.mono (by have := hb1.size; simp; omega))
    clear hb1 hb2' hAe
    have hwl := readsM_len ⟨p, q, r, t⟩
    have hw2' := hw2
    obtain ⟨g2, c2, rfl, hr2⟩ := rowI_of_owns ho2 (by unfold maxLen; omega) hw2'
    have HA2 := Lib.hid hA2
    obtain ⟨⟨q0, q1, q2, q3⟩, -⟩ := hA2
    clear ho2 hw2'
    go_wp2_with fail
    refine (actionReads_spec p q r t _).mono ?_; rintro e w3 ⟨v3, rfl, ho3, hw3, hb3'⟩
    have hA3 := actAt_below HA2.out hb3'
    have hr3 := hr2.below hb3'
    have hb3 := hb2.trans (hb3'.mono hb2.size)
    obtain ⟨g3, c3, rfl, -, -, hs3⟩ := rowI_of_own ho3 (by omega) hw3
    clear hb2 hb3' hr2 ho3 q0 q1 q2 q3 HA2
    obtain ⟨L, hL⟩ : ∃ L, L = readsM ⟨p, q, r, t⟩ := ⟨_, rfl⟩
    have HL := Lib.hid hL
    rw [← hL] at hr3 hs3 hwl ⊢
    clear hL hw2 hw3
    go_wp2_with fail
    refine (sameInts_same _ _ _ c2 c3 L _ hr3 hs3).mono ?_; rintro e w4 ⟨rfl, hb4'⟩
    have hA4 := actAt_below hA3 hb4'
    have hr4 := hr3.below hb4'
    have hb4 := hb3.trans (hb4'.mono hb3.size)
    have HA4 := Lib.hid hA4
    obtain ⟨⟨q0, q1, q2, q3⟩, -⟩ := hA4
    clear hb3 hb4' hr3 hs3 hA3
    go_wp2_with fail
    refine (actionValid_spec p q r t _).mono ?_; rintro e w5 ⟨rfl, hb5'⟩
    have hA5 := actAt_below HA4.out hb5'
    have hr5 := hr4.below hb5'
    have hb5 := hb4.trans (hb5'.mono hb4.size)
    clear hb4 hb5' hr4 q0 q1 q2 q3 HA4
    cases hv : actB ⟨p, q, r, t⟩ with
    | false =>
      have hL0 : L = [] := by rw [HL.out, readsM, hv]; rfl
      subst hL0
      clear hv HL
      go_wp2_with fail
      refine (alive_any _).mono ?_; rintro e w6 ⟨rfl, hb6⟩
      go_wp2
      go_ret
      exact ⟨rfl, hb5.trans (hb6.mono hb5.size)⟩
    | true =>
      have HV := Lib.hid hv
      have hbl := (Below.refl w5.heap.size w5).alloc (Nat.le_refl _) (.cells #[.int .i64 1, .int .i64 40, .int .i64 3, .int .i64 900] 32)
      have ht6 := rowE_two w5
      have hA6 := actAt_below hA5 hbl
      have hr6 := hr5.below hbl
      have hb6 := hb5.trans (hbl.mono hb5.size)
      clear hv hbl hA5 hr5 hb5
      go_wp2
      obtain ⟨w6, hw6⟩ : ∃ w6, w6 = w5.alloc (.cells #[.int .i64 1, .int .i64 40, .int .i64 3, .int .i64 900] 32) := ⟨_, rfl⟩
      rw [← hw6] at ht6 hr6 hb6 hA6 ⊢
      clear hw6
      obtain ⟨gs, hgs⟩ : ∃ gs, gs = w5.heap.size := ⟨_, rfl⟩
      rw [← hgs] at ht6 ⊢
      clear hgs
      go_loopw [6] (fun i wr => ∃ k : Nat, k ≤ 6 ∧ i = .int .i64 k ∧ Below w6.heap.size w6 wr) (fun i _ => 6 - (intOf i).toNat)
      case atStart => exact ⟨0, Nat.zero_le _, rfl, Below.refl _ _⟩
      case round =>
        obtain ⟨k, hk, rfl, hbr⟩ := hrel
        have hsr := ht6.below hbr
        have hlr := hr6.below hbr
        have hAr := actAt_below hA6 hbr
        have hbw := hb6.trans (hbr.mono hb6.size)
        by_cases hlt : k < 6
        · obtain ⟨p1, p2, p3, p4⟩ := put_two k hlt
          go_wp2_with fail
          refine (putValue_impl _ 2 2 twoE k 55 _ hsr).mono ?_; rintro e w7 ⟨v7, rfl, ho7, hw7, hb7⟩
          rw [p1]
          have hb67 := hbr.trans (hb7.mono hbr.size)
          have hs7 := hsr.below hb7
          have hl7 := hlr.below hb7
          have hA7 := actAt_below hAr hb7
          obtain ⟨gy, cy, rfl, hy7, -⟩ := rowE_of_owns ho7 (by omega) hw7
          have HOTH := Lib.hid (fun hno => run_other (S := twoE) (T := (putM twoE k 55).1) (x := ⟨p, q, r, t⟩) twoE_store p2 HV.out hno)
          obtain ⟨Y, hY⟩ : ∃ Y, Y = (putM twoE k 55).1 := ⟨_, rfl⟩
          rw [← hY] at hy7 p3 p4 HOTH ⊢
          have HP4 := Lib.hid p4
          clear hY ho7 hw7 p1 p2 p4 hsr hlr hAr hb7
          by_cases hin : (k : Int) ∈ L
          · clear HOTH
            go_wp2_with fail
            go_quiet ((go_at_call 19; exact Calls.quiet_of_same (hasKey_yes _ _ _ L _ _ hl7 hin)))
            go_wp2
            go_roundw
            case rel => exact ⟨k + 1, by omega, by go_num, below_drewN' hb67 _⟩
            case measure => simp [intOf]; omega
          · have hXY : runM Y ⟨p, q, r, t⟩ = runM twoE ⟨p, q, r, t⟩ := HOTH.out (fun key hkey => by rw [HP4.out key, if_neg]; intro e; rw [← HL.out, e] at hkey; exact hin hkey)
            have HXY := Lib.hid hXY
            have HRL := Lib.hid (Nat.le_trans (runM_rlen twoE ⟨p, q, r, t⟩) (show 2 ≤ 4000000 by omega))
            have HWL := Lib.hid (Nat.le_trans (runM_wlen twoE ⟨p, q, r, t⟩) (show 32 ≤ 4000000 by omega))
            obtain ⟨X, hX⟩ : ∃ X, X = runM twoE ⟨p, q, r, t⟩ := ⟨_, rfl⟩
            have HX := Lib.hid hX
            rw [← hX] at HXY HRL HWL
            have HIN := Lib.hid hin
            obtain ⟨⟨c0, c1, c2', c3'⟩, -⟩ := hA7
            have hAl : A < w7.heap.size := World.block_lt_of_cell? w7 ⟨A, 0, none⟩ c0
            clear hX hXY HOTH HP4 hin p3
            have hfN : True := trivial
            have HBN : True := trivial
            go_wp2_with fail
            go_region_held3 (fun w' => w'.cell? ⟨A, 0, none⟩ = some (.int .i64 p) ∧ w'.cell? ⟨A, 1, none⟩ = some (.int .i64 q) ∧ w'.cell? ⟨A, 2, none⟩ = some (.int .i64 r) ∧ w'.cell? ⟨A, 3, none⟩ = some (.int .i64 t)) (first | exact ⟨c0, c1, c2', c3'⟩ | exact ⟨d0, d1, d2, d3⟩ | exact ⟨f0, f1, f2, f3⟩ | go_keep)
              (first | (go_at_call 19; refine (hasKey_no _ _ _ L _ _ (by exact hl7) HIN.out).mono ?_; rintro e w' ⟨rfl, rfl⟩) | (go_at_call 21; have hfP := hfN; have hbP := HBN; refine (runAction_impl _ _ _ _ p q r t _ (by first | exact hs8 | exact hy7)).mono ?_; rintro e w8 ⟨v8, rfl, hF8, hb8'⟩; have hF9 := hF8; (first | rw [HXY.out] at hF9 | rw [← HX.out] at hF9); obtain ⟨a8, ca8, b8, cb8, rfl, hfN, -⟩ := hF9.rows HRL.out HWL.out; have HBN : Below w7.heap.size w7 w8 := (by first | exact hbP.trans (hb8'.mono hbP.size) | exact hbP.trans (((Below.refl _ _).drew.trans hb8').mono hbP.size) | exact (Below.refl _ w7).drew.trans hb8' | exact hb8' | exact (Below.refl _ w7).drew.drew.trans hb8'); have hs8 := hs7.below HBN; have d0 := below_cl HBN hAl c0; have d1 := below_cl HBN hAl c1; have d2 := below_cl HBN hAl c2'; have d3 := below_cl HBN hAl c3'; first | (have hfQ := RowF.below hfP (by first | exact hb8' | exact (Below.refl _ _).drew.trans hb8')) | skip) | (go_at_call 20; refine (sameEffect_same _ _ _ _ _ _ _ _ _ _ X _ (by exact hfQ) (by exact hfN)).mono ?_; rintro e w9 ⟨rfl, hb9'⟩; have HB9 : Below w7.heap.size w7 w9 := (by first | exact HBN.trans (hb9'.mono HBN.size) | exact HBN.trans (((Below.refl _ _).drew.trans hb9').mono HBN.size)); have f0 := below_cl HB9 hAl c0; have f1 := below_cl HB9 hAl c1; have f2 := below_cl HB9 hAl c2'; have f3 := below_cl HB9 hAl c3'))
            all_goals
              have HBL := Lib.hid (hb67.trans (HB9.mono hb67.size))
              clear HB9 hb9' f0 f1 f2 f3 hfQ hfN HBN hF8 hF9 hb67 hs8
              go_wp2
              go_roundw
              case rel => exact ⟨k + 1, by omega, by go_num, HBL.out⟩
              case measure => simp [intOf]; omega
        · obtain rfl : k = 6 := by omega
          have hLb : decide ((L.length : Int) ≤ 2) = true := by simp; omega
          clear hsr hlr hAr
          go_wp2
          go_ret
          exact ⟨rfl, hbw⟩
  · have hs' : (1048576 : Int) < (len : Int) := by omega
    clear h hlc
    go_enter Try.func3, Try.ntmps3
    go_wp2
    go_ret
    exact ⟨rfl, Below.refl _ _⟩
end Go.Proofs.Ytakbkomgmajnfaa
