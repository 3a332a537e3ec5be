/- The walk of the law FnActionWrites. -/
import Derived.Test.YtakbkomgmajnfaaActLawH
namespace Go.Proofs.Ytakbkomgmajnfaa
open Go.RowKit
set_option linter.unusedVariables false
/-- The store of two entries that the laws use. -/
def twoE : List Ent := [(1, 40), (3, 900)]
theorem twoE_store : storeB twoE = true := by decide
theorem rowE_two (w : World) : RowE (w.alloc (.cells #[.int .i64 1, .int .i64 40, .int .i64 3, .int .i64 900] 32)) (some ⟨w.heap.size, 0, none⟩) 2 twoE := by
  have h := own_lit (w := w) (B := 0) 32 2 #[.int .i64 1, .int .i64 40, .int .i64 3, .int .i64 900] 2 (Nat.zero_le _) (by unfold maxLen; omega) rfl
  exact rowE_owned h.1 rfl (by decide) (fun e he => by simp [twoE] at he; rcases he with rfl | rfl <;> exact ⟨by decide, by decide⟩)
theorem below_cl {B G o : Nat} {w w' : World} {v : Value} (hb : Below B w w') (hG : G < B) (hc : w.cell? ⟨G, o, none⟩ = some v) : w'.cell? ⟨G, o, none⟩ = some v := (hb.cell (p := ⟨G, o, none⟩) hG).trans hc
theorem actAt_below {w w' : World} {G : Nat} {p q r t : Int} (h : ActAt w G p q r t) (hb : Below w.heap.size w w') : ActAt w' G p q r t := h.grown (Below.grownBy hb none) (by simp)
set_option maxRecDepth 100000 in
set_option maxHeartbeats 4000000 in
theorem lawActionWrites (a : Option Addr) (len cap : Nat) (z : List Int) (w : World) (h : RowB w a len z) (hc : a = none → cap = 0) (hlc : len ≤ cap) :
    Calls Try.prog 4 #[.slice a len cap] w (LawTrue w) := by
  by_cases hs : len ≤ 1048576
  · have hs' : ¬ (1048576 : Int) < (len : Int) := by omega
    go_enter Try.func4, Try.ntmps4
    go_wp2_with fail
    refine (drawActionWrites_any a len cap z w h hlc).mono ?_; rintro e w1 ⟨p, q, r, t, rfl, hb1⟩
    clear h hs hs'
    go_wp2_with fail
    refine (actionWrites_impl p q r t _).mono ?_; rintro e w2 ⟨v2, rfl, ho2, hw2, hb2'⟩
    have hA2 := actAt_below (actAt_new w1 24 p q r t) hb2'
    obtain ⟨A, hAe⟩ : ∃ A, A = w1.heap.size := ⟨_, rfl⟩
    rw [← hAe] at hA2 ⊢
    have hb2 : Below w.heap.size w w2 := (hb1.alloc hb1.size _).trans (hb2'.mono (by have := hb1.size; simp; omega))
    clear hb1 hb2' hAe
    have hwl := writesM_len ⟨p, q, r, t⟩
    have hw2' := hw2
    obtain ⟨g2, c2, rfl, hr2⟩ := rowI_of_owns ho2 (by unfold maxLen; omega) hw2'
    have HA2 := Lib.hid hA2
    obtain ⟨⟨q0, q1, q2, q3⟩, -⟩ := hA2
    clear ho2 hw2'
    go_wp2_with fail
    refine (actionWrites_spec p q r t _).mono ?_; rintro e w3 ⟨v3, rfl, ho3, hw3, hb3'⟩
    have hA3 := actAt_below HA2.out hb3'
    have hr3 := hr2.below hb3'
    have hb3 := hb2.trans (hb3'.mono hb2.size)
    obtain ⟨g3, c3, rfl, -, -, hs3⟩ := rowI_of_own ho3 (by omega) hw3
    clear hb2 hb3' hr2 ho3 q0 q1 q2 q3 HA2
    obtain ⟨L, hL⟩ : ∃ L, L = writesM ⟨p, q, r, t⟩ := ⟨_, rfl⟩
    have HL := Lib.hid hL
    rw [← hL] at hr3 hs3 hwl ⊢
    clear hL hw2 hw3
    go_wp2_with fail
    refine (sameInts_same _ _ _ c2 c3 L _ hr3 hs3).mono ?_; rintro e w4 ⟨rfl, hb4'⟩
    have hA4 := actAt_below hA3 hb4'
    have hr4 := hr3.below hb4'
    have hb4 := hb3.trans (hb4'.mono hb3.size)
    have HA4 := Lib.hid hA4
    obtain ⟨⟨q0, q1, q2, q3⟩, -⟩ := hA4
    clear hb3 hb4' hr3 hs3 hA3
    go_wp2_with fail
    refine (actionValid_spec p q r t _).mono ?_; rintro e w5 ⟨rfl, hb5'⟩
    have hA5 := actAt_below HA4.out hb5'
    have hr5 := hr4.below hb5'
    have hb5 := hb4.trans (hb5'.mono hb4.size)
    clear hb4 hb5' hr4 q0 q1 q2 q3 HA4
    cases hv : actB ⟨p, q, r, t⟩ with
    | false =>
      have hL0 : L = [] := by rw [HL.out, writesM, hv]; rfl
      subst hL0
      clear hv HL
      go_wp2_with fail
      refine (alive_any _).mono ?_; rintro e w6 ⟨rfl, hb6⟩
      go_wp2
      go_ret
      exact ⟨rfl, hb5.trans (hb6.mono hb5.size)⟩
    | true =>
      have HV := Lib.hid hv
      have hbl := (Below.refl w5.heap.size w5).alloc (Nat.le_refl _) (.cells #[.int .i64 1, .int .i64 40, .int .i64 3, .int .i64 900] 32)
      have ht6 := rowE_two w5
      have hA6 := actAt_below hA5 hbl
      have hr6 := hr5.below hbl
      have hb6 := hb5.trans (hbl.mono hb5.size)
      have HA6 := Lib.hid hA6
      obtain ⟨⟨q0, q1, q2, q3⟩, -⟩ := hA6
      clear hv hbl hA5 hr5 hb5
      go_wp2_with fail
      obtain ⟨w6, hw6⟩ : ∃ w6, w6 = w5.alloc (.cells #[.int .i64 1, .int .i64 40, .int .i64 3, .int .i64 900] 32) := ⟨_, rfl⟩
      rw [← hw6] at ht6 hr6 hb6 ⊢
      clear hw6 q0 q1 q2 q3 HA6
      refine (runAction_impl _ 2 2 twoE p q r t _ ht6).mono ?_; rintro e w7 ⟨v7, rfl, hF7, hb7'⟩
      have hr7 := hr6.below hb7'
      have hb7 := hb6.trans (hb7'.mono hb6.size)
      obtain ⟨a7, c7, b7, d7, rfl, hf7, -⟩ := hF7.rows (Nat.le_trans (runM_rlen _ _) (by omega)) (Nat.le_trans (runM_wlen _ _) (by omega))
      have hkeys := run_keys twoE ⟨p, q, r, t⟩
      have hwln := runM_wlen twoE ⟨p, q, r, t⟩
      obtain ⟨X, hX⟩ : ∃ X, X = runM twoE ⟨p, q, r, t⟩ := ⟨_, rfl⟩
      rw [← hX] at hf7 hkeys hwln ⊢
      rw [← HL.out] at hkeys
      have HK := Lib.hid hkeys
      clear hX hF7 hb7' hb6 hr6 ht6 hkeys
      have hwt := writes_two HV.out
      rw [← HL.out] at hwt
      have HWT := Lib.hid hwt
      clear hwt
      have hE := eAt_new w7 39 X.done (.slice a7 X.rds.length c7) (.slice b7 X.wrs.length d7)
      have hbl := (Below.refl w7.heap.size w7).alloc (Nat.le_refl _) (.cells #[.bool X.done, .slice a7 X.rds.length c7, .slice b7 X.wrs.length d7] 39)
      have hr8 := hr7.below hbl
      have hf8 := hf7.2.below hbl
      have hb8 := hb7.trans (hbl.mono hb7.size)
      clear hbl hr7 hf7 hb7
      go_wp2
      obtain ⟨w8, hw8⟩ : ∃ w8, w8 = w7.alloc (.cells #[.bool X.done, .slice a7 X.rds.length c7, .slice b7 X.wrs.length d7] 39) := ⟨_, rfl⟩
      rw [← hw8] at hE hr8 hf8 hb8 ⊢
      clear hw8
      obtain ⟨E, hEe⟩ : ∃ E, E = w7.heap.size := ⟨_, rfl⟩
      rw [← hEe] at hE ⊢
      clear hEe
      obtain ⟨⟨e0, e1, e2⟩, -⟩ := hE
      have HR8 := Lib.hid hr8
      have HF8 := Lib.hid hf8
      obtain ⟨W, hW⟩ : ∃ W, W = X.wrs := ⟨_, rfl⟩
      rw [← hW] at HF8 HK hwln e2 ⊢
      have hNW : ∃ n, n = W.length := ⟨_, rfl⟩
      obtain ⟨n, hn⟩ := hNW
      have HN := Lib.hid hn
      rw [← hn] at HF8 hwln e2
      clear hn hW hr8 hf8
      go_loop [6] (fun i => ∃ k : Nat, k ≤ n ∧ i = .int .i64 k) (fun i => n - (intOf i).toNat)
      case atStart => exact ⟨0, Nat.zero_le _, rfl⟩
      case round =>
        obtain ⟨k, hk, rfl⟩ := hrel
        by_cases hlt : k < n
        · obtain ⟨b, off, rfl, hcc⟩ := HF8.out.2.2.1 (by omega)
          obtain ⟨h1, h2⟩ := hcc k hlt
          have HX : Hid (decide ((W.getD k (0, 0)).1 ∈ L) = true) := Lib.hid (by
            rw [decide_eq_true_eq]; exact HK.out _ (by rw [List.getD_eq_getElem?_getD, List.getElem?_eq_getElem (by rw [← HN.out]; exact hlt)]; exact List.getElem_mem _))
          obtain ⟨x, hx⟩ : ∃ x, x = (W.getD k (0, 0)).1 := ⟨_, rfl⟩
          rw [← hx] at h1 HX
          clear hx hcc h2
          go_wp2_with fail
          refine (hasKey_any _ _ c2 L x _ HR8.out).mono ?_; rintro e w' ⟨rfl, rfl⟩
          rw [HX.out]
          go_wp2
          go_round
          case rel => exact ⟨k + 1, by omega, by go_num⟩
          case measure => simp [intOf]; omega
        · obtain rfl : k = n := by omega
          clear hlt HF8 HK
          rcases L with _ | ⟨x, _ | ⟨y, _ | ⟨u, L⟩⟩⟩
          · exact absurd HWT.out.1 (by simp)
          · obtain ⟨b, off, rfl, hcc⟩ := HR8.out.2.2.1 (by simp)
            have h0 := hcc 0 (by simp)
            clear hcc HL HWT
            go_wp2
            go_quiet (fail)
            go_wp2
            go_ret
            exact ⟨rfl, below_drewN' hb8 _⟩
          · obtain ⟨b, off, rfl, hcc⟩ := HR8.out.2.2.1 (by simp)
            have h0 := hcc 0 (by simp)
            have h1 := hcc 1 (by simp)
            have hxy : x < y := by
              rcases HWT.out.2 with h | h
              · simp at h
              · simpa using h
            have hxb : decide (x < y) = true := by simpa using hxy
            simp only [List.getD_cons_zero, List.getD_cons_succ, Nat.add_zero] at h0 h1
            clear hcc HL HWT
            go_wp2
            go_quiet (fail)
            go_wp2
            go_ret
            exact ⟨rfl, below_drewN' hb8 _⟩
          · exact absurd hwl (by simp)
  · have hs' : (1048576 : Int) < (len : Int) := by omega
    clear h hlc
    go_enter Try.func4, Try.ntmps4
    go_wp2
    go_ret
    exact ⟨rfl, Below.refl _ _⟩
end Go.Proofs.Ytakbkomgmajnfaa
