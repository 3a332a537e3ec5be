/- The contracts of the model's versions: VersionsValid, l9Read, ReadVersion, l9Drop, DropVersions (its drawn region: gen9/specver.py). -/
import Derived.Test.YtncedcliklpapaaVerMath
import Derived.Test.YtncedcliklpapaaSpecS
import Derived.Test.YtncedcliklpapaaConvV
import Derived.Test.YtncedcliklpapaaSpecAct
import Derived.Deep.Cut
import Derived.BigQuiet
namespace Go.Proofs.Ytncedcliklpapaa
open Go.RowKit
set_option linter.unusedVariables false
set_option linter.unusedSimpArgs false
set_option maxRecDepth 100000 in
set_option maxHeartbeats 8000000 in
theorem versionsValid_spec (a : Option Addr) (n cap : Nat) (L : List Ver) (w : World) (h : RowV w a n L) :
    Calls Try.prog 15 #[.slice a n cap] w (BoolS (versB L) w) := by
  obtain ⟨hl, hm, hc, hwf⟩ := h
  unfold maxLen at hm
  have HL := Lib.hid hl
  clear hl
  by_cases h0 : 0 < n
  · obtain ⟨b, o, rfl, hcc⟩ := hc h0; clear hc; have hc := hcc; clear hcc
    have hbB : b < w.heap.size := World.block_lt_of_cell? w ⟨b, o + 0 * 3, none⟩ (hc 0 h0).1
    have HC := Lib.hid hc
    have HWF := Lib.hid hwf
    clear hc hwf
    go_enter Try.func15, Try.ntmps15
    go_wp2
    go_loopw [3] (fun i wr => ∃ k : Nat, k ≤ n ∧ i = .int .i64 k ∧ VersTo L k ∧ Below w.heap.size w wr) (fun i _ => n - (intOf i).toNat)
    case atStart => exact ⟨0, Nat.zero_le _, rfl, VersTo.zero L, Below.refl _ _⟩
    case round =>
      obtain ⟨k, hk, rfl, hto, hb⟩ := hrel
      by_cases hlt : k < n
      · obtain ⟨c0, c1, c2⟩ := HC.out k hlt
        have d0 := (hb.cell (p := ⟨b, o + k * 3, none⟩) hbB).trans c0
        have d1 := (hb.cell (p := ⟨b, o + k * 3 + 1, none⟩) hbB).trans c1
        have d2 := (hb.cell (p := ⟨b, o + k * 3 + 2, none⟩) hbB).trans c2
        have HAT := Lib.hid (fun h => versB_bad L k (by rw [HL.out]; exact hlt) h)
        have HIF := Lib.hid (verAt_iff L k)
        have HTO := Lib.hid (fun h => hto.next (k := k) h)
        have hwk := HWF.out (L.getD k noV) (getD_memV L k (by rw [HL.out]; exact hlt))
        obtain ⟨x, hx⟩ : ∃ x, x = L.getD k noV := ⟨_, rfl⟩
        rw [← hx] at d0 d1 d2 HIF hwk
        obtain ⟨p, q, r⟩ := x
        simp only at d0 d1 d2 hwk
        have HX := Lib.hid hx
        obtain ⟨w5, hw5⟩ : ∃ w5, w5 = wr.alloc (.cells #[.int .i64 p, .int .i64 q, .int .i64 r] 28) := ⟨_, rfl⟩
        obtain ⟨G, hG⟩ : ∃ G, G = wr.heap.size := ⟨_, rfl⟩
        have g0 : w5.cell? ⟨G, 0, none⟩ = some (.int .i64 p) := by rw [hw5, hG]; simp [go_sem]
        have g1 : w5.cell? ⟨G, 1, none⟩ = some (.int .i64 q) := by rw [hw5, hG]; simp [go_sem]
        have g2 : w5.cell? ⟨G, 2, none⟩ = some (.int .i64 r) := by rw [hw5, hG]; simp [go_sem]
        have hb5' : Below wr.heap.size wr w5 := by rw [hw5]; exact (Below.refl _ _).alloc (Nat.le_refl _) _
        have hb5 := hb.trans (hb5'.mono hb.size)
        have HB5 := Lib.hid hb5
        clear c0 c1 c2 hx hto hb hb5'
        go_upto_region 5 with (fail)
        rw [← hw5]
        rw [← hG]
        clear hw5 hG d0 d1 d2
        have HVB := Lib.hid (verB_iff ⟨p, q, r⟩)
        cases e1 : inB p 0 31 with
        | false =>
          have HF := Lib.hid (HAT.out (by rw [Bool.eq_false_iff]; intro ht; have := inB_false e1; have := (HVB.out.1 (HIF.out.1 ht).1).1; (try simp only at this); omega))
          have E1 := Lib.hid e1
          clear e1
          go_wp2_with fail
          refine (l1In_spec_hid _ _ _ _).mono ?_; rintro e w' ⟨rfl, rfl⟩
          rw [E1.out]
          go_wp2
          go_ret
          exact ⟨by rw [HF.out]; rfl, HB5.out⟩
        | true =>
          have E1 := Lib.hid e1
          clear e1
          go_wp2_with fail
          refine (l1In_spec_hid _ _ _ _).mono ?_; rintro e w' ⟨rfl, rfl⟩
          rw [E1.out]
          cases e2 : inB q 0 9 with
          | false =>
            have HF := Lib.hid (HAT.out (by rw [Bool.eq_false_iff]; intro ht; have := inB_false e2; have := (HVB.out.1 (HIF.out.1 ht).1).2.1; (try simp only at this); omega))
            have E2 := Lib.hid e2
            clear e2
            go_wp2_with fail
            refine (l1In_spec_hid _ _ _ _).mono ?_; rintro e w' ⟨rfl, rfl⟩
            rw [E2.out]
            go_wp2
            go_ret
            exact ⟨by rw [HF.out]; rfl, HB5.out⟩
          | true =>
            have E2 := Lib.hid e2
            clear e2
            go_wp2_with fail
            refine (l1In_spec_hid _ _ _ _).mono ?_; rintro e w' ⟨rfl, rfl⟩
            rw [E2.out]
            cases e3 : inB r 0 1000000 with
            | false =>
              have HF := Lib.hid (HAT.out (by rw [Bool.eq_false_iff]; intro ht; have := inB_false e3; have := (HVB.out.1 (HIF.out.1 ht).1).2.2; (try simp only at this); omega))
              have E3 := Lib.hid e3
              clear e3
              go_wp2_with fail
              refine (l1In_spec_hid _ _ _ _).mono ?_; rintro e w' ⟨rfl, rfl⟩
              rw [E3.out]
              go_wp2
              go_ret
              exact ⟨by rw [HF.out]; rfl, HB5.out⟩
            | true =>
              have E3 := Lib.hid e3
              clear e3
              go_wp2_with fail
              refine (l1In_spec_hid _ _ _ _).mono ?_; rintro e w' ⟨rfl, rfl⟩
              rw [E3.out]
              have HOK : Hid (verB ⟨p, q, r⟩ = true) := Lib.hid (by unfold verB; rw [E1.out, E2.out, E3.out]; rfl)
              go_wp2
              by_cases hk0 : 0 < k
              · have hz : decide (0 < k) = true := decide_eq_true hk0
                obtain ⟨c0, c1, c2⟩ := HC.out (k - 1) (by omega)
                have d0 := (HB5.out.cell (p := ⟨b, o + (k - 1) * 3, none⟩) hbB).trans c0
                have d1 := (HB5.out.cell (p := ⟨b, o + (k - 1) * 3 + 1, none⟩) hbB).trans c1
                obtain ⟨y, hy⟩ : ∃ y, y = L.getD (k - 1) noV := ⟨_, rfl⟩
                rw [← hy] at d0 d1 HIF
                obtain ⟨p2, q2, r2⟩ := y
                simp only at d0 d1
                clear c0 c1 c2 hy
                obtain ⟨ua, hua⟩ : ∃ u, decide (p < p2) = u := ⟨_, rfl⟩
                obtain ⟨ub, hub⟩ : ∃ u, (p == p2) = u := ⟨_, rfl⟩
                obtain ⟨uc, huc⟩ : ∃ u, decide (q ≤ q2) = u := ⟨_, rfl⟩
                have HUA := Lib.hid hua
                have HUB := Lib.hid hub
                have HUC := Lib.hid huc
                have hk1 : IntKind.i64.wrap ((k : Int) - 1) = (k : Int) - 1 := IntWalk.i64_in _ (by omega)
                have hk2 : (1 : Int) ≤ (k : Int) := by omega
                have hk3 : (k : Int) - 1 < (n : Int) := by omega
                have hk4 : ((k : Int) - 1).toNat = k - 1 := by omega
                clear hk0
                have hz1 : decide ((0 : Int) < (k : Int)) = true := by simp; omega
                have hend : (bif ua then true else (bif ub then uc else false)) = false → Hid (VersTo L (k + 1)) := by
                  intro he
                  refine Lib.hid (HTO.out (HIF.out.2 ⟨HOK.out, .inr ?_⟩))
                  have h1 := HUA.out; have h2 := HUB.out; have h3 := HUC.out
                  cases ua
                  · cases ub
                    · unfold vLt; simp at h1 h2 ⊢; omega
                    · cases uc
                      · unfold vLt; simp at h1 h2 h3 ⊢; omega
                      · simp at he
                  · simp at he
                have hbad : (bif ua then true else (bif ub then uc else false)) = true → Hid (versB L = false) := by
                  intro he
                  refine Lib.hid (HAT.out ?_)
                  rw [Bool.eq_false_iff]
                  intro ht
                  have hlt2 := (HIF.out.1 ht).2
                  have h1 := HUA.out; have h2 := HUB.out; have h3 := HUC.out
                  unfold vLt at hlt2
                  cases ua
                  · cases ub
                    · simp at he
                    · cases uc
                      · simp at he
                      · simp at h1 h2 h3 hlt2; omega
                  · simp at h1 hlt2; omega
                clear HAT HIF HTO HVB HOK E1 E2 E3
                cases ua with
                | true =>
                  have HF := hbad rfl
                  clear hend hbad
                  go_quiet (fail)
                  go_wp2
                  go_ret
                  exact ⟨by rw [HF.out]; rfl, below_drewN' HB5.out _⟩
                | false =>
                  cases ub with
                  | false =>
                    have HF := hend rfl
                    clear hend hbad
                    go_quiet (fail)
                    go_wp2
                    go_roundw
                    case rel => exact ⟨k + 1, by omega, by go_num, HF.out, below_drewN' HB5.out _⟩
                    case measure => simp [intOf]; omega
                  | true =>
                    cases uc with
                    | false =>
                      have HF := hend rfl
                      clear hend hbad
                      go_quiet (fail)
                      go_wp2
                      go_roundw
                      case rel => exact ⟨k + 1, by omega, by go_num, HF.out, below_drewN' HB5.out _⟩
                      case measure => simp [intOf]; omega
                    | true =>
                      have HF := hbad rfl
                      clear hend hbad
                      go_quiet (fail)
                      go_wp2
                      go_ret
                      exact ⟨by rw [HF.out]; rfl, below_drewN' HB5.out _⟩
              · have hz : decide (0 < k) = false := decide_eq_false hk0
                have hz1 : decide ((0 : Int) < (k : Int)) = false := by simp; omega
                have HF : Hid (VersTo L (k + 1)) := Lib.hid (HTO.out (HIF.out.2 ⟨HOK.out, .inl (by omega)⟩))
                clear HAT HIF HTO HVB HOK E1 E2 E3
                go_quiet (fail)
                go_wp2
                go_roundw
                case rel => exact ⟨k + 1, by omega, by go_num, HF.out, below_drewN' HB5.out _⟩
                case measure => simp [intOf]; omega
      · obtain rfl : k = n := by omega
        have HF : Hid (versB L = true) := Lib.hid ((versB_iff L).2 (by rw [HL.out]; exact hto))
        clear hto
        go_wp2
        go_ret
        exact ⟨by rw [HF.out]; rfl, hb⟩
  · obtain rfl : n = 0 := by omega
    obtain rfl : L = [] := List.eq_nil_of_length_eq_zero HL.out
    clear hc hwf
    go_enter Try.func15, Try.ntmps15
    go_wp2
    go_loop [3] (fun i => i = .int .i64 0) (fun _ => 0)
    case atStart => rfl
    case round =>
      subst hrel
      go_wp2
      go_ret
      exact ⟨rfl, Below.refl _ _⟩
end Go.Proofs.Ytncedcliklpapaa
