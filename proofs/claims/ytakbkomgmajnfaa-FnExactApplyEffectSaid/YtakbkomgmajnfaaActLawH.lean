/- Helpers of the laws FnActionReads, FnActionWrites: hasKey, the draws. -/
import Derived.Test.YtakbkomgmajnfaaDrawEff
import Derived.Test.YtakbkomgmajnfaaConvEff
import Derived.Test.YtakbkomgmajnfaaImplRun
import Derived.Test.YtakbkomgmajnfaaSpecEff2
import Derived.Test.YtakbkomgmajnfaaConv
import Derived.Test.YtakbkomgmajnfaaOne
namespace Go.Proofs.Ytakbkomgmajnfaa
open Go.RowKit
set_option linter.unusedVariables false
set_option maxHeartbeats 1000000 in
theorem hasKey_any (a : Option Addr) (n cap : Nat) (l : List Int) (x : Int) (w : World) (h : RowI w a n l) :
    Calls Try.prog 19 #[.slice a n cap, .int .i64 x] w fun e w' => e = .returned (.bool (decide (x ∈ l))) ∧ w = w' := by
  have HR := Lib.hid h
  obtain ⟨hl, hm, hc, -⟩ := h
  unfold maxLen at hm
  have HL := Lib.hid hl; clear hl
  by_cases h0 : 0 < n
  · obtain ⟨b, off, rfl, hcc⟩ := hc h0; clear hc; have hc := hcc; clear hcc
    go_enter Try.func19, Try.ntmps19
    go_wp2
    go_loop [5] (fun i => ∃ k : Nat, k ≤ n ∧ i = .int .i64 k ∧ ∀ j, j < k → l.getD j 0 ≠ x) (fun i => n - (intOf i).toNat)
    case atStart => exact ⟨0, Nat.zero_le _, rfl, fun j hj => absurd hj (Nat.not_lt_zero j)⟩
    case round =>
      obtain ⟨k, hk, rfl, hno⟩ := hrel
      have HNO := Lib.hid hno
      clear hno
      by_cases hlt : k < n
      · have hck := hc k hlt
        have HI : Hid (l.getD k 0 ∈ l) := Lib.hid (getD_mem l k (by rw [HL.out]; exact hlt))
        have HX : Hid (l.getD k 0 = l.getD k 0) := Lib.hid rfl
        obtain ⟨y, hy⟩ : ∃ y, y = l.getD k 0 := ⟨_, rfl⟩
        have HY := Lib.hid hy
        rw [← hy] at hck HI
        clear hy hc
        by_cases hyx : y = x
        · have hb : (y == x) = true := by simpa using hyx
          have HM : Hid (decide (x ∈ l) = true) := Lib.hid (by rw [← hyx]; simpa using HI.out)
          clear hyx
          go_wp2
          go_ret
          exact ⟨by rw [HM.out]; rfl, rfl⟩
        · have hb : (y == x) = false := by simpa using hyx
          have HN2 : Hid (∀ j, j < k + 1 → l.getD j 0 ≠ x) := Lib.hid (fun j hj => by
            rcases (by omega : j < k ∨ j = k) with h | rfl
            · exact HNO.out j h
            · rw [← HY.out]; exact hyx)
          clear hyx
          go_wp2
          go_round
          case rel => exact ⟨k + 1, by omega, by go_num, HN2.out⟩
          case measure => simp [intOf]; omega
      · have HM : Hid (decide (x ∈ l) = false) := Lib.hid (by
          rw [decide_eq_false_iff_not]; intro hx
          obtain ⟨j, hj, he⟩ := List.getElem_of_mem hx
          exact HNO.out j (by rw [HL.out] at hj; omega) (by rw [List.getD_eq_getElem?_getD, List.getElem?_eq_getElem hj]; exact he))
        clear hc
        go_wp2
        go_ret
        exact ⟨by rw [HM.out]; rfl, rfl⟩
  · obtain rfl : n = 0 := by omega
    obtain rfl : l = [] := List.eq_nil_of_length_eq_zero HL.out
    clear hc
    go_enter Try.func19, Try.ntmps19
    go_wp2
    go_loop [5] (fun i => i = .int .i64 0) (fun _ => 0)
    case atStart => rfl
    case round =>
      subst hrel
      go_wp2
      go_ret
      exact ⟨rfl, rfl⟩
/-- A drawn action, by value. -/
def ActD2 (w : World) (e : Ending) (w' : World) : Prop :=
  ∃ p q r t : Int, e = .returned (.agg #[.int .i64 p, .int .i64 q, .int .i64 r, .int .i64 t]) ∧ Below w.heap.size w w'
theorem drawActionWrites_any (a : Option Addr) (len cap : Nat) (z : List Int) (w : World) (h : RowB w a len z) (hlc : len ≤ cap) :
    Calls Try.prog 22 #[.slice a len cap] w (ActD2 w) := by
  have hz0 := actAt_new w 24 0 0 0 0
  have hb0 := (Below.refl w.heap.size w).alloc (Nat.le_refl _) (.cells #[.int .i64 0, .int .i64 0, .int .i64 0, .int .i64 0] 24)
  have HR := Lib.hid (rowB_below h hb0)
  have HB0 := Lib.hid hb0
  clear h hb0
  go_enter Try.func22, Try.ntmps22
  go_wp2_with fail
  refine (open_any a len cap z _ HR.out hlc).mono ?_; rintro e w1 ⟨R, rfl, hR, hr1, hb1, hRw⟩
  have hz1 := hz0.grown (Below.grownBy hb1 none) (by simp)
  have hR1 : w.heap.size < R := by simp at hR; omega
  have HB1 := Lib.hid (HB0.out.trans (hb1.mono (by simp)))
  clear hz0 hb1 hR
  go_wp2_with fail
  refine (l20Action_any R 0 9 _ hr1 (by omega) (by omega) (by omega)).mono ?_; rintro e w2 ⟨p, q, r, t, rfl, hp, hq, hrr, ht, hr2, hu2⟩
  obtain ⟨⟨z1, z2, z3, z4⟩, z5, z6, z7, z8⟩ := hz1.grown hu2 (by simp; omega)
  have HB2 := Lib.hid (hu2.below HB1.out HB1.out.size (by omega))
  clear hr1 hr2 hu2 hz1 hp hq hrr ht
  go_wp2_with fail
  refine bodyPost_ret (v := .agg #[.int .i64 p, .int .i64 q, .int .i64 r, .int .i64 t]) ?_ rfl ⟨p, q, r, t, rfl, (((HB2.out.setCell (p := ⟨w.heap.size, 0, none⟩) (Nat.le_refl _) _).setCell (p := ⟨w.heap.size, 1, none⟩) (Nat.le_refl _) _).setCell (p := ⟨w.heap.size, 2, none⟩) (Nat.le_refl _) _).setCell (p := ⟨w.heap.size, 3, none⟩) (Nat.le_refl _) _⟩
  simp [results, Try.results22, go_sem, z1, z2, z3, z4]
theorem drawActionReads_any (a : Option Addr) (len cap : Nat) (z : List Int) (w : World) (h : RowB w a len z) (hlc : len ≤ cap) :
    Calls Try.prog 12 #[.slice a len cap] w (ActD2 w) := by
  have hz0 := actAt_new w 24 0 0 0 0
  have hb0 := (Below.refl w.heap.size w).alloc (Nat.le_refl _) (.cells #[.int .i64 0, .int .i64 0, .int .i64 0, .int .i64 0] 24)
  have HR := Lib.hid (rowB_below h hb0)
  have HB0 := Lib.hid hb0
  clear h hb0
  go_enter Try.func12, Try.ntmps12
  go_wp2_with fail
  refine (open_any a len cap z _ HR.out hlc).mono ?_; rintro e w1 ⟨R, rfl, hR, hr1, hb1, hRw⟩
  have hz1 := hz0.grown (Below.grownBy hb1 none) (by simp)
  have hR1 : w.heap.size < R := by simp at hR; omega
  have HB1 := Lib.hid (HB0.out.trans (hb1.mono (by simp)))
  clear hz0 hb1 hR
  go_wp2_with fail
  refine (l20Action_any R 0 9 _ hr1 (by omega) (by omega) (by omega)).mono ?_; rintro e w2 ⟨p, q, r, t, rfl, hp, hq, hrr, ht, hr2, hu2⟩
  obtain ⟨⟨z1, z2, z3, z4⟩, z5, z6, z7, z8⟩ := hz1.grown hu2 (by simp; omega)
  have HB2 := Lib.hid (hu2.below HB1.out HB1.out.size (by omega))
  clear hr1 hr2 hu2 hz1 hp hq hrr ht
  go_wp2_with fail
  refine bodyPost_ret (v := .agg #[.int .i64 p, .int .i64 q, .int .i64 r, .int .i64 t]) ?_ rfl ⟨p, q, r, t, rfl, (((HB2.out.setCell (p := ⟨w.heap.size, 0, none⟩) (Nat.le_refl _) _).setCell (p := ⟨w.heap.size, 1, none⟩) (Nat.le_refl _) _).setCell (p := ⟨w.heap.size, 2, none⟩) (Nat.le_refl _) _).setCell (p := ⟨w.heap.size, 3, none⟩) (Nat.le_refl _) _⟩
  simp [results, Try.results12, go_sem, z1, z2, z3, z4]
end Go.Proofs.Ytakbkomgmajnfaa
