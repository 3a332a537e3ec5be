/- The contract of the program's ActionsValid. -/
import Derived.Test.YtkoolemlnmolfaaDeedKeys
import Derived.Test.YtkoolemlnmolfaaActMem
namespace Go.Proofs.Ytkoolemlnmolfaa
open Go.RowKit
set_option linter.unusedVariables false
set_option maxHeartbeats 1000000 in
theorem actionsValid_impl (a : Option Addr) (n cap : Nat) (l : List Acn) (w : World) (h : RowA w a n l) :
    Calls Try.prog 14 #[.slice a n cap] w (BoolB (actsB l) w) := by
  obtain ⟨hl, hm, hc, -⟩ := h
  unfold maxLen at hm
  have HL := Lib.hid hl; clear hl
  by_cases h10 : 10 < n
  · have h10' : (10 : Int) < (n : Int) := by omega
    have HF := Lib.hid (actsB_no (l := l) (by rw [HL.out]; omega))
    clear hc
    go_enter Try.func14, Try.ntmps14
    go_wp2
    go_ret
    exact ⟨by rw [HF.out]; rfl, Below.refl _ _⟩
  have h10' : ¬ (10 : Int) < (n : Int) := by omega
  by_cases h0 : 0 < n
  · obtain ⟨b, off, rfl, hcc⟩ := hc h0; clear hc; have hc := hcc; clear hcc
    have hbs : b < w.heap.size := World.block_lt_of_cell? w ⟨b, off + 0 * 4, none⟩ (hc 0 h0).1
    go_enter Try.func14, Try.ntmps14
    go_wp2
    go_loopw [10] (fun i wr => ∃ k : Nat, k ≤ n ∧ i = .int .i64 k ∧ OkActs l k ∧ Below w.heap.size w wr) (fun i _ => n - (intOf i).toNat)
    case atStart => exact ⟨0, Nat.zero_le _, rfl, fun j hj => absurd hj (Nat.not_lt_zero j), Below.refl _ _⟩
    case round =>
      obtain ⟨k, hk, rfl, hok, hb⟩ := hrel
      by_cases hlt : k < n
      · obtain ⟨d1, d2, d3, d4⟩ := hc k hlt
        have c1 := (hb.cell (p := ⟨b, off + k * 4, none⟩) hbs).trans d1
        have c2 := (hb.cell (p := ⟨b, off + k * 4 + 1, none⟩) hbs).trans d2
        have c3 := (hb.cell (p := ⟨b, off + k * 4 + 2, none⟩) hbs).trans d3
        have c4 := (hb.cell (p := ⟨b, off + k * 4 + 3, none⟩) hbs).trans d4
        clear hc d1 d2 d3 d4
        have HN : actB (l.getD k noA) = true → OkActs l (k + 1) := fun h => hok.next h
        have HM := getD_memA l k (by rw [HL.out]; exact hlt)
        obtain ⟨x, hx⟩ : ∃ x, x = l.getD k noA := ⟨_, rfl⟩
        rw [← hx] at c1 c2 c3 c4 HN HM
        clear hx hok
        obtain ⟨p, q, r, t⟩ := x
        simp only at c1 c2 c3 c4
        have HN' := Lib.hid HN; have HM' := Lib.hid HM
        clear HN HM
        have hsz := hb.size
        go_wp2_with fail
        refine (actionValid_impl p q r t _).mono ?_; rintro e w2 ⟨rfl, hb2⟩
        have hb3 : Below w.heap.size w w2 := hb.trans (((Below.refl _ _).alloc (Nat.le_refl _) (.cells #[.int .i64 p, .int .i64 q, .int .i64 r, .int .i64 t] 24)).trans (hb2.mono (by simp)) |>.mono hb.size)
        cases hv : actB ⟨p, q, r, t⟩ with
        | false =>
          have HF := Lib.hid (actsB_bad HM'.out hv)
          clear hv hb
          go_wp2
          go_ret
          exact ⟨by rw [HF.out]; rfl, hb3⟩
        | true =>
          have HO := Lib.hid (HN'.out hv)
          clear hv hb
          go_wp2
          go_roundw
          case rel => exact ⟨k + 1, by omega, by go_num, HO.out, hb3⟩
          case measure => simp [intOf]; omega
      · obtain rfl : k = n := by omega
        clear hc
        have HA := Lib.hid (OkActs.all (by rw [HL.out]; exact hok))
        have HF := Lib.hid (actsB_yes (by rw [HL.out]; omega) HA.out)
        go_wp2
        go_ret
        exact ⟨by rw [HF.out]; rfl, hb⟩
  · obtain rfl : n = 0 := by omega
    obtain rfl : l = [] := List.eq_nil_of_length_eq_zero HL.out
    clear hc
    go_enter Try.func14, Try.ntmps14
    go_wp2
    go_loop [10] (fun i => i = .int .i64 0) (fun _ => 0)
    case atStart => rfl
    case round =>
      subst hrel
      go_wp2
      go_ret
      exact ⟨rfl, Below.refl _ _⟩
end Go.Proofs.Ytkoolemlnmolfaa
