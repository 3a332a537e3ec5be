/- The contracts of the program's isActionNumber, isBehind, VersionsValid. -/
import Derived.Test.YtncedcliklpapaaGreatVerNew
import Derived.Test.YtncedcliklpapaaGreatTwo
import Derived.Test.YtncedcliklpapaaGreatSpecAct
import Derived.Deep.RegionHeld3
import Derived.BigQuiet
namespace Go.Proofs.YtncedcliklpapaaGreat
open Go.RowKit
set_option linter.unusedVariables false
theorem below_clV {B G o : Nat} {w w' : World} {v : Value} (hb : Below B w w') (hG : G < B) (hc : w.cell? ⟨G, o, none⟩ = some v) : w'.cell? ⟨G, o, none⟩ = some v := (hb.cell (p := ⟨G, o, none⟩) hG).trans hc
theorem isActionNumber_impl (n : Int) (w : World) : Calls Tryz.prog 30 #[.int .i64 n] w fun e w' => e = .returned (.bool (inB n 0 9)) ∧ w = w' := by
  by_cases h1 : 0 ≤ n
  · by_cases h2 : n ≤ 9
    · have h3 : n < 10 := by omega
      rw [inB_yes h1 h2]
      clear h2
      go_enter Tryz.func30, Tryz.ntmps30
      go_wp2
      go_ret
      exact ⟨rfl, rfl⟩
    · have h3 : ¬ n < 10 := by omega
      rw [inB_no (by omega)]
      clear h2
      go_enter Tryz.func30, Tryz.ntmps30
      go_wp2
      go_ret
      exact ⟨rfl, rfl⟩
  · rw [inB_no (by omega)]
    go_enter Tryz.func30, Tryz.ntmps30
    go_wp2
    go_ret
    exact ⟨rfl, rfl⟩
set_option maxHeartbeats 1000000 in
theorem isBehind_impl (x y : Ver) (w : World) : Calls Tryz.prog 68 #[.agg #[.int .i64 x.key, .int .i64 x.by_, .int .i64 x.val], .agg #[.int .i64 y.key, .int .i64 y.by_, .int .i64 y.val]] w (BoolS (decide (vLt y x)) w) := by
  obtain ⟨a, b, c⟩ := x
  obtain ⟨d, e, f⟩ := y
  have hB := ((Below.refl w.heap.size w).alloc (Nat.le_refl _) (.cells #[.int .i64 a, .int .i64 b, .int .i64 c] 68)).alloc (by simp) (.cells #[.int .i64 d, .int .i64 e, .int .i64 f] 68)
  by_cases h1 : d < a
  · have HE : Hid (decide (vLt ⟨d, e, f⟩ ⟨a, b, c⟩) = true) := Lib.hid (decide_eq_true (Or.inl h1))
    have h1' : decide (d < a) = true := by simpa using h1
    clear h1
    go_enter Tryz.func68, Tryz.ntmps68
    go_wp2
    go_ret
    exact ⟨by rw [HE.out]; rfl, hB⟩
  · have h1' : decide (d < a) = false := by simpa using h1
    by_cases h2 : a = d
    · subst h2
      by_cases h3 : e < b
      · have HE : Hid (decide (vLt ⟨a, e, f⟩ ⟨a, b, c⟩) = true) := Lib.hid (decide_eq_true (Or.inr ⟨rfl, h3⟩))
        have h3' : decide (e < b) = true := by simpa using h3
        clear h1 h1' h3
        go_enter Tryz.func68, Tryz.ntmps68
        go_wp2
        go_ret
        exact ⟨by rw [HE.out]; rfl, hB⟩
      · have HE : Hid (decide (vLt ⟨a, e, f⟩ ⟨a, b, c⟩) = false) := Lib.hid (decide_eq_false fun hc => hc.elim h1 fun hc => by first | exact h3 hc.2 | exact h2 hc.1.symm)
        have h3' : decide (e < b) = false := by simpa using h3
        clear h1 h1' h3
        go_enter Tryz.func68, Tryz.ntmps68
        go_wp2
        go_ret
        exact ⟨by rw [HE.out]; rfl, hB⟩
    · have HE : Hid (decide (vLt ⟨d, e, f⟩ ⟨a, b, c⟩) = false) := Lib.hid (decide_eq_false fun hc => hc.elim h1 fun hc => by first | exact h3 hc.2 | exact h2 hc.1.symm)
      have h2' : (a == d) = false := by simpa using h2
      clear h1 h2
      go_enter Tryz.func68, Tryz.ntmps68
      go_wp2
      go_ret
      exact ⟨by rw [HE.out]; rfl, hB⟩
set_option maxRecDepth 100000 in
set_option maxHeartbeats 4000000 in
theorem versionsValid_impl (a : Option Addr) (n cap : Nat) (L : List Ver) (w : World) (h : RowV w a n L) :
    Calls Tryz.prog 58 #[.slice a n cap] w (BoolS (versB L) w) := by
  have HL := Lib.hid h.1
  have HM := Lib.hid h.2.1
  have hc := h.2.2.1
  clear h
  by_cases h0 : 0 < n
  · obtain ⟨b, off, rfl, hcc⟩ := hc h0
    clear hc
    have hbs : b < w.heap.size := World.block_lt_of_cell? w ⟨b, off + 0 * 3, none⟩ (hcc 0 h0).1
    go_enter Tryz.func58, Tryz.ntmps58
    go_wp2
    go_loopw [7] (fun i wr => ∃ k : Nat, k ≤ n ∧ i = .int .i64 k ∧ VersTo L k ∧ Below w.heap.size w wr) (fun i _ => n - (intOf i).toNat)
    case atStart => exact ⟨0, Nat.zero_le _, rfl, VersTo.zero L, Below.refl _ _⟩
    case round =>
      obtain ⟨k, hk, rfl, hok, hb⟩ := hrel
      have HOK := Lib.hid hok; clear hok
      by_cases hlt : k < n
      · obtain ⟨c1, c2, c3⟩ := hcc k hlt
        have hc1 := (hb.cell (p := ⟨b, off + k * 3, none⟩) hbs).trans c1
        have hc2 := (hb.cell (p := ⟨b, off + k * 3 + 1, none⟩) hbs).trans c2
        have hc3 := (hb.cell (p := ⟨b, off + k * 3 + 2, none⟩) hbs).trans c3
        clear c1 c2 c3
        have HE : Hid (verAt L k = (inB (L.getD k noV).key 0 31 && inB (L.getD k noV).by_ 0 9 && inB (L.getD k noV).val 0 1000000 && (k == 0 || decide (vLt (L.getD (k - 1) noV) (L.getD k noV))))) := Lib.hid rfl
        have HB := Lib.hid (versB_bad L k (by rw [HL.out]; exact hlt))
        have HMk : Hid (k ≤ maxLen) := Lib.hid (by have := HM.out; omega)
        obtain ⟨X, hX⟩ : ∃ X, X = L.getD k noV := ⟨_, rfl⟩
        rw [← hX] at hc1 hc2 hc3 HE
        clear hX
        obtain ⟨x, y, z⟩ := X
        simp only at hc1 hc2 hc3 HE
        have hb1 := hb.alloc hb.size (.cells #[.int .i64 x, .int .i64 y, .int .i64 z] 68)
        cases e1 : inB x 0 31 with
        | false =>
          have HF := Lib.hid (HB.out (by rw [HE.out, e1]; rfl))
          clear HE HB hcc
          go_wp2_with (first | (go_at_call 36; refine (isKey_impl _ _).mono ?_; rintro e w' ⟨rfl, rfl⟩))
          go_ret
          exact ⟨by rw [HF.out]; rfl, hb1⟩
        | true =>
          cases e2 : inB y 0 9 with
          | false =>
            have HF := Lib.hid (HB.out (by rw [HE.out, e1, e2]; rfl))
            clear HE HB hcc
            go_wp2_with (first | (go_at_call 36; refine (isKey_impl _ _).mono ?_; rintro e w' ⟨rfl, rfl⟩) | (go_at_call 30; refine (isActionNumber_impl _ _).mono ?_; rintro e w' ⟨rfl, rfl⟩))
            go_ret
            exact ⟨by rw [HF.out]; rfl, hb1⟩
          | true =>
            cases e3 : inB z 0 1000000 with
            | false =>
              have HF := Lib.hid (HB.out (by rw [HE.out, e1, e2, e3]; rfl))
              clear HE HB hcc
              go_wp2_with (first | (go_at_call 36; refine (isKey_impl _ _).mono ?_; rintro e w' ⟨rfl, rfl⟩) | (go_at_call 30; refine (isActionNumber_impl _ _).mono ?_; rintro e w' ⟨rfl, rfl⟩) | (go_at_call 45; refine (isValue_impl _ _).mono ?_; rintro e w' ⟨rfl, rfl⟩))
              go_ret
              exact ⟨by rw [HF.out]; rfl, hb1⟩
            | true =>
              replace HE : Hid (verAt L k = (k == 0 || decide (vLt (L.getD (k - 1) noV) ⟨x, y, z⟩))) := Lib.hid (by rw [HE.out, e1, e2, e3]; rfl)
              by_cases hk0 : k = 0
              · subst hk0
                simp only [Nat.zero_mul, Nat.add_zero] at hc1 hc2 hc3
                have HF := Lib.hid (HOK.out.next (by rw [HE.out]; rfl))
                clear HE HB hcc
                go_wp2_with (first | (go_at_call 36; refine (isKey_impl _ _).mono ?_; rintro e w' ⟨rfl, rfl⟩) | (go_at_call 30; refine (isActionNumber_impl _ _).mono ?_; rintro e w' ⟨rfl, rfl⟩) | (go_at_call 45; refine (isValue_impl _ _).mono ?_; rintro e w' ⟨rfl, rfl⟩))
                go_quiet (fail)
                go_wp2
                go_roundw
                case rel => exact ⟨1, by omega, by go_num, HF.out, below_drewN' hb1 _⟩
                case measure => simp [intOf]; omega
              · obtain ⟨d1, d2, d3⟩ := hcc (k - 1) (by omega)
                obtain ⟨j, rfl⟩ : ∃ j, k = j + 1 := ⟨k - 1, by omega⟩
                rw [Nat.add_sub_cancel] at d1 d2 d3 HE
                have hd1 := (hb1.cell (p := ⟨b, off + j * 3, none⟩) hbs).trans d1
                have hd2 := (hb1.cell (p := ⟨b, off + j * 3 + 1, none⟩) hbs).trans d2
                have hd3 := (hb1.cell (p := ⟨b, off + j * 3 + 2, none⟩) hbs).trans d3
                clear d1 d2 d3 hcc
                obtain ⟨Y, hY⟩ : ∃ Y, Y = L.getD j noV := ⟨_, rfl⟩
                rw [← hY] at hd1 hd2 hd3 HE
                clear hY
                obtain ⟨p, q, r⟩ := Y
                simp only at hd1 hd2 hd3
                have g1 : decide ((0 : Int) < ((j + 1 : Nat) : Int)) = true := decide_eq_true (by omega)
                have g2 : IntKind.i64.wrap (j : Int) = (j : Int) := by rw [IntKind.wrap_i64]; have := HM.out; unfold maxLen at this; omega
                have g3 : (0 : Int) ≤ (j : Int) ∧ (j : Int) < (n : Int) := by omega
                obtain ⟨g4, g5⟩ := g3
                go_wp2_with (first | (go_at_call 36; refine (isKey_impl _ _).mono ?_; rintro e w' ⟨rfl, rfl⟩) | (go_at_call 30; refine (isActionNumber_impl _ _).mono ?_; rintro e w' ⟨rfl, rfl⟩) | (go_at_call 45; refine (isValue_impl _ _).mono ?_; rintro e w' ⟨rfl, rfl⟩))
                obtain ⟨w1, hw1⟩ : ∃ w1, w1 = wr.alloc (.cells #[.int .i64 x, .int .i64 y, .int .i64 z] 68) := ⟨_, rfl⟩
                have m1 : (wr.alloc (.cells #[.int .i64 x, .int .i64 y, .int .i64 z] 68)).cell? ⟨wr.heap.size, 0, none⟩ = some (.int .i64 x) := by simp [go_sem]
                have m2 : (wr.alloc (.cells #[.int .i64 x, .int .i64 y, .int .i64 z] 68)).cell? ⟨wr.heap.size, 1, none⟩ = some (.int .i64 y) := by simp [go_sem]
                have m3 : (wr.alloc (.cells #[.int .i64 x, .int .i64 y, .int .i64 z] 68)).cell? ⟨wr.heap.size, 2, none⟩ = some (.int .i64 z) := by simp [go_sem]
                have hlw0 : wr.heap.size < (wr.alloc (.cells #[.int .i64 x, .int .i64 y, .int .i64 z] 68)).heap.size := by simp
                rw [← hw1] at hb1 hd1 hd2 hd3 m1 m2 m3 hlw0 ⊢
                clear hw1 hc1 hc2 hc3 hb
                have hlw : wr.heap.size < w1.heap.size := hlw0
                have hlb : b < w1.heap.size := by have := hb1.size; omega
                cases e4 : decide (vLt ⟨p, q, r⟩ ⟨x, y, z⟩) with
                | false =>
                  have HF := Lib.hid (HB.out (by rw [HE.out, e4]; simp))
                  have HD := Lib.hid e4
                  clear HE HB e4
                  go_region_held3 (fun w' => w'.cell? ⟨wr.heap.size, 0, none⟩ = some (.int .i64 x) ∧ w'.cell? ⟨wr.heap.size, 1, none⟩ = some (.int .i64 y) ∧ w'.cell? ⟨wr.heap.size, 2, none⟩ = some (.int .i64 z) ∧ w'.cell? ⟨b, off + j * 3, none⟩ = some (.int .i64 p) ∧ w'.cell? ⟨b, off + j * 3 + 1, none⟩ = some (.int .i64 q) ∧ w'.cell? ⟨b, off + j * 3 + 2, none⟩ = some (.int .i64 r)) (first | exact ⟨m1, m2, m3, hd1, hd2, hd3⟩ | exact ⟨i1, i2, i3, i4, i5, i6⟩ | go_keep)
                    ((go_at_call 68; refine (isBehind_impl ⟨x, y, z⟩ ⟨p, q, r⟩ _).mono ?_; rintro e w3 ⟨rfl, hb13'⟩; rw [HD.out]; have hb13 : Below w1.heap.size w1 w3 := (by first | exact hb13' | exact (Below.refl _ w1).drew.trans hb13' | exact (Below.refl _ w1).drew.drew.trans hb13'); have i1 := below_clV hb13 hlw m1; have i2 := below_clV hb13 hlw m2; have i3 := below_clV hb13 hlw m3; have i4 := below_clV hb13 hlb hd1; have i5 := below_clV hb13 hlb hd2; have i6 := below_clV hb13 hlb hd3))
                  all_goals
                    go_wp2
                    go_ret
                    exact ⟨by rw [HF.out]; rfl, hb1.trans (hb13.mono hb1.size)⟩
                | true =>
                  have HF := Lib.hid (HOK.out.next (by rw [HE.out, e4]; simp))
                  have HD := Lib.hid e4
                  clear HE HB e4
                  go_region_held3 (fun w' => w'.cell? ⟨wr.heap.size, 0, none⟩ = some (.int .i64 x) ∧ w'.cell? ⟨wr.heap.size, 1, none⟩ = some (.int .i64 y) ∧ w'.cell? ⟨wr.heap.size, 2, none⟩ = some (.int .i64 z) ∧ w'.cell? ⟨b, off + j * 3, none⟩ = some (.int .i64 p) ∧ w'.cell? ⟨b, off + j * 3 + 1, none⟩ = some (.int .i64 q) ∧ w'.cell? ⟨b, off + j * 3 + 2, none⟩ = some (.int .i64 r)) (first | exact ⟨m1, m2, m3, hd1, hd2, hd3⟩ | exact ⟨i1, i2, i3, i4, i5, i6⟩ | go_keep)
                    ((go_at_call 68; refine (isBehind_impl ⟨x, y, z⟩ ⟨p, q, r⟩ _).mono ?_; rintro e w3 ⟨rfl, hb13'⟩; rw [HD.out]; have hb13 : Below w1.heap.size w1 w3 := (by first | exact hb13' | exact (Below.refl _ w1).drew.trans hb13' | exact (Below.refl _ w1).drew.drew.trans hb13'); have i1 := below_clV hb13 hlw m1; have i2 := below_clV hb13 hlw m2; have i3 := below_clV hb13 hlw m3; have i4 := below_clV hb13 hlb hd1; have i5 := below_clV hb13 hlb hd2; have i6 := below_clV hb13 hlb hd3))
                  all_goals
                    have hnm := HM.out
                    unfold maxLen at hnm
                    have hw2 : RowKit.wrap64 ((j : Int) + 1 + 1) = (j : Int) + 1 + 1 := IntWalk.wrap64_in _ (by omega)
                    go_wp2
                    go_roundw
                    case rel => exact ⟨j + 1 + 1, by omega, by go_num, HF.out, hb1.trans (hb13.mono hb1.size)⟩
                    case measure => simp [intOf]; omega
      · have hs : versB L = true := (versB_iff L).2 fun j hj => HOK.out j (by rw [HL.out] at hj; omega)
        have HF := Lib.hid hs
        clear hcc hs
        go_wp2
        go_ret
        exact ⟨by rw [HF.out]; rfl, hb⟩
  · obtain rfl : n = 0 := by omega
    obtain rfl : L = [] := List.eq_nil_of_length_eq_zero HL.out
    clear hc
    go_enter Tryz.func58, Tryz.ntmps58
    go_wp2
    go_loop [7] (fun i => i = .int .i64 0) (fun _ => 0)
    case atStart => rfl
    case round =>
      subst hrel
      go_wp2
      go_ret
      exact ⟨rfl, Below.refl _ _⟩
end Go.Proofs.YtncedcliklpapaaGreat
