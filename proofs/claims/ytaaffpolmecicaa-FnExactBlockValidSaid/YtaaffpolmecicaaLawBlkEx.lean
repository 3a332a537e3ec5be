/- The walks of the exact laws of BlockValid and BlockSum (gen15/lawblk.py). -/
import Derived.Test.YtaaffpolmecicaaImplBlk2
import Derived.Test.YtaaffpolmecicaaSpecBlk2
import Derived.Test.YtaaffpolmecicaaConvBk
import Derived.Deep.RegionHeld3
namespace Go.Proofs.Ytaaffpolmecicaa
open Go.RowKit
set_option linter.unusedVariables false
set_option linter.unusedSimpArgs false
set_option maxRecDepth 100000 in
set_option maxHeartbeats 8000000 in
theorem lawExactBlockValid (p q r : Int) (a : Option Addr) (n c : Nat) (t u : Int) (L : List Acn) (w : World) (h : RowA w a n L ∧ (a = none → c = 0) ∧ n ≤ c ∧ WfB ⟨p, q, r, L, t, u⟩) :
    Calls Try.prog 3 #[.agg #[.int .i64 p, .int .i64 q, .int .i64 r, .slice a n c, .int .i64 t, .int .i64 u]] w (LawTrue w) := by
  obtain ⟨h, -, -, hwf⟩ := h
  have HWF := Lib.hid hwf
  have hm := h.2.1
  have hb0 := (Below.refl w.heap.size w).alloc (Nat.le_refl _) (.cells #[.int .i64 p, .int .i64 q, .int .i64 r, .slice a n c, .int .i64 t, .int .i64 u] 24)
  have hg0 := bkAt_new w 24 (.int .i64 p) (.int .i64 q) (.int .i64 r) (.slice a n c) (.int .i64 t) (.int .i64 u)
  obtain ⟨W1, hW1⟩ : ∃ W1, W1 = w.alloc (.cells #[.int .i64 p, .int .i64 q, .int .i64 r, .slice a n c, .int .i64 t, .int .i64 u] 24) := ⟨_, rfl⟩
  have HW1 := Lib.hid hW1
  rw [← hW1] at hb0 hg0
  clear hW1
  have HKK := Lib.hid (fun (W : World) (hb : Below W1.heap.size W1 W) => (⟨hg0.below hb, (h.below hb0).below hb, hb0.trans (hb.mono hb0.size)⟩ : BkAt W w.heap.size (.int .i64 p) (.int .i64 q) (.int .i64 r) (.slice a n c) (.int .i64 t) (.int .i64 u) ∧ RowA W a n L ∧ Below w.heap.size w W))
  clear hb0 hg0 h hwf
  go_enter Try.func3, Try.ntmps3
  go_upto_region 1 with (fail)
  rw [← HW1.out]
  clear HW1
  obtain ⟨⟨k0, k1, k2, k3, k4, k5, -⟩, kr, -⟩ := HKK.out W1 (Below.refl _ _)
  go_wp2_with fail
  refine (szBlock_any p q r t u a n c 1048576 _ (by omega) (by omega) hm).mono ?_; rintro e1 w1 ⟨rfl, hb1⟩
  have HB1 := Lib.hid hb1
  clear k0 k1 k2 k3 k4 k5 kr hb1
  by_cases hs : (n : Int) ≤ 1048576
  · rw [if_pos hs]
    have hnn : decide ((1048576 : Int) - (n : Int) < 0) = false := by simp; omega
    have hsn : n ≤ 1048576 := by omega
    have HSN := Lib.hid hsn
    obtain ⟨v, hv⟩ : ∃ v, blkB ⟨p, q, r, L, t, u⟩ = v := ⟨_, rfl⟩
    have HV := Lib.hid hv
    have hvv : (v != v) = false := by simp
    clear hv hs hsn hm
    obtain ⟨⟨k0, k1, k2, k3, k4, k5, -⟩, kr, -⟩ := HKK.out w1 HB1.out
    have HT1 := Lib.hid (toBlock_any p q r t u a n c L w1 kr HSN.out HWF.out)
    go_wp2_with fail
    refine HT1.out.mono ?_; rintro e1 w2 ⟨v2, rfl, ho2, hwa, -, hb2⟩
    obtain ⟨a2, c2, rfl, hr2, -, -, -⟩ := rowA_of_owns ho2 (by have := kr.1; have := HSN.out; simp only; omega) hwa
    have HL : Hid (L.length = n) := Lib.hid kr.1
    have HO2 := Lib.hid hr2
    have HB2 := Lib.hid (HB1.out.trans (hb2.mono HB1.out.size))
    clear k0 k1 k2 k3 k4 k5 kr ho2 hwa hb2 HB1 hr2 HT1
    go_wp2_with fail
    refine (blockValid_spec p q r t u _ _ c2 L _ HO2.out).mono ?_; rintro e1 w3 ⟨rfl, hb3⟩
    rw [HV.out]
    have HB3 := Lib.hid (HB2.out.trans (hb3.mono HB2.out.size))
    obtain ⟨⟨k0, k1, k2, k3, k4, k5, -⟩, kr, -⟩ := HKK.out w3 HB3.out
    have HT3 := Lib.hid (toBlock_any p q r t u a n c L w3 kr HSN.out HWF.out)
    clear hb3 HB2 HO2 kr
    go_wp2_with fail
    refine HT3.out.mono ?_; rintro e1 w4 ⟨v4, rfl, ho4, hwa, -, hb4⟩
    obtain ⟨a4, c4, rfl, hr4, -, -, -⟩ := rowA_of_owns ho4 (by have := HL.out; have := HSN.out; simp only; omega) hwa
    have HO4 := Lib.hid hr4
    have HB4 := Lib.hid (HB3.out.trans (hb4.mono HB3.out.size))
    clear k0 k1 k2 k3 k4 k5 ho4 hwa hb4 HB3 hr4 HT3
    go_upto_region 7 with (fail)
    generalize hw5 : World.alloc _ _ = w5
    have hb5 : Below w4.heap.size w4 w5 := by rw [← hw5]; exact (Below.refl _ _).alloc (Nat.le_refl _) _
    have hX5 : BkAt w5 w4.heap.size (.int .i64 p) (.int .i64 q) (.int .i64 r) (.slice a4 L.length c4) (.int .i64 t) (.int .i64 u) := by rw [← hw5]; exact bkAt_new w4 _ _ _ _ _ _ _
    have HB5 := Lib.hid (HB4.out.trans (hb5.mono HB4.out.size))
    have HO5 := Lib.hid (HO4.out.below hb5)
    have HX5 := Lib.hid hX5
    obtain ⟨q0, q1, q2, q3, q4, q5, -⟩ := hX5
    clear hw5 hb5 HB4 HO4
    go_wp2_with fail
    refine (blockValid_impl p q r t u _ _ c4 L _ HO5.out).mono ?_; rintro e1 w6 ⟨rfl, hb6⟩
    rw [HV.out]
    have HB6 := Lib.hid (HB5.out.trans (hb6.mono HB5.out.size))
    have HO6 := Lib.hid (HO5.out.below hb6)
    have HX6 := Lib.hid (HX5.out.below hb6)
    clear q0 q1 q2 q3 q4 q5 hb6 HB5 HO5 HX5
    obtain ⟨hK6, hkr, -⟩ := HKK.out w6 HB6.out
    have HKP := Lib.hid (fun (w' : World) (hb : Below w6.heap.size w6 w') => (⟨⟨(HX6.out.below hb).c0, (HX6.out.below hb).c1, (HX6.out.below hb).c2, (HX6.out.below hb).c3, (HX6.out.below hb).c4, (HX6.out.below hb).c5⟩, (hK6.below hb).c0, (hK6.below hb).c1, (hK6.below hb).c2, (hK6.below hb).c3, (hK6.below hb).c4, (hK6.below hb).c5⟩ : (w'.cell? ⟨w4.heap.size, 0, none⟩ = some (.int .i64 p) ∧ w'.cell? ⟨w4.heap.size, 1, none⟩ = some (.int .i64 q) ∧ w'.cell? ⟨w4.heap.size, 2, none⟩ = some (.int .i64 r) ∧ w'.cell? ⟨w4.heap.size, 3, none⟩ = some (.slice a4 L.length c4) ∧ w'.cell? ⟨w4.heap.size, 4, none⟩ = some (.int .i64 t) ∧ w'.cell? ⟨w4.heap.size, 5, none⟩ = some (.int .i64 u)) ∧ (w'.cell? ⟨w.heap.size, 0, none⟩ = some (.int .i64 p) ∧ w'.cell? ⟨w.heap.size, 1, none⟩ = some (.int .i64 q) ∧ w'.cell? ⟨w.heap.size, 2, none⟩ = some (.int .i64 r) ∧ w'.cell? ⟨w.heap.size, 3, none⟩ = some (.slice a n c) ∧ w'.cell? ⟨w.heap.size, 4, none⟩ = some (.int .i64 t) ∧ w'.cell? ⟨w.heap.size, 5, none⟩ = some (.int .i64 u))))
    have hkp0 := HKP.out w6 (Below.refl _ _)
    have HT6 := Lib.hid (toBlock_any p q r t u a n c L w6.drew (hkr.below (Below.refl _ _).drew) HSN.out HWF.out)
    clear hK6 hkr
    go_upto_region 10 with (fail)
    go_region_held3 (fun w' => (w'.cell? ⟨w4.heap.size, 0, none⟩ = some (.int .i64 p) ∧ w'.cell? ⟨w4.heap.size, 1, none⟩ = some (.int .i64 q) ∧ w'.cell? ⟨w4.heap.size, 2, none⟩ = some (.int .i64 r) ∧ w'.cell? ⟨w4.heap.size, 3, none⟩ = some (.slice a4 L.length c4) ∧ w'.cell? ⟨w4.heap.size, 4, none⟩ = some (.int .i64 t) ∧ w'.cell? ⟨w4.heap.size, 5, none⟩ = some (.int .i64 u)) ∧ (w'.cell? ⟨w.heap.size, 0, none⟩ = some (.int .i64 p) ∧ w'.cell? ⟨w.heap.size, 1, none⟩ = some (.int .i64 q) ∧ w'.cell? ⟨w.heap.size, 2, none⟩ = some (.int .i64 r) ∧ w'.cell? ⟨w.heap.size, 3, none⟩ = some (.slice a n c) ∧ w'.cell? ⟨w.heap.size, 4, none⟩ = some (.int .i64 t) ∧ w'.cell? ⟨w.heap.size, 5, none⟩ = some (.int .i64 u))) (first | exact hkp0 | exact hkp | exact hkp2 | go_keep)
      (first | (go_at_call 13; (with_reducible refine HT6.out.mono ?_); rintro e1 w7 ⟨v7, rfl, ho7, hwa7, -, hb7'⟩; obtain ⟨a7, c7, rfl, hr7, -, -, -⟩ := rowA_of_owns ho7 (by have := HL.out; have := HSN.out; simp only; omega) hwa7; have hb7 := (Below.refl w6.heap.size w6).drew.trans hb7'; have hkp := HKP.out _ hb7) | (go_at_call 15; refine (eqBlock_same p q r t u _ _ c4 _ c7 L _ (HO6.out.below hb7) hr7).mono ?_; rintro e1 w8 ⟨rfl, hb8'⟩; have hb8 := hb7.trans (hb8'.mono hb7.size); have hkp2 := HKP.out _ hb8))
    have HBF := Lib.hid ((HKK.out _ (HB6.out.trans (hb8.mono HB6.out.size))).2.2)
    clear hkp0 hkp hkp2 hb8 hb8' hb7 hb7' ho7 hwa7 hr7
    go_wp2
    go_ret
    exact ⟨rfl, HBF.out⟩
  · rw [if_neg hs]
    have HBF := Lib.hid ((HKK.out _ HB1.out).2.2)
    clear hs
    go_wp2
    go_ret
    exact ⟨rfl, HBF.out⟩
set_option maxRecDepth 100000 in
set_option maxHeartbeats 8000000 in
theorem lawExactBlockSum (p q r : Int) (a : Option Addr) (n c : Nat) (t u : Int) (L : List Acn) (w : World) (h : RowA w a n L ∧ (a = none → c = 0) ∧ n ≤ c ∧ WfB ⟨p, q, r, L, t, u⟩) :
    Calls Try.prog 4 #[.agg #[.int .i64 p, .int .i64 q, .int .i64 r, .slice a n c, .int .i64 t, .int .i64 u]] w (LawTrue w) := by
  obtain ⟨h, -, -, hwf⟩ := h
  have HWF := Lib.hid hwf
  have hm := h.2.1
  have hb0 := (Below.refl w.heap.size w).alloc (Nat.le_refl _) (.cells #[.int .i64 p, .int .i64 q, .int .i64 r, .slice a n c, .int .i64 t, .int .i64 u] 24)
  have hg0 := bkAt_new w 24 (.int .i64 p) (.int .i64 q) (.int .i64 r) (.slice a n c) (.int .i64 t) (.int .i64 u)
  obtain ⟨W1, hW1⟩ : ∃ W1, W1 = w.alloc (.cells #[.int .i64 p, .int .i64 q, .int .i64 r, .slice a n c, .int .i64 t, .int .i64 u] 24) := ⟨_, rfl⟩
  have HW1 := Lib.hid hW1
  rw [← hW1] at hb0 hg0
  clear hW1
  have HKK := Lib.hid (fun (W : World) (hb : Below W1.heap.size W1 W) => (⟨hg0.below hb, (h.below hb0).below hb, hb0.trans (hb.mono hb0.size)⟩ : BkAt W w.heap.size (.int .i64 p) (.int .i64 q) (.int .i64 r) (.slice a n c) (.int .i64 t) (.int .i64 u) ∧ RowA W a n L ∧ Below w.heap.size w W))
  clear hb0 hg0 h hwf
  go_enter Try.func4, Try.ntmps4
  go_upto_region 1 with (fail)
  rw [← HW1.out]
  clear HW1
  obtain ⟨⟨k0, k1, k2, k3, k4, k5, -⟩, kr, -⟩ := HKK.out W1 (Below.refl _ _)
  go_wp2_with fail
  refine (szBlock_any p q r t u a n c 1048576 _ (by omega) (by omega) hm).mono ?_; rintro e1 w1 ⟨rfl, hb1⟩
  have HB1 := Lib.hid hb1
  clear k0 k1 k2 k3 k4 k5 kr hb1
  by_cases hs : (n : Int) ≤ 1048576
  · rw [if_pos hs]
    have hnn : decide ((1048576 : Int) - (n : Int) < 0) = false := by simp; omega
    have hsn : n ≤ 1048576 := by omega
    have HSN := Lib.hid hsn
    obtain ⟨v, hv⟩ : ∃ v, blkSumM ⟨p, q, r, L, t, u⟩ = v := ⟨_, rfl⟩
    have HV := Lib.hid hv
    have hvv : (v != v) = false := by simp
    clear hv hs hsn hm
    obtain ⟨⟨k0, k1, k2, k3, k4, k5, -⟩, kr, -⟩ := HKK.out w1 HB1.out
    have HT1 := Lib.hid (toBlock_any p q r t u a n c L w1 kr HSN.out HWF.out)
    go_wp2_with fail
    refine HT1.out.mono ?_; rintro e1 w2 ⟨v2, rfl, ho2, hwa, -, hb2⟩
    obtain ⟨a2, c2, rfl, hr2, -, -, -⟩ := rowA_of_owns ho2 (by have := kr.1; have := HSN.out; simp only; omega) hwa
    have HL : Hid (L.length = n) := Lib.hid kr.1
    have HO2 := Lib.hid hr2
    have HB2 := Lib.hid (HB1.out.trans (hb2.mono HB1.out.size))
    clear k0 k1 k2 k3 k4 k5 kr ho2 hwa hb2 HB1 hr2 HT1
    go_wp2_with fail
    refine (blockSum_spec p q r t u _ _ c2 L _ HO2.out).mono ?_; rintro e1 w3 ⟨rfl, hb3⟩
    rw [HV.out]
    have HB3 := Lib.hid (HB2.out.trans (hb3.mono HB2.out.size))
    obtain ⟨⟨k0, k1, k2, k3, k4, k5, -⟩, kr, -⟩ := HKK.out w3 HB3.out
    have HT3 := Lib.hid (toBlock_any p q r t u a n c L w3 kr HSN.out HWF.out)
    clear hb3 HB2 HO2 kr
    go_wp2_with fail
    refine HT3.out.mono ?_; rintro e1 w4 ⟨v4, rfl, ho4, hwa, -, hb4⟩
    obtain ⟨a4, c4, rfl, hr4, -, -, -⟩ := rowA_of_owns ho4 (by have := HL.out; have := HSN.out; simp only; omega) hwa
    have HO4 := Lib.hid hr4
    have HB4 := Lib.hid (HB3.out.trans (hb4.mono HB3.out.size))
    clear k0 k1 k2 k3 k4 k5 ho4 hwa hb4 HB3 hr4 HT3
    go_upto_region 7 with (fail)
    generalize hw5 : World.alloc _ _ = w5
    have hb5 : Below w4.heap.size w4 w5 := by rw [← hw5]; exact (Below.refl _ _).alloc (Nat.le_refl _) _
    have hX5 : BkAt w5 w4.heap.size (.int .i64 p) (.int .i64 q) (.int .i64 r) (.slice a4 L.length c4) (.int .i64 t) (.int .i64 u) := by rw [← hw5]; exact bkAt_new w4 _ _ _ _ _ _ _
    have HB5 := Lib.hid (HB4.out.trans (hb5.mono HB4.out.size))
    have HO5 := Lib.hid (HO4.out.below hb5)
    have HX5 := Lib.hid hX5
    obtain ⟨q0, q1, q2, q3, q4, q5, -⟩ := hX5
    clear hw5 hb5 HB4 HO4
    go_wp2_with fail
    refine (blockSum_impl p q r t u _ _ c4 L _ HO5.out).mono ?_; rintro e1 w6 ⟨rfl, hb6⟩
    rw [HV.out]
    have HB6 := Lib.hid (HB5.out.trans (hb6.mono HB5.out.size))
    have HO6 := Lib.hid (HO5.out.below hb6)
    have HX6 := Lib.hid (HX5.out.below hb6)
    clear q0 q1 q2 q3 q4 q5 hb6 HB5 HO5 HX5
    obtain ⟨hK6, hkr, -⟩ := HKK.out w6 HB6.out
    have HKP := Lib.hid (fun (w' : World) (hb : Below w6.heap.size w6 w') => (⟨⟨(HX6.out.below hb).c0, (HX6.out.below hb).c1, (HX6.out.below hb).c2, (HX6.out.below hb).c3, (HX6.out.below hb).c4, (HX6.out.below hb).c5⟩, (hK6.below hb).c0, (hK6.below hb).c1, (hK6.below hb).c2, (hK6.below hb).c3, (hK6.below hb).c4, (hK6.below hb).c5⟩ : (w'.cell? ⟨w4.heap.size, 0, none⟩ = some (.int .i64 p) ∧ w'.cell? ⟨w4.heap.size, 1, none⟩ = some (.int .i64 q) ∧ w'.cell? ⟨w4.heap.size, 2, none⟩ = some (.int .i64 r) ∧ w'.cell? ⟨w4.heap.size, 3, none⟩ = some (.slice a4 L.length c4) ∧ w'.cell? ⟨w4.heap.size, 4, none⟩ = some (.int .i64 t) ∧ w'.cell? ⟨w4.heap.size, 5, none⟩ = some (.int .i64 u)) ∧ (w'.cell? ⟨w.heap.size, 0, none⟩ = some (.int .i64 p) ∧ w'.cell? ⟨w.heap.size, 1, none⟩ = some (.int .i64 q) ∧ w'.cell? ⟨w.heap.size, 2, none⟩ = some (.int .i64 r) ∧ w'.cell? ⟨w.heap.size, 3, none⟩ = some (.slice a n c) ∧ w'.cell? ⟨w.heap.size, 4, none⟩ = some (.int .i64 t) ∧ w'.cell? ⟨w.heap.size, 5, none⟩ = some (.int .i64 u))))
    have hkp0 := HKP.out w6 (Below.refl _ _)
    have HT6 := Lib.hid (toBlock_any p q r t u a n c L w6.drew (hkr.below (Below.refl _ _).drew) HSN.out HWF.out)
    clear hK6 hkr
    go_upto_region 10 with (fail)
    go_region_held3 (fun w' => (w'.cell? ⟨w4.heap.size, 0, none⟩ = some (.int .i64 p) ∧ w'.cell? ⟨w4.heap.size, 1, none⟩ = some (.int .i64 q) ∧ w'.cell? ⟨w4.heap.size, 2, none⟩ = some (.int .i64 r) ∧ w'.cell? ⟨w4.heap.size, 3, none⟩ = some (.slice a4 L.length c4) ∧ w'.cell? ⟨w4.heap.size, 4, none⟩ = some (.int .i64 t) ∧ w'.cell? ⟨w4.heap.size, 5, none⟩ = some (.int .i64 u)) ∧ (w'.cell? ⟨w.heap.size, 0, none⟩ = some (.int .i64 p) ∧ w'.cell? ⟨w.heap.size, 1, none⟩ = some (.int .i64 q) ∧ w'.cell? ⟨w.heap.size, 2, none⟩ = some (.int .i64 r) ∧ w'.cell? ⟨w.heap.size, 3, none⟩ = some (.slice a n c) ∧ w'.cell? ⟨w.heap.size, 4, none⟩ = some (.int .i64 t) ∧ w'.cell? ⟨w.heap.size, 5, none⟩ = some (.int .i64 u))) (first | exact hkp0 | exact hkp | exact hkp2 | go_keep)
      (first | (go_at_call 13; (with_reducible refine HT6.out.mono ?_); rintro e1 w7 ⟨v7, rfl, ho7, hwa7, -, hb7'⟩; obtain ⟨a7, c7, rfl, hr7, -, -, -⟩ := rowA_of_owns ho7 (by have := HL.out; have := HSN.out; simp only; omega) hwa7; have hb7 := (Below.refl w6.heap.size w6).drew.trans hb7'; have hkp := HKP.out _ hb7) | (go_at_call 15; refine (eqBlock_same p q r t u _ _ c4 _ c7 L _ (HO6.out.below hb7) hr7).mono ?_; rintro e1 w8 ⟨rfl, hb8'⟩; have hb8 := hb7.trans (hb8'.mono hb7.size); have hkp2 := HKP.out _ hb8))
    have HBF := Lib.hid ((HKK.out _ (HB6.out.trans (hb8.mono HB6.out.size))).2.2)
    clear hkp0 hkp hkp2 hb8 hb8' hb7 hb7' ho7 hwa7 hr7
    go_wp2
    go_ret
    exact ⟨rfl, HBF.out⟩
  · rw [if_neg hs]
    have HBF := Lib.hid ((HKK.out _ HB1.out).2.2)
    clear hs
    go_wp2
    go_ret
    exact ⟨rfl, HBF.out⟩
end Go.Proofs.Ytaaffpolmecicaa
