/- The walk of the law FnConflict (gen8/lawconf2.py). -/
import Derived.Test.YtfhbolpchmdaoaaLawConf
import Derived.Test.YtfhbolpchmdaoaaConfM
import Derived.Test.YtfhbolpchmdaoaaImplSer
import Derived.Test.YtfhbolpchmdaoaaConvX
import Derived.Test.YtfhbolpchmdaoaaConv
namespace Go.Proofs.Ytfhbolpchmdaoaa
open Go.RowKit
set_option linter.unusedVariables false
set_option linter.unusedSimpArgs false
/-- Two actions in a literal. -/
theorem rowA_two (w : World) (T : TypeId) {x y : Acn} (hx : WfA x) (hy : WfA y) :
    RowA (w.alloc (.cells #[.int .i64 x.kind, .int .i64 x.src, .int .i64 x.dst, .int .i64 x.amt, .int .i64 y.kind, .int .i64 y.src, .int .i64 y.dst, .int .i64 y.amt] T)) (some ⟨w.heap.size, 0, none⟩) 2 [x, y] := by
  refine ⟨rfl, by unfold maxLen; omega, fun _ => ⟨w.heap.size, 0, rfl, fun i hi => ?_⟩, fun z hz => ?_⟩
  · rcases (by omega : i = 0 ∨ i = 1) with rfl | rfl <;> simp [go_sem]
  · simp at hz; rcases hz with rfl | rfl <;> assumption
/-- The store of the law. -/
def lawS : List Ent := [(1, 40), (2, 8), (3, 900)]
theorem lawS_row (w : World) : RowE (w.alloc (.cells #[.int .i64 1, .int .i64 40, .int .i64 2, .int .i64 8, .int .i64 3, .int .i64 900] 31)) (some ⟨w.heap.size, 0, none⟩) 3 lawS := by
  have ho : Own (w.alloc (.cells #[.int .i64 1, .int .i64 40, .int .i64 2, .int .i64 8, .int .i64 3, .int .i64 900] 31)) w.heap.size 31 2 (.slice (some ⟨w.heap.size, 0, none⟩) 3 3) lawS.length (flatE lawS) := own_lit 31 2 #[.int .i64 1, .int .i64 40, .int .i64 2, .int .i64 8, .int .i64 3, .int .i64 900] 3 (Nat.le_refl _) (by unfold maxLen; omega) rfl
  obtain ⟨g, c, e, -, hr⟩ := rowE_of_own ho (by decide) (fun e he => by simp [lawS] at he; rcases he with rfl | rfl | rfl <;> exact ⟨by decide, by decide⟩)
  simp only [Value.slice.injEq, Option.some.injEq, Addr.mk.injEq, and_true] at e
  obtain ⟨rfl, -, -⟩ := e
  exact hr
/-- The cells of an element of a row of effects. -/
theorem RowFs.at {w : World} {b off n : Nat} {L : List Eff} (h : RowFs w (some ⟨b, off, none⟩) n L) (k : Nat) (hk : k < n) :
    ∃ (a1 : Option Addr) (n1 c1 : Nat) (a2 : Option Addr) (n2 c2 : Nat), w.cell? ⟨b, off + k * 3, none⟩ = some (.bool (L.getD k noEff).done) ∧ w.cell? ⟨b, off + k * 3 + 1, none⟩ = some (.slice a1 n1 c1) ∧ w.cell? ⟨b, off + k * 3 + 2, none⟩ = some (.slice a2 n2 c2) ∧ RowF w a1 n1 a2 n2 (L.getD k noEff) := by
  obtain ⟨-, -, h3⟩ := h
  obtain ⟨b', o', e, hc⟩ := h3 (by omega)
  simp only [Option.some.injEq, Addr.mk.injEq, and_true] at e
  obtain ⟨rfl, rfl⟩ := e
  obtain ⟨c0, ⟨x, c1, s1⟩, y, c2, s2⟩ := hc k hk
  obtain ⟨a1, n1, cap1, rfl, h1, -⟩ := s1
  obtain ⟨a2, n2, cap2, rfl, h2, -⟩ := s2
  exact ⟨a1, n1, cap1, a2, n2, cap2, c0, c1, c2, h1, h2⟩
set_option maxRecDepth 100000 in
set_option maxHeartbeats 8000000 in
theorem lawConflict (a : Option Addr) (len cap : Nat) (z : List Int) (w : World) (h : RowB w a len z) (hc : a = none → cap = 0) (hlc : len ≤ cap) :
    Calls Try.prog 3 #[.slice a len cap] w (LawTrue w) := by
  by_cases hs : len ≤ 1048576
  · have hs' : ¬ (1048576 : Int) < (len : Int) := by omega
    go_enter Try.func3, Try.ntmps3
    go_wp2_with fail
    refine (drawConflict_any a len cap z w h hlc).mono ?_; rintro e w1 ⟨p, q, r, t, p2, q2, r2, t2, rfl, hwA, hwB, hb1⟩
    have HWA := Lib.hid hwA
    have HWB := Lib.hid hwB
    clear h hs hs' hc hlc hwA hwB
    have HA0 := Lib.hid ((boxA_new w1 p q r t 24).alloc (.cells #[.int .i64 p2, .int .i64 q2, .int .i64 r2, .int .i64 t2] 24))
    have HB0 := Lib.hid (boxA_new (w1.alloc (.cells #[.int .i64 p, .int .i64 q, .int .i64 r, .int .i64 t] 24)) p2 q2 r2 t2 24)
    have HBB := Lib.hid (hb1.trans ((((Below.refl w1.heap.size w1).alloc (Nat.le_refl _) (.cells #[.int .i64 p, .int .i64 q, .int .i64 r, .int .i64 t] 24)).alloc (by simp) (.cells #[.int .i64 p2, .int .i64 q2, .int .i64 r2, .int .i64 t2] 24)).mono hb1.size))
    go_wp2_with fail
    obtain ⟨w5, hw5⟩ : ∃ w5, w5 = (w1.alloc (.cells #[.int .i64 p, .int .i64 q, .int .i64 r, .int .i64 t] 24)).alloc (.cells #[.int .i64 p2, .int .i64 q2, .int .i64 r2, .int .i64 t2] 24) := ⟨_, rfl⟩
    rw [← hw5] at HA0 HBB ⊢
    have hAB : (w1.alloc (.cells #[.int .i64 p, .int .i64 q, .int .i64 r, .int .i64 t] 24)).heap.size = w1.heap.size + 1 := by simp
    rw [← hw5, hAB] at HB0
    clear hAB hw5
    obtain ⟨GA, hGA⟩ : ∃ GA, GA = w1.heap.size := ⟨_, rfl⟩
    rw [← hGA] at HA0 HB0 ⊢
    clear hGA hb1
    have HA : Hid (BoxA w5 GA p q r t) := HA0
    have HB : Hid (BoxA w5 (GA + 1) p2 q2 r2 t2) := HB0
    clear HA0 HB0
    obtain ⟨v, hv⟩ : ∃ v, confM ⟨p, q, r, t⟩ ⟨p2, q2, r2, t2⟩ = v := ⟨_, rfl⟩
    have HV := Lib.hid hv
    have HV2 : Hid (confM ⟨p2, q2, r2, t2⟩ ⟨p, q, r, t⟩ = v) := Lib.hid (by rw [confM_symm]; exact hv)
    have hvv : (v != v) = false := by simp
    clear hv
    refine (conflict_impl p q r t p2 q2 r2 t2 _).mono ?_; rintro e w6 ⟨rfl, hb6'⟩
    rw [HV.out]
    have HA6 := Lib.hid (HA.out.below hb6')
    have HB6 := Lib.hid (HB.out.below hb6')
    have hb6 := HBB.out.trans (hb6'.mono HBB.out.size)
    clear HA HB HBB hb6'
    obtain ⟨c0, c1, c2, c3⟩ := HA6.out
    obtain ⟨d0, d1, d2, d3⟩ := HB6.out
    go_wp2_with fail
    refine (conflict_spec p q r t p2 q2 r2 t2 _).mono ?_; rintro e w7 ⟨rfl, hb7'⟩
    rw [HV.out]
    have HA7 := Lib.hid (HA6.out.below hb7')
    have HB7 := Lib.hid (HB6.out.below hb7')
    have hb7 := hb6.trans (hb7'.mono hb6.size)
    clear HA6 HB6 hb6 hb7' c0 c1 c2 c3 d0 d1 d2 d3
    obtain ⟨c0, c1, c2, c3⟩ := HA7.out
    obtain ⟨d0, d1, d2, d3⟩ := HB7.out
    go_wp2_with fail
    refine (conflict_impl p2 q2 r2 t2 p q r t _).mono ?_; rintro e w8 ⟨rfl, hb8'⟩
    rw [HV2.out]
    have HA8 := Lib.hid (HA7.out.below hb8')
    have HB8 := Lib.hid (HB7.out.below hb8')
    have hb8 := hb7.trans (hb8'.mono hb7.size)
    clear HA7 HB7 hb7 hb8' c0 c1 c2 c3 d0 d1 d2 d3
    obtain ⟨c0, c1, c2, c3⟩ := HA8.out
    obtain ⟨d0, d1, d2, d3⟩ := HB8.out
    cases v with
    | true =>
      go_wp2_with fail
      refine (alive_any _).mono ?_; rintro e w9 ⟨rfl, hb9'⟩
      go_wp2
      go_ret
      exact ⟨rfl, hb8.trans (hb9'.mono hb8.size)⟩
    | false =>
      go_wp2_with fail
      refine (actionValid_spec p q r t _).mono ?_; rintro e w9 ⟨rfl, hb9'⟩
      have HA9 := Lib.hid (HA8.out.below hb9')
      have HB9 := Lib.hid (HB8.out.below hb9')
      have hb9 := hb8.trans (hb9'.mono hb8.size)
      clear HA8 HB8 hb8 hb9' c0 c1 c2 c3 d0 d1 d2 d3
      obtain ⟨c0, c1, c2, c3⟩ := HA9.out
      obtain ⟨d0, d1, d2, d3⟩ := HB9.out
      cases hvA : actB ⟨p, q, r, t⟩ with
      | false =>
        go_wp2_with fail
        refine (alive_any _).mono ?_; rintro e w10 ⟨rfl, hb10'⟩
        go_wp2
        go_ret
        exact ⟨rfl, hb9.trans (hb10'.mono hb9.size)⟩
      | true =>
        have HVA := Lib.hid hvA
        clear hvA
        go_wp2_with fail
        refine (actionValid_spec p2 q2 r2 t2 _).mono ?_; rintro e w10 ⟨rfl, hb10'⟩
        have HA10 := Lib.hid (HA9.out.below hb10')
        have HB10 := Lib.hid (HB9.out.below hb10')
        have hb10 := hb9.trans (hb10'.mono hb9.size)
        clear HA9 HB9 hb9 hb10' c0 c1 c2 c3 d0 d1 d2 d3
        cases hvB : actB ⟨p2, q2, r2, t2⟩ with
        | false =>
          go_wp2_with fail
          refine (alive_any _).mono ?_; rintro e w11 ⟨rfl, hb11'⟩
          go_wp2
          go_ret
          exact ⟨rfl, hb10.trans (hb11'.mono hb10.size)⟩
        | true =>
          obtain ⟨T, x, y, hT1, hT2⟩ := ser_swap (S := lawS) (by decide) HVA.out hvB HV.out
          have hTl := serM_store lawS [⟨p, q, r, t⟩, ⟨p2, q2, r2, t2⟩]
          rw [hT1] at hTl
          have HT1 := Lib.hid hT1
          have HT2 := Lib.hid hT2
          have hTl4 : T.length ≤ 4000000 := by simp only at hTl; omega
          clear hvB hT1 hT2 hvv hTl
          have hrS := lawS_row w10
          have hbl := (Below.refl w10.heap.size w10).alloc (Nat.le_refl _) (.cells #[.int .i64 1, .int .i64 40, .int .i64 2, .int .i64 8, .int .i64 3, .int .i64 900] 31)
          have HA11 := Lib.hid (HA10.out.below hbl)
          have HB11 := Lib.hid (HB10.out.below hbl)
          have hb11 := hb10.trans (hbl.mono hb10.size)
          clear HA10 HB10 hb10 hbl
          go_upto_region 10 with (fail)
          obtain ⟨w11, hw11⟩ : ∃ w11, w11 = w10.alloc (.cells #[.int .i64 1, .int .i64 40, .int .i64 2, .int .i64 8, .int .i64 3, .int .i64 900] 31) := ⟨_, rfl⟩
          rw [← hw11] at hrS HA11 HB11 hb11 ⊢
          clear hw11
          obtain ⟨gS, hgS⟩ : ∃ gS, gS = w10.heap.size := ⟨_, rfl⟩
          rw [← hgS] at hrS ⊢
          clear hgS
          have HZ : Hid (some (⟨gS, 0, none⟩ : Addr) = none → 3 = 0) := Lib.hid (fun h => by cases h)
          obtain ⟨c0, c1, c2, c3⟩ := HA11.out
          obtain ⟨d0, d1, d2, d3⟩ := HB11.out
          have hra := rowA_two w11 24 HWA.out HWB.out
          have hbl := (Below.refl w11.heap.size w11).alloc (Nat.le_refl _) (.cells #[.int .i64 p, .int .i64 q, .int .i64 r, .int .i64 t, .int .i64 p2, .int .i64 q2, .int .i64 r2, .int .i64 t2] 24)
          have hrS12 := hrS.below hbl
          have HA12 := Lib.hid (HA11.out.below hbl)
          have HB12 := Lib.hid (HB11.out.below hbl)
          have hb12 := hb11.trans (hbl.mono hb11.size)
          clear HA11 HB11 hb11 hbl hrS
          go_wp2_with fail
          refine (runSerial_impl _ 3 3 lawS _ 2 2 [⟨p, q, r, t⟩, ⟨p2, q2, r2, t2⟩] _ hrS12 HZ.out hra).mono ?_; rintro e w13 ⟨v13, u13, rfl, hSF, hb13'⟩
          rw [HT1.out] at hSF
          obtain ⟨aX, cX, rfl, hrX, -⟩ := hSF.row hTl4
          obtain ⟨aF, cF, rfl, hrF, -, -⟩ := rowFs_of_own hSF.effs
          have hrS13 := hrS12.below hb13'
          have HA13 := Lib.hid (HA12.out.below hb13')
          have HB13 := Lib.hid (HB12.out.below hb13')
          have hb13 := hb12.trans (hb13'.mono hb12.size)
          clear HA12 HB12 hb12 hb13' hra hSF hrS12 c0 c1 c2 c3 d0 d1 d2 d3
          obtain ⟨c0, c1, c2, c3⟩ := HA13.out
          obtain ⟨d0, d1, d2, d3⟩ := HB13.out
          have hra := rowA_two w13 24 HWB.out HWA.out
          have hbl := (Below.refl w13.heap.size w13).alloc (Nat.le_refl _) (.cells #[.int .i64 p2, .int .i64 q2, .int .i64 r2, .int .i64 t2, .int .i64 p, .int .i64 q, .int .i64 r, .int .i64 t] 24)
          have hrS14 := hrS13.below hbl
          have hrX14 := hrX.below hbl
          have hrF14 := hrF.below hbl
          have hb14 := hb13.trans (hbl.mono hb13.size)
          clear HA13 HB13 hb13 hbl hrS13 hrX hrF
          go_wp2_with fail
          refine (runSerial_impl _ 3 3 lawS _ 2 2 [⟨p2, q2, r2, t2⟩, ⟨p, q, r, t⟩] _ hrS14 HZ.out hra).mono ?_; rintro e w15 ⟨v15, u15, rfl, hSF, hb15'⟩
          rw [HT2.out] at hSF
          obtain ⟨aY, cY, rfl, hrY, -⟩ := hSF.row hTl4
          obtain ⟨aG, cG, rfl, hrG, -, -⟩ := rowFs_of_own hSF.effs
          have hrX15 := hrX14.below hb15'
          have hrF15 := hrF14.below hb15'
          have hb15 := hb14.trans (hb15'.mono hb14.size)
          clear hb14 hb15' hra hSF hrS14 hrX14 hrF14 c0 c1 c2 c3 d0 d1 d2 d3
          simp only [List.length_cons, List.length_nil] at hrF15 hrG ⊢
          obtain ⟨bF, oF, rfl, -⟩ := hrF15.2.2 (by omega)
          obtain ⟨bG, oG, rfl, -⟩ := hrG.2.2 (by omega)
          obtain ⟨a1, n1, k1, a2, n2, k2, f00, f01, f02, HE0⟩ := hrF15.at 0 (by omega)
          obtain ⟨a3, n3, k3, a4, n4, k4, f10, f11, f12, HE1⟩ := hrF15.at 1 (by omega)
          obtain ⟨a5, n5, k5, a6, n6, k6, g00, g01, g02, HG0⟩ := hrG.at 0 (by omega)
          obtain ⟨a7, n7, k7, a8, n8, k8, g10, g11, g12, HG1⟩ := hrG.at 1 (by omega)
          simp only [List.getD_cons_zero, List.getD_cons_succ, Nat.zero_mul, Nat.add_zero, Nat.one_mul] at f00 f01 f02 f10 f11 f12 g00 g01 g02 g10 g11 g12 HE0 HE1 HG0 HG1
          obtain rfl : n1 = n7 := by rw [← HE0.1.1, ← HG1.1.1]
          obtain rfl : n2 = n8 := by rw [← HE0.2.1, ← HG1.2.1]
          obtain rfl : n3 = n5 := by rw [← HE1.1.1, ← HG0.1.1]
          obtain rfl : n4 = n6 := by rw [← HE1.2.1, ← HG0.2.1]
          have HX := Lib.hid hrX15
          have HY := Lib.hid hrY
          have hbF : bF < w15.heap.size := World.block_lt_of_cell? _ _ f00
          have hbG : bG < w15.heap.size := World.block_lt_of_cell? _ _ g00
          have E0 := Lib.hid HE0
          have E1 := Lib.hid HE1
          have G0 := Lib.hid HG0
          have G1 := Lib.hid HG1
          have HBZ := Lib.hid hb15
          obtain ⟨m, hm⟩ : ∃ m, m = T.length := ⟨_, rfl⟩
          rw [← hm] at HX HY ⊢
          clear hrX15 hrY hrF15 hrG HE0 HE1 HG0 HG1 hb15 hm hTl4
          go_wp2
          refine wp_region_light (by kernel_rfl) (fun lz fz wz => Vals [(0, 66, (.slice aX m cX)), (1, 67, (.slice aY m cY)), (2, 68, (.bool true)), (3, 69, (.bool true)), (4, 70, (.slice (some ⟨bF, oF, none⟩) 2 cF)), (5, 71, (.int .i64 2)), (6, 72, (.bool true)), (7, 73, (.bool true)), (8, 74, (.bool true)), (9, 75, (.slice (some ⟨bG, oG, none⟩) 2 cG)), (10, 76, (.int .i64 2)), (11, 77, (.bool true)), (12, 78, (.bool true)), (13, 79, (.bool true)), (14, 80, (.slice (some ⟨bF, oF, none⟩) 2 cF)), (15, 81, (.pointer (some ⟨bF, oF, none⟩))), (16, 82, (.agg #[.bool x.done, .slice a1 n1 k1, .slice a2 n2 k2])), (17, 83, (.slice (some ⟨bG, oG, none⟩) 2 cG)), (18, 84, (.pointer (some ⟨bG, oG + 3, none⟩))), (19, 85, (.agg #[.bool x.done, .slice a7 n1 k7, .slice a8 n2 k8])), (20, 86, (.bool true)), (21, 87, (.bool true)), (22, 88, (.bool true)), (23, 89, (.slice (some ⟨bF, oF, none⟩) 2 cF)), (24, 90, (.pointer (some ⟨bF, oF + 3, none⟩))), (25, 91, (.agg #[.bool y.done, .slice a3 n3 k3, .slice a4 n4 k4])), (26, 92, (.slice (some ⟨bG, oG, none⟩) 2 cG)), (27, 93, (.pointer (some ⟨bG, oG, none⟩))), (28, 94, (.agg #[.bool y.done, .slice a5 n3 k5, .slice a6 n4 k6])), (29, 95, (.bool true)), (30, 96, (.bool true)), (31, 2, (.bool true))] lz fz ∧ Facts w15 [] lz fz wz) 97 rfl [66, 67, 68, 69, 70, 71, 72, 73, 74, 75, 76, 77, 78, 79, 80, 81, 82, 83, 84, 85, 86, 87, 88, 89, 90, 91, 92, 93, 94, 95, 96, 2] (by kernel_rfl) (by kernel_rfl) (by kernel_rfl) (fun f => ⟨Vals.nothing _ f, Facts.nothing _ _ f⟩) ?_ ?_
          · intro i hi
            rcases (by have : i < 32 := hi; omega : i = 0 ∨ i = 1 ∨ i = 2 ∨ i = 3 ∨ i = 4 ∨ i = 5 ∨ i = 6 ∨ i = 7 ∨ i = 8 ∨ i = 9 ∨ i = 10 ∨ i = 11 ∨ i = 12 ∨ i = 13 ∨ i = 14 ∨ i = 15 ∨ i = 16 ∨ i = 17 ∨ i = 18 ∨ i = 19 ∨ i = 20 ∨ i = 21 ∨ i = 22 ∨ i = 23 ∨ i = 24 ∨ i = 25 ∨ i = 26 ∨ i = 27 ∨ i = 28 ∨ i = 29 ∨ i = 30 ∨ i = 31) with rfl | rfl | rfl | rfl | rfl | rfl | rfl | rfl | rfl | rfl | rfl | rfl | rfl | rfl | rfl | rfl | rfl | rfl | rfl | rfl | rfl | rfl | rfl | rfl | rfl | rfl | rfl | rfl | rfl | rfl | rfl | rfl
            · clear hi; intro o ho lz fz w' A hJ hli ha hA K hK
              obtain ⟨hv, hq⟩ := hJ
              obtain rfl := Option.some.inj ho
              clear ho
              have hr := hq
              have g7 := slot_out hA 7 _ (by decide) (by decide) rfl
              simp only [List.getD_cons_succ, List.getD_cons_zero] at g7
              have gg7 := slot_get g7
              rw [if_pos (by rfl)]
              have hF := hK (.slice aX m cX) w' ⟨hv.step 0 66 _ (by simp), hq.step 0 66 _ (Below.refl _ _) (by simp)⟩
              clear hv hq hr ha hK hA hli
              go_simp
              exact hF
            · clear hi; intro o ho lz fz w' A hJ hli ha hA K hK
              obtain ⟨hv, hq⟩ := hJ
              obtain rfl := Option.some.inj ho
              clear ho
              have hr := hq
              have g9 := slot_out hA 9 _ (by decide) (by decide) rfl
              simp only [List.getD_cons_succ, List.getD_cons_zero] at g9
              have gg9 := slot_get g9
              rw [if_pos (by rfl)]
              have hF := hK (.slice aY m cY) w' ⟨hv.step 1 67 _ (by simp), hq.step 1 67 _ (Below.refl _ _) (by simp)⟩
              clear hv hq hr ha hK hA hli
              go_simp
              exact hF
            · clear hi; intro o ho lz fz w' A hJ hli ha hA K hK
              obtain ⟨hv, hq⟩ := hJ
              obtain rfl := Option.some.inj ho
              clear ho
              have hr := hq
              have g66 := slot_in hA 66 (by decide) (by decide) (hv (0, 66, (.slice aX m cX)) (by simp) (ha 0 (by simp [aftersOf, Region.binds])))
              have g67 := slot_in hA 67 (by decide) (by decide) (hv (1, 67, (.slice aY m cY)) (by simp) (ha 1 (by simp [aftersOf, Region.binds])))
              have gg66 := slot_get g66
              have gg67 := slot_get g67
              rw [if_pos (by rfl)]
              clear hA
              go_simp
              refine (sameStore_same _ _ _ cX cY T _ (HX.out.below hr.1) (HY.out.below hr.1)).mono ?_
              rintro e w9 ⟨rfl, hd9⟩
              have hb9 := hd9.below w'.heap.size
              exact hK (.bool true) w9 ⟨hv.step 2 68 _ (by simp), hq.step 2 68 _ hb9 (by simp)⟩
            · clear hi; intro o ho lz fz w' A hJ hli ha hA K hK
              obtain ⟨hv, hq⟩ := hJ
              obtain rfl := Option.some.inj ho
              clear ho
              have hr := hq
              have g68 := slot_in hA 68 (by decide) (by decide) (hv (2, 68, (.bool true)) (by simp) (ha 2 (by simp [aftersOf, Region.binds])))
              have gg68 := slot_get g68
              rw [if_pos (by rfl)]
              have hF := hK (.bool true) w' ⟨hv.step 3 69 _ (by simp), hq.step 3 69 _ (Below.refl _ _) (by simp)⟩
              clear hv hq hr ha hK hA hli
              go_simp
              exact hF
            · clear hi; intro o ho lz fz w' A hJ hli ha hA K hK
              obtain ⟨hv, hq⟩ := hJ
              obtain rfl := Option.some.inj ho
              clear ho
              have hr := hq
              have g8 := slot_out hA 8 _ (by decide) (by decide) rfl
              simp only [List.getD_cons_succ, List.getD_cons_zero] at g8
              have g69 := slot_in hA 69 (by decide) (by decide) (hv (3, 69, (.bool true)) (by simp) (ha 3 (by simp [aftersOf, Region.binds])))
              have gg8 := slot_get g8
              have gg69 := slot_get g69
              have gw := slot_bool g69
              rw [if_pos (by simp [Region.wanted, yielded, gw])]
              clear gw
              have hF := hK (.slice (some ⟨bF, oF, none⟩) 2 cF) w' ⟨hv.step 4 70 _ (by simp), hq.step 4 70 _ (Below.refl _ _) (by simp)⟩
              clear hv hq hr ha hK hA hli
              go_simp
              exact hF
            · clear hi; intro o ho lz fz w' A hJ hli ha hA K hK
              obtain ⟨hv, hq⟩ := hJ
              obtain rfl := Option.some.inj ho
              clear ho
              have hr := hq
              have g70 := slot_in hA 70 (by decide) (by decide) (hv (4, 70, (.slice (some ⟨bF, oF, none⟩) 2 cF)) (by simp) (ha 4 (by simp [aftersOf, Region.binds])))
              have g69 := slot_in hA 69 (by decide) (by decide) (hv (3, 69, (.bool true)) (by simp) (ha 3 (by simp [aftersOf, Region.binds])))
              have gg70 := slot_get g70
              have gg69 := slot_get g69
              have gw := slot_bool g69
              rw [if_pos (by simp [Region.wanted, yielded, gw])]
              clear gw
              have hF := hK (.int .i64 2) w' ⟨hv.step 5 71 _ (by simp), hq.step 5 71 _ (Below.refl _ _) (by simp)⟩
              clear hv hq hr ha hK hA hli
              go_simp
              exact hF
            · clear hi; intro o ho lz fz w' A hJ hli ha hA K hK
              obtain ⟨hv, hq⟩ := hJ
              obtain rfl := Option.some.inj ho
              clear ho
              have hr := hq
              have g71 := slot_in hA 71 (by decide) (by decide) (hv (5, 71, (.int .i64 2)) (by simp) (ha 5 (by simp [aftersOf, Region.binds])))
              have g69 := slot_in hA 69 (by decide) (by decide) (hv (3, 69, (.bool true)) (by simp) (ha 3 (by simp [aftersOf, Region.binds])))
              have gg71 := slot_get g71
              have gg69 := slot_get g69
              have gw := slot_bool g69
              rw [if_pos (by simp [Region.wanted, yielded, gw])]
              clear gw
              have hF := hK (.bool true) w' ⟨hv.step 6 72 _ (by simp), hq.step 6 72 _ (Below.refl _ _) (by simp)⟩
              clear hv hq hr ha hK hA hli
              go_simp
              exact hF
            · clear hi; intro o ho lz fz w' A hJ hli ha hA K hK
              obtain ⟨hv, hq⟩ := hJ
              obtain rfl := Option.some.inj ho
              clear ho
              have hr := hq
              have g69 := slot_in hA 69 (by decide) (by decide) (hv (3, 69, (.bool true)) (by simp) (ha 3 (by simp [aftersOf, Region.binds])))
              have g72 := slot_in hA 72 (by decide) (by decide) (hv (6, 72, (.bool true)) (by simp) (ha 6 (by simp [aftersOf, Region.binds])))
              have gg69 := slot_get g69
              have gg72 := slot_get g72
              rw [if_pos (by rfl)]
              have hF := hK (.bool true) w' ⟨hv.step 7 73 _ (by simp), hq.step 7 73 _ (Below.refl _ _) (by simp)⟩
              clear hv hq hr ha hK hA hli
              go_simp
              exact hF
            · clear hi; intro o ho lz fz w' A hJ hli ha hA K hK
              obtain ⟨hv, hq⟩ := hJ
              obtain rfl := Option.some.inj ho
              clear ho
              have hr := hq
              have g73 := slot_in hA 73 (by decide) (by decide) (hv (7, 73, (.bool true)) (by simp) (ha 7 (by simp [aftersOf, Region.binds])))
              have gg73 := slot_get g73
              rw [if_pos (by rfl)]
              have hF := hK (.bool true) w' ⟨hv.step 8 74 _ (by simp), hq.step 8 74 _ (Below.refl _ _) (by simp)⟩
              clear hv hq hr ha hK hA hli
              go_simp
              exact hF
            · clear hi; intro o ho lz fz w' A hJ hli ha hA K hK
              obtain ⟨hv, hq⟩ := hJ
              obtain rfl := Option.some.inj ho
              clear ho
              have hr := hq
              have g10 := slot_out hA 10 _ (by decide) (by decide) rfl
              simp only [List.getD_cons_succ, List.getD_cons_zero] at g10
              have g74 := slot_in hA 74 (by decide) (by decide) (hv (8, 74, (.bool true)) (by simp) (ha 8 (by simp [aftersOf, Region.binds])))
              have gg10 := slot_get g10
              have gg74 := slot_get g74
              have gw := slot_bool g74
              rw [if_pos (by simp [Region.wanted, yielded, gw])]
              clear gw
              have hF := hK (.slice (some ⟨bG, oG, none⟩) 2 cG) w' ⟨hv.step 9 75 _ (by simp), hq.step 9 75 _ (Below.refl _ _) (by simp)⟩
              clear hv hq hr ha hK hA hli
              go_simp
              exact hF
            · clear hi; intro o ho lz fz w' A hJ hli ha hA K hK
              obtain ⟨hv, hq⟩ := hJ
              obtain rfl := Option.some.inj ho
              clear ho
              have hr := hq
              have g75 := slot_in hA 75 (by decide) (by decide) (hv (9, 75, (.slice (some ⟨bG, oG, none⟩) 2 cG)) (by simp) (ha 9 (by simp [aftersOf, Region.binds])))
              have g74 := slot_in hA 74 (by decide) (by decide) (hv (8, 74, (.bool true)) (by simp) (ha 8 (by simp [aftersOf, Region.binds])))
              have gg75 := slot_get g75
              have gg74 := slot_get g74
              have gw := slot_bool g74
              rw [if_pos (by simp [Region.wanted, yielded, gw])]
              clear gw
              have hF := hK (.int .i64 2) w' ⟨hv.step 10 76 _ (by simp), hq.step 10 76 _ (Below.refl _ _) (by simp)⟩
              clear hv hq hr ha hK hA hli
              go_simp
              exact hF
            · clear hi; intro o ho lz fz w' A hJ hli ha hA K hK
              obtain ⟨hv, hq⟩ := hJ
              obtain rfl := Option.some.inj ho
              clear ho
              have hr := hq
              have g76 := slot_in hA 76 (by decide) (by decide) (hv (10, 76, (.int .i64 2)) (by simp) (ha 10 (by simp [aftersOf, Region.binds])))
              have g74 := slot_in hA 74 (by decide) (by decide) (hv (8, 74, (.bool true)) (by simp) (ha 8 (by simp [aftersOf, Region.binds])))
              have gg76 := slot_get g76
              have gg74 := slot_get g74
              have gw := slot_bool g74
              rw [if_pos (by simp [Region.wanted, yielded, gw])]
              clear gw
              have hF := hK (.bool true) w' ⟨hv.step 11 77 _ (by simp), hq.step 11 77 _ (Below.refl _ _) (by simp)⟩
              clear hv hq hr ha hK hA hli
              go_simp
              exact hF
            · clear hi; intro o ho lz fz w' A hJ hli ha hA K hK
              obtain ⟨hv, hq⟩ := hJ
              obtain rfl := Option.some.inj ho
              clear ho
              have hr := hq
              have g74 := slot_in hA 74 (by decide) (by decide) (hv (8, 74, (.bool true)) (by simp) (ha 8 (by simp [aftersOf, Region.binds])))
              have g77 := slot_in hA 77 (by decide) (by decide) (hv (11, 77, (.bool true)) (by simp) (ha 11 (by simp [aftersOf, Region.binds])))
              have gg74 := slot_get g74
              have gg77 := slot_get g77
              rw [if_pos (by rfl)]
              have hF := hK (.bool true) w' ⟨hv.step 12 78 _ (by simp), hq.step 12 78 _ (Below.refl _ _) (by simp)⟩
              clear hv hq hr ha hK hA hli
              go_simp
              exact hF
            · clear hi; intro o ho lz fz w' A hJ hli ha hA K hK
              obtain ⟨hv, hq⟩ := hJ
              obtain rfl := Option.some.inj ho
              clear ho
              have hr := hq
              have g78 := slot_in hA 78 (by decide) (by decide) (hv (12, 78, (.bool true)) (by simp) (ha 12 (by simp [aftersOf, Region.binds])))
              have gg78 := slot_get g78
              rw [if_pos (by rfl)]
              have hF := hK (.bool true) w' ⟨hv.step 13 79 _ (by simp), hq.step 13 79 _ (Below.refl _ _) (by simp)⟩
              clear hv hq hr ha hK hA hli
              go_simp
              exact hF
            · clear hi; intro o ho lz fz w' A hJ hli ha hA K hK
              obtain ⟨hv, hq⟩ := hJ
              obtain rfl := Option.some.inj ho
              clear ho
              have hr := hq
              have g8 := slot_out hA 8 _ (by decide) (by decide) rfl
              simp only [List.getD_cons_succ, List.getD_cons_zero] at g8
              have g79 := slot_in hA 79 (by decide) (by decide) (hv (13, 79, (.bool true)) (by simp) (ha 13 (by simp [aftersOf, Region.binds])))
              have gg8 := slot_get g8
              have gg79 := slot_get g79
              have gw := slot_bool g79
              rw [if_pos (by simp [Region.wanted, yielded, gw])]
              clear gw
              have hF := hK (.slice (some ⟨bF, oF, none⟩) 2 cF) w' ⟨hv.step 14 80 _ (by simp), hq.step 14 80 _ (Below.refl _ _) (by simp)⟩
              clear hv hq hr ha hK hA hli
              go_simp
              exact hF
            · clear hi; intro o ho lz fz w' A hJ hli ha hA K hK
              obtain ⟨hv, hq⟩ := hJ
              obtain rfl := Option.some.inj ho
              clear ho
              have hr := hq
              have g80 := slot_in hA 80 (by decide) (by decide) (hv (14, 80, (.slice (some ⟨bF, oF, none⟩) 2 cF)) (by simp) (ha 14 (by simp [aftersOf, Region.binds])))
              have g79 := slot_in hA 79 (by decide) (by decide) (hv (13, 79, (.bool true)) (by simp) (ha 13 (by simp [aftersOf, Region.binds])))
              have gg80 := slot_get g80
              have gg79 := slot_get g79
              have gw := slot_bool g79
              rw [if_pos (by simp [Region.wanted, yielded, gw])]
              clear gw
              have hF := hK (.pointer (some ⟨bF, oF, none⟩)) w' ⟨hv.step 15 81 _ (by simp), hq.step 15 81 _ (Below.refl _ _) (by simp)⟩
              clear hv hq hr ha hK hA hli
              go_simp
              exact hF
            · clear hi; intro o ho lz fz w' A hJ hli ha hA K hK
              obtain ⟨hv, hq⟩ := hJ
              obtain rfl := Option.some.inj ho
              clear ho
              have hr := hq
              have g81 := slot_in hA 81 (by decide) (by decide) (hv (15, 81, (.pointer (some ⟨bF, oF, none⟩))) (by simp) (ha 15 (by simp [aftersOf, Region.binds])))
              have g79 := slot_in hA 79 (by decide) (by decide) (hv (13, 79, (.bool true)) (by simp) (ha 13 (by simp [aftersOf, Region.binds])))
              have gg81 := slot_get g81
              have gg79 := slot_get g79
              have gw := slot_bool g79
              rw [if_pos (by simp [Region.wanted, yielded, gw])]
              clear gw
              have kz0 := (hr.1.cell (p := ⟨bF, oF, none⟩) hbF).trans f00
              have kz1 := (hr.1.cell (p := ⟨bF, oF + 1, none⟩) hbF).trans f01
              have kz2 := (hr.1.cell (p := ⟨bF, oF + 2, none⟩) hbF).trans f02
              have hF := hK (.agg #[.bool x.done, .slice a1 n1 k1, .slice a2 n2 k2]) w' ⟨hv.step 16 82 _ (by simp), hq.step 16 82 _ (Below.refl _ _) (by simp)⟩
              clear hv hq hr ha hK hA hli
              go_simp
              exact hF
            · clear hi; intro o ho lz fz w' A hJ hli ha hA K hK
              obtain ⟨hv, hq⟩ := hJ
              obtain rfl := Option.some.inj ho
              clear ho
              have hr := hq
              have g10 := slot_out hA 10 _ (by decide) (by decide) rfl
              simp only [List.getD_cons_succ, List.getD_cons_zero] at g10
              have g79 := slot_in hA 79 (by decide) (by decide) (hv (13, 79, (.bool true)) (by simp) (ha 13 (by simp [aftersOf, Region.binds])))
              have gg10 := slot_get g10
              have gg79 := slot_get g79
              have gw := slot_bool g79
              rw [if_pos (by simp [Region.wanted, yielded, gw])]
              clear gw
              have hF := hK (.slice (some ⟨bG, oG, none⟩) 2 cG) w' ⟨hv.step 17 83 _ (by simp), hq.step 17 83 _ (Below.refl _ _) (by simp)⟩
              clear hv hq hr ha hK hA hli
              go_simp
              exact hF
            · clear hi; intro o ho lz fz w' A hJ hli ha hA K hK
              obtain ⟨hv, hq⟩ := hJ
              obtain rfl := Option.some.inj ho
              clear ho
              have hr := hq
              have g83 := slot_in hA 83 (by decide) (by decide) (hv (17, 83, (.slice (some ⟨bG, oG, none⟩) 2 cG)) (by simp) (ha 17 (by simp [aftersOf, Region.binds])))
              have g79 := slot_in hA 79 (by decide) (by decide) (hv (13, 79, (.bool true)) (by simp) (ha 13 (by simp [aftersOf, Region.binds])))
              have gg83 := slot_get g83
              have gg79 := slot_get g79
              have gw := slot_bool g79
              rw [if_pos (by simp [Region.wanted, yielded, gw])]
              clear gw
              have hF := hK (.pointer (some ⟨bG, oG + 3, none⟩)) w' ⟨hv.step 18 84 _ (by simp), hq.step 18 84 _ (Below.refl _ _) (by simp)⟩
              clear hv hq hr ha hK hA hli
              go_simp
              exact hF
            · clear hi; intro o ho lz fz w' A hJ hli ha hA K hK
              obtain ⟨hv, hq⟩ := hJ
              obtain rfl := Option.some.inj ho
              clear ho
              have hr := hq
              have g84 := slot_in hA 84 (by decide) (by decide) (hv (18, 84, (.pointer (some ⟨bG, oG + 3, none⟩))) (by simp) (ha 18 (by simp [aftersOf, Region.binds])))
              have g79 := slot_in hA 79 (by decide) (by decide) (hv (13, 79, (.bool true)) (by simp) (ha 13 (by simp [aftersOf, Region.binds])))
              have gg84 := slot_get g84
              have gg79 := slot_get g79
              have gw := slot_bool g79
              rw [if_pos (by simp [Region.wanted, yielded, gw])]
              clear gw
              have kz0 := (hr.1.cell (p := ⟨bG, oG + 3, none⟩) hbG).trans g10
              have kz1 := (hr.1.cell (p := ⟨bG, oG + 3 + 1, none⟩) hbG).trans g11
              have kz2 := (hr.1.cell (p := ⟨bG, oG + 3 + 2, none⟩) hbG).trans g12
              have hF := hK (.agg #[.bool x.done, .slice a7 n1 k7, .slice a8 n2 k8]) w' ⟨hv.step 19 85 _ (by simp), hq.step 19 85 _ (Below.refl _ _) (by simp)⟩
              clear hv hq hr ha hK hA hli
              go_simp
              exact hF
            · clear hi; intro o ho lz fz w' A hJ hli ha hA K hK
              obtain ⟨hv, hq⟩ := hJ
              obtain rfl := Option.some.inj ho
              clear ho
              have hr := hq
              have g82 := slot_in hA 82 (by decide) (by decide) (hv (16, 82, (.agg #[.bool x.done, .slice a1 n1 k1, .slice a2 n2 k2])) (by simp) (ha 16 (by simp [aftersOf, Region.binds])))
              have g85 := slot_in hA 85 (by decide) (by decide) (hv (19, 85, (.agg #[.bool x.done, .slice a7 n1 k7, .slice a8 n2 k8])) (by simp) (ha 19 (by simp [aftersOf, Region.binds])))
              have g79 := slot_in hA 79 (by decide) (by decide) (hv (13, 79, (.bool true)) (by simp) (ha 13 (by simp [aftersOf, Region.binds])))
              have gg82 := slot_get g82
              have gg85 := slot_get g85
              have gg79 := slot_get g79
              have gw := slot_bool g79
              rw [if_pos (by simp [Region.wanted, yielded, gw])]
              clear gw
              clear hA
              go_simp
              refine (sameEffect_same a1 n1 k1 a2 n2 k2 a7 k7 a8 k8 x _ (E0.out.below hr.1) (G1.out.below hr.1)).mono ?_
              rintro e w9 ⟨rfl, hb9⟩
              exact hK (.bool true) w9 ⟨hv.step 20 86 _ (by simp), hq.step 20 86 _ hb9 (by simp)⟩
            · clear hi; intro o ho lz fz w' A hJ hli ha hA K hK
              obtain ⟨hv, hq⟩ := hJ
              obtain rfl := Option.some.inj ho
              clear ho
              have hr := hq
              have g79 := slot_in hA 79 (by decide) (by decide) (hv (13, 79, (.bool true)) (by simp) (ha 13 (by simp [aftersOf, Region.binds])))
              have g86 := slot_in hA 86 (by decide) (by decide) (hv (20, 86, (.bool true)) (by simp) (ha 20 (by simp [aftersOf, Region.binds])))
              have gg79 := slot_get g79
              have gg86 := slot_get g86
              rw [if_pos (by rfl)]
              have hF := hK (.bool true) w' ⟨hv.step 21 87 _ (by simp), hq.step 21 87 _ (Below.refl _ _) (by simp)⟩
              clear hv hq hr ha hK hA hli
              go_simp
              exact hF
            · clear hi; intro o ho lz fz w' A hJ hli ha hA K hK
              obtain ⟨hv, hq⟩ := hJ
              obtain rfl := Option.some.inj ho
              clear ho
              have hr := hq
              have g87 := slot_in hA 87 (by decide) (by decide) (hv (21, 87, (.bool true)) (by simp) (ha 21 (by simp [aftersOf, Region.binds])))
              have gg87 := slot_get g87
              rw [if_pos (by rfl)]
              have hF := hK (.bool true) w' ⟨hv.step 22 88 _ (by simp), hq.step 22 88 _ (Below.refl _ _) (by simp)⟩
              clear hv hq hr ha hK hA hli
              go_simp
              exact hF
            · clear hi; intro o ho lz fz w' A hJ hli ha hA K hK
              obtain ⟨hv, hq⟩ := hJ
              obtain rfl := Option.some.inj ho
              clear ho
              have hr := hq
              have g8 := slot_out hA 8 _ (by decide) (by decide) rfl
              simp only [List.getD_cons_succ, List.getD_cons_zero] at g8
              have g88 := slot_in hA 88 (by decide) (by decide) (hv (22, 88, (.bool true)) (by simp) (ha 22 (by simp [aftersOf, Region.binds])))
              have gg8 := slot_get g8
              have gg88 := slot_get g88
              have gw := slot_bool g88
              rw [if_pos (by simp [Region.wanted, yielded, gw])]
              clear gw
              have hF := hK (.slice (some ⟨bF, oF, none⟩) 2 cF) w' ⟨hv.step 23 89 _ (by simp), hq.step 23 89 _ (Below.refl _ _) (by simp)⟩
              clear hv hq hr ha hK hA hli
              go_simp
              exact hF
            · clear hi; intro o ho lz fz w' A hJ hli ha hA K hK
              obtain ⟨hv, hq⟩ := hJ
              obtain rfl := Option.some.inj ho
              clear ho
              have hr := hq
              have g89 := slot_in hA 89 (by decide) (by decide) (hv (23, 89, (.slice (some ⟨bF, oF, none⟩) 2 cF)) (by simp) (ha 23 (by simp [aftersOf, Region.binds])))
              have g88 := slot_in hA 88 (by decide) (by decide) (hv (22, 88, (.bool true)) (by simp) (ha 22 (by simp [aftersOf, Region.binds])))
              have gg89 := slot_get g89
              have gg88 := slot_get g88
              have gw := slot_bool g88
              rw [if_pos (by simp [Region.wanted, yielded, gw])]
              clear gw
              have hF := hK (.pointer (some ⟨bF, oF + 3, none⟩)) w' ⟨hv.step 24 90 _ (by simp), hq.step 24 90 _ (Below.refl _ _) (by simp)⟩
              clear hv hq hr ha hK hA hli
              go_simp
              exact hF
            · clear hi; intro o ho lz fz w' A hJ hli ha hA K hK
              obtain ⟨hv, hq⟩ := hJ
              obtain rfl := Option.some.inj ho
              clear ho
              have hr := hq
              have g90 := slot_in hA 90 (by decide) (by decide) (hv (24, 90, (.pointer (some ⟨bF, oF + 3, none⟩))) (by simp) (ha 24 (by simp [aftersOf, Region.binds])))
              have g88 := slot_in hA 88 (by decide) (by decide) (hv (22, 88, (.bool true)) (by simp) (ha 22 (by simp [aftersOf, Region.binds])))
              have gg90 := slot_get g90
              have gg88 := slot_get g88
              have gw := slot_bool g88
              rw [if_pos (by simp [Region.wanted, yielded, gw])]
              clear gw
              have kz0 := (hr.1.cell (p := ⟨bF, oF + 3, none⟩) hbF).trans f10
              have kz1 := (hr.1.cell (p := ⟨bF, oF + 3 + 1, none⟩) hbF).trans f11
              have kz2 := (hr.1.cell (p := ⟨bF, oF + 3 + 2, none⟩) hbF).trans f12
              have hF := hK (.agg #[.bool y.done, .slice a3 n3 k3, .slice a4 n4 k4]) w' ⟨hv.step 25 91 _ (by simp), hq.step 25 91 _ (Below.refl _ _) (by simp)⟩
              clear hv hq hr ha hK hA hli
              go_simp
              exact hF
            · clear hi; intro o ho lz fz w' A hJ hli ha hA K hK
              obtain ⟨hv, hq⟩ := hJ
              obtain rfl := Option.some.inj ho
              clear ho
              have hr := hq
              have g10 := slot_out hA 10 _ (by decide) (by decide) rfl
              simp only [List.getD_cons_succ, List.getD_cons_zero] at g10
              have g88 := slot_in hA 88 (by decide) (by decide) (hv (22, 88, (.bool true)) (by simp) (ha 22 (by simp [aftersOf, Region.binds])))
              have gg10 := slot_get g10
              have gg88 := slot_get g88
              have gw := slot_bool g88
              rw [if_pos (by simp [Region.wanted, yielded, gw])]
              clear gw
              have hF := hK (.slice (some ⟨bG, oG, none⟩) 2 cG) w' ⟨hv.step 26 92 _ (by simp), hq.step 26 92 _ (Below.refl _ _) (by simp)⟩
              clear hv hq hr ha hK hA hli
              go_simp
              exact hF
            · clear hi; intro o ho lz fz w' A hJ hli ha hA K hK
              obtain ⟨hv, hq⟩ := hJ
              obtain rfl := Option.some.inj ho
              clear ho
              have hr := hq
              have g92 := slot_in hA 92 (by decide) (by decide) (hv (26, 92, (.slice (some ⟨bG, oG, none⟩) 2 cG)) (by simp) (ha 26 (by simp [aftersOf, Region.binds])))
              have g88 := slot_in hA 88 (by decide) (by decide) (hv (22, 88, (.bool true)) (by simp) (ha 22 (by simp [aftersOf, Region.binds])))
              have gg92 := slot_get g92
              have gg88 := slot_get g88
              have gw := slot_bool g88
              rw [if_pos (by simp [Region.wanted, yielded, gw])]
              clear gw
              have hF := hK (.pointer (some ⟨bG, oG, none⟩)) w' ⟨hv.step 27 93 _ (by simp), hq.step 27 93 _ (Below.refl _ _) (by simp)⟩
              clear hv hq hr ha hK hA hli
              go_simp
              exact hF
            · clear hi; intro o ho lz fz w' A hJ hli ha hA K hK
              obtain ⟨hv, hq⟩ := hJ
              obtain rfl := Option.some.inj ho
              clear ho
              have hr := hq
              have g93 := slot_in hA 93 (by decide) (by decide) (hv (27, 93, (.pointer (some ⟨bG, oG, none⟩))) (by simp) (ha 27 (by simp [aftersOf, Region.binds])))
              have g88 := slot_in hA 88 (by decide) (by decide) (hv (22, 88, (.bool true)) (by simp) (ha 22 (by simp [aftersOf, Region.binds])))
              have gg93 := slot_get g93
              have gg88 := slot_get g88
              have gw := slot_bool g88
              rw [if_pos (by simp [Region.wanted, yielded, gw])]
              clear gw
              have kz0 := (hr.1.cell (p := ⟨bG, oG, none⟩) hbG).trans g00
              have kz1 := (hr.1.cell (p := ⟨bG, oG + 1, none⟩) hbG).trans g01
              have kz2 := (hr.1.cell (p := ⟨bG, oG + 2, none⟩) hbG).trans g02
              have hF := hK (.agg #[.bool y.done, .slice a5 n3 k5, .slice a6 n4 k6]) w' ⟨hv.step 28 94 _ (by simp), hq.step 28 94 _ (Below.refl _ _) (by simp)⟩
              clear hv hq hr ha hK hA hli
              go_simp
              exact hF
            · clear hi; intro o ho lz fz w' A hJ hli ha hA K hK
              obtain ⟨hv, hq⟩ := hJ
              obtain rfl := Option.some.inj ho
              clear ho
              have hr := hq
              have g91 := slot_in hA 91 (by decide) (by decide) (hv (25, 91, (.agg #[.bool y.done, .slice a3 n3 k3, .slice a4 n4 k4])) (by simp) (ha 25 (by simp [aftersOf, Region.binds])))
              have g94 := slot_in hA 94 (by decide) (by decide) (hv (28, 94, (.agg #[.bool y.done, .slice a5 n3 k5, .slice a6 n4 k6])) (by simp) (ha 28 (by simp [aftersOf, Region.binds])))
              have g88 := slot_in hA 88 (by decide) (by decide) (hv (22, 88, (.bool true)) (by simp) (ha 22 (by simp [aftersOf, Region.binds])))
              have gg91 := slot_get g91
              have gg94 := slot_get g94
              have gg88 := slot_get g88
              have gw := slot_bool g88
              rw [if_pos (by simp [Region.wanted, yielded, gw])]
              clear gw
              clear hA
              go_simp
              refine (sameEffect_same a3 n3 k3 a4 n4 k4 a5 k5 a6 k6 y _ (E1.out.below hr.1) (G0.out.below hr.1)).mono ?_
              rintro e w9 ⟨rfl, hb9⟩
              exact hK (.bool true) w9 ⟨hv.step 29 95 _ (by simp), hq.step 29 95 _ hb9 (by simp)⟩
            · clear hi; intro o ho lz fz w' A hJ hli ha hA K hK
              obtain ⟨hv, hq⟩ := hJ
              obtain rfl := Option.some.inj ho
              clear ho
              have hr := hq
              have g88 := slot_in hA 88 (by decide) (by decide) (hv (22, 88, (.bool true)) (by simp) (ha 22 (by simp [aftersOf, Region.binds])))
              have g95 := slot_in hA 95 (by decide) (by decide) (hv (29, 95, (.bool true)) (by simp) (ha 29 (by simp [aftersOf, Region.binds])))
              have gg88 := slot_get g88
              have gg95 := slot_get g95
              rw [if_pos (by rfl)]
              have hF := hK (.bool true) w' ⟨hv.step 30 96 _ (by simp), hq.step 30 96 _ (Below.refl _ _) (by simp)⟩
              clear hv hq hr ha hK hA hli
              go_simp
              exact hF
            · clear hi; intro o ho lz fz w' A hJ hli ha hA K hK
              obtain ⟨hv, hq⟩ := hJ
              obtain rfl := Option.some.inj ho
              clear ho
              have hr := hq
              have g96 := slot_in hA 96 (by decide) (by decide) (hv (30, 96, (.bool true)) (by simp) (ha 30 (by simp [aftersOf, Region.binds])))
              have gg96 := slot_get g96
              rw [if_pos (by rfl)]
              have hF := hK (.bool true) w' ⟨hv.step 31 2 _ (by simp), hq.step 31 2 _ (Below.refl _ _) (by simp)⟩
              clear hv hq hr ha hK hA hli
              go_simp
              exact hF
          · intro lz fz w16 hall hJ
            obtain ⟨hv, hq⟩ := hJ
            have h2 : fz 2 = (.bool true) := hv (31, 2, (.bool true)) (by simp) (hall 31 (by decide))
            have hbR := hq.1
            clear hv hq hall
            simp only [mixF, List.contains_cons, List.contains_nil]
            go_simp
            have hb16 := HBZ.out.trans (hbR.mono HBZ.out.size)
            clear hbR
            go_wp2
            go_ret
            exact ⟨rfl, hb16⟩
  · have hs' : (1048576 : Int) < (len : Int) := by omega
    clear h hlc
    go_enter Try.func3, Try.ntmps3
    go_wp2
    go_ret
    exact ⟨rfl, Below.refl _ _⟩
end Go.Proofs.Ytfhbolpchmdaoaa
