/- The walks of the laws FnConflictSelf, FnExactConflict (gen8/lawconf.py). -/
import Derived.Test.YtfhbolpchmdaoaaDrawOrd
import Derived.Test.YtfhbolpchmdaoaaEightA
import Derived.Test.YtfhbolpchmdaoaaOne
import Derived.Test.YtfhbolpchmdaoaaConvA
namespace Go.Proofs.Ytfhbolpchmdaoaa
open Go.RowKit
set_option linter.unusedVariables false
set_option linter.unusedSimpArgs false
set_option maxRecDepth 100000 in
set_option maxHeartbeats 8000000 in
theorem lawConflictSelf (a : Option Addr) (len cap : Nat) (z : List Int) (w : World) (h : RowB w a len z) (hc : a = none → cap = 0) (hlc : len ≤ cap) :
    Calls Try.prog 8 #[.slice a len cap] w (LawTrue w) := by
  by_cases hs : len ≤ 1048576
  · have hs' : ¬ (1048576 : Int) < (len : Int) := by omega
    go_enter Try.func8, Try.ntmps8
    go_wp2_with fail
    refine (drawConflict_any a len cap z w h hlc).mono ?_; rintro e w1 ⟨p, q, r, t, p2, q2, r2, t2, rfl, -, -, hb1⟩
    clear h hs hs' hc hlc
    have HA0 := Lib.hid ((boxA_new w1 p q r t 24).alloc (.cells #[.int .i64 p2, .int .i64 q2, .int .i64 r2, .int .i64 t2] 24))
    have HB0 := Lib.hid (boxA_new (w1.alloc (.cells #[.int .i64 p, .int .i64 q, .int .i64 r, .int .i64 t] 24)) p2 q2 r2 t2 24)
    have HBB := Lib.hid (hb1.trans ((((Below.refl w1.heap.size w1).alloc (Nat.le_refl _) (.cells #[.int .i64 p, .int .i64 q, .int .i64 r, .int .i64 t] 24)).alloc (by simp) (.cells #[.int .i64 p2, .int .i64 q2, .int .i64 r2, .int .i64 t2] 24)).mono hb1.size))
    go_wp2
    generalize hw5 : World.alloc _ _ = w5 at HA0 HB0 HBB
    clear hw5
    have hAB : (w1.alloc (.cells #[.int .i64 p, .int .i64 q, .int .i64 r, .int .i64 t] 24)).heap.size = w1.heap.size + 1 := by simp
    rw [hAB] at HB0
    clear hAB
    obtain ⟨GA, hGA⟩ : ∃ GA, GA = w1.heap.size := ⟨_, rfl⟩
    rw [← hGA] at HA0 HB0 ⊢
    clear hGA
    have HA : Hid (BoxA w5 GA p q r t) := HA0
    have HB : Hid (BoxA w5 (GA + 1) p2 q2 r2 t2) := HB0
    clear HA0 HB0
    obtain ⟨v, hv⟩ : ∃ v, confM ⟨p, q, r, t⟩ ⟨p2, q2, r2, t2⟩ = v := ⟨_, rfl⟩
    have HV := Lib.hid hv
    obtain ⟨u, hu⟩ : ∃ u, actB ⟨p, q, r, t⟩ = u := ⟨_, rfl⟩
    have HU := Lib.hid hu
    clear hv hu
    refine wp_region_light (by kernel_rfl) (fun lz fz wz => Vals [(0, 13, (.agg #[.int .i64 p, .int .i64 q, .int .i64 r, .int .i64 t])), (1, 14, (.agg #[.int .i64 p2, .int .i64 q2, .int .i64 r2, .int .i64 t2])), (2, 15, (.bool v)), (3, 16, (.agg #[.int .i64 p, .int .i64 q, .int .i64 r, .int .i64 t])), (4, 17, (.agg #[.int .i64 p2, .int .i64 q2, .int .i64 r2, .int .i64 t2])), (5, 18, (.bool v)), (6, 19, (.bool false))] lz fz ∧ Facts w5 [] lz fz wz) 29 rfl [13, 14, 15, 16, 17, 18, 19] (by kernel_rfl) (by kernel_rfl) (by kernel_rfl) (fun f => ⟨Vals.nothing _ f, Facts.nothing _ _ f⟩) ?_ ?_
    · intro i hi
      rcases (by have : i < 7 := hi; omega : i = 0 ∨ i = 1 ∨ i = 2 ∨ i = 3 ∨ i = 4 ∨ i = 5 ∨ i = 6) with rfl | rfl | rfl | rfl | rfl | rfl | rfl
      · clear hi; intro o ho lz fz w' A hJ hli ha hA K hK
        obtain ⟨hv, hq⟩ := hJ
        obtain rfl := Option.some.inj ho
        clear ho
        have hr := hq
        have g3 := slot_out hA 3 _ (by decide) (by decide) rfl
        simp only [List.getD_cons_succ, List.getD_cons_zero] at g3
        have gg3 := slot_get g3
        rw [if_pos (by rfl)]
        obtain ⟨k0, k1, k2, k3⟩ := HA.out.below hr.1
        have hF := hK (.agg #[.int .i64 p, .int .i64 q, .int .i64 r, .int .i64 t]) w' ⟨hv.step 0 13 _ (by simp), hq.step 0 13 _ (Below.refl _ _) (by simp)⟩
        clear hv hq hr ha hK hA hli
        go_simp
        exact hF
      · clear hi; intro o ho lz fz w' A hJ hli ha hA K hK
        obtain ⟨hv, hq⟩ := hJ
        obtain rfl := Option.some.inj ho
        clear ho
        have hr := hq
        have g4 := slot_out hA 4 _ (by decide) (by decide) rfl
        simp only [List.getD_cons_succ, List.getD_cons_zero] at g4
        have gg4 := slot_get g4
        rw [if_pos (by rfl)]
        obtain ⟨k0, k1, k2, k3⟩ := HB.out.below hr.1
        have hF := hK (.agg #[.int .i64 p2, .int .i64 q2, .int .i64 r2, .int .i64 t2]) w' ⟨hv.step 1 14 _ (by simp), hq.step 1 14 _ (Below.refl _ _) (by simp)⟩
        clear hv hq hr ha hK hA hli
        go_simp
        exact hF
      · clear hi; intro o ho lz fz w' A hJ hli ha hA K hK
        obtain ⟨hv, hq⟩ := hJ
        obtain rfl := Option.some.inj ho
        clear ho
        have hr := hq
        have g13 := slot_in hA 13 (by decide) (by decide) (hv (0, 13, (.agg #[.int .i64 p, .int .i64 q, .int .i64 r, .int .i64 t])) (by simp) (ha 0 (by simp [aftersOf, Region.binds])))
        have g14 := slot_in hA 14 (by decide) (by decide) (hv (1, 14, (.agg #[.int .i64 p2, .int .i64 q2, .int .i64 r2, .int .i64 t2])) (by simp) (ha 1 (by simp [aftersOf, Region.binds])))
        have gg13 := slot_get g13
        have gg14 := slot_get g14
        rw [if_pos (by rfl)]
        clear hA
        go_simp
        refine (conflict_impl p q r t p2 q2 r2 t2 _).mono ?_
        rintro e w9 ⟨rfl, hb9⟩
        rw [HV.out]
        exact hK (.bool v) w9 ⟨hv.step 2 15 _ (by simp), hq.step 2 15 _ hb9 (by simp)⟩
      · clear hi; intro o ho lz fz w' A hJ hli ha hA K hK
        obtain ⟨hv, hq⟩ := hJ
        obtain rfl := Option.some.inj ho
        clear ho
        have hr := hq
        have g3 := slot_out hA 3 _ (by decide) (by decide) rfl
        simp only [List.getD_cons_succ, List.getD_cons_zero] at g3
        have gg3 := slot_get g3
        rw [if_pos (by rfl)]
        obtain ⟨k0, k1, k2, k3⟩ := HA.out.below hr.1
        have hF := hK (.agg #[.int .i64 p, .int .i64 q, .int .i64 r, .int .i64 t]) w' ⟨hv.step 3 16 _ (by simp), hq.step 3 16 _ (Below.refl _ _) (by simp)⟩
        clear hv hq hr ha hK hA hli
        go_simp
        exact hF
      · clear hi; intro o ho lz fz w' A hJ hli ha hA K hK
        obtain ⟨hv, hq⟩ := hJ
        obtain rfl := Option.some.inj ho
        clear ho
        have hr := hq
        have g4 := slot_out hA 4 _ (by decide) (by decide) rfl
        simp only [List.getD_cons_succ, List.getD_cons_zero] at g4
        have gg4 := slot_get g4
        rw [if_pos (by rfl)]
        obtain ⟨k0, k1, k2, k3⟩ := HB.out.below hr.1
        have hF := hK (.agg #[.int .i64 p2, .int .i64 q2, .int .i64 r2, .int .i64 t2]) w' ⟨hv.step 4 17 _ (by simp), hq.step 4 17 _ (Below.refl _ _) (by simp)⟩
        clear hv hq hr ha hK hA hli
        go_simp
        exact hF
      · clear hi; intro o ho lz fz w' A hJ hli ha hA K hK
        obtain ⟨hv, hq⟩ := hJ
        obtain rfl := Option.some.inj ho
        clear ho
        have hr := hq
        have g16 := slot_in hA 16 (by decide) (by decide) (hv (3, 16, (.agg #[.int .i64 p, .int .i64 q, .int .i64 r, .int .i64 t])) (by simp) (ha 3 (by simp [aftersOf, Region.binds])))
        have g17 := slot_in hA 17 (by decide) (by decide) (hv (4, 17, (.agg #[.int .i64 p2, .int .i64 q2, .int .i64 r2, .int .i64 t2])) (by simp) (ha 4 (by simp [aftersOf, Region.binds])))
        have gg16 := slot_get g16
        have gg17 := slot_get g17
        rw [if_pos (by rfl)]
        clear hA
        go_simp
        refine (conflict_spec p q r t p2 q2 r2 t2 _).mono ?_
        rintro e w9 ⟨rfl, hb9⟩
        rw [HV.out]
        exact hK (.bool v) w9 ⟨hv.step 5 18 _ (by simp), hq.step 5 18 _ hb9 (by simp)⟩
      · clear hi; intro o ho lz fz w' A hJ hli ha hA K hK
        obtain ⟨hv, hq⟩ := hJ
        obtain rfl := Option.some.inj ho
        clear ho
        have hr := hq
        have g15 := slot_in hA 15 (by decide) (by decide) (hv (2, 15, (.bool v)) (by simp) (ha 2 (by simp [aftersOf, Region.binds])))
        have g18 := slot_in hA 18 (by decide) (by decide) (hv (5, 18, (.bool v)) (by simp) (ha 5 (by simp [aftersOf, Region.binds])))
        have gg15 := slot_get g15
        have gg18 := slot_get g18
        rw [if_pos (by rfl)]
        have hF := hK (.bool false) w' ⟨hv.step 6 19 _ (by simp), hq.step 6 19 _ (Below.refl _ _) (by simp)⟩
        clear hv hq hr ha hK hA hli
        go_simp
        exact hF
    · intro lz fz w6 hall hJ
      obtain ⟨hv, hq⟩ := hJ
      have h19 : fz 19 = (.bool false) := hv (6, 19, (.bool false)) (by simp) (hall 6 (by decide))
      have hbR := hq.1
      clear hv hq hall
      simp only [mixF, List.contains_cons, List.contains_nil]
      go_simp
      have HB6 := Lib.hid (HBB.out.trans (hbR.mono HBB.out.size))
      have HA6 := Lib.hid (HA.out.below hbR)
      clear hbR HA HB HBB
      go_wp2
      refine wp_region_light (by kernel_rfl) (fun lz fz wz => Vals [(0, 20, (.agg #[.int .i64 p, .int .i64 q, .int .i64 r, .int .i64 t])), (1, 21, (.agg #[.int .i64 p, .int .i64 q, .int .i64 r, .int .i64 t])), (2, 22, (.bool u)), (3, 23, (.agg #[.int .i64 p, .int .i64 q, .int .i64 r, .int .i64 t])), (4, 24, (.bool u)), (5, 25, (.bool true)), (6, 26, (.bool true)), (7, 27, (.bool true)), (8, 28, (.bool true)), (9, 2, (.bool true))] lz fz ∧ Facts w6 [] lz fz wz) 29 rfl [20, 21, 22, 23, 24, 25, 26, 27, 28, 2] (by kernel_rfl) (by kernel_rfl) (by kernel_rfl) (fun f => ⟨Vals.nothing _ f, Facts.nothing _ _ f⟩) ?_ ?_
      · intro i hi
        rcases (by have : i < 10 := hi; omega : i = 0 ∨ i = 1 ∨ i = 2 ∨ i = 3 ∨ i = 4 ∨ i = 5 ∨ i = 6 ∨ i = 7 ∨ i = 8 ∨ i = 9) with rfl | rfl | rfl | rfl | rfl | rfl | rfl | rfl | rfl | rfl
        · clear hi; intro o ho lz fz w' A hJ hli ha hA K hK
          obtain ⟨hv, hq⟩ := hJ
          obtain rfl := Option.some.inj ho
          clear ho
          have hr := hq
          have g3 := slot_out hA 3 _ (by decide) (by decide) rfl
          simp only [List.getD_cons_succ, List.getD_cons_zero] at g3
          have gg3 := slot_get g3
          rw [if_pos (by rfl)]
          obtain ⟨k0, k1, k2, k3⟩ := HA6.out.below hr.1
          have hF := hK (.agg #[.int .i64 p, .int .i64 q, .int .i64 r, .int .i64 t]) w' ⟨hv.step 0 20 _ (by simp), hq.step 0 20 _ (Below.refl _ _) (by simp)⟩
          clear hv hq hr ha hK hA hli
          go_simp
          exact hF
        · clear hi; intro o ho lz fz w' A hJ hli ha hA K hK
          obtain ⟨hv, hq⟩ := hJ
          obtain rfl := Option.some.inj ho
          clear ho
          have hr := hq
          have g3 := slot_out hA 3 _ (by decide) (by decide) rfl
          simp only [List.getD_cons_succ, List.getD_cons_zero] at g3
          have gg3 := slot_get g3
          rw [if_pos (by rfl)]
          obtain ⟨k0, k1, k2, k3⟩ := HA6.out.below hr.1
          have hF := hK (.agg #[.int .i64 p, .int .i64 q, .int .i64 r, .int .i64 t]) w' ⟨hv.step 1 21 _ (by simp), hq.step 1 21 _ (Below.refl _ _) (by simp)⟩
          clear hv hq hr ha hK hA hli
          go_simp
          exact hF
        · clear hi; intro o ho lz fz w' A hJ hli ha hA K hK
          obtain ⟨hv, hq⟩ := hJ
          obtain rfl := Option.some.inj ho
          clear ho
          have hr := hq
          have g20 := slot_in hA 20 (by decide) (by decide) (hv (0, 20, (.agg #[.int .i64 p, .int .i64 q, .int .i64 r, .int .i64 t])) (by simp) (ha 0 (by simp [aftersOf, Region.binds])))
          have g21 := slot_in hA 21 (by decide) (by decide) (hv (1, 21, (.agg #[.int .i64 p, .int .i64 q, .int .i64 r, .int .i64 t])) (by simp) (ha 1 (by simp [aftersOf, Region.binds])))
          have gg20 := slot_get g20
          have gg21 := slot_get g21
          rw [if_pos (by rfl)]
          clear hA
          go_simp
          refine (conflict_impl p q r t p q r t _).mono ?_
          rintro e w9 ⟨rfl, hb9⟩
          rw [confM_self, HU.out]
          exact hK (.bool u) w9 ⟨hv.step 2 22 _ (by simp), hq.step 2 22 _ hb9 (by simp)⟩
        · clear hi; intro o ho lz fz w' A hJ hli ha hA K hK
          obtain ⟨hv, hq⟩ := hJ
          obtain rfl := Option.some.inj ho
          clear ho
          have hr := hq
          have g3 := slot_out hA 3 _ (by decide) (by decide) rfl
          simp only [List.getD_cons_succ, List.getD_cons_zero] at g3
          have gg3 := slot_get g3
          rw [if_pos (by rfl)]
          obtain ⟨k0, k1, k2, k3⟩ := HA6.out.below hr.1
          have hF := hK (.agg #[.int .i64 p, .int .i64 q, .int .i64 r, .int .i64 t]) w' ⟨hv.step 3 23 _ (by simp), hq.step 3 23 _ (Below.refl _ _) (by simp)⟩
          clear hv hq hr ha hK hA hli
          go_simp
          exact hF
        · clear hi; intro o ho lz fz w' A hJ hli ha hA K hK
          obtain ⟨hv, hq⟩ := hJ
          obtain rfl := Option.some.inj ho
          clear ho
          have hr := hq
          have g23 := slot_in hA 23 (by decide) (by decide) (hv (3, 23, (.agg #[.int .i64 p, .int .i64 q, .int .i64 r, .int .i64 t])) (by simp) (ha 3 (by simp [aftersOf, Region.binds])))
          have gg23 := slot_get g23
          rw [if_pos (by rfl)]
          clear hA
          go_simp
          refine (actionValid_spec p q r t _).mono ?_
          rintro e w9 ⟨rfl, hb9⟩
          rw [HU.out]
          exact hK (.bool u) w9 ⟨hv.step 4 24 _ (by simp), hq.step 4 24 _ hb9 (by simp)⟩
        · clear hi; intro o ho lz fz w' A hJ hli ha hA K hK
          obtain ⟨hv, hq⟩ := hJ
          obtain rfl := Option.some.inj ho
          clear ho
          have hr := hq
          have g22 := slot_in hA 22 (by decide) (by decide) (hv (2, 22, (.bool u)) (by simp) (ha 2 (by simp [aftersOf, Region.binds])))
          have g24 := slot_in hA 24 (by decide) (by decide) (hv (4, 24, (.bool u)) (by simp) (ha 4 (by simp [aftersOf, Region.binds])))
          have gg22 := slot_get g22
          have gg24 := slot_get g24
          rw [if_pos (by rfl)]
          have hF := hK (.bool true) w' ⟨hv.step 5 25 _ (by simp), hq.step 5 25 _ (Below.refl _ _) (by simp)⟩
          clear hv hq hr ha hK hA hli
          go_simp
          exact hF
        · clear hi; intro o ho lz fz w' A hJ hli ha hA K hK
          obtain ⟨hv, hq⟩ := hJ
          obtain rfl := Option.some.inj ho
          clear ho
          have hr := hq
          have g25 := slot_in hA 25 (by decide) (by decide) (hv (5, 25, (.bool true)) (by simp) (ha 5 (by simp [aftersOf, Region.binds])))
          have gg25 := slot_get g25
          rw [if_pos (by rfl)]
          have hF := hK (.bool true) w' ⟨hv.step 6 26 _ (by simp), hq.step 6 26 _ (Below.refl _ _) (by simp)⟩
          clear hv hq hr ha hK hA hli
          go_simp
          exact hF
        · clear hi; intro o ho lz fz w' A hJ hli ha hA K hK
          obtain ⟨hv, hq⟩ := hJ
          obtain rfl := Option.some.inj ho
          clear ho
          have hr := hq
          have g26 := slot_in hA 26 (by decide) (by decide) (hv (6, 26, (.bool true)) (by simp) (ha 6 (by simp [aftersOf, Region.binds])))
          have gg26 := slot_get g26
          have gw := slot_bool g26
          rw [if_pos (by simp [Region.wanted, yielded, gw])]
          clear gw
          clear hA
          go_simp
          refine (alive_any _).mono ?_
          rintro e w9 ⟨rfl, hb9⟩
          exact hK (.bool true) w9 ⟨hv.step 7 27 _ (by simp), hq.step 7 27 _ hb9 (by simp)⟩
        · clear hi; intro o ho lz fz w' A hJ hli ha hA K hK
          obtain ⟨hv, hq⟩ := hJ
          obtain rfl := Option.some.inj ho
          clear ho
          have hr := hq
          have g26 := slot_in hA 26 (by decide) (by decide) (hv (6, 26, (.bool true)) (by simp) (ha 6 (by simp [aftersOf, Region.binds])))
          have g27 := slot_in hA 27 (by decide) (by decide) (hv (7, 27, (.bool true)) (by simp) (ha 7 (by simp [aftersOf, Region.binds])))
          have gg26 := slot_get g26
          have gg27 := slot_get g27
          rw [if_pos (by rfl)]
          have hF := hK (.bool true) w' ⟨hv.step 8 28 _ (by simp), hq.step 8 28 _ (Below.refl _ _) (by simp)⟩
          clear hv hq hr ha hK hA hli
          go_simp
          exact hF
        · clear hi; intro o ho lz fz w' A hJ hli ha hA K hK
          obtain ⟨hv, hq⟩ := hJ
          obtain rfl := Option.some.inj ho
          clear ho
          have hr := hq
          have g28 := slot_in hA 28 (by decide) (by decide) (hv (8, 28, (.bool true)) (by simp) (ha 8 (by simp [aftersOf, Region.binds])))
          have gg28 := slot_get g28
          rw [if_pos (by rfl)]
          have hF := hK (.bool true) w' ⟨hv.step 9 2 _ (by simp), hq.step 9 2 _ (Below.refl _ _) (by simp)⟩
          clear hv hq hr ha hK hA hli
          go_simp
          exact hF
      · intro lz fz w7 hall hJ
        obtain ⟨hv, hq⟩ := hJ
        have h2 : fz 2 = (.bool true) := hv (9, 2, (.bool true)) (by simp) (hall 9 (by decide))
        have hbR := hq.1
        clear hv hq hall
        simp only [mixF, List.contains_cons, List.contains_nil]
        go_simp
        have hb7 := HB6.out.trans (hbR.mono HB6.out.size)
        clear hbR
        go_wp2
        go_ret
        exact ⟨rfl, hb7⟩
  · have hs' : (1048576 : Int) < (len : Int) := by omega
    clear h hlc
    go_enter Try.func8, Try.ntmps8
    go_wp2
    go_ret
    exact ⟨rfl, Below.refl _ _⟩
set_option maxRecDepth 100000 in
set_option maxHeartbeats 8000000 in
theorem lawExactConflict (p q r t p2 q2 r2 t2 : Int) (w : World) (hw : WfA ⟨p, q, r, t⟩) (hw2 : WfA ⟨p2, q2, r2, t2⟩) :
    Calls Try.prog 9 #[.agg #[.int .i64 p, .int .i64 q, .int .i64 r, .int .i64 t], .agg #[.int .i64 p2, .int .i64 q2, .int .i64 r2, .int .i64 t2]] w (LawTrue w) := by
  clear hw hw2
  have HA0 := Lib.hid ((boxA_new w p q r t 55).alloc (.cells #[.int .i64 p2, .int .i64 q2, .int .i64 r2, .int .i64 t2] 55))
  have HB0 := Lib.hid (boxA_new (w.alloc (.cells #[.int .i64 p, .int .i64 q, .int .i64 r, .int .i64 t] 55)) p2 q2 r2 t2 55)
  have HBB := Lib.hid (((Below.refl w.heap.size w).alloc (Nat.le_refl _) (.cells #[.int .i64 p, .int .i64 q, .int .i64 r, .int .i64 t] 55)).alloc (by simp) (.cells #[.int .i64 p2, .int .i64 q2, .int .i64 r2, .int .i64 t2] 55))
  go_enter Try.func9, Try.ntmps9
  go_wp2
  generalize hw5 : World.alloc _ _ = w5 at HA0 HB0 HBB
  have HA : Hid (BoxA w5 w.heap.size p q r t) := HA0
  have HB : Hid (BoxA w5 (w.heap.size + 1) p2 q2 r2 t2) := by simpa using HB0
  clear HA0 HB0 hw5
  obtain ⟨v, hv⟩ : ∃ v, confM ⟨p, q, r, t⟩ ⟨p2, q2, r2, t2⟩ = v := ⟨_, rfl⟩
  have HV := Lib.hid hv
  clear hv
  refine wp_region_light (by kernel_rfl) (fun lz fz wz => Vals [(0, 7, (.agg #[.int .i64 p, .int .i64 q, .int .i64 r, .int .i64 t])), (1, 8, (.agg #[.int .i64 p, .int .i64 q, .int .i64 r, .int .i64 t])), (2, 9, (.agg #[.int .i64 p2, .int .i64 q2, .int .i64 r2, .int .i64 t2])), (3, 10, (.agg #[.int .i64 p2, .int .i64 q2, .int .i64 r2, .int .i64 t2])), (4, 11, (.bool v)), (5, 5, (.bool v))] lz fz ∧ Facts w5 [] lz fz wz) 20 rfl [7, 8, 9, 10, 11, 5] (by kernel_rfl) (by kernel_rfl) (by kernel_rfl) (fun f => ⟨Vals.nothing _ f, Facts.nothing _ _ f⟩) ?_ ?_
  · intro i hi
    rcases (by have : i < 6 := hi; omega : i = 0 ∨ i = 1 ∨ i = 2 ∨ i = 3 ∨ i = 4 ∨ i = 5) with rfl | rfl | rfl | rfl | rfl | rfl
    · clear hi; intro o ho lz fz w' A hJ hli ha hA K hK
      obtain ⟨hv, hq⟩ := hJ
      obtain rfl := Option.some.inj ho
      clear ho
      have hr := hq
      have g2 := slot_out hA 2 _ (by decide) (by decide) rfl
      simp only [List.getD_cons_succ, List.getD_cons_zero] at g2
      have gg2 := slot_get g2
      rw [if_pos (by rfl)]
      obtain ⟨k0, k1, k2, k3⟩ := HA.out.below hr.1
      have hF := hK (.agg #[.int .i64 p, .int .i64 q, .int .i64 r, .int .i64 t]) w' ⟨hv.step 0 7 _ (by simp), hq.step 0 7 _ (Below.refl _ _) (by simp)⟩
      clear hv hq hr ha hK hA hli
      go_simp
      exact hF
    · clear hi; intro o ho lz fz w' A hJ hli ha hA K hK
      obtain ⟨hv, hq⟩ := hJ
      obtain rfl := Option.some.inj ho
      clear ho
      have hr := hq
      have g7 := slot_in hA 7 (by decide) (by decide) (hv (0, 7, (.agg #[.int .i64 p, .int .i64 q, .int .i64 r, .int .i64 t])) (by simp) (ha 0 (by simp [aftersOf, Region.binds])))
      have gg7 := slot_get g7
      rw [if_pos (by rfl)]
      clear hA
      go_simp
      refine (toAction_any p q r t _).mono ?_
      rintro e w9 ⟨rfl, hb9⟩
      exact hK (.agg #[.int .i64 p, .int .i64 q, .int .i64 r, .int .i64 t]) w9 ⟨hv.step 1 8 _ (by simp), hq.step 1 8 _ hb9 (by simp)⟩
    · clear hi; intro o ho lz fz w' A hJ hli ha hA K hK
      obtain ⟨hv, hq⟩ := hJ
      obtain rfl := Option.some.inj ho
      clear ho
      have hr := hq
      have g3 := slot_out hA 3 _ (by decide) (by decide) rfl
      simp only [List.getD_cons_succ, List.getD_cons_zero] at g3
      have gg3 := slot_get g3
      rw [if_pos (by rfl)]
      obtain ⟨k0, k1, k2, k3⟩ := HB.out.below hr.1
      have hF := hK (.agg #[.int .i64 p2, .int .i64 q2, .int .i64 r2, .int .i64 t2]) w' ⟨hv.step 2 9 _ (by simp), hq.step 2 9 _ (Below.refl _ _) (by simp)⟩
      clear hv hq hr ha hK hA hli
      go_simp
      exact hF
    · clear hi; intro o ho lz fz w' A hJ hli ha hA K hK
      obtain ⟨hv, hq⟩ := hJ
      obtain rfl := Option.some.inj ho
      clear ho
      have hr := hq
      have g9 := slot_in hA 9 (by decide) (by decide) (hv (2, 9, (.agg #[.int .i64 p2, .int .i64 q2, .int .i64 r2, .int .i64 t2])) (by simp) (ha 2 (by simp [aftersOf, Region.binds])))
      have gg9 := slot_get g9
      rw [if_pos (by rfl)]
      clear hA
      go_simp
      refine (toAction_any p2 q2 r2 t2 _).mono ?_
      rintro e w9 ⟨rfl, hb9⟩
      exact hK (.agg #[.int .i64 p2, .int .i64 q2, .int .i64 r2, .int .i64 t2]) w9 ⟨hv.step 3 10 _ (by simp), hq.step 3 10 _ hb9 (by simp)⟩
    · clear hi; intro o ho lz fz w' A hJ hli ha hA K hK
      obtain ⟨hv, hq⟩ := hJ
      obtain rfl := Option.some.inj ho
      clear ho
      have hr := hq
      have g8 := slot_in hA 8 (by decide) (by decide) (hv (1, 8, (.agg #[.int .i64 p, .int .i64 q, .int .i64 r, .int .i64 t])) (by simp) (ha 1 (by simp [aftersOf, Region.binds])))
      have g10 := slot_in hA 10 (by decide) (by decide) (hv (3, 10, (.agg #[.int .i64 p2, .int .i64 q2, .int .i64 r2, .int .i64 t2])) (by simp) (ha 3 (by simp [aftersOf, Region.binds])))
      have gg8 := slot_get g8
      have gg10 := slot_get g10
      rw [if_pos (by rfl)]
      clear hA
      go_simp
      refine (conflict_spec p q r t p2 q2 r2 t2 _).mono ?_
      rintro e w9 ⟨rfl, hb9⟩
      rw [HV.out]
      exact hK (.bool v) w9 ⟨hv.step 4 11 _ (by simp), hq.step 4 11 _ hb9 (by simp)⟩
    · clear hi; intro o ho lz fz w' A hJ hli ha hA K hK
      obtain ⟨hv, hq⟩ := hJ
      obtain rfl := Option.some.inj ho
      clear ho
      have hr := hq
      have g11 := slot_in hA 11 (by decide) (by decide) (hv (4, 11, (.bool v)) (by simp) (ha 4 (by simp [aftersOf, Region.binds])))
      have gg11 := slot_get g11
      rw [if_pos (by rfl)]
      have hF := hK (.bool v) w' ⟨hv.step 5 5 _ (by simp), hq.step 5 5 _ (Below.refl _ _) (by simp)⟩
      clear hv hq hr ha hK hA hli
      go_simp
      exact hF
  · intro lz fz w6 hall hJ
    obtain ⟨hv, hq⟩ := hJ
    have h5 : fz 5 = (.bool v) := hv (5, 5, (.bool v)) (by simp) (hall 5 (by decide))
    have hbR := hq.1
    clear hv hq hall
    simp only [mixF, List.contains_cons, List.contains_nil]
    go_simp
    have HB1 := Lib.hid (HBB.out.trans (hbR.mono HBB.out.size))
    have HA6 := Lib.hid (HA.out.below hbR)
    have HB6 := Lib.hid (HB.out.below hbR)
    clear hbR HA HB HBB
    go_wp2
    refine wp_region_light (by kernel_rfl) (fun lz fz wz => Vals [(0, 12, (.agg #[.int .i64 p, .int .i64 q, .int .i64 r, .int .i64 t])), (1, 13, (.agg #[.int .i64 p, .int .i64 q, .int .i64 r, .int .i64 t])), (2, 14, (.agg #[.int .i64 p2, .int .i64 q2, .int .i64 r2, .int .i64 t2])), (3, 15, (.agg #[.int .i64 p2, .int .i64 q2, .int .i64 r2, .int .i64 t2])), (4, 16, (.bool v)), (5, 6, (.bool v))] lz fz ∧ Facts w6 [] lz fz wz) 20 rfl [12, 13, 14, 15, 16, 6] (by kernel_rfl) (by kernel_rfl) (by kernel_rfl) (fun f => ⟨Vals.nothing _ f, Facts.nothing _ _ f⟩) ?_ ?_
    · intro i hi
      rcases (by have : i < 6 := hi; omega : i = 0 ∨ i = 1 ∨ i = 2 ∨ i = 3 ∨ i = 4 ∨ i = 5) with rfl | rfl | rfl | rfl | rfl | rfl
      · clear hi; intro o ho lz fz w' A hJ hli ha hA K hK
        obtain ⟨hv, hq⟩ := hJ
        obtain rfl := Option.some.inj ho
        clear ho
        have hr := hq
        have g2 := slot_out hA 2 _ (by decide) (by decide) rfl
        simp only [List.getD_cons_succ, List.getD_cons_zero] at g2
        have gg2 := slot_get g2
        rw [if_pos (by rfl)]
        obtain ⟨k0, k1, k2, k3⟩ := HA6.out.below hr.1
        have hF := hK (.agg #[.int .i64 p, .int .i64 q, .int .i64 r, .int .i64 t]) w' ⟨hv.step 0 12 _ (by simp), hq.step 0 12 _ (Below.refl _ _) (by simp)⟩
        clear hv hq hr ha hK hA hli
        go_simp
        exact hF
      · clear hi; intro o ho lz fz w' A hJ hli ha hA K hK
        obtain ⟨hv, hq⟩ := hJ
        obtain rfl := Option.some.inj ho
        clear ho
        have hr := hq
        have g12 := slot_in hA 12 (by decide) (by decide) (hv (0, 12, (.agg #[.int .i64 p, .int .i64 q, .int .i64 r, .int .i64 t])) (by simp) (ha 0 (by simp [aftersOf, Region.binds])))
        have gg12 := slot_get g12
        rw [if_pos (by rfl)]
        clear hA
        go_simp
        refine (toAction_any p q r t _).mono ?_
        rintro e w9 ⟨rfl, hb9⟩
        exact hK (.agg #[.int .i64 p, .int .i64 q, .int .i64 r, .int .i64 t]) w9 ⟨hv.step 1 13 _ (by simp), hq.step 1 13 _ hb9 (by simp)⟩
      · clear hi; intro o ho lz fz w' A hJ hli ha hA K hK
        obtain ⟨hv, hq⟩ := hJ
        obtain rfl := Option.some.inj ho
        clear ho
        have hr := hq
        have g3 := slot_out hA 3 _ (by decide) (by decide) rfl
        simp only [List.getD_cons_succ, List.getD_cons_zero] at g3
        have gg3 := slot_get g3
        rw [if_pos (by rfl)]
        obtain ⟨k0, k1, k2, k3⟩ := HB6.out.below hr.1
        have hF := hK (.agg #[.int .i64 p2, .int .i64 q2, .int .i64 r2, .int .i64 t2]) w' ⟨hv.step 2 14 _ (by simp), hq.step 2 14 _ (Below.refl _ _) (by simp)⟩
        clear hv hq hr ha hK hA hli
        go_simp
        exact hF
      · clear hi; intro o ho lz fz w' A hJ hli ha hA K hK
        obtain ⟨hv, hq⟩ := hJ
        obtain rfl := Option.some.inj ho
        clear ho
        have hr := hq
        have g14 := slot_in hA 14 (by decide) (by decide) (hv (2, 14, (.agg #[.int .i64 p2, .int .i64 q2, .int .i64 r2, .int .i64 t2])) (by simp) (ha 2 (by simp [aftersOf, Region.binds])))
        have gg14 := slot_get g14
        rw [if_pos (by rfl)]
        clear hA
        go_simp
        refine (toAction_any p2 q2 r2 t2 _).mono ?_
        rintro e w9 ⟨rfl, hb9⟩
        exact hK (.agg #[.int .i64 p2, .int .i64 q2, .int .i64 r2, .int .i64 t2]) w9 ⟨hv.step 3 15 _ (by simp), hq.step 3 15 _ hb9 (by simp)⟩
      · clear hi; intro o ho lz fz w' A hJ hli ha hA K hK
        obtain ⟨hv, hq⟩ := hJ
        obtain rfl := Option.some.inj ho
        clear ho
        have hr := hq
        have g13 := slot_in hA 13 (by decide) (by decide) (hv (1, 13, (.agg #[.int .i64 p, .int .i64 q, .int .i64 r, .int .i64 t])) (by simp) (ha 1 (by simp [aftersOf, Region.binds])))
        have g15 := slot_in hA 15 (by decide) (by decide) (hv (3, 15, (.agg #[.int .i64 p2, .int .i64 q2, .int .i64 r2, .int .i64 t2])) (by simp) (ha 3 (by simp [aftersOf, Region.binds])))
        have gg13 := slot_get g13
        have gg15 := slot_get g15
        rw [if_pos (by rfl)]
        clear hA
        go_simp
        refine (conflict_impl p q r t p2 q2 r2 t2 _).mono ?_
        rintro e w9 ⟨rfl, hb9⟩
        rw [HV.out]
        exact hK (.bool v) w9 ⟨hv.step 4 16 _ (by simp), hq.step 4 16 _ hb9 (by simp)⟩
      · clear hi; intro o ho lz fz w' A hJ hli ha hA K hK
        obtain ⟨hv, hq⟩ := hJ
        obtain rfl := Option.some.inj ho
        clear ho
        have hr := hq
        have g16 := slot_in hA 16 (by decide) (by decide) (hv (4, 16, (.bool v)) (by simp) (ha 4 (by simp [aftersOf, Region.binds])))
        have gg16 := slot_get g16
        rw [if_pos (by rfl)]
        have hF := hK (.bool v) w' ⟨hv.step 5 6 _ (by simp), hq.step 5 6 _ (Below.refl _ _) (by simp)⟩
        clear hv hq hr ha hK hA hli
        go_simp
        exact hF
    · intro lz fz w7 hall hJ
      obtain ⟨hv, hq⟩ := hJ
      have h6 : fz 6 = (.bool v) := hv (5, 6, (.bool v)) (by simp) (hall 5 (by decide))
      have hbR := hq.1
      clear hv hq hall
      simp only [mixF, List.contains_cons, List.contains_nil]
      go_simp
      have hb7 := HB1.out.trans (hbR.mono HB1.out.size)
      have hvv : (v != v) = false := by simp
      clear hbR
      go_wp2
      go_ret
      exact ⟨rfl, hb7⟩
end Go.Proofs.Ytfhbolpchmdaoaa
