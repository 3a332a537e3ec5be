/- The walk of the law FnLevelOrder. -/
import Derived.Test.YtfhbolpchmdaoaaDrawOrd
import Derived.Test.YtfhbolpchmdaoaaConfM
import Derived.Test.YtfhbolpchmdaoaaEightB
import Derived.Test.YtfhbolpchmdaoaaConv
import Derived.Test.YtfhbolpchmdaoaaOne
import Derived.Test.YtfhbolpchmdaoaaRegJ
namespace Go.Proofs.Ytfhbolpchmdaoaa
open Go.RowKit
set_option linter.unusedVariables false
set_option linter.unusedSimpArgs false
/-- A new list of the program, as a slice. -/
theorem newLN_row {w : World} {l : List Int} {e : Ending} {w' : World} (h : NewLN w l e w') (hl : l.length ≤ 4000000) : ∃ a c, e = .returned (.slice a l.length c) ∧ RowI w' a l.length l ∧ (l = [] ∨ ∃ b o, a = some ⟨b, o, none⟩ ∧ w.heap.size ≤ b) ∧ Below w.heap.size w w' := by
  obtain ⟨v, rfl, ho, hw, hb⟩ := h
  obtain ⟨a, c, rfl, hr⟩ := rowI_of_owns ho (by unfold maxLen; omega) hw
  refine ⟨a, c, rfl, hr, ?_, hb⟩
  by_cases h0 : 0 < l.length
  · obtain ⟨b, o, rfl, -⟩ := hr.2.2.1 h0
    exact .inr ⟨b, o, rfl, by
      rcases ho.2 with ⟨h1, _⟩ | ⟨g, cap, cur, h1, hB, _⟩
      · cases h1
      · simp at h1; omega⟩
  · exact .inl (List.eq_nil_of_length_eq_zero (by omega))
theorem newL_row {w : World} {e0 : TypeId} {l : List Int} {e : Ending} {w' : World} (h : NewL w e0 l e w') (hl : l.length ≤ 4000000) : ∃ g c, e = .returned (.slice (some ⟨g, 0, none⟩) l.length c) ∧ RowI w' (some ⟨g, 0, none⟩) l.length l ∧ w.heap.size ≤ g ∧ Below w.heap.size w w' := by
  obtain ⟨v, rfl, ho, hw, hb⟩ := h
  obtain ⟨g, c, rfl, h1, -, hr⟩ := rowI_of_own ho hl hw
  exact ⟨g, c, rfl, hr, h1, hb⟩
set_option maxRecDepth 100000 in
set_option maxHeartbeats 8000000 in
theorem lawLevelOrder (a : Option Addr) (len cap : Nat) (z : List Int) (w : World) (h : RowB w a len z) (hc : a = none → cap = 0) (hlc : len ≤ cap) :
    Calls Try.prog 7 #[.slice a len cap] w (LawTrue w) := by
  by_cases hs : len ≤ 1048576
  · have hs' : ¬ (1048576 : Int) < (len : Int) := by omega
    go_enter Try.func7, Try.ntmps7
    go_wp2_with fail
    refine (drawLevelOrder_any a len cap z w h hlc).mono ?_; rintro e w1 ⟨g, c, L, rfl, hrA, hlc2, hl20, hb1⟩
    clear h hs hs' hc hlc
    obtain ⟨n, hn⟩ : ∃ n, n = L.length := ⟨_, rfl⟩
    rw [← hn] at hrA hlc2 hl20 ⊢
    clear hn
    have hl10 := levelOrder_len L
    go_wp2_with fail
    refine (levelOrder_impl _ n c L _ hrA).mono ?_; intro e w2 hN
    obtain ⟨aX, cX, rfl, hrX, -, hb2'⟩ := newLN_row hN (by omega)
    have hrA2 := hrA.below hb2'
    have hb2 := hb1.trans (hb2'.mono hb1.size)
    clear hrA hb1 hb2' hN
    go_wp2_with fail
    refine (levelOrder_spec _ n c L _ hrA2).mono ?_; intro e w3 hN
    obtain ⟨gY, cY, rfl, hrY, -, hb3'⟩ := newL_row hN (by omega)
    have hrA3 := hrA2.below hb3'
    have hrX3 := hrX.below hb3'
    have hb3 := hb2.trans (hb3'.mono hb2.size)
    clear hrA2 hrX hb2 hb3' hN
    go_wp2_with fail
    refine (sameInts_same _ _ _ cX cY _ _ hrX3 hrY).mono ?_; rintro e w4 ⟨rfl, hb4'⟩
    have hrA4 := hrA3.below hb4'
    have hrX4 := hrX3.below hb4'
    have hb4 := hb3.trans (hb4'.mono hb3.size)
    clear hrA3 hrX3 hrY hb3 hb4'
    have hVl : (levelsM L).length ≤ 10 := by rw [← lvOrd_len (levels_bd L)]; exact hl10
    go_wp2_with fail
    refine (levelsOf_impl _ n c L _ hrA4).mono ?_; intro e w5 hN
    obtain ⟨aV, cV, rfl, hrV, -, hb5'⟩ := newLN_row hN (by omega)
    have hrX5 := hrX4.below hb5'
    have hb5 := hb4.trans (hb5'.mono hb4.size)
    clear hrA4 hrX4 hb4 hb5' hN
    have HOL := Lib.hid (lvOrd_len (levels_bd L))
    have HMEM : Hid (∀ k, k < (levelsM L).length → ∃ X : Nat, (lvOrdM (levelsM L)).getD k 0 = (X : Int) ∧ X < (levelsM L).length) := Lib.hid (fun k hk => by
      obtain ⟨X, e, hX⟩ := (lvOrd_mem (levels_bd L)).1 (getD_memI (lvOrdM (levelsM L)) k (by rw [lvOrd_len (levels_bd L)]; exact hk))
      exact ⟨X, e, hX⟩)
    have HUP := Lib.hid (lvOrd_up (levelsM L))
    rw [HOL.out] at hrX5 ⊢
    obtain ⟨O, hO⟩ : ∃ O, O = lvOrdM (levelsM L) := ⟨_, rfl⟩
    rw [← hO] at hrX5 HOL HMEM HUP
    obtain ⟨V, hV⟩ : ∃ V, V = levelsM L := ⟨_, rfl⟩
    rw [← hV] at hrX5 hrV HOL HMEM HUP hVl ⊢
    obtain ⟨m, hm⟩ : ∃ m, m = V.length := ⟨_, rfl⟩
    rw [← hm] at hrX5 hrV HOL HMEM hVl ⊢
    clear hO hV hm hl10
    have HB := Lib.hid hb5
    have HX := Lib.hid hrX5
    have HV := Lib.hid hrV
    clear hb5 hrX5 hrV
    go_wp2
    go_loopw [6] (fun i wr => ∃ k : Nat, k ≤ m ∧ i = .int .i64 k ∧ Below w5.heap.size w5 wr) (fun i _ => m - (intOf i).toNat)
    case atStart => exact ⟨0, Nat.zero_le _, rfl, Below.refl _ _⟩
    case round =>
      obtain ⟨k, hk, rfl, hb⟩ := hrel
      by_cases hlt : k < m
      · obtain ⟨X, hX, hXm⟩ := HMEM.out k hlt
        obtain ⟨b, o, rfl, hcX⟩ := (HX.out.below hb).2.2.1 (by omega)
        obtain ⟨bV, oV, rfl, hcV⟩ := (HV.out.below hb).2.2.1 (by omega)
        have c0 := hcX k hlt
        have d0 := hcV X hXm
        rw [hX] at c0
        have e1 : decide ((X : Int) < 0) = false := decide_eq_false (by omega)
        have e2 : decide (m ≤ X) = false := decide_eq_false (by omega)
        have hX0 : (0 : Int) ≤ (X : Int) := by omega
        have hX1 : (X : Int) < (m : Int) := by omega
        by_cases hk0 : 0 < k
        · obtain ⟨Y, hY, hYm⟩ := HMEM.out (k - 1) (by omega)
          have c1 := hcX (k - 1) (by omega)
          have d1 := hcV Y hYm
          rw [hY] at c1
          have hup := HUP.out k hk0 (by rw [HOL.out]; exact hlt)
          rw [hX, hY, Int.toNat_natCast, Int.toNat_natCast] at hup
          have e3 : decide (0 < k) = true := decide_eq_true (by omega)
          have e5 : (1 : Int) ≤ (k : Int) := by omega
          have e4 : decide (V.getD X 0 < V.getD Y 0) = false := decide_eq_false (by omega)
          obtain ⟨vx, hvx⟩ : ∃ vx, vx = V.getD X 0 := ⟨_, rfl⟩
          obtain ⟨vy, hvy⟩ : ∃ vy, vy = V.getD Y 0 := ⟨_, rfl⟩
          rw [← hvx] at d0 e4
          rw [← hvy] at d1 e4
          have hw1 : IntKind.i64.wrap ((k : Int) - 1) = (k : Int) - 1 := IntWalk.i64_in _ (by omega)
          have hk1 : (0 : Int) ≤ (k : Int) - 1 := by omega
          have hk2 : (k : Int) - 1 < (m : Int) := by omega
          have hk3 : ((k : Int) - 1).toNat = k - 1 := by omega
          have hY0 : (0 : Int) ≤ (Y : Int) := by omega
          have hY1 : (Y : Int) < (m : Int) := by omega
          clear hcX hcV hX hY hup hvx hvy hk0
          go_wp2
          have hbX : b < wr.heap.size := World.block_lt_of_cell? wr ⟨b, o + k, none⟩ c0
          have hbV : bV < wr.heap.size := World.block_lt_of_cell? wr ⟨bV, oV + X, none⟩ d0
          -- REGION 1
          refine wp_region_light (by kernel_rfl) (fun lz fz wz => Vals [(0, 27, (.slice (some ⟨b, o, none⟩) m cX)), (1, 28, (.int .i64 (k : Int))), (2, 29, (.pointer (some ⟨b, o + k, none⟩))), (3, 30, (.int .i64 (X : Int))), (4, 31, (.bool false)), (5, 32, (.bool false)), (6, 33, (.slice (some ⟨b, o, none⟩) m cX)), (7, 34, (.int .i64 (k : Int))), (8, 35, (.pointer (some ⟨b, o + k, none⟩))), (9, 36, (.int .i64 (X : Int))), (10, 37, (.slice (some ⟨bV, oV, none⟩) m cV)), (11, 38, (.int .i64 (m : Int))), (12, 39, (.bool false)), (13, 40, (.bool false)), (14, 41, (.bool false)), (15, 42, (.int .i64 (k : Int))), (16, 43, (.bool true)), (17, 44, (.bool true)), (18, 45, (.slice (some ⟨bV, oV, none⟩) m cV)), (19, 46, (.slice (some ⟨b, o, none⟩) m cX)), (20, 47, (.int .i64 (k : Int))), (21, 48, (.int .i64 ((k : Int) - 1))), (22, 49, (.pointer (some ⟨b, o + (k - 1), none⟩))), (23, 50, (.int .i64 (Y : Int))), (24, 51, (.pointer (some ⟨bV, oV + Y, none⟩))), (25, 52, (.int .i64 vy)), (26, 53, (.slice (some ⟨bV, oV, none⟩) m cV)), (27, 54, (.slice (some ⟨b, o, none⟩) m cX)), (28, 55, (.int .i64 (k : Int))), (29, 56, (.pointer (some ⟨b, o + k, none⟩))), (30, 57, (.int .i64 (X : Int))), (31, 58, (.pointer (some ⟨bV, oV + X, none⟩))), (32, 59, (.int .i64 vx)), (33, 60, (.bool false)), (34, 61, (.bool false)), (35, 62, (.bool false))] lz fz ∧ Facts wr [] lz fz wz) 71 rfl [27, 28, 29, 30, 31, 32, 33, 34, 35, 36, 37, 38, 39, 40, 41, 42, 43, 44, 45, 46, 47, 48, 49, 50, 51, 52, 53, 54, 55, 56, 57, 58, 59, 60, 61, 62] (by kernel_rfl) (by kernel_rfl) (by kernel_rfl) (fun f => ⟨Vals.nothing _ f, Facts.nothing _ _ f⟩) ?_ ?_
          · intro i hi
            rcases (by have : i < 36 := hi; omega : i = 0 ∨ i = 1 ∨ i = 2 ∨ i = 3 ∨ i = 4 ∨ i = 5 ∨ i = 6 ∨ i = 7 ∨ i = 8 ∨ i = 9 ∨ i = 10 ∨ i = 11 ∨ i = 12 ∨ i = 13 ∨ i = 14 ∨ i = 15 ∨ i = 16 ∨ i = 17 ∨ i = 18 ∨ i = 19 ∨ i = 20 ∨ i = 21 ∨ i = 22 ∨ i = 23 ∨ i = 24 ∨ i = 25 ∨ i = 26 ∨ i = 27 ∨ i = 28 ∨ i = 29 ∨ i = 30 ∨ i = 31 ∨ i = 32 ∨ i = 33 ∨ i = 34 ∨ i = 35) with rfl | rfl | rfl | rfl | rfl | rfl | rfl | rfl | rfl | rfl | rfl | rfl | rfl | rfl | rfl | rfl | rfl | rfl | rfl | rfl | rfl | rfl | rfl | rfl | rfl | rfl | rfl | rfl | rfl | rfl | rfl | rfl | rfl | rfl | rfl | rfl
            · clear hi; intro o ho lz fz w' A hJ hli ha hA K hK
              obtain ⟨hv, hq⟩ := hJ
              obtain rfl := Option.some.inj ho
              clear ho
              have hr := hq
              have g4 := slot_out hA 4 _ (by decide) (by decide) rfl
              simp only [List.getD_cons_succ, List.getD_cons_zero] at g4
              have gg4 := slot_get g4
              rw [if_pos (by rfl)]
              have hF := hK (.slice (some ⟨b, o, none⟩) m cX) w' ⟨hv.step 0 27 _ (by simp), hq.step 0 27 _ (Below.refl _ _) (by simp)⟩
              clear hv hq hr ha hK hA hli
              go_simp
              exact hF
            · clear hi; intro o ho lz fz w' A hJ hli ha hA K hK
              obtain ⟨hv, hq⟩ := hJ
              obtain rfl := Option.some.inj ho
              clear ho
              have hr := hq
              have g6 := slot_out hA 6 _ (by decide) (by decide) rfl
              simp only [List.getD_cons_succ, List.getD_cons_zero] at g6
              have gg6 := slot_get g6
              rw [if_pos (by rfl)]
              have hF := hK (.int .i64 (k : Int)) w' ⟨hv.step 1 28 _ (by simp), hq.step 1 28 _ (Below.refl _ _) (by simp)⟩
              clear hv hq hr ha hK hA hli
              go_simp
              exact hF
            · clear hi; intro o ho lz fz w' A hJ hli ha hA K hK
              obtain ⟨hv, hq⟩ := hJ
              obtain rfl := Option.some.inj ho
              clear ho
              have hr := hq
              have g27 := slot_in hA 27 (by decide) (by decide) (hv (0, 27, (.slice (some ⟨b, o, none⟩) m cX)) (by simp) (ha 0 (by simp [aftersOf, Region.binds])))
              have g28 := slot_in hA 28 (by decide) (by decide) (hv (1, 28, (.int .i64 (k : Int))) (by simp) (ha 1 (by simp [aftersOf, Region.binds])))
              have gg27 := slot_get g27
              have gg28 := slot_get g28
              rw [if_pos (by rfl)]
              have hF := hK (.pointer (some ⟨b, o + k, none⟩)) w' ⟨hv.step 2 29 _ (by simp), hq.step 2 29 _ (Below.refl _ _) (by simp)⟩
              clear hv hq hr ha hK hA hli
              go_simp
              exact hF
            · clear hi; intro o ho lz fz w' A hJ hli ha hA K hK
              obtain ⟨hv, hq⟩ := hJ
              obtain rfl := Option.some.inj ho
              clear ho
              have hr := hq
              have g29 := slot_in hA 29 (by decide) (by decide) (hv (2, 29, (.pointer (some ⟨b, o + k, none⟩))) (by simp) (ha 2 (by simp [aftersOf, Region.binds])))
              have gg29 := slot_get g29
              rw [if_pos (by rfl)]
              have kc := (hr.1.cell (p := ⟨b, o + k, none⟩) hbX).trans c0
              have hF := hK (.int .i64 (X : Int)) w' ⟨hv.step 3 30 _ (by simp), hq.step 3 30 _ (Below.refl _ _) (by simp)⟩
              clear hv hq hr ha hK hA hli
              go_simp
              exact hF
            · clear hi; intro o ho lz fz w' A hJ hli ha hA K hK
              obtain ⟨hv, hq⟩ := hJ
              obtain rfl := Option.some.inj ho
              clear ho
              have hr := hq
              have g30 := slot_in hA 30 (by decide) (by decide) (hv (3, 30, (.int .i64 (X : Int))) (by simp) (ha 3 (by simp [aftersOf, Region.binds])))
              have gg30 := slot_get g30
              rw [if_pos (by rfl)]
              have hF := hK (.bool false) w' ⟨hv.step 4 31 _ (by simp), hq.step 4 31 _ (Below.refl _ _) (by simp)⟩
              clear hv hq hr ha hK hA hli
              go_simp
              exact hF
            · clear hi; intro o ho lz fz w' A hJ hli ha hA K hK
              obtain ⟨hv, hq⟩ := hJ
              obtain rfl := Option.some.inj ho
              clear ho
              have hr := hq
              have g31 := slot_in hA 31 (by decide) (by decide) (hv (4, 31, (.bool false)) (by simp) (ha 4 (by simp [aftersOf, Region.binds])))
              have gg31 := slot_get g31
              rw [if_pos (by rfl)]
              have hF := hK (.bool false) w' ⟨hv.step 5 32 _ (by simp), hq.step 5 32 _ (Below.refl _ _) (by simp)⟩
              clear hv hq hr ha hK hA hli
              go_simp
              exact hF
            · clear hi; intro o ho lz fz w' A hJ hli ha hA K hK
              obtain ⟨hv, hq⟩ := hJ
              obtain rfl := Option.some.inj ho
              clear ho
              have hr := hq
              have g4 := slot_out hA 4 _ (by decide) (by decide) rfl
              simp only [List.getD_cons_succ, List.getD_cons_zero] at g4
              have g32 := slot_in hA 32 (by decide) (by decide) (hv (5, 32, (.bool false)) (by simp) (ha 5 (by simp [aftersOf, Region.binds])))
              have gg4 := slot_get g4
              have gg32 := slot_get g32
              have gw := slot_bool g32
              rw [if_pos (by simp [Region.wanted, yielded, gw])]
              clear gw
              have hF := hK (.slice (some ⟨b, o, none⟩) m cX) w' ⟨hv.step 6 33 _ (by simp), hq.step 6 33 _ (Below.refl _ _) (by simp)⟩
              clear hv hq hr ha hK hA hli
              go_simp
              exact hF
            · clear hi; intro o ho lz fz w' A hJ hli ha hA K hK
              obtain ⟨hv, hq⟩ := hJ
              obtain rfl := Option.some.inj ho
              clear ho
              have hr := hq
              have g6 := slot_out hA 6 _ (by decide) (by decide) rfl
              simp only [List.getD_cons_succ, List.getD_cons_zero] at g6
              have g32 := slot_in hA 32 (by decide) (by decide) (hv (5, 32, (.bool false)) (by simp) (ha 5 (by simp [aftersOf, Region.binds])))
              have gg6 := slot_get g6
              have gg32 := slot_get g32
              have gw := slot_bool g32
              rw [if_pos (by simp [Region.wanted, yielded, gw])]
              clear gw
              have hF := hK (.int .i64 (k : Int)) w' ⟨hv.step 7 34 _ (by simp), hq.step 7 34 _ (Below.refl _ _) (by simp)⟩
              clear hv hq hr ha hK hA hli
              go_simp
              exact hF
            · clear hi; intro o ho lz fz w' A hJ hli ha hA K hK
              obtain ⟨hv, hq⟩ := hJ
              obtain rfl := Option.some.inj ho
              clear ho
              have hr := hq
              have g33 := slot_in hA 33 (by decide) (by decide) (hv (6, 33, (.slice (some ⟨b, o, none⟩) m cX)) (by simp) (ha 6 (by simp [aftersOf, Region.binds])))
              have g34 := slot_in hA 34 (by decide) (by decide) (hv (7, 34, (.int .i64 (k : Int))) (by simp) (ha 7 (by simp [aftersOf, Region.binds])))
              have g32 := slot_in hA 32 (by decide) (by decide) (hv (5, 32, (.bool false)) (by simp) (ha 5 (by simp [aftersOf, Region.binds])))
              have gg33 := slot_get g33
              have gg34 := slot_get g34
              have gg32 := slot_get g32
              have gw := slot_bool g32
              rw [if_pos (by simp [Region.wanted, yielded, gw])]
              clear gw
              have hF := hK (.pointer (some ⟨b, o + k, none⟩)) w' ⟨hv.step 8 35 _ (by simp), hq.step 8 35 _ (Below.refl _ _) (by simp)⟩
              clear hv hq hr ha hK hA hli
              go_simp
              exact hF
            · clear hi; intro o ho lz fz w' A hJ hli ha hA K hK
              obtain ⟨hv, hq⟩ := hJ
              obtain rfl := Option.some.inj ho
              clear ho
              have hr := hq
              have g35 := slot_in hA 35 (by decide) (by decide) (hv (8, 35, (.pointer (some ⟨b, o + k, none⟩))) (by simp) (ha 8 (by simp [aftersOf, Region.binds])))
              have g32 := slot_in hA 32 (by decide) (by decide) (hv (5, 32, (.bool false)) (by simp) (ha 5 (by simp [aftersOf, Region.binds])))
              have gg35 := slot_get g35
              have gg32 := slot_get g32
              have gw := slot_bool g32
              rw [if_pos (by simp [Region.wanted, yielded, gw])]
              clear gw
              have kc := (hr.1.cell (p := ⟨b, o + k, none⟩) hbX).trans c0
              have hF := hK (.int .i64 (X : Int)) w' ⟨hv.step 9 36 _ (by simp), hq.step 9 36 _ (Below.refl _ _) (by simp)⟩
              clear hv hq hr ha hK hA hli
              go_simp
              exact hF
            · clear hi; intro o ho lz fz w' A hJ hli ha hA K hK
              obtain ⟨hv, hq⟩ := hJ
              obtain rfl := Option.some.inj ho
              clear ho
              have hr := hq
              have g5 := slot_out hA 5 _ (by decide) (by decide) rfl
              simp only [List.getD_cons_succ, List.getD_cons_zero] at g5
              have g32 := slot_in hA 32 (by decide) (by decide) (hv (5, 32, (.bool false)) (by simp) (ha 5 (by simp [aftersOf, Region.binds])))
              have gg5 := slot_get g5
              have gg32 := slot_get g32
              have gw := slot_bool g32
              rw [if_pos (by simp [Region.wanted, yielded, gw])]
              clear gw
              have hF := hK (.slice (some ⟨bV, oV, none⟩) m cV) w' ⟨hv.step 10 37 _ (by simp), hq.step 10 37 _ (Below.refl _ _) (by simp)⟩
              clear hv hq hr ha hK hA hli
              go_simp
              exact hF
            · clear hi; intro o ho lz fz w' A hJ hli ha hA K hK
              obtain ⟨hv, hq⟩ := hJ
              obtain rfl := Option.some.inj ho
              clear ho
              have hr := hq
              have g37 := slot_in hA 37 (by decide) (by decide) (hv (10, 37, (.slice (some ⟨bV, oV, none⟩) m cV)) (by simp) (ha 10 (by simp [aftersOf, Region.binds])))
              have g32 := slot_in hA 32 (by decide) (by decide) (hv (5, 32, (.bool false)) (by simp) (ha 5 (by simp [aftersOf, Region.binds])))
              have gg37 := slot_get g37
              have gg32 := slot_get g32
              have gw := slot_bool g32
              rw [if_pos (by simp [Region.wanted, yielded, gw])]
              clear gw
              have hF := hK (.int .i64 (m : Int)) w' ⟨hv.step 11 38 _ (by simp), hq.step 11 38 _ (Below.refl _ _) (by simp)⟩
              clear hv hq hr ha hK hA hli
              go_simp
              exact hF
            · clear hi; intro o ho lz fz w' A hJ hli ha hA K hK
              obtain ⟨hv, hq⟩ := hJ
              obtain rfl := Option.some.inj ho
              clear ho
              have hr := hq
              have g36 := slot_in hA 36 (by decide) (by decide) (hv (9, 36, (.int .i64 (X : Int))) (by simp) (ha 9 (by simp [aftersOf, Region.binds])))
              have g38 := slot_in hA 38 (by decide) (by decide) (hv (11, 38, (.int .i64 (m : Int))) (by simp) (ha 11 (by simp [aftersOf, Region.binds])))
              have g32 := slot_in hA 32 (by decide) (by decide) (hv (5, 32, (.bool false)) (by simp) (ha 5 (by simp [aftersOf, Region.binds])))
              have gg36 := slot_get g36
              have gg38 := slot_get g38
              have gg32 := slot_get g32
              have gw := slot_bool g32
              rw [if_pos (by simp [Region.wanted, yielded, gw])]
              clear gw
              have hF := hK (.bool false) w' ⟨hv.step 12 39 _ (by simp), hq.step 12 39 _ (Below.refl _ _) (by simp)⟩
              clear hv hq hr ha hK hA hli
              go_simp
              exact hF
            · clear hi; intro o ho lz fz w' A hJ hli ha hA K hK
              obtain ⟨hv, hq⟩ := hJ
              obtain rfl := Option.some.inj ho
              clear ho
              have hr := hq
              have g32 := slot_in hA 32 (by decide) (by decide) (hv (5, 32, (.bool false)) (by simp) (ha 5 (by simp [aftersOf, Region.binds])))
              have g39 := slot_in hA 39 (by decide) (by decide) (hv (12, 39, (.bool false)) (by simp) (ha 12 (by simp [aftersOf, Region.binds])))
              have gg32 := slot_get g32
              have gg39 := slot_get g39
              rw [if_pos (by rfl)]
              have hF := hK (.bool false) w' ⟨hv.step 13 40 _ (by simp), hq.step 13 40 _ (Below.refl _ _) (by simp)⟩
              clear hv hq hr ha hK hA hli
              go_simp
              exact hF
            · clear hi; intro o ho lz fz w' A hJ hli ha hA K hK
              obtain ⟨hv, hq⟩ := hJ
              obtain rfl := Option.some.inj ho
              clear ho
              have hr := hq
              have g40 := slot_in hA 40 (by decide) (by decide) (hv (13, 40, (.bool false)) (by simp) (ha 13 (by simp [aftersOf, Region.binds])))
              have gg40 := slot_get g40
              rw [if_pos (by rfl)]
              have hF := hK (.bool false) w' ⟨hv.step 14 41 _ (by simp), hq.step 14 41 _ (Below.refl _ _) (by simp)⟩
              clear hv hq hr ha hK hA hli
              go_simp
              exact hF
            · clear hi; intro o ho lz fz w' A hJ hli ha hA K hK
              obtain ⟨hv, hq⟩ := hJ
              obtain rfl := Option.some.inj ho
              clear ho
              have hr := hq
              have g6 := slot_out hA 6 _ (by decide) (by decide) rfl
              simp only [List.getD_cons_succ, List.getD_cons_zero] at g6
              have g41 := slot_in hA 41 (by decide) (by decide) (hv (14, 41, (.bool false)) (by simp) (ha 14 (by simp [aftersOf, Region.binds])))
              have gg6 := slot_get g6
              have gg41 := slot_get g41
              have gw := slot_bool g41
              rw [if_pos (by simp [Region.wanted, yielded, gw])]
              clear gw
              have hF := hK (.int .i64 (k : Int)) w' ⟨hv.step 15 42 _ (by simp), hq.step 15 42 _ (Below.refl _ _) (by simp)⟩
              clear hv hq hr ha hK hA hli
              go_simp
              exact hF
            · clear hi; intro o ho lz fz w' A hJ hli ha hA K hK
              obtain ⟨hv, hq⟩ := hJ
              obtain rfl := Option.some.inj ho
              clear ho
              have hr := hq
              have g42 := slot_in hA 42 (by decide) (by decide) (hv (15, 42, (.int .i64 (k : Int))) (by simp) (ha 15 (by simp [aftersOf, Region.binds])))
              have g41 := slot_in hA 41 (by decide) (by decide) (hv (14, 41, (.bool false)) (by simp) (ha 14 (by simp [aftersOf, Region.binds])))
              have gg42 := slot_get g42
              have gg41 := slot_get g41
              have gw := slot_bool g41
              rw [if_pos (by simp [Region.wanted, yielded, gw])]
              clear gw
              have hF := hK (.bool true) w' ⟨hv.step 16 43 _ (by simp), hq.step 16 43 _ (Below.refl _ _) (by simp)⟩
              clear hv hq hr ha hK hA hli
              go_simp
              exact hF
            · clear hi; intro o ho lz fz w' A hJ hli ha hA K hK
              obtain ⟨hv, hq⟩ := hJ
              obtain rfl := Option.some.inj ho
              clear ho
              have hr := hq
              have g43 := slot_in hA 43 (by decide) (by decide) (hv (16, 43, (.bool true)) (by simp) (ha 16 (by simp [aftersOf, Region.binds])))
              have g41 := slot_in hA 41 (by decide) (by decide) (hv (14, 41, (.bool false)) (by simp) (ha 14 (by simp [aftersOf, Region.binds])))
              have gg43 := slot_get g43
              have gg41 := slot_get g41
              have gw := slot_bool g41
              rw [if_pos (by simp [Region.wanted, yielded, gw])]
              clear gw
              have hF := hK (.bool true) w' ⟨hv.step 17 44 _ (by simp), hq.step 17 44 _ (Below.refl _ _) (by simp)⟩
              clear hv hq hr ha hK hA hli
              go_simp
              exact hF
            · clear hi; intro o ho lz fz w' A hJ hli ha hA K hK
              obtain ⟨hv, hq⟩ := hJ
              obtain rfl := Option.some.inj ho
              clear ho
              have hr := hq
              have g5 := slot_out hA 5 _ (by decide) (by decide) rfl
              simp only [List.getD_cons_succ, List.getD_cons_zero] at g5
              have g44 := slot_in hA 44 (by decide) (by decide) (hv (17, 44, (.bool true)) (by simp) (ha 17 (by simp [aftersOf, Region.binds])))
              have gg5 := slot_get g5
              have gg44 := slot_get g44
              have gw := slot_bool g44
              rw [if_pos (by simp [Region.wanted, yielded, gw])]
              clear gw
              have hF := hK (.slice (some ⟨bV, oV, none⟩) m cV) w' ⟨hv.step 18 45 _ (by simp), hq.step 18 45 _ (Below.refl _ _) (by simp)⟩
              clear hv hq hr ha hK hA hli
              go_simp
              exact hF
            · clear hi; intro o ho lz fz w' A hJ hli ha hA K hK
              obtain ⟨hv, hq⟩ := hJ
              obtain rfl := Option.some.inj ho
              clear ho
              have hr := hq
              have g4 := slot_out hA 4 _ (by decide) (by decide) rfl
              simp only [List.getD_cons_succ, List.getD_cons_zero] at g4
              have g44 := slot_in hA 44 (by decide) (by decide) (hv (17, 44, (.bool true)) (by simp) (ha 17 (by simp [aftersOf, Region.binds])))
              have gg4 := slot_get g4
              have gg44 := slot_get g44
              have gw := slot_bool g44
              rw [if_pos (by simp [Region.wanted, yielded, gw])]
              clear gw
              have hF := hK (.slice (some ⟨b, o, none⟩) m cX) w' ⟨hv.step 19 46 _ (by simp), hq.step 19 46 _ (Below.refl _ _) (by simp)⟩
              clear hv hq hr ha hK hA hli
              go_simp
              exact hF
            · clear hi; intro o ho lz fz w' A hJ hli ha hA K hK
              obtain ⟨hv, hq⟩ := hJ
              obtain rfl := Option.some.inj ho
              clear ho
              have hr := hq
              have g6 := slot_out hA 6 _ (by decide) (by decide) rfl
              simp only [List.getD_cons_succ, List.getD_cons_zero] at g6
              have g44 := slot_in hA 44 (by decide) (by decide) (hv (17, 44, (.bool true)) (by simp) (ha 17 (by simp [aftersOf, Region.binds])))
              have gg6 := slot_get g6
              have gg44 := slot_get g44
              have gw := slot_bool g44
              rw [if_pos (by simp [Region.wanted, yielded, gw])]
              clear gw
              have hF := hK (.int .i64 (k : Int)) w' ⟨hv.step 20 47 _ (by simp), hq.step 20 47 _ (Below.refl _ _) (by simp)⟩
              clear hv hq hr ha hK hA hli
              go_simp
              exact hF
            · clear hi; intro o ho lz fz w' A hJ hli ha hA K hK
              obtain ⟨hv, hq⟩ := hJ
              obtain rfl := Option.some.inj ho
              clear ho
              have hr := hq
              have g47 := slot_in hA 47 (by decide) (by decide) (hv (20, 47, (.int .i64 (k : Int))) (by simp) (ha 20 (by simp [aftersOf, Region.binds])))
              have g44 := slot_in hA 44 (by decide) (by decide) (hv (17, 44, (.bool true)) (by simp) (ha 17 (by simp [aftersOf, Region.binds])))
              have gg47 := slot_get g47
              have gg44 := slot_get g44
              have gw := slot_bool g44
              rw [if_pos (by simp [Region.wanted, yielded, gw])]
              clear gw
              have hF := hK (.int .i64 ((k : Int) - 1)) w' ⟨hv.step 21 48 _ (by simp), hq.step 21 48 _ (Below.refl _ _) (by simp)⟩
              clear hv hq hr ha hK hA hli
              go_simp
              exact hF
            · clear hi; intro o ho lz fz w' A hJ hli ha hA K hK
              obtain ⟨hv, hq⟩ := hJ
              obtain rfl := Option.some.inj ho
              clear ho
              have hr := hq
              have g46 := slot_in hA 46 (by decide) (by decide) (hv (19, 46, (.slice (some ⟨b, o, none⟩) m cX)) (by simp) (ha 19 (by simp [aftersOf, Region.binds])))
              have g48 := slot_in hA 48 (by decide) (by decide) (hv (21, 48, (.int .i64 ((k : Int) - 1))) (by simp) (ha 21 (by simp [aftersOf, Region.binds])))
              have g44 := slot_in hA 44 (by decide) (by decide) (hv (17, 44, (.bool true)) (by simp) (ha 17 (by simp [aftersOf, Region.binds])))
              have gg46 := slot_get g46
              have gg48 := slot_get g48
              have gg44 := slot_get g44
              have gw := slot_bool g44
              rw [if_pos (by simp [Region.wanted, yielded, gw])]
              clear gw
              have hF := hK (.pointer (some ⟨b, o + (k - 1), none⟩)) w' ⟨hv.step 22 49 _ (by simp), hq.step 22 49 _ (Below.refl _ _) (by simp)⟩
              clear hv hq hr ha hK hA hli
              go_simp
              exact hF
            · clear hi; intro o ho lz fz w' A hJ hli ha hA K hK
              obtain ⟨hv, hq⟩ := hJ
              obtain rfl := Option.some.inj ho
              clear ho
              have hr := hq
              have g49 := slot_in hA 49 (by decide) (by decide) (hv (22, 49, (.pointer (some ⟨b, o + (k - 1), none⟩))) (by simp) (ha 22 (by simp [aftersOf, Region.binds])))
              have g44 := slot_in hA 44 (by decide) (by decide) (hv (17, 44, (.bool true)) (by simp) (ha 17 (by simp [aftersOf, Region.binds])))
              have gg49 := slot_get g49
              have gg44 := slot_get g44
              have gw := slot_bool g44
              rw [if_pos (by simp [Region.wanted, yielded, gw])]
              clear gw
              have kc := (hr.1.cell (p := ⟨b, o + (k - 1), none⟩) hbX).trans c1
              have hF := hK (.int .i64 (Y : Int)) w' ⟨hv.step 23 50 _ (by simp), hq.step 23 50 _ (Below.refl _ _) (by simp)⟩
              clear hv hq hr ha hK hA hli
              go_simp
              exact hF
            · clear hi; intro o ho lz fz w' A hJ hli ha hA K hK
              obtain ⟨hv, hq⟩ := hJ
              obtain rfl := Option.some.inj ho
              clear ho
              have hr := hq
              have g45 := slot_in hA 45 (by decide) (by decide) (hv (18, 45, (.slice (some ⟨bV, oV, none⟩) m cV)) (by simp) (ha 18 (by simp [aftersOf, Region.binds])))
              have g50 := slot_in hA 50 (by decide) (by decide) (hv (23, 50, (.int .i64 (Y : Int))) (by simp) (ha 23 (by simp [aftersOf, Region.binds])))
              have g44 := slot_in hA 44 (by decide) (by decide) (hv (17, 44, (.bool true)) (by simp) (ha 17 (by simp [aftersOf, Region.binds])))
              have gg45 := slot_get g45
              have gg50 := slot_get g50
              have gg44 := slot_get g44
              have gw := slot_bool g44
              rw [if_pos (by simp [Region.wanted, yielded, gw])]
              clear gw
              have hF := hK (.pointer (some ⟨bV, oV + Y, none⟩)) w' ⟨hv.step 24 51 _ (by simp), hq.step 24 51 _ (Below.refl _ _) (by simp)⟩
              clear hv hq hr ha hK hA hli
              go_simp
              exact hF
            · clear hi; intro o ho lz fz w' A hJ hli ha hA K hK
              obtain ⟨hv, hq⟩ := hJ
              obtain rfl := Option.some.inj ho
              clear ho
              have hr := hq
              have g51 := slot_in hA 51 (by decide) (by decide) (hv (24, 51, (.pointer (some ⟨bV, oV + Y, none⟩))) (by simp) (ha 24 (by simp [aftersOf, Region.binds])))
              have g44 := slot_in hA 44 (by decide) (by decide) (hv (17, 44, (.bool true)) (by simp) (ha 17 (by simp [aftersOf, Region.binds])))
              have gg51 := slot_get g51
              have gg44 := slot_get g44
              have gw := slot_bool g44
              rw [if_pos (by simp [Region.wanted, yielded, gw])]
              clear gw
              have kc := (hr.1.cell (p := ⟨bV, oV + Y, none⟩) hbV).trans d1
              have hF := hK (.int .i64 vy) w' ⟨hv.step 25 52 _ (by simp), hq.step 25 52 _ (Below.refl _ _) (by simp)⟩
              clear hv hq hr ha hK hA hli
              go_simp
              exact hF
            · clear hi; intro o ho lz fz w' A hJ hli ha hA K hK
              obtain ⟨hv, hq⟩ := hJ
              obtain rfl := Option.some.inj ho
              clear ho
              have hr := hq
              have g5 := slot_out hA 5 _ (by decide) (by decide) rfl
              simp only [List.getD_cons_succ, List.getD_cons_zero] at g5
              have g44 := slot_in hA 44 (by decide) (by decide) (hv (17, 44, (.bool true)) (by simp) (ha 17 (by simp [aftersOf, Region.binds])))
              have gg5 := slot_get g5
              have gg44 := slot_get g44
              have gw := slot_bool g44
              rw [if_pos (by simp [Region.wanted, yielded, gw])]
              clear gw
              have hF := hK (.slice (some ⟨bV, oV, none⟩) m cV) w' ⟨hv.step 26 53 _ (by simp), hq.step 26 53 _ (Below.refl _ _) (by simp)⟩
              clear hv hq hr ha hK hA hli
              go_simp
              exact hF
            · clear hi; intro o ho lz fz w' A hJ hli ha hA K hK
              obtain ⟨hv, hq⟩ := hJ
              obtain rfl := Option.some.inj ho
              clear ho
              have hr := hq
              have g4 := slot_out hA 4 _ (by decide) (by decide) rfl
              simp only [List.getD_cons_succ, List.getD_cons_zero] at g4
              have g44 := slot_in hA 44 (by decide) (by decide) (hv (17, 44, (.bool true)) (by simp) (ha 17 (by simp [aftersOf, Region.binds])))
              have gg4 := slot_get g4
              have gg44 := slot_get g44
              have gw := slot_bool g44
              rw [if_pos (by simp [Region.wanted, yielded, gw])]
              clear gw
              have hF := hK (.slice (some ⟨b, o, none⟩) m cX) w' ⟨hv.step 27 54 _ (by simp), hq.step 27 54 _ (Below.refl _ _) (by simp)⟩
              clear hv hq hr ha hK hA hli
              go_simp
              exact hF
            · clear hi; intro o ho lz fz w' A hJ hli ha hA K hK
              obtain ⟨hv, hq⟩ := hJ
              obtain rfl := Option.some.inj ho
              clear ho
              have hr := hq
              have g6 := slot_out hA 6 _ (by decide) (by decide) rfl
              simp only [List.getD_cons_succ, List.getD_cons_zero] at g6
              have g44 := slot_in hA 44 (by decide) (by decide) (hv (17, 44, (.bool true)) (by simp) (ha 17 (by simp [aftersOf, Region.binds])))
              have gg6 := slot_get g6
              have gg44 := slot_get g44
              have gw := slot_bool g44
              rw [if_pos (by simp [Region.wanted, yielded, gw])]
              clear gw
              have hF := hK (.int .i64 (k : Int)) w' ⟨hv.step 28 55 _ (by simp), hq.step 28 55 _ (Below.refl _ _) (by simp)⟩
              clear hv hq hr ha hK hA hli
              go_simp
              exact hF
            · clear hi; intro o ho lz fz w' A hJ hli ha hA K hK
              obtain ⟨hv, hq⟩ := hJ
              obtain rfl := Option.some.inj ho
              clear ho
              have hr := hq
              have g54 := slot_in hA 54 (by decide) (by decide) (hv (27, 54, (.slice (some ⟨b, o, none⟩) m cX)) (by simp) (ha 27 (by simp [aftersOf, Region.binds])))
              have g55 := slot_in hA 55 (by decide) (by decide) (hv (28, 55, (.int .i64 (k : Int))) (by simp) (ha 28 (by simp [aftersOf, Region.binds])))
              have g44 := slot_in hA 44 (by decide) (by decide) (hv (17, 44, (.bool true)) (by simp) (ha 17 (by simp [aftersOf, Region.binds])))
              have gg54 := slot_get g54
              have gg55 := slot_get g55
              have gg44 := slot_get g44
              have gw := slot_bool g44
              rw [if_pos (by simp [Region.wanted, yielded, gw])]
              clear gw
              have hF := hK (.pointer (some ⟨b, o + k, none⟩)) w' ⟨hv.step 29 56 _ (by simp), hq.step 29 56 _ (Below.refl _ _) (by simp)⟩
              clear hv hq hr ha hK hA hli
              go_simp
              exact hF
            · clear hi; intro o ho lz fz w' A hJ hli ha hA K hK
              obtain ⟨hv, hq⟩ := hJ
              obtain rfl := Option.some.inj ho
              clear ho
              have hr := hq
              have g56 := slot_in hA 56 (by decide) (by decide) (hv (29, 56, (.pointer (some ⟨b, o + k, none⟩))) (by simp) (ha 29 (by simp [aftersOf, Region.binds])))
              have g44 := slot_in hA 44 (by decide) (by decide) (hv (17, 44, (.bool true)) (by simp) (ha 17 (by simp [aftersOf, Region.binds])))
              have gg56 := slot_get g56
              have gg44 := slot_get g44
              have gw := slot_bool g44
              rw [if_pos (by simp [Region.wanted, yielded, gw])]
              clear gw
              have kc := (hr.1.cell (p := ⟨b, o + k, none⟩) hbX).trans c0
              have hF := hK (.int .i64 (X : Int)) w' ⟨hv.step 30 57 _ (by simp), hq.step 30 57 _ (Below.refl _ _) (by simp)⟩
              clear hv hq hr ha hK hA hli
              go_simp
              exact hF
            · clear hi; intro o ho lz fz w' A hJ hli ha hA K hK
              obtain ⟨hv, hq⟩ := hJ
              obtain rfl := Option.some.inj ho
              clear ho
              have hr := hq
              have g53 := slot_in hA 53 (by decide) (by decide) (hv (26, 53, (.slice (some ⟨bV, oV, none⟩) m cV)) (by simp) (ha 26 (by simp [aftersOf, Region.binds])))
              have g57 := slot_in hA 57 (by decide) (by decide) (hv (30, 57, (.int .i64 (X : Int))) (by simp) (ha 30 (by simp [aftersOf, Region.binds])))
              have g44 := slot_in hA 44 (by decide) (by decide) (hv (17, 44, (.bool true)) (by simp) (ha 17 (by simp [aftersOf, Region.binds])))
              have gg53 := slot_get g53
              have gg57 := slot_get g57
              have gg44 := slot_get g44
              have gw := slot_bool g44
              rw [if_pos (by simp [Region.wanted, yielded, gw])]
              clear gw
              have hF := hK (.pointer (some ⟨bV, oV + X, none⟩)) w' ⟨hv.step 31 58 _ (by simp), hq.step 31 58 _ (Below.refl _ _) (by simp)⟩
              clear hv hq hr ha hK hA hli
              go_simp
              exact hF
            · clear hi; intro o ho lz fz w' A hJ hli ha hA K hK
              obtain ⟨hv, hq⟩ := hJ
              obtain rfl := Option.some.inj ho
              clear ho
              have hr := hq
              have g58 := slot_in hA 58 (by decide) (by decide) (hv (31, 58, (.pointer (some ⟨bV, oV + X, none⟩))) (by simp) (ha 31 (by simp [aftersOf, Region.binds])))
              have g44 := slot_in hA 44 (by decide) (by decide) (hv (17, 44, (.bool true)) (by simp) (ha 17 (by simp [aftersOf, Region.binds])))
              have gg58 := slot_get g58
              have gg44 := slot_get g44
              have gw := slot_bool g44
              rw [if_pos (by simp [Region.wanted, yielded, gw])]
              clear gw
              have kc := (hr.1.cell (p := ⟨bV, oV + X, none⟩) hbV).trans d0
              have hF := hK (.int .i64 vx) w' ⟨hv.step 32 59 _ (by simp), hq.step 32 59 _ (Below.refl _ _) (by simp)⟩
              clear hv hq hr ha hK hA hli
              go_simp
              exact hF
            · clear hi; intro o ho lz fz w' A hJ hli ha hA K hK
              obtain ⟨hv, hq⟩ := hJ
              obtain rfl := Option.some.inj ho
              clear ho
              have hr := hq
              have g52 := slot_in hA 52 (by decide) (by decide) (hv (25, 52, (.int .i64 vy)) (by simp) (ha 25 (by simp [aftersOf, Region.binds])))
              have g59 := slot_in hA 59 (by decide) (by decide) (hv (32, 59, (.int .i64 vx)) (by simp) (ha 32 (by simp [aftersOf, Region.binds])))
              have g44 := slot_in hA 44 (by decide) (by decide) (hv (17, 44, (.bool true)) (by simp) (ha 17 (by simp [aftersOf, Region.binds])))
              have gg52 := slot_get g52
              have gg59 := slot_get g59
              have gg44 := slot_get g44
              have gw := slot_bool g44
              rw [if_pos (by simp [Region.wanted, yielded, gw])]
              clear gw
              have hF := hK (.bool false) w' ⟨hv.step 33 60 _ (by simp), hq.step 33 60 _ (Below.refl _ _) (by simp)⟩
              clear hv hq hr ha hK hA hli
              go_simp
              exact hF
            · clear hi; intro o ho lz fz w' A hJ hli ha hA K hK
              obtain ⟨hv, hq⟩ := hJ
              obtain rfl := Option.some.inj ho
              clear ho
              have hr := hq
              have g44 := slot_in hA 44 (by decide) (by decide) (hv (17, 44, (.bool true)) (by simp) (ha 17 (by simp [aftersOf, Region.binds])))
              have g60 := slot_in hA 60 (by decide) (by decide) (hv (33, 60, (.bool false)) (by simp) (ha 33 (by simp [aftersOf, Region.binds])))
              have g41 := slot_in hA 41 (by decide) (by decide) (hv (14, 41, (.bool false)) (by simp) (ha 14 (by simp [aftersOf, Region.binds])))
              have gg44 := slot_get g44
              have gg60 := slot_get g60
              have gg41 := slot_get g41
              have gw := slot_bool g41
              rw [if_pos (by simp [Region.wanted, yielded, gw])]
              clear gw
              have hF := hK (.bool false) w' ⟨hv.step 34 61 _ (by simp), hq.step 34 61 _ (Below.refl _ _) (by simp)⟩
              clear hv hq hr ha hK hA hli
              go_simp
              exact hF
            · clear hi; intro o ho lz fz w' A hJ hli ha hA K hK
              obtain ⟨hv, hq⟩ := hJ
              obtain rfl := Option.some.inj ho
              clear ho
              have hr := hq
              have g41 := slot_in hA 41 (by decide) (by decide) (hv (14, 41, (.bool false)) (by simp) (ha 14 (by simp [aftersOf, Region.binds])))
              have g61 := slot_in hA 61 (by decide) (by decide) (hv (34, 61, (.bool false)) (by simp) (ha 34 (by simp [aftersOf, Region.binds])))
              have gg41 := slot_get g41
              have gg61 := slot_get g61
              rw [if_pos (by rfl)]
              have hF := hK (.bool false) w' ⟨hv.step 35 62 _ (by simp), hq.step 35 62 _ (Below.refl _ _) (by simp)⟩
              clear hv hq hr ha hK hA hli
              go_simp
              exact hF
          · intro lz fz w7 hall hJ
            obtain ⟨hv, hq⟩ := hJ
            have h62 : fz 62 = (.bool false) := hv (35, 62, (.bool false)) (by simp) (hall 35 (by decide))
            have hbR := hq.1
            clear hv hq hall
            simp only [mixF, List.contains_cons, List.contains_nil]
            go_simp
          -- END REGION 1
            have hb7 := hb.trans (hbR.mono hb.size)
            clear hbR
            go_wp2
            go_roundw
            case rel => exact ⟨k + 1, by omega, by go_num, hb7⟩
            case measure => simp [intOf]; omega
        · have e3 : decide (0 < k) = false := decide_eq_false (by omega)
          clear hcX hcV hX hk0
          go_wp2
          have hbX : b < wr.heap.size := World.block_lt_of_cell? wr ⟨b, o + k, none⟩ c0
          -- REGION 0
          refine wp_region_light (by kernel_rfl) (fun lz fz wz => Vals [(0, 27, (.slice (some ⟨b, o, none⟩) m cX)), (1, 28, (.int .i64 (k : Int))), (2, 29, (.pointer (some ⟨b, o + k, none⟩))), (3, 30, (.int .i64 (X : Int))), (4, 31, (.bool false)), (5, 32, (.bool false)), (6, 33, (.slice (some ⟨b, o, none⟩) m cX)), (7, 34, (.int .i64 (k : Int))), (8, 35, (.pointer (some ⟨b, o + k, none⟩))), (9, 36, (.int .i64 (X : Int))), (10, 37, (.slice (some ⟨bV, oV, none⟩) m cV)), (11, 38, (.int .i64 (m : Int))), (12, 39, (.bool false)), (13, 40, (.bool false)), (14, 41, (.bool false)), (15, 42, (.int .i64 (k : Int))), (16, 43, (.bool false)), (17, 44, (.bool false)), (34, 61, (.bool false)), (35, 62, (.bool false))] lz fz ∧ Facts wr [] lz fz wz) 71 rfl [27, 28, 29, 30, 31, 32, 33, 34, 35, 36, 37, 38, 39, 40, 41, 42, 43, 44, 45, 46, 47, 48, 49, 50, 51, 52, 53, 54, 55, 56, 57, 58, 59, 60, 61, 62] (by kernel_rfl) (by kernel_rfl) (by kernel_rfl) (fun f => ⟨Vals.nothing _ f, Facts.nothing _ _ f⟩) ?_ ?_
          · intro i hi
            rcases (by have : i < 36 := hi; omega : i = 0 ∨ i = 1 ∨ i = 2 ∨ i = 3 ∨ i = 4 ∨ i = 5 ∨ i = 6 ∨ i = 7 ∨ i = 8 ∨ i = 9 ∨ i = 10 ∨ i = 11 ∨ i = 12 ∨ i = 13 ∨ i = 14 ∨ i = 15 ∨ i = 16 ∨ i = 17 ∨ i = 18 ∨ i = 19 ∨ i = 20 ∨ i = 21 ∨ i = 22 ∨ i = 23 ∨ i = 24 ∨ i = 25 ∨ i = 26 ∨ i = 27 ∨ i = 28 ∨ i = 29 ∨ i = 30 ∨ i = 31 ∨ i = 32 ∨ i = 33 ∨ i = 34 ∨ i = 35) with rfl | rfl | rfl | rfl | rfl | rfl | rfl | rfl | rfl | rfl | rfl | rfl | rfl | rfl | rfl | rfl | rfl | rfl | rfl | rfl | rfl | rfl | rfl | rfl | rfl | rfl | rfl | rfl | rfl | rfl | rfl | rfl | rfl | rfl | rfl | rfl
            · clear hi; intro o ho lz fz w' A hJ hli ha hA K hK
              obtain ⟨hv, hq⟩ := hJ
              obtain rfl := Option.some.inj ho
              clear ho
              have hr := hq
              have g4 := slot_out hA 4 _ (by decide) (by decide) rfl
              simp only [List.getD_cons_succ, List.getD_cons_zero] at g4
              have gg4 := slot_get g4
              rw [if_pos (by rfl)]
              have hF := hK (.slice (some ⟨b, o, none⟩) m cX) w' ⟨hv.step 0 27 _ (by simp), hq.step 0 27 _ (Below.refl _ _) (by simp)⟩
              clear hv hq hr ha hK hA hli
              go_simp
              exact hF
            · clear hi; intro o ho lz fz w' A hJ hli ha hA K hK
              obtain ⟨hv, hq⟩ := hJ
              obtain rfl := Option.some.inj ho
              clear ho
              have hr := hq
              have g6 := slot_out hA 6 _ (by decide) (by decide) rfl
              simp only [List.getD_cons_succ, List.getD_cons_zero] at g6
              have gg6 := slot_get g6
              rw [if_pos (by rfl)]
              have hF := hK (.int .i64 (k : Int)) w' ⟨hv.step 1 28 _ (by simp), hq.step 1 28 _ (Below.refl _ _) (by simp)⟩
              clear hv hq hr ha hK hA hli
              go_simp
              exact hF
            · clear hi; intro o ho lz fz w' A hJ hli ha hA K hK
              obtain ⟨hv, hq⟩ := hJ
              obtain rfl := Option.some.inj ho
              clear ho
              have hr := hq
              have g27 := slot_in hA 27 (by decide) (by decide) (hv (0, 27, (.slice (some ⟨b, o, none⟩) m cX)) (by simp) (ha 0 (by simp [aftersOf, Region.binds])))
              have g28 := slot_in hA 28 (by decide) (by decide) (hv (1, 28, (.int .i64 (k : Int))) (by simp) (ha 1 (by simp [aftersOf, Region.binds])))
              have gg27 := slot_get g27
              have gg28 := slot_get g28
              rw [if_pos (by rfl)]
              have hF := hK (.pointer (some ⟨b, o + k, none⟩)) w' ⟨hv.step 2 29 _ (by simp), hq.step 2 29 _ (Below.refl _ _) (by simp)⟩
              clear hv hq hr ha hK hA hli
              go_simp
              exact hF
            · clear hi; intro o ho lz fz w' A hJ hli ha hA K hK
              obtain ⟨hv, hq⟩ := hJ
              obtain rfl := Option.some.inj ho
              clear ho
              have hr := hq
              have g29 := slot_in hA 29 (by decide) (by decide) (hv (2, 29, (.pointer (some ⟨b, o + k, none⟩))) (by simp) (ha 2 (by simp [aftersOf, Region.binds])))
              have gg29 := slot_get g29
              rw [if_pos (by rfl)]
              have kc := (hr.1.cell (p := ⟨b, o + k, none⟩) hbX).trans c0
              have hF := hK (.int .i64 (X : Int)) w' ⟨hv.step 3 30 _ (by simp), hq.step 3 30 _ (Below.refl _ _) (by simp)⟩
              clear hv hq hr ha hK hA hli
              go_simp
              exact hF
            · clear hi; intro o ho lz fz w' A hJ hli ha hA K hK
              obtain ⟨hv, hq⟩ := hJ
              obtain rfl := Option.some.inj ho
              clear ho
              have hr := hq
              have g30 := slot_in hA 30 (by decide) (by decide) (hv (3, 30, (.int .i64 (X : Int))) (by simp) (ha 3 (by simp [aftersOf, Region.binds])))
              have gg30 := slot_get g30
              rw [if_pos (by rfl)]
              have hF := hK (.bool false) w' ⟨hv.step 4 31 _ (by simp), hq.step 4 31 _ (Below.refl _ _) (by simp)⟩
              clear hv hq hr ha hK hA hli
              go_simp
              exact hF
            · clear hi; intro o ho lz fz w' A hJ hli ha hA K hK
              obtain ⟨hv, hq⟩ := hJ
              obtain rfl := Option.some.inj ho
              clear ho
              have hr := hq
              have g31 := slot_in hA 31 (by decide) (by decide) (hv (4, 31, (.bool false)) (by simp) (ha 4 (by simp [aftersOf, Region.binds])))
              have gg31 := slot_get g31
              rw [if_pos (by rfl)]
              have hF := hK (.bool false) w' ⟨hv.step 5 32 _ (by simp), hq.step 5 32 _ (Below.refl _ _) (by simp)⟩
              clear hv hq hr ha hK hA hli
              go_simp
              exact hF
            · clear hi; intro o ho lz fz w' A hJ hli ha hA K hK
              obtain ⟨hv, hq⟩ := hJ
              obtain rfl := Option.some.inj ho
              clear ho
              have hr := hq
              have g4 := slot_out hA 4 _ (by decide) (by decide) rfl
              simp only [List.getD_cons_succ, List.getD_cons_zero] at g4
              have g32 := slot_in hA 32 (by decide) (by decide) (hv (5, 32, (.bool false)) (by simp) (ha 5 (by simp [aftersOf, Region.binds])))
              have gg4 := slot_get g4
              have gg32 := slot_get g32
              have gw := slot_bool g32
              rw [if_pos (by simp [Region.wanted, yielded, gw])]
              clear gw
              have hF := hK (.slice (some ⟨b, o, none⟩) m cX) w' ⟨hv.step 6 33 _ (by simp), hq.step 6 33 _ (Below.refl _ _) (by simp)⟩
              clear hv hq hr ha hK hA hli
              go_simp
              exact hF
            · clear hi; intro o ho lz fz w' A hJ hli ha hA K hK
              obtain ⟨hv, hq⟩ := hJ
              obtain rfl := Option.some.inj ho
              clear ho
              have hr := hq
              have g6 := slot_out hA 6 _ (by decide) (by decide) rfl
              simp only [List.getD_cons_succ, List.getD_cons_zero] at g6
              have g32 := slot_in hA 32 (by decide) (by decide) (hv (5, 32, (.bool false)) (by simp) (ha 5 (by simp [aftersOf, Region.binds])))
              have gg6 := slot_get g6
              have gg32 := slot_get g32
              have gw := slot_bool g32
              rw [if_pos (by simp [Region.wanted, yielded, gw])]
              clear gw
              have hF := hK (.int .i64 (k : Int)) w' ⟨hv.step 7 34 _ (by simp), hq.step 7 34 _ (Below.refl _ _) (by simp)⟩
              clear hv hq hr ha hK hA hli
              go_simp
              exact hF
            · clear hi; intro o ho lz fz w' A hJ hli ha hA K hK
              obtain ⟨hv, hq⟩ := hJ
              obtain rfl := Option.some.inj ho
              clear ho
              have hr := hq
              have g33 := slot_in hA 33 (by decide) (by decide) (hv (6, 33, (.slice (some ⟨b, o, none⟩) m cX)) (by simp) (ha 6 (by simp [aftersOf, Region.binds])))
              have g34 := slot_in hA 34 (by decide) (by decide) (hv (7, 34, (.int .i64 (k : Int))) (by simp) (ha 7 (by simp [aftersOf, Region.binds])))
              have g32 := slot_in hA 32 (by decide) (by decide) (hv (5, 32, (.bool false)) (by simp) (ha 5 (by simp [aftersOf, Region.binds])))
              have gg33 := slot_get g33
              have gg34 := slot_get g34
              have gg32 := slot_get g32
              have gw := slot_bool g32
              rw [if_pos (by simp [Region.wanted, yielded, gw])]
              clear gw
              have hF := hK (.pointer (some ⟨b, o + k, none⟩)) w' ⟨hv.step 8 35 _ (by simp), hq.step 8 35 _ (Below.refl _ _) (by simp)⟩
              clear hv hq hr ha hK hA hli
              go_simp
              exact hF
            · clear hi; intro o ho lz fz w' A hJ hli ha hA K hK
              obtain ⟨hv, hq⟩ := hJ
              obtain rfl := Option.some.inj ho
              clear ho
              have hr := hq
              have g35 := slot_in hA 35 (by decide) (by decide) (hv (8, 35, (.pointer (some ⟨b, o + k, none⟩))) (by simp) (ha 8 (by simp [aftersOf, Region.binds])))
              have g32 := slot_in hA 32 (by decide) (by decide) (hv (5, 32, (.bool false)) (by simp) (ha 5 (by simp [aftersOf, Region.binds])))
              have gg35 := slot_get g35
              have gg32 := slot_get g32
              have gw := slot_bool g32
              rw [if_pos (by simp [Region.wanted, yielded, gw])]
              clear gw
              have kc := (hr.1.cell (p := ⟨b, o + k, none⟩) hbX).trans c0
              have hF := hK (.int .i64 (X : Int)) w' ⟨hv.step 9 36 _ (by simp), hq.step 9 36 _ (Below.refl _ _) (by simp)⟩
              clear hv hq hr ha hK hA hli
              go_simp
              exact hF
            · clear hi; intro o ho lz fz w' A hJ hli ha hA K hK
              obtain ⟨hv, hq⟩ := hJ
              obtain rfl := Option.some.inj ho
              clear ho
              have hr := hq
              have g5 := slot_out hA 5 _ (by decide) (by decide) rfl
              simp only [List.getD_cons_succ, List.getD_cons_zero] at g5
              have g32 := slot_in hA 32 (by decide) (by decide) (hv (5, 32, (.bool false)) (by simp) (ha 5 (by simp [aftersOf, Region.binds])))
              have gg5 := slot_get g5
              have gg32 := slot_get g32
              have gw := slot_bool g32
              rw [if_pos (by simp [Region.wanted, yielded, gw])]
              clear gw
              have hF := hK (.slice (some ⟨bV, oV, none⟩) m cV) w' ⟨hv.step 10 37 _ (by simp), hq.step 10 37 _ (Below.refl _ _) (by simp)⟩
              clear hv hq hr ha hK hA hli
              go_simp
              exact hF
            · clear hi; intro o ho lz fz w' A hJ hli ha hA K hK
              obtain ⟨hv, hq⟩ := hJ
              obtain rfl := Option.some.inj ho
              clear ho
              have hr := hq
              have g37 := slot_in hA 37 (by decide) (by decide) (hv (10, 37, (.slice (some ⟨bV, oV, none⟩) m cV)) (by simp) (ha 10 (by simp [aftersOf, Region.binds])))
              have g32 := slot_in hA 32 (by decide) (by decide) (hv (5, 32, (.bool false)) (by simp) (ha 5 (by simp [aftersOf, Region.binds])))
              have gg37 := slot_get g37
              have gg32 := slot_get g32
              have gw := slot_bool g32
              rw [if_pos (by simp [Region.wanted, yielded, gw])]
              clear gw
              have hF := hK (.int .i64 (m : Int)) w' ⟨hv.step 11 38 _ (by simp), hq.step 11 38 _ (Below.refl _ _) (by simp)⟩
              clear hv hq hr ha hK hA hli
              go_simp
              exact hF
            · clear hi; intro o ho lz fz w' A hJ hli ha hA K hK
              obtain ⟨hv, hq⟩ := hJ
              obtain rfl := Option.some.inj ho
              clear ho
              have hr := hq
              have g36 := slot_in hA 36 (by decide) (by decide) (hv (9, 36, (.int .i64 (X : Int))) (by simp) (ha 9 (by simp [aftersOf, Region.binds])))
              have g38 := slot_in hA 38 (by decide) (by decide) (hv (11, 38, (.int .i64 (m : Int))) (by simp) (ha 11 (by simp [aftersOf, Region.binds])))
              have g32 := slot_in hA 32 (by decide) (by decide) (hv (5, 32, (.bool false)) (by simp) (ha 5 (by simp [aftersOf, Region.binds])))
              have gg36 := slot_get g36
              have gg38 := slot_get g38
              have gg32 := slot_get g32
              have gw := slot_bool g32
              rw [if_pos (by simp [Region.wanted, yielded, gw])]
              clear gw
              have hF := hK (.bool false) w' ⟨hv.step 12 39 _ (by simp), hq.step 12 39 _ (Below.refl _ _) (by simp)⟩
              clear hv hq hr ha hK hA hli
              go_simp
              exact hF
            · clear hi; intro o ho lz fz w' A hJ hli ha hA K hK
              obtain ⟨hv, hq⟩ := hJ
              obtain rfl := Option.some.inj ho
              clear ho
              have hr := hq
              have g32 := slot_in hA 32 (by decide) (by decide) (hv (5, 32, (.bool false)) (by simp) (ha 5 (by simp [aftersOf, Region.binds])))
              have g39 := slot_in hA 39 (by decide) (by decide) (hv (12, 39, (.bool false)) (by simp) (ha 12 (by simp [aftersOf, Region.binds])))
              have gg32 := slot_get g32
              have gg39 := slot_get g39
              rw [if_pos (by rfl)]
              have hF := hK (.bool false) w' ⟨hv.step 13 40 _ (by simp), hq.step 13 40 _ (Below.refl _ _) (by simp)⟩
              clear hv hq hr ha hK hA hli
              go_simp
              exact hF
            · clear hi; intro o ho lz fz w' A hJ hli ha hA K hK
              obtain ⟨hv, hq⟩ := hJ
              obtain rfl := Option.some.inj ho
              clear ho
              have hr := hq
              have g40 := slot_in hA 40 (by decide) (by decide) (hv (13, 40, (.bool false)) (by simp) (ha 13 (by simp [aftersOf, Region.binds])))
              have gg40 := slot_get g40
              rw [if_pos (by rfl)]
              have hF := hK (.bool false) w' ⟨hv.step 14 41 _ (by simp), hq.step 14 41 _ (Below.refl _ _) (by simp)⟩
              clear hv hq hr ha hK hA hli
              go_simp
              exact hF
            · clear hi; intro o ho lz fz w' A hJ hli ha hA K hK
              obtain ⟨hv, hq⟩ := hJ
              obtain rfl := Option.some.inj ho
              clear ho
              have hr := hq
              have g6 := slot_out hA 6 _ (by decide) (by decide) rfl
              simp only [List.getD_cons_succ, List.getD_cons_zero] at g6
              have g41 := slot_in hA 41 (by decide) (by decide) (hv (14, 41, (.bool false)) (by simp) (ha 14 (by simp [aftersOf, Region.binds])))
              have gg6 := slot_get g6
              have gg41 := slot_get g41
              have gw := slot_bool g41
              rw [if_pos (by simp [Region.wanted, yielded, gw])]
              clear gw
              have hF := hK (.int .i64 (k : Int)) w' ⟨hv.step 15 42 _ (by simp), hq.step 15 42 _ (Below.refl _ _) (by simp)⟩
              clear hv hq hr ha hK hA hli
              go_simp
              exact hF
            · clear hi; intro o ho lz fz w' A hJ hli ha hA K hK
              obtain ⟨hv, hq⟩ := hJ
              obtain rfl := Option.some.inj ho
              clear ho
              have hr := hq
              have g42 := slot_in hA 42 (by decide) (by decide) (hv (15, 42, (.int .i64 (k : Int))) (by simp) (ha 15 (by simp [aftersOf, Region.binds])))
              have g41 := slot_in hA 41 (by decide) (by decide) (hv (14, 41, (.bool false)) (by simp) (ha 14 (by simp [aftersOf, Region.binds])))
              have gg42 := slot_get g42
              have gg41 := slot_get g41
              have gw := slot_bool g41
              rw [if_pos (by simp [Region.wanted, yielded, gw])]
              clear gw
              have hF := hK (.bool false) w' ⟨hv.step 16 43 _ (by simp), hq.step 16 43 _ (Below.refl _ _) (by simp)⟩
              clear hv hq hr ha hK hA hli
              go_simp
              exact hF
            · clear hi; intro o ho lz fz w' A hJ hli ha hA K hK
              obtain ⟨hv, hq⟩ := hJ
              obtain rfl := Option.some.inj ho
              clear ho
              have hr := hq
              have g43 := slot_in hA 43 (by decide) (by decide) (hv (16, 43, (.bool false)) (by simp) (ha 16 (by simp [aftersOf, Region.binds])))
              have g41 := slot_in hA 41 (by decide) (by decide) (hv (14, 41, (.bool false)) (by simp) (ha 14 (by simp [aftersOf, Region.binds])))
              have gg43 := slot_get g43
              have gg41 := slot_get g41
              have gw := slot_bool g41
              rw [if_pos (by simp [Region.wanted, yielded, gw])]
              clear gw
              have hF := hK (.bool false) w' ⟨hv.step 17 44 _ (by simp), hq.step 17 44 _ (Below.refl _ _) (by simp)⟩
              clear hv hq hr ha hK hA hli
              go_simp
              exact hF
            · clear hi; intro o ho lz fz w' A hJ hli ha hA K hK
              obtain ⟨hv, hq⟩ := hJ
              obtain rfl := Option.some.inj ho
              clear ho
              have hr := hq
              have g44 := slot_in hA 44 (by decide) (by decide) (hv (17, 44, (.bool false)) (by simp) (ha 17 (by simp [aftersOf, Region.binds])))
              have gg44 := slot_get g44
              have gw := slot_bool g44
              rw [if_neg (by simp [Region.wanted, yielded, gw])]
              clear gw
              exact hK undef w' ⟨hv.step 18 45 _ (by simp), hq.step 18 45 _ (Below.refl _ _) (by simp)⟩
            · clear hi; intro o ho lz fz w' A hJ hli ha hA K hK
              obtain ⟨hv, hq⟩ := hJ
              obtain rfl := Option.some.inj ho
              clear ho
              have hr := hq
              have g44 := slot_in hA 44 (by decide) (by decide) (hv (17, 44, (.bool false)) (by simp) (ha 17 (by simp [aftersOf, Region.binds])))
              have gg44 := slot_get g44
              have gw := slot_bool g44
              rw [if_neg (by simp [Region.wanted, yielded, gw])]
              clear gw
              exact hK undef w' ⟨hv.step 19 46 _ (by simp), hq.step 19 46 _ (Below.refl _ _) (by simp)⟩
            · clear hi; intro o ho lz fz w' A hJ hli ha hA K hK
              obtain ⟨hv, hq⟩ := hJ
              obtain rfl := Option.some.inj ho
              clear ho
              have hr := hq
              have g44 := slot_in hA 44 (by decide) (by decide) (hv (17, 44, (.bool false)) (by simp) (ha 17 (by simp [aftersOf, Region.binds])))
              have gg44 := slot_get g44
              have gw := slot_bool g44
              rw [if_neg (by simp [Region.wanted, yielded, gw])]
              clear gw
              exact hK undef w' ⟨hv.step 20 47 _ (by simp), hq.step 20 47 _ (Below.refl _ _) (by simp)⟩
            · clear hi; intro o ho lz fz w' A hJ hli ha hA K hK
              obtain ⟨hv, hq⟩ := hJ
              obtain rfl := Option.some.inj ho
              clear ho
              have hr := hq
              have g44 := slot_in hA 44 (by decide) (by decide) (hv (17, 44, (.bool false)) (by simp) (ha 17 (by simp [aftersOf, Region.binds])))
              have gg44 := slot_get g44
              have gw := slot_bool g44
              rw [if_neg (by simp [Region.wanted, yielded, gw])]
              clear gw
              exact hK undef w' ⟨hv.step 21 48 _ (by simp), hq.step 21 48 _ (Below.refl _ _) (by simp)⟩
            · clear hi; intro o ho lz fz w' A hJ hli ha hA K hK
              obtain ⟨hv, hq⟩ := hJ
              obtain rfl := Option.some.inj ho
              clear ho
              have hr := hq
              have g44 := slot_in hA 44 (by decide) (by decide) (hv (17, 44, (.bool false)) (by simp) (ha 17 (by simp [aftersOf, Region.binds])))
              have gg44 := slot_get g44
              have gw := slot_bool g44
              rw [if_neg (by simp [Region.wanted, yielded, gw])]
              clear gw
              exact hK undef w' ⟨hv.step 22 49 _ (by simp), hq.step 22 49 _ (Below.refl _ _) (by simp)⟩
            · clear hi; intro o ho lz fz w' A hJ hli ha hA K hK
              obtain ⟨hv, hq⟩ := hJ
              obtain rfl := Option.some.inj ho
              clear ho
              have hr := hq
              have g44 := slot_in hA 44 (by decide) (by decide) (hv (17, 44, (.bool false)) (by simp) (ha 17 (by simp [aftersOf, Region.binds])))
              have gg44 := slot_get g44
              have gw := slot_bool g44
              rw [if_neg (by simp [Region.wanted, yielded, gw])]
              clear gw
              exact hK undef w' ⟨hv.step 23 50 _ (by simp), hq.step 23 50 _ (Below.refl _ _) (by simp)⟩
            · clear hi; intro o ho lz fz w' A hJ hli ha hA K hK
              obtain ⟨hv, hq⟩ := hJ
              obtain rfl := Option.some.inj ho
              clear ho
              have hr := hq
              have g44 := slot_in hA 44 (by decide) (by decide) (hv (17, 44, (.bool false)) (by simp) (ha 17 (by simp [aftersOf, Region.binds])))
              have gg44 := slot_get g44
              have gw := slot_bool g44
              rw [if_neg (by simp [Region.wanted, yielded, gw])]
              clear gw
              exact hK undef w' ⟨hv.step 24 51 _ (by simp), hq.step 24 51 _ (Below.refl _ _) (by simp)⟩
            · clear hi; intro o ho lz fz w' A hJ hli ha hA K hK
              obtain ⟨hv, hq⟩ := hJ
              obtain rfl := Option.some.inj ho
              clear ho
              have hr := hq
              have g44 := slot_in hA 44 (by decide) (by decide) (hv (17, 44, (.bool false)) (by simp) (ha 17 (by simp [aftersOf, Region.binds])))
              have gg44 := slot_get g44
              have gw := slot_bool g44
              rw [if_neg (by simp [Region.wanted, yielded, gw])]
              clear gw
              exact hK undef w' ⟨hv.step 25 52 _ (by simp), hq.step 25 52 _ (Below.refl _ _) (by simp)⟩
            · clear hi; intro o ho lz fz w' A hJ hli ha hA K hK
              obtain ⟨hv, hq⟩ := hJ
              obtain rfl := Option.some.inj ho
              clear ho
              have hr := hq
              have g44 := slot_in hA 44 (by decide) (by decide) (hv (17, 44, (.bool false)) (by simp) (ha 17 (by simp [aftersOf, Region.binds])))
              have gg44 := slot_get g44
              have gw := slot_bool g44
              rw [if_neg (by simp [Region.wanted, yielded, gw])]
              clear gw
              exact hK undef w' ⟨hv.step 26 53 _ (by simp), hq.step 26 53 _ (Below.refl _ _) (by simp)⟩
            · clear hi; intro o ho lz fz w' A hJ hli ha hA K hK
              obtain ⟨hv, hq⟩ := hJ
              obtain rfl := Option.some.inj ho
              clear ho
              have hr := hq
              have g44 := slot_in hA 44 (by decide) (by decide) (hv (17, 44, (.bool false)) (by simp) (ha 17 (by simp [aftersOf, Region.binds])))
              have gg44 := slot_get g44
              have gw := slot_bool g44
              rw [if_neg (by simp [Region.wanted, yielded, gw])]
              clear gw
              exact hK undef w' ⟨hv.step 27 54 _ (by simp), hq.step 27 54 _ (Below.refl _ _) (by simp)⟩
            · clear hi; intro o ho lz fz w' A hJ hli ha hA K hK
              obtain ⟨hv, hq⟩ := hJ
              obtain rfl := Option.some.inj ho
              clear ho
              have hr := hq
              have g44 := slot_in hA 44 (by decide) (by decide) (hv (17, 44, (.bool false)) (by simp) (ha 17 (by simp [aftersOf, Region.binds])))
              have gg44 := slot_get g44
              have gw := slot_bool g44
              rw [if_neg (by simp [Region.wanted, yielded, gw])]
              clear gw
              exact hK undef w' ⟨hv.step 28 55 _ (by simp), hq.step 28 55 _ (Below.refl _ _) (by simp)⟩
            · clear hi; intro o ho lz fz w' A hJ hli ha hA K hK
              obtain ⟨hv, hq⟩ := hJ
              obtain rfl := Option.some.inj ho
              clear ho
              have hr := hq
              have g44 := slot_in hA 44 (by decide) (by decide) (hv (17, 44, (.bool false)) (by simp) (ha 17 (by simp [aftersOf, Region.binds])))
              have gg44 := slot_get g44
              have gw := slot_bool g44
              rw [if_neg (by simp [Region.wanted, yielded, gw])]
              clear gw
              exact hK undef w' ⟨hv.step 29 56 _ (by simp), hq.step 29 56 _ (Below.refl _ _) (by simp)⟩
            · clear hi; intro o ho lz fz w' A hJ hli ha hA K hK
              obtain ⟨hv, hq⟩ := hJ
              obtain rfl := Option.some.inj ho
              clear ho
              have hr := hq
              have g44 := slot_in hA 44 (by decide) (by decide) (hv (17, 44, (.bool false)) (by simp) (ha 17 (by simp [aftersOf, Region.binds])))
              have gg44 := slot_get g44
              have gw := slot_bool g44
              rw [if_neg (by simp [Region.wanted, yielded, gw])]
              clear gw
              exact hK undef w' ⟨hv.step 30 57 _ (by simp), hq.step 30 57 _ (Below.refl _ _) (by simp)⟩
            · clear hi; intro o ho lz fz w' A hJ hli ha hA K hK
              obtain ⟨hv, hq⟩ := hJ
              obtain rfl := Option.some.inj ho
              clear ho
              have hr := hq
              have g44 := slot_in hA 44 (by decide) (by decide) (hv (17, 44, (.bool false)) (by simp) (ha 17 (by simp [aftersOf, Region.binds])))
              have gg44 := slot_get g44
              have gw := slot_bool g44
              rw [if_neg (by simp [Region.wanted, yielded, gw])]
              clear gw
              exact hK undef w' ⟨hv.step 31 58 _ (by simp), hq.step 31 58 _ (Below.refl _ _) (by simp)⟩
            · clear hi; intro o ho lz fz w' A hJ hli ha hA K hK
              obtain ⟨hv, hq⟩ := hJ
              obtain rfl := Option.some.inj ho
              clear ho
              have hr := hq
              have g44 := slot_in hA 44 (by decide) (by decide) (hv (17, 44, (.bool false)) (by simp) (ha 17 (by simp [aftersOf, Region.binds])))
              have gg44 := slot_get g44
              have gw := slot_bool g44
              rw [if_neg (by simp [Region.wanted, yielded, gw])]
              clear gw
              exact hK undef w' ⟨hv.step 32 59 _ (by simp), hq.step 32 59 _ (Below.refl _ _) (by simp)⟩
            · clear hi; intro o ho lz fz w' A hJ hli ha hA K hK
              obtain ⟨hv, hq⟩ := hJ
              obtain rfl := Option.some.inj ho
              clear ho
              have hr := hq
              have g44 := slot_in hA 44 (by decide) (by decide) (hv (17, 44, (.bool false)) (by simp) (ha 17 (by simp [aftersOf, Region.binds])))
              have gg44 := slot_get g44
              have gw := slot_bool g44
              rw [if_neg (by simp [Region.wanted, yielded, gw])]
              clear gw
              exact hK undef w' ⟨hv.step 33 60 _ (by simp), hq.step 33 60 _ (Below.refl _ _) (by simp)⟩
            · clear hi; intro o ho lz fz w' A hJ hli ha hA K hK
              obtain ⟨hv, hq⟩ := hJ
              obtain rfl := Option.some.inj ho
              clear ho
              have hr := hq
              have g44 := slot_in hA 44 (by decide) (by decide) (hv (17, 44, (.bool false)) (by simp) (ha 17 (by simp [aftersOf, Region.binds])))
              have g41 := slot_in hA 41 (by decide) (by decide) (hv (14, 41, (.bool false)) (by simp) (ha 14 (by simp [aftersOf, Region.binds])))
              have gg44 := slot_get g44
              have gg41 := slot_get g41
              have gw := slot_bool g41
              rw [if_pos (by simp [Region.wanted, yielded, gw])]
              clear gw
              have hF := hK (.bool false) w' ⟨hv.step 34 61 _ (by simp), hq.step 34 61 _ (Below.refl _ _) (by simp)⟩
              clear hv hq hr ha hK hA hli
              go_simp
              exact hF
            · clear hi; intro o ho lz fz w' A hJ hli ha hA K hK
              obtain ⟨hv, hq⟩ := hJ
              obtain rfl := Option.some.inj ho
              clear ho
              have hr := hq
              have g41 := slot_in hA 41 (by decide) (by decide) (hv (14, 41, (.bool false)) (by simp) (ha 14 (by simp [aftersOf, Region.binds])))
              have g61 := slot_in hA 61 (by decide) (by decide) (hv (34, 61, (.bool false)) (by simp) (ha 34 (by simp [aftersOf, Region.binds])))
              have gg41 := slot_get g41
              have gg61 := slot_get g61
              rw [if_pos (by rfl)]
              have hF := hK (.bool false) w' ⟨hv.step 35 62 _ (by simp), hq.step 35 62 _ (Below.refl _ _) (by simp)⟩
              clear hv hq hr ha hK hA hli
              go_simp
              exact hF
          · intro lz fz w7 hall hJ
            obtain ⟨hv, hq⟩ := hJ
            have h62 : fz 62 = (.bool false) := hv (35, 62, (.bool false)) (by simp) (hall 35 (by decide))
            have hbR := hq.1
            clear hv hq hall
            simp only [mixF, List.contains_cons, List.contains_nil]
            go_simp
          -- END REGION 0
            have hb7 := hb.trans (hbR.mono hb.size)
            clear hbR
            go_wp2
            go_roundw
            case rel => exact ⟨k + 1, by omega, by go_num, hb7⟩
            case measure => simp [intOf]; omega
      · obtain rfl : k = m := by omega
        go_wp2_with fail
        refine (alive_any _).mono ?_; rintro e w6 ⟨rfl, hb6⟩
        go_wp2
        go_ret
        exact ⟨rfl, (HB.out.trans (hb.mono HB.out.size)).trans (hb6.mono (HB.out.trans (hb.mono HB.out.size)).size)⟩
  · have hs' : (1048576 : Int) < (len : Int) := by omega
    clear h hlc
    go_enter Try.func7, Try.ntmps7
    go_wp2
    go_ret
    exact ⟨rfl, Below.refl _ _⟩
end Go.Proofs.Ytfhbolpchmdaoaa
