/- Texts of ours that stand together: ImplSort, ImplSort2, ImplOrd -/
import Derived.Test.YtfhbolpchmdaoaaConfM
import Derived.Test.YtfhbolpchmdaoaaRegJ
import Derived.Test.YtfhbolpchmdaoaaConv
import Derived.RegionTactic
import Derived.Deep.QuietTactic
import Derived.BigQuiet
import Derived.Test.YtfhbolpchmdaoaaEightA
import Derived.Test.YtfhbolpchmdaoaaSix
/- The contracts of cmp.Compare, cmp.Or, of LevelOrder's comparison, of bits.Len at small numbers (gen8/isort.py). -/
namespace Go.Proofs.Ytfhbolpchmdaoaa
open Go.RowKit
set_option linter.unusedVariables false
set_option linter.unusedSimpArgs false
theorem isNaN_any (x : Int) (w : World) : Calls Try.prog 105 #[.int .i64 x] w fun e w' => e = .returned (.bool false) ∧ w = w' := by
  go_enter Try.func105, Try.ntmps105
  go_wp2
  go_ret
  exact ⟨by simp, rfl⟩
theorem compare_any (x y : Int) (w : World) : Calls Try.prog 77 #[.int .i64 x, .int .i64 y] w fun e w' => e = .returned (.int .i64 (cmpZ x y)) ∧ w = w' := by
  by_cases h : x < y
  · have HE : Hid (cmpZ x y = -1) := Lib.hid (by simp [cmpZ, h])
    rw [HE.out]
    go_enter Try.func77, Try.ntmps77
    go_wp2_with (first | (go_at_call 105; refine (isNaN_any _ _).mono ?_; rintro e w' ⟨rfl, rfl⟩))
    go_ret
    exact ⟨rfl, rfl⟩
  · by_cases h2 : y < x
    · have HE : Hid (cmpZ x y = 1) := Lib.hid (by simp [cmpZ, h, h2])
      rw [HE.out]
      go_enter Try.func77, Try.ntmps77
      go_wp2_with (first | (go_at_call 105; refine (isNaN_any _ _).mono ?_; rintro e w' ⟨rfl, rfl⟩))
      go_ret
      exact ⟨rfl, rfl⟩
    · have HE : Hid (cmpZ x y = 0) := Lib.hid (by simp [cmpZ, h, h2])
      rw [HE.out]
      go_enter Try.func77, Try.ntmps77
      go_wp2_with (first | (go_at_call 105; refine (isNaN_any _ _).mono ?_; rintro e w' ⟨rfl, rfl⟩))
      go_ret
      exact ⟨rfl, rfl⟩
set_option maxHeartbeats 1000000 in
theorem or_any (a : Option Addr) (c : Nat) (x y : Int) (w : World) (h : RowI w a 2 [x, y]) : Calls Try.prog 76 #[.slice a 2 c] w fun e w' => e = .returned (.int .i64 (if x ≠ 0 then x else y)) ∧ w = w' := by
  obtain ⟨b, off, rfl, hc⟩ := h.2.2.1 (by omega)
  have c0 := hc 0 (by omega)
  have c1 := hc 1 (by omega)
  rw [Nat.add_zero] at c0
  simp only [List.getD_cons_zero, List.getD_cons_succ] at c0 c1
  clear hc h
  by_cases hx : x = 0
  · subst hx
    have HE : Hid ((if (0 : Int) ≠ 0 then 0 else y) = y) := Lib.hid (by simp)
    rw [HE.out]
    clear HE
    go_enter Try.func76, Try.ntmps76
    go_wp2
    go_loop [8] (fun i => ∃ k : Nat, k ≤ 2 ∧ i = .int .i64 k ∧ (k = 2 → y = 0)) (fun i => 2 - (intOf i).toNat)
    case atStart => exact ⟨0, by omega, rfl, fun h => by omega⟩
    case round =>
      obtain ⟨k, hk, rfl, hy⟩ := hrel
      rcases (by omega : k = 0 ∨ k = 1 ∨ k = 2) with rfl | rfl | rfl
      · go_wp2
        go_round
        case rel => exact ⟨1, by omega, by go_num, fun h => by omega⟩
        case measure => simp [intOf]
      · by_cases hy0 : y = 0
        · subst hy0
          go_wp2
          go_round
          case rel => exact ⟨2, by omega, by go_num, by first | trivial | (intro _; rfl) | simp⟩
          case measure => simp [intOf]
        · have e1 : (y != 0) = true := by simpa using hy0
          clear hy
          go_wp2
          go_ret
          exact ⟨rfl, rfl⟩
      · obtain rfl := hy rfl
        go_wp2
        go_ret
        exact ⟨rfl, rfl⟩
  · have HE : Hid ((if x ≠ 0 then x else y) = x) := Lib.hid (by simp [hx])
    rw [HE.out]
    have e1 : (x != 0) = true := by simpa using hx
    clear HE hx
    go_enter Try.func76, Try.ntmps76
    go_wp2
    go_loop [8] (fun i => i = .int .i64 0) (fun _ => 0)
    case atStart => rfl
    case round =>
      subst hrel
      go_wp2
      go_ret
      exact ⟨rfl, rfl⟩
set_option maxRecDepth 100000 in
set_option maxHeartbeats 2000000 in
theorem bitsLen_small (n : Nat) (hn : n ≤ 10) (w : World) : Calls Try.prog 104 #[.int .u64 n] w fun e w' => ∃ z : Int, e = .returned (.int .i64 z) ∧ w = w' := by
  rcases (by omega : n = 0 ∨ n = 1 ∨ n = 2 ∨ n = 3 ∨ n = 4 ∨ n = 5 ∨ n = 6 ∨ n = 7 ∨ n = 8 ∨ n = 9 ∨ n = 10) with rfl | rfl | rfl | rfl | rfl | rfl | rfl | rfl | rfl | rfl | rfl
  all_goals
    go_enter Try.func104, Try.ntmps104
    go_wp2_with (first | go_in)
    go_ret
    exact ⟨_, rfl, rfl⟩
theorem ints_lit2 (w : World) (x y : Int) (T : TypeId) (hx : -1 ≤ x ∧ x ≤ 1) (hy : -1 ≤ y ∧ y ≤ 1) : (Sta.ints [x, y]).own (w.alloc (.cells #[.int .i64 x, .int .i64 y] T)) (.slice (some ⟨w.heap.size, 0, none⟩) 2 2) := by
  refine ⟨_, 2, rfl, rfl, by unfold maxLen; simp, fun _ => ⟨w.heap.size, 0, rfl, fun i hi => ?_⟩, fun z hz => ?_⟩
  · have : i = 0 ∨ i = 1 := by simp at hi; omega
    rcases this with rfl | rfl <;> simp [go_sem]
  · simp at hz
    rcases hz with rfl | rfl
    · exact WalkArith.wf_i64 (by omega)
    · exact WalkArith.wf_i64 (by omega)
set_option maxRecDepth 100000 in
set_option maxHeartbeats 4000000 in
theorem levelCmp_impl (a b n cV gV G : Nat) (V : List Int) (w : World) (ha1 : a < n) (hb1 : b < n) (hG : w.cell? ⟨G, 0, none⟩ = some (.slice (some ⟨gV, 0, none⟩) n cV)) (hV : RowI w (some ⟨gV, 0, none⟩) n V) :
    Calls Try.prog 75 #[.int .i64 a, .int .i64 b, .pointer (some ⟨G, 0, none⟩)] w fun e w' => e = .returned (.int .i64 (cmpM V a b)) ∧ Below w.heap.size w w' := by
  have HG := Lib.hid (show w.cell? ⟨G, 0, none⟩ = some (.slice (some ⟨gV, 0, none⟩) n cV) ∧ G < w.heap.size from ⟨hG, World.block_lt_of_cell? w ⟨G, 0, none⟩ hG⟩)
  have HVC : Hid (∀ w', Below w.heap.size w w' → ∀ i, i < n → w'.cell? ⟨gV, i, none⟩ = some (.int .i64 (V.getD i 0))) := Lib.hid (fun w' hb i hi => by
    obtain ⟨b', o', he, hc⟩ := (hV.below hb).2.2.1 (by omega)
    obtain ⟨rfl, rfl⟩ : gV = b' ∧ 0 = o' := by simpa using he
    have := hc i hi
    rwa [Nat.zero_add] at this)
  have HCM : Hid ((if cmpZ (V.getD a 0) (V.getD b 0) ≠ 0 then cmpZ (V.getD a 0) (V.getD b 0) else cmpZ (b : Int) (a : Int)) = cmpM V a b) := Lib.hid (by unfold cmpM; rw [Int.toNat_natCast, Int.toNat_natCast])
  have HVX := Lib.hid (fun w' hb => HVC.out w' hb a ha1)
  have HVY := Lib.hid (fun w' hb => HVC.out w' hb b hb1)
  obtain ⟨x, hx⟩ : ∃ x, x = V.getD a 0 := ⟨_, rfl⟩
  obtain ⟨y, hy⟩ : ∃ y, y = V.getD b 0 := ⟨_, rfl⟩
  rw [← hx] at HVX HCM
  rw [← hy] at HVY HCM
  clear HVC hx hy
  have ha0 : (0 : Int) ≤ (a : Int) := by omega
  have hb0 : (0 : Int) ≤ (b : Int) := by omega
  have ha2 : (a : Int) < (n : Int) := by omega
  have hb2 : (b : Int) < (n : Int) := by omega
  clear hG hV
  go_enter Try.func75, Try.ntmps75
  go_wp2
  refine wp_region_light (by kernel_rfl) (fun lz fz wz => Vals [(0, 6, (.slice (some ⟨gV, 0, none⟩) n cV)), (1, 7, (.int .i64 (a : Int))), (2, 8, (.pointer (some ⟨gV, a, none⟩))), (3, 9, (.int .i64 x)), (4, 10, (.slice (some ⟨gV, 0, none⟩) n cV)), (5, 11, (.int .i64 (b : Int))), (6, 12, (.pointer (some ⟨gV, b, none⟩))), (7, 13, (.int .i64 y)), (8, 14, (.int .i64 (cmpZ x y))), (9, 15, (.int .i64 (b : Int))), (10, 16, (.int .i64 (a : Int))), (11, 17, (.int .i64 (cmpZ (b : Int) (a : Int)))), (13, 19, (.int .i64 (cmpM V (a : Int) (b : Int)))), (14, 5, (.int .i64 (cmpM V (a : Int) (b : Int))))] lz fz ∧ Facts w [(12, 18, Sta.ints [cmpZ x y, cmpZ (b : Int) (a : Int)])] lz fz wz) 20 rfl [6, 7, 8, 9, 10, 11, 12, 13, 14, 15, 16, 17, 18, 19, 5] (by kernel_rfl) (by kernel_rfl) (by kernel_rfl) (fun f => ⟨Vals.nothing _ f, Facts.nothing _ _ f⟩) ?_ ?_
  · intro i hi
    rcases (by have : i < 15 := hi; omega : i = 0 ∨ i = 1 ∨ i = 2 ∨ i = 3 ∨ i = 4 ∨ i = 5 ∨ i = 6 ∨ i = 7 ∨ i = 8 ∨ i = 9 ∨ i = 10 ∨ i = 11 ∨ i = 12 ∨ i = 13 ∨ i = 14) with rfl | rfl | rfl | rfl | rfl | rfl | rfl | rfl | rfl | rfl | rfl | rfl | rfl | rfl | rfl
    · clear hi; intro o ho lz fz w' A hJ hli ha hA K hK
      obtain ⟨hv, hq⟩ := hJ
      obtain rfl := Option.some.inj ho
      clear ho
      have hr := hq
      have g2 := slot_out hA 2 _ (by decide) (by decide) rfl
      simp only [List.getD_cons_succ, List.getD_cons_zero] at g2
      have gg2 := slot_get g2
      rw [if_pos (by rfl)]
      have kc := (hr.1.cell (p := ⟨G, 0, none⟩) HG.out.2).trans HG.out.1
      have hF := hK (.slice (some ⟨gV, 0, none⟩) n cV) w' ⟨hv.step 0 6 _ (by simp), hq.step 0 6 _ (Below.refl _ _) (by simp)⟩
      clear hv hq hr ha hK hA hli
      go_simp
      exact hF
    · clear hi; intro o ho lz fz w' A hJ hli ha hA K hK
      obtain ⟨hv, hq⟩ := hJ
      obtain rfl := Option.some.inj ho
      clear ho
      have hr := hq
      have g0 := slot_out hA 0 _ (by decide) (by decide) rfl
      simp only [List.getD_cons_succ, List.getD_cons_zero] at g0
      have gg0 := slot_get g0
      rw [if_pos (by rfl)]
      have hF := hK (.int .i64 (a : Int)) w' ⟨hv.step 1 7 _ (by simp), hq.step 1 7 _ (Below.refl _ _) (by simp)⟩
      clear hv hq hr ha hK hA hli
      go_simp
      exact hF
    · clear hi; intro o ho lz fz w' A hJ hli ha hA K hK
      obtain ⟨hv, hq⟩ := hJ
      obtain rfl := Option.some.inj ho
      clear ho
      have hr := hq
      have g6 := slot_in hA 6 (by decide) (by decide) (hv (0, 6, (.slice (some ⟨gV, 0, none⟩) n cV)) (by simp) (ha 0 (by simp [aftersOf, Region.binds])))
      have g7 := slot_in hA 7 (by decide) (by decide) (hv (1, 7, (.int .i64 (a : Int))) (by simp) (ha 1 (by simp [aftersOf, Region.binds])))
      have gg6 := slot_get g6
      have gg7 := slot_get g7
      rw [if_pos (by rfl)]
      have hF := hK (.pointer (some ⟨gV, a, none⟩)) w' ⟨hv.step 2 8 _ (by simp), hq.step 2 8 _ (Below.refl _ _) (by simp)⟩
      clear hv hq hr ha hK hA hli
      go_simp
      exact hF
    · clear hi; intro o ho lz fz w' A hJ hli ha hA K hK
      obtain ⟨hv, hq⟩ := hJ
      obtain rfl := Option.some.inj ho
      clear ho
      have hr := hq
      have g8 := slot_in hA 8 (by decide) (by decide) (hv (2, 8, (.pointer (some ⟨gV, a, none⟩))) (by simp) (ha 2 (by simp [aftersOf, Region.binds])))
      have gg8 := slot_get g8
      rw [if_pos (by rfl)]
      have kc := HVX.out _ hr.1
      have hF := hK (.int .i64 x) w' ⟨hv.step 3 9 _ (by simp), hq.step 3 9 _ (Below.refl _ _) (by simp)⟩
      clear hv hq hr ha hK hA hli
      go_simp
      exact hF
    · clear hi; intro o ho lz fz w' A hJ hli ha hA K hK
      obtain ⟨hv, hq⟩ := hJ
      obtain rfl := Option.some.inj ho
      clear ho
      have hr := hq
      have g2 := slot_out hA 2 _ (by decide) (by decide) rfl
      simp only [List.getD_cons_succ, List.getD_cons_zero] at g2
      have gg2 := slot_get g2
      rw [if_pos (by rfl)]
      have kc := (hr.1.cell (p := ⟨G, 0, none⟩) HG.out.2).trans HG.out.1
      have hF := hK (.slice (some ⟨gV, 0, none⟩) n cV) w' ⟨hv.step 4 10 _ (by simp), hq.step 4 10 _ (Below.refl _ _) (by simp)⟩
      clear hv hq hr ha hK hA hli
      go_simp
      exact hF
    · clear hi; intro o ho lz fz w' A hJ hli ha hA K hK
      obtain ⟨hv, hq⟩ := hJ
      obtain rfl := Option.some.inj ho
      clear ho
      have hr := hq
      have g1 := slot_out hA 1 _ (by decide) (by decide) rfl
      simp only [List.getD_cons_succ, List.getD_cons_zero] at g1
      have gg1 := slot_get g1
      rw [if_pos (by rfl)]
      have hF := hK (.int .i64 (b : Int)) w' ⟨hv.step 5 11 _ (by simp), hq.step 5 11 _ (Below.refl _ _) (by simp)⟩
      clear hv hq hr ha hK hA hli
      go_simp
      exact hF
    · clear hi; intro o ho lz fz w' A hJ hli ha hA K hK
      obtain ⟨hv, hq⟩ := hJ
      obtain rfl := Option.some.inj ho
      clear ho
      have hr := hq
      have g10 := slot_in hA 10 (by decide) (by decide) (hv (4, 10, (.slice (some ⟨gV, 0, none⟩) n cV)) (by simp) (ha 4 (by simp [aftersOf, Region.binds])))
      have g11 := slot_in hA 11 (by decide) (by decide) (hv (5, 11, (.int .i64 (b : Int))) (by simp) (ha 5 (by simp [aftersOf, Region.binds])))
      have gg10 := slot_get g10
      have gg11 := slot_get g11
      rw [if_pos (by rfl)]
      have hF := hK (.pointer (some ⟨gV, b, none⟩)) w' ⟨hv.step 6 12 _ (by simp), hq.step 6 12 _ (Below.refl _ _) (by simp)⟩
      clear hv hq hr ha hK hA hli
      go_simp
      exact hF
    · clear hi; intro o ho lz fz w' A hJ hli ha hA K hK
      obtain ⟨hv, hq⟩ := hJ
      obtain rfl := Option.some.inj ho
      clear ho
      have hr := hq
      have g12 := slot_in hA 12 (by decide) (by decide) (hv (6, 12, (.pointer (some ⟨gV, b, none⟩))) (by simp) (ha 6 (by simp [aftersOf, Region.binds])))
      have gg12 := slot_get g12
      rw [if_pos (by rfl)]
      have kc := HVY.out _ hr.1
      have hF := hK (.int .i64 y) w' ⟨hv.step 7 13 _ (by simp), hq.step 7 13 _ (Below.refl _ _) (by simp)⟩
      clear hv hq hr ha hK hA hli
      go_simp
      exact hF
    · clear hi; intro o ho lz fz w' A hJ hli ha hA K hK
      obtain ⟨hv, hq⟩ := hJ
      obtain rfl := Option.some.inj ho
      clear ho
      have hr := hq
      have g9 := slot_in hA 9 (by decide) (by decide) (hv (3, 9, (.int .i64 x)) (by simp) (ha 3 (by simp [aftersOf, Region.binds])))
      have g13 := slot_in hA 13 (by decide) (by decide) (hv (7, 13, (.int .i64 y)) (by simp) (ha 7 (by simp [aftersOf, Region.binds])))
      have gg9 := slot_get g9
      have gg13 := slot_get g13
      rw [if_pos (by rfl)]
      clear hA
      go_simp
      refine (compare_any _ _ _).mono ?_
      rintro e w9 ⟨rfl, hw9⟩
      have hb9 : Below w'.heap.size w' w9 := hw9 ▸ Below.refl _ _
      exact hK (.int .i64 (cmpZ x y)) w9 ⟨hv.step 8 14 _ (by simp), hq.step 8 14 _ hb9 (by simp)⟩
    · clear hi; intro o ho lz fz w' A hJ hli ha hA K hK
      obtain ⟨hv, hq⟩ := hJ
      obtain rfl := Option.some.inj ho
      clear ho
      have hr := hq
      have g1 := slot_out hA 1 _ (by decide) (by decide) rfl
      simp only [List.getD_cons_succ, List.getD_cons_zero] at g1
      have gg1 := slot_get g1
      rw [if_pos (by rfl)]
      have hF := hK (.int .i64 (b : Int)) w' ⟨hv.step 9 15 _ (by simp), hq.step 9 15 _ (Below.refl _ _) (by simp)⟩
      clear hv hq hr ha hK hA hli
      go_simp
      exact hF
    · clear hi; intro o ho lz fz w' A hJ hli ha hA K hK
      obtain ⟨hv, hq⟩ := hJ
      obtain rfl := Option.some.inj ho
      clear ho
      have hr := hq
      have g0 := slot_out hA 0 _ (by decide) (by decide) rfl
      simp only [List.getD_cons_succ, List.getD_cons_zero] at g0
      have gg0 := slot_get g0
      rw [if_pos (by rfl)]
      have hF := hK (.int .i64 (a : Int)) w' ⟨hv.step 10 16 _ (by simp), hq.step 10 16 _ (Below.refl _ _) (by simp)⟩
      clear hv hq hr ha hK hA hli
      go_simp
      exact hF
    · clear hi; intro o ho lz fz w' A hJ hli ha hA K hK
      obtain ⟨hv, hq⟩ := hJ
      obtain rfl := Option.some.inj ho
      clear ho
      have hr := hq
      have g15 := slot_in hA 15 (by decide) (by decide) (hv (9, 15, (.int .i64 (b : Int))) (by simp) (ha 9 (by simp [aftersOf, Region.binds])))
      have g16 := slot_in hA 16 (by decide) (by decide) (hv (10, 16, (.int .i64 (a : Int))) (by simp) (ha 10 (by simp [aftersOf, Region.binds])))
      have gg15 := slot_get g15
      have gg16 := slot_get g16
      rw [if_pos (by rfl)]
      clear hA
      go_simp
      refine (compare_any _ _ _).mono ?_
      rintro e w9 ⟨rfl, hw9⟩
      have hb9 : Below w'.heap.size w' w9 := hw9 ▸ Below.refl _ _
      exact hK (.int .i64 (cmpZ (b : Int) (a : Int))) w9 ⟨hv.step 11 17 _ (by simp), hq.step 11 17 _ hb9 (by simp)⟩
    · clear hi; intro o ho lz fz w' A hJ hli ha hA K hK
      obtain ⟨hv, hq⟩ := hJ
      obtain rfl := Option.some.inj ho
      clear ho
      have hr := hq
      have g14 := slot_in hA 14 (by decide) (by decide) (hv (8, 14, (.int .i64 (cmpZ x y))) (by simp) (ha 8 (by simp [aftersOf, Region.binds])))
      have g17 := slot_in hA 17 (by decide) (by decide) (hv (11, 17, (.int .i64 (cmpZ (b : Int) (a : Int)))) (by simp) (ha 11 (by simp [aftersOf, Region.binds])))
      have gg14 := slot_get g14
      have gg17 := slot_get g17
      rw [if_pos (by rfl)]
      clear hA
      go_simp
      have hb9 := (Below.refl w'.heap.size w').alloc (Nat.le_refl _) (.cells #[.int .i64 (cmpZ x y), .int .i64 (cmpZ (b : Int) (a : Int))] 3)
      have hs : (Sta.ints [cmpZ x y, cmpZ (b : Int) (a : Int)]).own (w'.alloc (.cells #[.int .i64 (cmpZ x y), .int .i64 (cmpZ (b : Int) (a : Int))] 3)) (.slice (some ⟨w'.heap.size, 0, none⟩) 2 2) := ints_lit2 w' _ _ _ (cmpZ_bd _ _) (cmpZ_bd _ _)
      exact hK (.slice (some ⟨w'.heap.size, 0, none⟩) 2 2) (w'.alloc (.cells #[.int .i64 (cmpZ x y), .int .i64 (cmpZ (b : Int) (a : Int))] 3)) ⟨hv.step 12 18 _ (by simp), hq.step 12 18 _ hb9 (by simp [hs])⟩
    · clear hi; intro o ho lz fz w' A hJ hli ha hA K hK
      obtain ⟨hv, hq⟩ := hJ
      obtain rfl := Option.some.inj ho
      clear ho
      have hr := hq
      obtain ⟨a18, c18, h18, r18⟩ := hr.2 (12, 18, Sta.ints [cmpZ x y, cmpZ (b : Int) (a : Int)]) (by simp) (ha 12 (by simp [aftersOf, Region.binds]))
      have g18 := slot_in hA 18 (by decide) (by decide) h18
      have gg18 := slot_get g18
      rw [if_pos (by rfl)]
      clear hA
      go_simp
      refine (or_any a18 c18 _ _ w' r18).mono ?_
      rintro e w9 ⟨rfl, hw9⟩
      have hb9 : Below w'.heap.size w' w9 := hw9 ▸ Below.refl _ _
      rw [HCM.out]
      exact hK (.int .i64 (cmpM V (a : Int) (b : Int))) w9 ⟨hv.step 13 19 _ (by simp), hq.step 13 19 _ hb9 (by simp)⟩
    · clear hi; intro o ho lz fz w' A hJ hli ha hA K hK
      obtain ⟨hv, hq⟩ := hJ
      obtain rfl := Option.some.inj ho
      clear ho
      have hr := hq
      have g19 := slot_in hA 19 (by decide) (by decide) (hv (13, 19, (.int .i64 (cmpM V (a : Int) (b : Int)))) (by simp) (ha 13 (by simp [aftersOf, Region.binds])))
      have gg19 := slot_get g19
      rw [if_pos (by rfl)]
      have hF := hK (.int .i64 (cmpM V (a : Int) (b : Int))) w' ⟨hv.step 14 5 _ (by simp), hq.step 14 5 _ (Below.refl _ _) (by simp)⟩
      clear hv hq hr ha hK hA hli
      go_simp
      exact hF
  · intro lz fz w' hall hJ
    obtain ⟨hv, hq⟩ := hJ
    have h5 : fz 5 = (.int .i64 (cmpM V (a : Int) (b : Int))) := hv (14, 5, (.int .i64 (cmpM V (a : Int) (b : Int)))) (by simp) (hall 14 (by decide))
    have hbR := hq.1
    clear hv hq hall
    simp only [mixF, List.contains_cons, List.contains_nil]
    go_simp
    go_wp2
    go_ret
    exact ⟨rfl, hbR⟩
end Go.Proofs.Ytfhbolpchmdaoaa
/- The contracts of slices.insertionSortCmpFunc and slices.SortFunc at ten numbers or fewer, with LevelOrder's comparison (gen8/isort2.py). -/
namespace Go.Proofs.Ytfhbolpchmdaoaa
open Go.RowKit
set_option linter.unusedVariables false
set_option linter.unusedSimpArgs false
theorem RowI.turn {w w' : World} {B T : Nat} {a : Option Addr} {n : Nat} {l : List Int} (h : RowI w a n l) (ht : Turn B T w w') (hne : ∀ b o, a = some ⟨b, o, none⟩ → b < B ∨ T ≤ b) : RowI w' a n l := by
  obtain ⟨h1, h2, h3, h4⟩ := h
  refine ⟨h1, h2, fun hl => ?_, h4⟩
  obtain ⟨b, off, he, hc⟩ := h3 hl
  exact ⟨b, off, he, fun i hi => ht.cell (hc i hi) (hne b off he)⟩
/-- The numbers are sorted in their place. -/
def SortedW (B g n cap : Nat) (V : List Int) (w : World) (e : Ending) (w' : World) : Prop :=
  e = .returned (.tuple #[]) ∧ Turn g (g + 1) w w' ∧ ∃ D, w'.ownsRow B 3 1 (.slice (some ⟨g, 0, none⟩) n cap) n (D.map (Value.int .i64)) ∧ Whole D n ∧ SortTo V D n
/-- Under way: what the numbers are. -/
def SortAt (B g n cap : Nat) (w wr : World) (D : List Int) : Prop :=
  Turn g (g + 1) w wr ∧ wr.ownsRow B 3 1 (.slice (some ⟨g, 0, none⟩) n cap) n (D.map (Value.int .i64)) ∧ Whole D n
theorem SortAt.below {B g n cap : Nat} {w wr w2 : World} {D : List Int} (h : SortAt B g n cap w wr D) (hb : Below wr.heap.size wr w2) : SortAt B g n cap w w2 D :=
  ⟨h.1.trans (Turn.ofBelow _ _ hb), owns_below h.2.1 hb, h.2.2⟩
theorem SortAt.swap {B g n cap : Nat} {w wr : World} {D : List Int} (h : SortAt B g n cap w wr D) (m : Nat) (hm : m + 1 < n) :
    SortAt B g n cap w ((wr.setCell ⟨g, m + 1, none⟩ (.int .i64 (D.getD m 0))).setCell ⟨g, m, none⟩ (.int .i64 (D.getD (m + 1) 0))) (swapD D m) := by
  obtain ⟨h1, h2, h3⟩ := h
  refine ⟨(h1.setCell ⟨Nat.le_refl _, by omega⟩ _ _).setCell ⟨Nat.le_refl _, by omega⟩ _ _, ?_, swapD_whole h3 hm⟩
  have := ((h2.stored (m + 1) (.int .i64 (D.getD m 0))).1.stored m (.int .i64 (D.getD (m + 1) 0))).1
  rw [← List.map_set, ← List.map_set] at this
  exact this
theorem SortAt.swap' {B g n cap : Nat} {w wr : World} {D : List Int} (h : SortAt B g n cap w wr D) (m : Nat) (hm : m + 1 < n) :
    SortAt B g n cap w ((wr.setCell ⟨g, m, none⟩ (.int .i64 (D.getD (m + 1) 0))).setCell ⟨g, m + 1, none⟩ (.int .i64 (D.getD m 0))) (swapD D m) := by
  obtain ⟨h1, h2, h3⟩ := h
  refine ⟨(h1.setCell ⟨Nat.le_refl _, by omega⟩ _ _).setCell ⟨Nat.le_refl _, by omega⟩ _ _, ?_, swapD_whole h3 hm⟩
  have := ((h2.stored m (.int .i64 (D.getD (m + 1) 0))).1.stored (m + 1) (.int .i64 (D.getD m 0))).1
  rw [← List.map_set, ← List.map_set, List.set_comm _ _ (by omega)] at this
  exact this
theorem SortAt.drew {B g n cap : Nat} {w wr : World} {D : List Int} (h : SortAt B g n cap w wr D) : SortAt B g n cap w wr.drew D :=
  ⟨h.1.trans ⟨rfl, rfl, rfl, Nat.le_refl _, fun _ _ _ => rfl⟩, h.2.1, h.2.2⟩
set_option maxRecDepth 100000 in
set_option maxHeartbeats 8000000 in
theorem insertion_impl (B g n cap : Nat) (D V : List Int) (gV cV G : Nat) (w : World) (hn : n ≤ 10) (hD : w.ownsRow B 3 1 (.slice (some ⟨g, 0, none⟩) n cap) n (D.map (Value.int .i64))) (hW : Whole D n)
    (hG : 0 < n → w.cell? ⟨G, 0, none⟩ = some (.slice (some ⟨gV, 0, none⟩) n cV)) (hV : 0 < n → RowI w (some ⟨gV, 0, none⟩) n V) (hne1 : G ≠ g) (hne2 : gV ≠ g) :
    Calls Try.prog 113 #[.slice (some ⟨g, 0, none⟩) n cap, .int .i64 0, .int .i64 n, .func (.func 75) #[] #[.pointer (some ⟨G, 0, none⟩)]] w (SortedW B g n cap V w) := by
  have HTG : Hid (∀ wr, Turn g (g + 1) w wr → 0 < n → wr.cell? ⟨G, 0, none⟩ = some (.slice (some ⟨gV, 0, none⟩) n cV) ∧ RowI wr (some ⟨gV, 0, none⟩) n V) := Lib.hid (fun wr ht h0 =>
    ⟨ht.cell (hG h0) (by omega), (hV h0).turn ht (fun b o e => by simp at e; omega)⟩)
  have HS0 : Hid (SortAt B g n cap w w D) := Lib.hid ⟨Turn.refl _ _ _, hD, hW⟩
  clear hG hV hD hW hne1 hne2
  go_enter Try.func113, Try.ntmps113
  go_wp2
  go_loopw [8] (fun i wr => ∃ k : Nat, 1 ≤ k ∧ (k ≤ n ∨ k = 1) ∧ i = .int .i64 k ∧ ∃ D', SortAt B g n cap w wr D' ∧ SortTo V D' k) (fun i _ => n - (intOf i).toNat)
  case atStart => exact ⟨1, Nat.le_refl _, .inr rfl, rfl, D, HS0.out, fun p q h1 h2 => by omega⟩
  case round =>
    clear HS0
    obtain ⟨i, hi1, hi2, rfl, D', hS, hT⟩ := hrel
    by_cases hlt : i < n
    · have HSA := Lib.hid hS
      have HBT := Lib.hid hT.but
      clear hS hT hi2
      go_wp2
      obtain ⟨wo, hwo⟩ : ∃ wo, wo = wr := ⟨wr, rfl⟩
      subst hwo
      go_loopw [9] (fun u wr => ∃ j : Nat, j ≤ i ∧ u = .int .i64 j ∧ ∃ D', SortAt B g n cap w wr D' ∧ SortBut V D' i j) (fun u _ => (intOf u).toNat)
      case atStart => exact ⟨i, Nat.le_refl _, rfl, D', HSA.out, HBT.out⟩
      case round =>
        clear HSA HBT
        obtain ⟨j, hj, rfl, D', hS, hT⟩ := hrel
        by_cases hj0 : 0 < j
        · obtain ⟨m, hm⟩ : ∃ m, j = m + 1 := ⟨j - 1, by omega⟩
          have hjn : j < n := by omega
          have hmn : m < n := by omega
          have HG := Lib.hid (show wr.cell? ⟨G, 0, none⟩ = some (.slice (some ⟨gV, 0, none⟩) n cV) ∧ G < wr.heap.size from ⟨(HTG.out wr hS.1 (by omega)).1, World.block_lt_of_cell? wr ⟨G, 0, none⟩ (HTG.out wr hS.1 (by omega)).1⟩)
          have HV := Lib.hid (HTG.out wr hS.1 (by omega)).2
          obtain ⟨b1, b2⟩ := hS.2.2.2.1 j hjn
          obtain ⟨b3, b4⟩ := hS.2.2.2.1 m hmn
          obtain ⟨x, hx⟩ : ∃ x : Nat, D'.getD j 0 = (x : Int) := ⟨(D'.getD j 0).toNat, by omega⟩
          obtain ⟨y, hy⟩ : ∃ y : Nat, D'.getD m 0 = (y : Int) := ⟨(D'.getD m 0).toNat, by omega⟩
          have hxn : x < n := by omega
          have hyn : y < n := by omega
          have hDl := hS.2.2.1
          have hgj : (D'.map (Value.int .i64))[j]? = some (.int .i64 (x : Int)) := by rw [List.getElem?_map, List.getElem?_eq_getElem (by omega), ← hx, List.getD_eq_getElem?_getD, List.getElem?_eq_getElem (by omega)]; rfl
          have hgm : (D'.map (Value.int .i64))[m]? = some (.int .i64 (y : Int)) := by rw [List.getElem?_map, List.getElem?_eq_getElem (by omega), ← hy, List.getD_eq_getElem?_getD, List.getElem?_eq_getElem (by omega)]; rfl
          have hcj := (hS.2.1.cellAt j (by omega)).trans hgj
          have hcm := (hS.2.1.cellAt m (by omega)).trans hgm
          have hgl : g < wr.heap.size := World.block_lt_of_cell? wr ⟨g, j, none⟩ hcj
          have hfj := hS.2.1.frozenAt j
          have hfm := hS.2.1.frozenAt m
          have HSA := Lib.hid hS
          have HBT := Lib.hid hT
          have HX := Lib.hid hx
          have HY := Lib.hid hy
          have HM := Lib.hid hm
          obtain ⟨c, hc⟩ : ∃ c, c = cmpM V x y := ⟨_, rfl⟩
          have HC := Lib.hid hc.symm
          have hne : x ≠ y := fun e => by
            have := hS.2.2.2.2 j m hjn hmn (by rw [hx, hy, e])
            omega
          have HNE := Lib.hid hne
          obtain ⟨u, hu⟩ : ∃ u, u = decide (c < 0) := ⟨_, rfl⟩
          have HU : Hid (u = decide (c < 0)) := Lib.hid hu
          have hcu : decide (c < 0) = u := hu.symm
          have hw1 : IntKind.i64.wrap (m : Int) = (m : Int) := IntWalk.i64_in _ (by omega)
          have hw2 : (j : Int) - 1 = (m : Int) := by omega
          have HJ := Lib.hid hw2
          have hj1 : (0 : Int) ≤ (j : Int) := by omega
          have hj2 : (j : Int) < (n : Int) := by omega
          have hm1 : (0 : Int) ≤ (m : Int) := by omega
          have hm2 : (m : Int) < (n : Int) := by omega
          clear hu hc hne hS hT hx hy hm b1 b2 b3 b4 hDl hgj hgm
          go_wp2
          refine wp_region_light (by kernel_rfl) (fun lz fz wz => Vals [(0, 18, (.int .i64 (j : Int))), (1, 19, (.int .i64 0)), (2, 20, (.bool true)), (3, 21, (.bool true)), (4, 22, (.func (.func 75) #[] #[.pointer (some ⟨G, 0, none⟩)])), (5, 23, (.slice (some ⟨g, 0, none⟩) n cap)), (6, 24, (.int .i64 (j : Int))), (7, 25, (.pointer (some ⟨g, j, none⟩))), (8, 26, (.int .i64 (x : Int))), (9, 27, (.slice (some ⟨g, 0, none⟩) n cap)), (10, 28, (.int .i64 (j : Int))), (11, 29, (.int .i64 (m : Int))), (12, 30, (.pointer (some ⟨g, m, none⟩))), (13, 31, (.int .i64 (y : Int))), (14, 32, (.int .i64 c)), (15, 33, (.bool u)), (16, 34, (.bool u))] lz fz ∧ Facts wr [] lz fz wz) 53 rfl [18, 19, 20, 21, 22, 23, 24, 25, 26, 27, 28, 29, 30, 31, 32, 33, 34] (by kernel_rfl) (by kernel_rfl) (by kernel_rfl) (fun f => ⟨Vals.nothing _ f, Facts.nothing _ _ f⟩) ?_ ?_
          · intro i hi
            rcases (by have : i < 17 := hi; omega : i = 0 ∨ i = 1 ∨ i = 2 ∨ i = 3 ∨ i = 4 ∨ i = 5 ∨ i = 6 ∨ i = 7 ∨ i = 8 ∨ i = 9 ∨ i = 10 ∨ i = 11 ∨ i = 12 ∨ i = 13 ∨ i = 14 ∨ i = 15 ∨ i = 16) with rfl | rfl | rfl | rfl | rfl | rfl | rfl | rfl | rfl | rfl | rfl | rfl | rfl | rfl | rfl | rfl | rfl
            · clear hi; intro o ho lz fz w' A hJ hli ha hA K hK
              obtain ⟨hv, hq⟩ := hJ
              obtain rfl := Option.some.inj ho
              clear ho
              have hr := hq
              have g9 := slot_out hA 9 _ (by decide) (by decide) rfl
              simp only [List.getD_cons_succ, List.getD_cons_zero] at g9
              have gg9 := slot_get g9
              rw [if_pos (by rfl)]
              have hF := hK (.int .i64 (j : Int)) w' ⟨hv.step 0 18 _ (by simp), hq.step 0 18 _ (Below.refl _ _) (by simp)⟩
              clear hv hq hr ha hK hA hli
              go_simp
              exact hF
            · clear hi; intro o ho lz fz w' A hJ hli ha hA K hK
              obtain ⟨hv, hq⟩ := hJ
              obtain rfl := Option.some.inj ho
              clear ho
              have hr := hq
              have g1 := slot_out hA 1 _ (by decide) (by decide) rfl
              simp only [List.getD_cons_succ, List.getD_cons_zero] at g1
              have gg1 := slot_get g1
              rw [if_pos (by rfl)]
              have hF := hK (.int .i64 0) w' ⟨hv.step 1 19 _ (by simp), hq.step 1 19 _ (Below.refl _ _) (by simp)⟩
              clear hv hq hr ha hK hA hli
              go_simp
              exact hF
            · clear hi; intro o ho lz fz w' A hJ hli ha hA K hK
              obtain ⟨hv, hq⟩ := hJ
              obtain rfl := Option.some.inj ho
              clear ho
              have hr := hq
              have g18 := slot_in hA 18 (by decide) (by decide) (hv (0, 18, (.int .i64 (j : Int))) (by simp) (ha 0 (by simp [aftersOf, Region.binds])))
              have g19 := slot_in hA 19 (by decide) (by decide) (hv (1, 19, (.int .i64 0)) (by simp) (ha 1 (by simp [aftersOf, Region.binds])))
              have gg18 := slot_get g18
              have gg19 := slot_get g19
              rw [if_pos (by rfl)]
              have hF := hK (.bool true) w' ⟨hv.step 2 20 _ (by simp), hq.step 2 20 _ (Below.refl _ _) (by simp)⟩
              clear hv hq hr ha hK hA hli
              go_simp
              exact hF
            · clear hi; intro o ho lz fz w' A hJ hli ha hA K hK
              obtain ⟨hv, hq⟩ := hJ
              obtain rfl := Option.some.inj ho
              clear ho
              have hr := hq
              have g20 := slot_in hA 20 (by decide) (by decide) (hv (2, 20, (.bool true)) (by simp) (ha 2 (by simp [aftersOf, Region.binds])))
              have gg20 := slot_get g20
              rw [if_pos (by rfl)]
              have hF := hK (.bool true) w' ⟨hv.step 3 21 _ (by simp), hq.step 3 21 _ (Below.refl _ _) (by simp)⟩
              clear hv hq hr ha hK hA hli
              go_simp
              exact hF
            · clear hi; intro o ho lz fz w' A hJ hli ha hA K hK
              obtain ⟨hv, hq⟩ := hJ
              obtain rfl := Option.some.inj ho
              clear ho
              have hr := hq
              have g3 := slot_out hA 3 _ (by decide) (by decide) rfl
              simp only [List.getD_cons_succ, List.getD_cons_zero] at g3
              have g21 := slot_in hA 21 (by decide) (by decide) (hv (3, 21, (.bool true)) (by simp) (ha 3 (by simp [aftersOf, Region.binds])))
              have gg3 := slot_get g3
              have gg21 := slot_get g21
              have gw := slot_bool g21
              rw [if_pos (by simp [Region.wanted, yielded, gw])]
              clear gw
              have hF := hK (.func (.func 75) #[] #[.pointer (some ⟨G, 0, none⟩)]) w' ⟨hv.step 4 22 _ (by simp), hq.step 4 22 _ (Below.refl _ _) (by simp)⟩
              clear hv hq hr ha hK hA hli
              go_simp
              exact hF
            · clear hi; intro o ho lz fz w' A hJ hli ha hA K hK
              obtain ⟨hv, hq⟩ := hJ
              obtain rfl := Option.some.inj ho
              clear ho
              have hr := hq
              have g0 := slot_out hA 0 _ (by decide) (by decide) rfl
              simp only [List.getD_cons_succ, List.getD_cons_zero] at g0
              have g21 := slot_in hA 21 (by decide) (by decide) (hv (3, 21, (.bool true)) (by simp) (ha 3 (by simp [aftersOf, Region.binds])))
              have gg0 := slot_get g0
              have gg21 := slot_get g21
              have gw := slot_bool g21
              rw [if_pos (by simp [Region.wanted, yielded, gw])]
              clear gw
              have hF := hK (.slice (some ⟨g, 0, none⟩) n cap) w' ⟨hv.step 5 23 _ (by simp), hq.step 5 23 _ (Below.refl _ _) (by simp)⟩
              clear hv hq hr ha hK hA hli
              go_simp
              exact hF
            · clear hi; intro o ho lz fz w' A hJ hli ha hA K hK
              obtain ⟨hv, hq⟩ := hJ
              obtain rfl := Option.some.inj ho
              clear ho
              have hr := hq
              have g9 := slot_out hA 9 _ (by decide) (by decide) rfl
              simp only [List.getD_cons_succ, List.getD_cons_zero] at g9
              have g21 := slot_in hA 21 (by decide) (by decide) (hv (3, 21, (.bool true)) (by simp) (ha 3 (by simp [aftersOf, Region.binds])))
              have gg9 := slot_get g9
              have gg21 := slot_get g21
              have gw := slot_bool g21
              rw [if_pos (by simp [Region.wanted, yielded, gw])]
              clear gw
              have hF := hK (.int .i64 (j : Int)) w' ⟨hv.step 6 24 _ (by simp), hq.step 6 24 _ (Below.refl _ _) (by simp)⟩
              clear hv hq hr ha hK hA hli
              go_simp
              exact hF
            · clear hi; intro o ho lz fz w' A hJ hli ha hA K hK
              obtain ⟨hv, hq⟩ := hJ
              obtain rfl := Option.some.inj ho
              clear ho
              have hr := hq
              have g23 := slot_in hA 23 (by decide) (by decide) (hv (5, 23, (.slice (some ⟨g, 0, none⟩) n cap)) (by simp) (ha 5 (by simp [aftersOf, Region.binds])))
              have g24 := slot_in hA 24 (by decide) (by decide) (hv (6, 24, (.int .i64 (j : Int))) (by simp) (ha 6 (by simp [aftersOf, Region.binds])))
              have g21 := slot_in hA 21 (by decide) (by decide) (hv (3, 21, (.bool true)) (by simp) (ha 3 (by simp [aftersOf, Region.binds])))
              have gg23 := slot_get g23
              have gg24 := slot_get g24
              have gg21 := slot_get g21
              have gw := slot_bool g21
              rw [if_pos (by simp [Region.wanted, yielded, gw])]
              clear gw
              have hF := hK (.pointer (some ⟨g, j, none⟩)) w' ⟨hv.step 7 25 _ (by simp), hq.step 7 25 _ (Below.refl _ _) (by simp)⟩
              clear hv hq hr ha hK hA hli
              go_simp
              exact hF
            · clear hi; intro o ho lz fz w' A hJ hli ha hA K hK
              obtain ⟨hv, hq⟩ := hJ
              obtain rfl := Option.some.inj ho
              clear ho
              have hr := hq
              have g25 := slot_in hA 25 (by decide) (by decide) (hv (7, 25, (.pointer (some ⟨g, j, none⟩))) (by simp) (ha 7 (by simp [aftersOf, Region.binds])))
              have g21 := slot_in hA 21 (by decide) (by decide) (hv (3, 21, (.bool true)) (by simp) (ha 3 (by simp [aftersOf, Region.binds])))
              have gg25 := slot_get g25
              have gg21 := slot_get g21
              have gw := slot_bool g21
              rw [if_pos (by simp [Region.wanted, yielded, gw])]
              clear gw
              have kc := (hr.1.cell (p := ⟨g, j, none⟩) hgl).trans hcj
              have hF := hK (.int .i64 (x : Int)) w' ⟨hv.step 8 26 _ (by simp), hq.step 8 26 _ (Below.refl _ _) (by simp)⟩
              clear hv hq hr ha hK hA hli
              go_simp
              exact hF
            · clear hi; intro o ho lz fz w' A hJ hli ha hA K hK
              obtain ⟨hv, hq⟩ := hJ
              obtain rfl := Option.some.inj ho
              clear ho
              have hr := hq
              have g0 := slot_out hA 0 _ (by decide) (by decide) rfl
              simp only [List.getD_cons_succ, List.getD_cons_zero] at g0
              have g21 := slot_in hA 21 (by decide) (by decide) (hv (3, 21, (.bool true)) (by simp) (ha 3 (by simp [aftersOf, Region.binds])))
              have gg0 := slot_get g0
              have gg21 := slot_get g21
              have gw := slot_bool g21
              rw [if_pos (by simp [Region.wanted, yielded, gw])]
              clear gw
              have hF := hK (.slice (some ⟨g, 0, none⟩) n cap) w' ⟨hv.step 9 27 _ (by simp), hq.step 9 27 _ (Below.refl _ _) (by simp)⟩
              clear hv hq hr ha hK hA hli
              go_simp
              exact hF
            · clear hi; intro o ho lz fz w' A hJ hli ha hA K hK
              obtain ⟨hv, hq⟩ := hJ
              obtain rfl := Option.some.inj ho
              clear ho
              have hr := hq
              have g9 := slot_out hA 9 _ (by decide) (by decide) rfl
              simp only [List.getD_cons_succ, List.getD_cons_zero] at g9
              have g21 := slot_in hA 21 (by decide) (by decide) (hv (3, 21, (.bool true)) (by simp) (ha 3 (by simp [aftersOf, Region.binds])))
              have gg9 := slot_get g9
              have gg21 := slot_get g21
              have gw := slot_bool g21
              rw [if_pos (by simp [Region.wanted, yielded, gw])]
              clear gw
              have hF := hK (.int .i64 (j : Int)) w' ⟨hv.step 10 28 _ (by simp), hq.step 10 28 _ (Below.refl _ _) (by simp)⟩
              clear hv hq hr ha hK hA hli
              go_simp
              exact hF
            · clear hi; intro o ho lz fz w' A hJ hli ha hA K hK
              obtain ⟨hv, hq⟩ := hJ
              obtain rfl := Option.some.inj ho
              clear ho
              have hr := hq
              have g28 := slot_in hA 28 (by decide) (by decide) (hv (10, 28, (.int .i64 (j : Int))) (by simp) (ha 10 (by simp [aftersOf, Region.binds])))
              have g21 := slot_in hA 21 (by decide) (by decide) (hv (3, 21, (.bool true)) (by simp) (ha 3 (by simp [aftersOf, Region.binds])))
              have gg28 := slot_get g28
              have gg21 := slot_get g21
              have gw := slot_bool g21
              rw [if_pos (by simp [Region.wanted, yielded, gw])]
              clear gw
              have hF := hK (.int .i64 (m : Int)) w' ⟨hv.step 11 29 _ (by simp), hq.step 11 29 _ (Below.refl _ _) (by simp)⟩
              clear hv hq hr ha hK hA hli
              go_simp
              exact hF
            · clear hi; intro o ho lz fz w' A hJ hli ha hA K hK
              obtain ⟨hv, hq⟩ := hJ
              obtain rfl := Option.some.inj ho
              clear ho
              have hr := hq
              have g27 := slot_in hA 27 (by decide) (by decide) (hv (9, 27, (.slice (some ⟨g, 0, none⟩) n cap)) (by simp) (ha 9 (by simp [aftersOf, Region.binds])))
              have g29 := slot_in hA 29 (by decide) (by decide) (hv (11, 29, (.int .i64 (m : Int))) (by simp) (ha 11 (by simp [aftersOf, Region.binds])))
              have g21 := slot_in hA 21 (by decide) (by decide) (hv (3, 21, (.bool true)) (by simp) (ha 3 (by simp [aftersOf, Region.binds])))
              have gg27 := slot_get g27
              have gg29 := slot_get g29
              have gg21 := slot_get g21
              have gw := slot_bool g21
              rw [if_pos (by simp [Region.wanted, yielded, gw])]
              clear gw
              have hF := hK (.pointer (some ⟨g, m, none⟩)) w' ⟨hv.step 12 30 _ (by simp), hq.step 12 30 _ (Below.refl _ _) (by simp)⟩
              clear hv hq hr ha hK hA hli
              go_simp
              exact hF
            · clear hi; intro o ho lz fz w' A hJ hli ha hA K hK
              obtain ⟨hv, hq⟩ := hJ
              obtain rfl := Option.some.inj ho
              clear ho
              have hr := hq
              have g30 := slot_in hA 30 (by decide) (by decide) (hv (12, 30, (.pointer (some ⟨g, m, none⟩))) (by simp) (ha 12 (by simp [aftersOf, Region.binds])))
              have g21 := slot_in hA 21 (by decide) (by decide) (hv (3, 21, (.bool true)) (by simp) (ha 3 (by simp [aftersOf, Region.binds])))
              have gg30 := slot_get g30
              have gg21 := slot_get g21
              have gw := slot_bool g21
              rw [if_pos (by simp [Region.wanted, yielded, gw])]
              clear gw
              have kc := (hr.1.cell (p := ⟨g, m, none⟩) hgl).trans hcm
              have hF := hK (.int .i64 (y : Int)) w' ⟨hv.step 13 31 _ (by simp), hq.step 13 31 _ (Below.refl _ _) (by simp)⟩
              clear hv hq hr ha hK hA hli
              go_simp
              exact hF
            · clear hi; intro o ho lz fz w' A hJ hli ha hA K hK
              obtain ⟨hv, hq⟩ := hJ
              obtain rfl := Option.some.inj ho
              clear ho
              have hr := hq
              have g22 := slot_in hA 22 (by decide) (by decide) (hv (4, 22, (.func (.func 75) #[] #[.pointer (some ⟨G, 0, none⟩)])) (by simp) (ha 4 (by simp [aftersOf, Region.binds])))
              have g26 := slot_in hA 26 (by decide) (by decide) (hv (8, 26, (.int .i64 (x : Int))) (by simp) (ha 8 (by simp [aftersOf, Region.binds])))
              have g31 := slot_in hA 31 (by decide) (by decide) (hv (13, 31, (.int .i64 (y : Int))) (by simp) (ha 13 (by simp [aftersOf, Region.binds])))
              have g21 := slot_in hA 21 (by decide) (by decide) (hv (3, 21, (.bool true)) (by simp) (ha 3 (by simp [aftersOf, Region.binds])))
              have gg22 := slot_get g22
              have gg26 := slot_get g26
              have gg31 := slot_get g31
              have gg21 := slot_get g21
              have gw := slot_bool g21
              rw [if_pos (by simp [Region.wanted, yielded, gw])]
              clear gw
              clear hA
              go_simp
              refine (levelCmp_impl x y n cV gV G V w' hxn hyn ((hr.1.cell (p := ⟨G, 0, none⟩) HG.out.2).trans HG.out.1) (HV.out.below hr.1)).mono ?_
              rintro e w9 ⟨rfl, hb9⟩
              rw [HC.out]
              exact hK (.int .i64 c) w9 ⟨hv.step 14 32 _ (by simp), hq.step 14 32 _ hb9 (by simp)⟩
            · clear hi; intro o ho lz fz w' A hJ hli ha hA K hK
              obtain ⟨hv, hq⟩ := hJ
              obtain rfl := Option.some.inj ho
              clear ho
              have hr := hq
              have g32 := slot_in hA 32 (by decide) (by decide) (hv (14, 32, (.int .i64 c)) (by simp) (ha 14 (by simp [aftersOf, Region.binds])))
              have g21 := slot_in hA 21 (by decide) (by decide) (hv (3, 21, (.bool true)) (by simp) (ha 3 (by simp [aftersOf, Region.binds])))
              have gg32 := slot_get g32
              have gg21 := slot_get g21
              have gw := slot_bool g21
              rw [if_pos (by simp [Region.wanted, yielded, gw])]
              clear gw
              have hF := hK (.bool u) w' ⟨hv.step 15 33 _ (by simp), hq.step 15 33 _ (Below.refl _ _) (by simp)⟩
              clear hv hq hr ha hK hA hli
              go_simp
              exact hF
            · clear hi; intro o ho lz fz w' A hJ hli ha hA K hK
              obtain ⟨hv, hq⟩ := hJ
              obtain rfl := Option.some.inj ho
              clear ho
              have hr := hq
              have g21 := slot_in hA 21 (by decide) (by decide) (hv (3, 21, (.bool true)) (by simp) (ha 3 (by simp [aftersOf, Region.binds])))
              have g33 := slot_in hA 33 (by decide) (by decide) (hv (15, 33, (.bool u)) (by simp) (ha 15 (by simp [aftersOf, Region.binds])))
              have gg21 := slot_get g21
              have gg33 := slot_get g33
              rw [if_pos (by rfl)]
              have hF := hK (.bool u) w' ⟨hv.step 16 34 _ (by simp), hq.step 16 34 _ (Below.refl _ _) (by simp)⟩
              clear hv hq hr ha hK hA hli
              go_simp
              exact hF
          · intro lz fz w' hall hJ
            obtain ⟨hv, hq⟩ := hJ
            have h34 : fz 34 = (.bool u) := hv (16, 34, (.bool u)) (by simp) (hall 16 (by decide))
            have hbR := hq.1
            clear hv hq hall
            simp only [mixF, List.contains_cons, List.contains_nil]
            go_simp
            have hcj2 := (hbR.cell (p := ⟨g, j, none⟩) hgl).trans hcj
            have hcm2 := (hbR.cell (p := ⟨g, m, none⟩) hgl).trans hcm
            have hfj2 := (hbR.frozen (p := ⟨g, j, none⟩) hgl).trans hfj
            have hfm2 := (hbR.frozen (p := ⟨g, m, none⟩) hgl).trans hfm
            have HSB := Lib.hid (HSA.out.below hbR)
            clear hbR hcj hcm hfj hfm hcu
            cases u with
            | true =>
              have HK : Hid (keyLt V (D'.getD (m + 1) 0) (D'.getD m 0)) := Lib.hid (by
                rw [← HM.out, HX.out, HY.out, ← cmpM_lt, HC.out]; have := HU.out; simpa using this.symm)
              have HSW : Hid (∀ W, (W = ((w'.setCell ⟨g, j, none⟩ (.int .i64 (y : Int))).setCell ⟨g, m, none⟩ (.int .i64 (x : Int))).drew ∨ W = ((w'.setCell ⟨g, m, none⟩ (.int .i64 (x : Int))).setCell ⟨g, j, none⟩ (.int .i64 (y : Int))).drew) → SortAt B g n cap w W (swapD D' m)) := Lib.hid (fun W e => by
                have hmj := HM.out
                have h1 := HSB.out.swap m (by omega)
                have h2 := HSB.out.swap' m (by omega)
                rw [← HM.out, HX.out, HY.out] at h1 h2
                rcases e with e | e
                · subst e; exact h1.drew
                · subst e; exact h2.drew)
              have HBU : Hid (SortBut V (swapD D' m) i m) := Lib.hid (by
                have hmj := HM.out
                have h1 := HBT.out
                rw [hmj] at h1
                exact swapD_but HSB.out.2.2.1 hlt h1 (by omega) HK.out)
              have hmi : m ≤ i := by have := HM.out; omega
              have hmj2 : m < j := by have := HM.out; omega
              go_wp2
              go_region
              all_goals
                clear hw1 hw2
                go_wp2
                go_roundw
                case rel => exact ⟨m, hmi, by rw [HJ.out], swapD D' m, HSW.out _ (by first | exact .inl rfl | exact .inr rfl), HBU.out⟩
                case measure => simp [intOf]; omega
            | false =>
              have HK : Hid (keyLt V (D'.getD m 0) (D'.getD (m + 1) 0)) := Lib.hid (by
                rw [← HM.out, HX.out, HY.out]
                refine keyLt_total (fun h => ?_) (fun e => HNE.out (by omega))
                rw [← cmpM_lt, HC.out] at h
                have := HU.out
                simp at this; omega)
              have HFIN : Hid (SortTo V D' (i + 1)) := Lib.hid ((HM.out ▸ HBT.out).stop (by have := HM.out; omega) HK.out)
              go_wp2
              go_roundw
              case rel => exact ⟨i + 1, by omega, by omega, by go_num, D', HSB.out, HFIN.out⟩
              case measure => simp [intOf]; omega
        · obtain rfl : j = 0 := by omega
          have HFIN : Hid (SortTo V D' (i + 1)) := Lib.hid hT.zero
          have HSA := Lib.hid hS
          clear hS hT
          go_wp2
          go_quiet (fail)
          go_wp2
          go_roundw
          case rel => exact ⟨i + 1, by omega, by omega, by go_num, D', HSA.out.below (below_drewN' (Below.refl _ _) _), HFIN.out⟩
          case measure => simp [intOf]; omega
    · have hin : n ≤ i := by omega
      have HFIN : Hid (SortTo V D' n) := Lib.hid (fun p q h1 h2 => hT p q h1 (by omega))
      have HSA := Lib.hid hS
      clear hS hT
      go_wp2
      go_end0
      exact ⟨rfl, HSA.out.1, D', HSA.out.2.1, HSA.out.2.2, HFIN.out⟩
set_option maxHeartbeats 2000000 in
theorem sortFunc_impl (B g n cap : Nat) (D V : List Int) (gV cV G : Nat) (w : World) (hn : n ≤ 10) (hD : w.ownsRow B 3 1 (.slice (some ⟨g, 0, none⟩) n cap) n (D.map (Value.int .i64))) (hW : Whole D n)
    (hG : 0 < n → w.cell? ⟨G, 0, none⟩ = some (.slice (some ⟨gV, 0, none⟩) n cV)) (hV : 0 < n → RowI w (some ⟨gV, 0, none⟩) n V) (hne1 : G ≠ g) (hne2 : gV ≠ g) :
    Calls Try.prog 74 #[.slice (some ⟨g, 0, none⟩) n cap, .func (.func 75) #[] #[.pointer (some ⟨G, 0, none⟩)]] w (SortedW B g n cap V w) := by
  have HI : Hid (Calls Try.prog 113 #[.slice (some ⟨g, 0, none⟩) n cap, .int .i64 0, .int .i64 n, .func (.func 75) #[] #[.pointer (some ⟨G, 0, none⟩)]] w (SortedW B g n cap V w)) := Lib.hid (insertion_impl B g n cap D V gV cV G w hn hD hW hG hV hne1 hne2)
  have HP : Hid (∀ z : Int, Calls Try.prog 103 #[.slice (some ⟨g, 0, none⟩) n cap, .int .i64 0, .int .i64 n, .int .i64 z, .func (.func 75) #[] #[.pointer (some ⟨G, 0, none⟩)]] w (SortedW B g n cap V w)) := Lib.hid (fun z => by
    have hn' : (n : Int) ≤ 12 := by omega
    clear hD hW hG hV hne1 hne2
    go_enter Try.func103, Try.ntmps103
    go_wp2
    go_loopw [1, 2] (fun p q wr => p = .int .i64 0 ∧ q = .int .i64 n ∧ wr = w) (fun _ _ _ => 0)
    case atStart => exact ⟨rfl, rfl, rfl⟩
    case round =>
      obtain ⟨rfl, rfl, rfl⟩ := hrel
      go_wp2_with fail
      refine HI.out.mono ?_; rintro e w2 ⟨rfl, h1, D', h2, h3, h4⟩
      have HF := Lib.hid (show SortedW B g n cap V wr (.returned (.tuple #[])) w2 from ⟨rfl, h1, D', h2, h3, h4⟩)
      clear h1 h2 h3 h4
      go_wp2
      go_end0
      exact HF.out)
  clear hD hW hG hV hne1 hne2
  go_enter Try.func74, Try.ntmps74
  go_wp2_with fail
  refine (bitsLen_small n hn _).mono ?_; rintro e w' ⟨z, rfl, rfl⟩
  go_wp2_with fail
  refine (HP.out z).mono ?_; rintro e w2 ⟨rfl, h1, D', h2, h3, h4⟩
  have HF := Lib.hid (show SortedW B g n cap V w (.returned (.tuple #[])) w2 from ⟨rfl, h1, D', h2, h3, h4⟩)
  clear h1 h2 h3 h4
  go_wp2
  go_end0
  exact HF.out
end Go.Proofs.Ytfhbolpchmdaoaa
/- The contract of the program's LevelOrder. -/
namespace Go.Proofs.Ytfhbolpchmdaoaa
open Go.RowKit
set_option linter.unusedVariables false
set_option linter.unusedSimpArgs false
set_option maxHeartbeats 4000000 in
theorem levelOrder_impl (a : Option Addr) (n cap : Nat) (L : List Acn) (w : World) (h : RowA w a n L) :
    Calls Try.prog 30 #[.slice a n cap] w (NewLN w (lvOrdM (levelsM L))) := by
  have hl10 : (levelsM L).length ≤ 10 := by
    cases hL : actsB L with
    | false => rw [levelsM_no hL]; simp
    | true => rw [levelsM_len hL]; exact (actsB_true hL).1
  have HW := Lib.hid h
  have HWF := Lib.hid (levelsM_wf64 L)
  have HBD := Lib.hid (levels_bd L)
  have HOW : Hid (∀ x ∈ lvOrdM (levelsM L), (Lit.int .i64 x).wf = true) := Lib.hid (fun x hx => by have := lvOrdM_wf x hx; exact WalkArith.wf_i64 (by omega))
  clear h
  obtain ⟨V, hV⟩ : ∃ V, V = levelsM L := ⟨_, rfl⟩
  have HVE := Lib.hid hV
  rw [← hV] at HWF HBD HOW hl10 ⊢
  clear hV
  obtain ⟨i0, hi, hz0, hz1, hz2⟩ := info_parts infoIntC
  go_enter Try.func30, Try.ntmps30
  go_wp2_with fail
  refine (levelsOf_impl a n cap L _ HW.out).mono ?_; rintro e w1 ⟨v1, rfl, ho1, hw1, hb1⟩
  rw [← HVE.out] at ho1 hw1
  obtain ⟨m, hm⟩ : ∃ m, m = V.length := ⟨_, rfl⟩
  have HM := Lib.hid hm
  rw [← hm] at ho1 hl10
  clear hm hw1
  obtain ⟨av, cv, hv1, hr1⟩ := rowI_of_owns ho1 (by unfold maxLen; omega) HWF.out
  have hfm : 0 < m → ∃ gV, av = some ⟨gV, 0, none⟩ ∧ gV < w1.heap.size := fun h0 => by
    rcases slice_of_owns ho1 with ⟨h2, h3⟩ | ⟨g', cap', h2, h3, h4, -⟩
    · omega
    · rw [hv1] at h2; simp at h2; exact ⟨g', h2.1, h4⟩
  subst hv1
  have HR1 := Lib.hid hr1
  have HFM := Lib.hid hfm
  have hs1 := hb1.size
  have HB2 := Lib.hid (hb1.alloc hb1.size (.cells #[.slice av m cv] 43))
  have hG0 : (w1.alloc (.cells #[.slice av m cv] 43)).cell? ⟨w1.heap.size, 0, none⟩ = some (.slice av m cv) := by simp [go_sem]
  have HG0 := Lib.hid hG0
  have HR2 := Lib.hid (hr1.below ((Below.refl w1.heap.size w1).alloc (Nat.le_refl _) (.cells #[.slice av m cv] 43)))
  clear ho1 hr1 hfm hb1 hG0
  go_wp2_with (first | (at_make; refine wpList_make_full _ rfl (.tmp 9) (.tmp 9) 43 rfl (w1.heap.size + 1) 3 i0 (.int .i64 0) 1 Try.underlying43 hi hz0 hz1 .i64 .i64 m m m rfl rfl rfl rfl (by rw [hz2]; omega) (by unfold maxLen; omega) (by simp) ?_; intro w3 hown hgrow; clear hi hz0 hz1 hz2))
  have hb23 : Below (w1.heap.size + 1) (w1.alloc (.cells #[.slice av m cv] 43)) w3 := (Below.refl _ _).grown hgrow (by simp) (fun k hk => by simp at hk)
  have hb3 : Below w.heap.size w w3 := HB2.out.grown hgrow (by simp; omega) (fun k hk => by simp at hk)
  have HG3 := Lib.hid ((hb23.cell (p := ⟨w1.heap.size, 0, none⟩) (by simp)).trans HG0.out)
  have HR3 := Lib.hid (HR2.out.below (by simpa using hb23))
  have hcells : (madeCells (Value.int .i64 0).cells (m * 1)).toList = (fillI (plainM m) 0).map (Value.int .i64) := by
    rw [fillI_zero, plainM_len, Nat.mul_one]; exact (toList_madeCells_one _ _).trans (by simp)
  rw [hcells] at hown; clear hcells
  rw [show (w1.alloc (.cells #[.slice av m cv] 43)).heap.size = w1.heap.size + 1 by simp] at hown
  obtain ⟨G, hGe⟩ : ∃ G, G = w1.heap.size := ⟨_, rfl⟩
  obtain ⟨g, hge⟩ : ∃ g, g = w1.heap.size + 1 := ⟨_, rfl⟩
  have hne1 : G ≠ g := by omega
  have hwg : w.heap.size ≤ g := by omega
  have HFG : Hid (0 < m → ∃ gV, av = some ⟨gV, 0, none⟩ ∧ gV ≠ g) := Lib.hid (fun h0 => by obtain ⟨gV, h1, h2⟩ := HFM.out h0; exact ⟨gV, h1, by omega⟩)
  rw [← hge] at hown ⊢
  rw [← hGe] at HG3 ⊢
  have HO3 := Lib.hid hown
  have HB3 := Lib.hid hb3
  have hg3 : g < w3.heap.size := (hown.lt _ rfl).2
  clear hgrow hb23 hb3 hown HG0 HR2 HR1 HFM hGe hge HB2 hs1
  go_wp2
  go_loopw [13] (fun i wr => ∃ k : Nat, k ≤ m ∧ i = .int .i64 k ∧ wr.ownsRow g 3 1 (.slice (some ⟨g, 0, none⟩) m m) m ((fillI (plainM m) k).map (Value.int .i64)) ∧ Turn g (g + 1) w3 wr) (fun i _ => m - (intOf i).toNat)
  case atStart => exact ⟨0, Nat.zero_le _, rfl, HO3.out, Turn.refl _ _ _⟩
  case round =>
    clear HO3
    obtain ⟨k, hk, rfl, hO, hT⟩ := hrel
    by_cases hlt : k < m
    · have HST := Lib.hid (hO.stored k (.int .i64 (k : Int))).1
      have HFS : Hid (((fillI (plainM m) k).map (Value.int .i64)).set k (.int .i64 (k : Int)) = (fillI (plainM m) (k + 1)).map (Value.int .i64)) := Lib.hid (by
        rw [← List.map_set, ← plainM_get m k hlt, fillI_set _ _ (by rw [plainM_len]; exact hlt)])
      have hfl := fillI_len (plainM m) k (by rw [plainM_len]; exact hk)
      rw [plainM_len] at hfl
      obtain ⟨y, hy⟩ : ∃ y, wr.cell? ⟨g, k, none⟩ = some y := by
        rw [hO.cellAt k (by omega)]
        exact ⟨_, List.getElem?_eq_getElem (by rw [List.length_map, hfl]; exact hlt)⟩
      have hfr := hO.frozenAt k
      have HT := Lib.hid (hT.setCell (g := g) ⟨Nat.le_refl _, Nat.lt_succ_self _⟩ k (.int .i64 (k : Int)))
      clear hO hT hfl
      go_wp2
      go_roundw
      case rel => exact ⟨k + 1, by omega, by go_num, by rw [← HFS.out]; exact HST.out, HT.out⟩
      case measure => simp [intOf]; omega
    · obtain rfl : k = m := by omega
      have hfa : fillI (plainM k) k = plainM k := by have := fillI_all (plainM k); rwa [plainM_len] at this
      rw [hfa] at hO
      have HGG : Hid (wr.cell? ⟨G, 0, none⟩ = some (.slice av k cv)) := Lib.hid (hT.cell HG3.out (by omega))
      have hRR : RowI wr av k V := by
        rcases Nat.eq_zero_or_pos k with h0 | h0
        · subst h0
          exact ⟨HM.out.symm, by unfold maxLen; omega, fun h => absurd h (by omega), HR3.out.2.2.2⟩
        · obtain ⟨gV, h1, h2⟩ := HFG.out h0
          exact HR3.out.turn hT (fun b o e => by rw [h1] at e; simp at e; omega)
      have hex : ∃ gV, (0 < k → av = some ⟨gV, 0, none⟩) ∧ gV ≠ g := by
        rcases Nat.eq_zero_or_pos k with h0 | h0
        · exact ⟨g + 1, fun h => by omega, by omega⟩
        · obtain ⟨gV, h1, h2⟩ := HFG.out h0
          exact ⟨gV, fun _ => h1, h2⟩
      obtain ⟨gV, hgV, hne2⟩ := hex
      have hSF := sortFunc_impl g g k k (plainM k) V gV cv G wr (by omega) hO (plain_whole k) (fun h => by rw [← hgV h]; exact HGG.out) (fun h => by rw [← hgV h]; exact hRR) hne1 hne2
      have HSF := Lib.hid hSF
      have HTT := Lib.hid hT
      clear hfa hO hRR hgV hne2 hSF hT
      go_wp2_with fail
      refine HSF.out.mono ?_; rintro e w5 ⟨rfl, hT5, D', hO5, hW5, hS5⟩
      have hbd : ∀ q, q < V.length → 0 ≤ V.getD q 0 ∧ V.getD q 0 ≤ q := by rw [HVE.out]; exact levels_bd L
      have hD : D' = lvOrdM V := sorted_is hbd (by rw [← HM.out]; exact hW5) (by rw [← HM.out]; exact hS5)
      have hln : (lvOrdM V).length = k := by rw [lvOrd_len hbd, ← HM.out]
      rw [hD] at hO5
      have HO5 := Lib.hid hO5
      have HB5 : Hid (Below w.heap.size w w5) := Lib.hid ((HTT.out.trans hT5).below HB3.out hwg HB3.out.size)
      have HLN := Lib.hid hln
      clear hbd hD hln hO5 hW5 hS5 hT5
      go_wp2
      go_ret
      exact ⟨_, rfl, by rw [HLN.out]; exact owns_mono HO5.out hwg, HOW.out, HB5.out⟩
end Go.Proofs.Ytfhbolpchmdaoaa
