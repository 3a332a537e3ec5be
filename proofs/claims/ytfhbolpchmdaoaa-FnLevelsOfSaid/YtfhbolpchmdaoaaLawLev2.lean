/- The walk of the law FnLevelsOf (its drawn regions: gen8/lawlev2.py). -/
import Derived.Test.YtfhbolpchmdaoaaLawLev
import Derived.Test.YtfhbolpchmdaoaaConfM
import Derived.Test.YtfhbolpchmdaoaaRegJ

namespace Go.Proofs.Ytfhbolpchmdaoaa
open Go.RowKit
set_option linter.unusedVariables false
set_option linter.unusedSimpArgs false
/-- Some action of the first j is of the level below that of the action k, and in conflict with it; or its level is 0. -/
def fndM (L : List Acn) (V : List Int) (k : Nat) : Nat → Bool
  | 0 => V.getD k 0 == 0
  | j + 1 => fndM L V k j || (V.getD j 0 == V.getD k 0 - 1 && confM (L.getD j noA) (L.getD k noA))
theorem fndM_up {L : List Acn} {V : List Int} {k j : Nat} (h : fndM L V k j = true) : ∀ m, j ≤ m → fndM L V k m = true := by
  intro m
  induction m with
  | zero => intro hm; obtain rfl : j = 0 := by omega
            exact h
  | succ m ih =>
    intro hm
    rcases (by omega : j = m + 1 ∨ j ≤ m) with rfl | h1
    · exact h
    · simp [fndM, ih h1]
theorem fndM_all {L : List Acn} (hL : actsB L = true) {k : Nat} (hk : k < L.length) : fndM L (levelsM L) k k = true := by
  rcases lev_of hL hk with h | ⟨i, hi, hc, he⟩
  · exact fndM_up (j := 0) (by unfold fndM; rw [h]; rfl) k (Nat.zero_le _)
  · exact fndM_up (j := i + 1) (by unfold fndM; rw [he, hc]; simp) k hi
set_option maxRecDepth 100000 in
set_option maxHeartbeats 16000000 in
theorem lawLevelsOf (a : Option Addr) (len cap : Nat) (z : List Int) (w : World) (h : RowB w a len z) (hc : a = none → cap = 0) (hlc : len ≤ cap) :
    Calls Try.prog 4 #[.slice a len cap] w (LawTrue w) := by
  by_cases hs : len ≤ 1048576
  · have hs' : ¬ (1048576 : Int) < (len : Int) := by omega
    go_enter Try.func4, Try.ntmps4
    go_wp2_with fail
    refine (drawLevelsOf_any a len cap z w h hlc).mono ?_; rintro e w1 ⟨g, c, L, rfl, hrA, hlc2, hl20, hb1⟩
    clear h hs hs' hc hlc
    obtain ⟨n, hn⟩ : ∃ n, n = L.length := ⟨_, rfl⟩
    have HN := Lib.hid hn
    rw [← hn] at hrA hlc2 hl20 ⊢
    clear hn
    have hl10 := levelOrder_len L
    rw [lvOrd_len (levels_bd L)] at hl10
    go_wp2_with fail
    refine (levelsOf_impl _ n c L _ hrA).mono ?_; intro e w2 hN
    obtain ⟨aX, cX, rfl, hrX, -, hb2'⟩ := newLN_row hN (by omega)
    have hrA2 := hrA.below hb2'
    have hb2 := hb1.trans (hb2'.mono hb1.size)
    clear hrA hb1 hb2' hN
    go_wp2_with fail
    refine (levelsOf_spec _ n c L _ hrA2).mono ?_; intro e w3 hN
    obtain ⟨gY, cY, rfl, hrY, -, hb3'⟩ := newL_row hN (by omega)
    have hrA3 := hrA2.below hb3'
    have hrX3 := hrX.below hb3'
    have hb3 := hb2.trans (hb3'.mono hb2.size)
    clear hrA2 hrX hb2 hb3' hN
    go_wp2_with fail
    refine (sameInts_same _ _ _ cX cY _ _ hrX3 hrY).mono ?_; rintro e w4 ⟨rfl, hb4'⟩
    have hrA4 := hrA3.below hb4'
    have hrX4 := hrX3.below hb4'
    have hb4 := hb3.trans (hb4'.mono hb3.size)
    clear hrA3 hrX3 hrY hb3 hb4'
    go_wp2_with fail
    refine (actionsValid_spec _ n c L _ hrA4).mono ?_; rintro e w5 ⟨rfl, hb5'⟩
    have hrA5 := hrA4.below hb5'
    have hrX5 := hrX4.below hb5'
    have hb5 := hb4.trans (hb5'.mono hb4.size)
    clear hrA4 hrX4 hb4 hb5'
    cases hA : actsB L with
    | false =>
      have e0 : (levelsM L).length = 0 := by rw [levelsM_no hA]; rfl
      rw [e0]
      clear hrA5 hrX5 e0 hA
      go_wp2_with fail
      refine (alive_any _).mono ?_; rintro e w6 ⟨rfl, hb6'⟩
      go_wp2
      go_ret
      exact ⟨rfl, hb5.trans (hb6'.mono hb5.size)⟩
    | true =>
      have HVL := Lib.hid (levelsM_len hA)
      have HUP := Lib.hid (fun (i k : Nat) (hk : k < n) (hi : i < k) (hc : confM (L.getD i noA) (L.getD k noA) = true) => lev_up hA (i := i) (k := k) (by rw [← HN.out]; exact hk) hi hc)
      have HFN := Lib.hid (fun (k : Nat) (hk : k < n) => fndM_all hA (k := k) (by rw [← HN.out]; exact hk))
      have HBD := Lib.hid (fun (k : Nat) (hk : k < n) => lev_bd hA (k := k) (by rw [← HN.out]; exact hk))
      have hn10 : n ≤ 10 := by have := (actsB_true hA).1; rw [HN.out]; exact this
      have hvl : (levelsM L).length = n := by rw [levelsM_len hA, HN.out]
      rw [hvl] at hrX5 ⊢
      obtain ⟨V, hV⟩ : ∃ V, V = levelsM L := ⟨_, rfl⟩
      rw [← hV] at hrX5 HUP HFN HBD
      clear hV hvl hA hl10
      have HB := Lib.hid hb5
      have HX := Lib.hid hrX5
      have HLI := Lib.hid hrA5
      clear hb5 hrX5 hrA5
      go_wp2
      go_loopw [5] (fun i wr => ∃ k : Nat, k ≤ n ∧ i = .int .i64 k ∧ Below w5.heap.size w5 wr) (fun i _ => n - (intOf i).toNat)
      case atStart => exact ⟨0, Nat.zero_le _, rfl, Below.refl _ _⟩
      case round =>
        obtain ⟨k, hk, rfl, hb⟩ := hrel
        by_cases hlt : k < n
        · obtain ⟨b, o, rfl, hcX⟩ := (HX.out.below hb).2.2.1 (by omega)
          obtain ⟨bA, oA, eA, -⟩ := HLI.out.2.2.1 (by omega)
          obtain ⟨rfl, rfl⟩ : g = bA ∧ 0 = oA := by simpa using eA
          have c0 := hcX k hlt
          have HB0 := Lib.hid hb
          have hbd := HBD.out k hlt
          obtain ⟨vk, hvk⟩ : ∃ vk, vk = V.getD k 0 := ⟨_, rfl⟩
          have HVK := Lib.hid hvk
          rw [← hvk] at c0 hbd
          clear hcX hb eA hvk
          go_wp2
          obtain ⟨wo, hwo⟩ : ∃ wo, wo = wr := ⟨wr, rfl⟩
          subst hwo
          go_loopw [6, 7] (fun f i wr => ∃ j : Nat, j ≤ k ∧ i = .int .i64 j ∧ f = .bool (fndM L V k j) ∧ Below w5.heap.size w5 wr) (fun _ i _ => k - (intOf i).toNat)
          case atStart => exact ⟨0, Nat.zero_le _, rfl, by rw [HVK.out]; rfl, HB0.out⟩
          case round =>
            clear c0
            obtain ⟨j, hj, rfl, rfl, hb⟩ := hrel
            by_cases hjt : j < k
            · obtain ⟨b', o', e', hcX⟩ := (HX.out.below hb).2.2.1 (by omega)
              obtain ⟨rfl, rfl⟩ : b = b' ∧ o = o' := by simpa using e'
              have c0 := hcX k hlt
              have c1 := hcX j (by omega)
              rw [← HVK.out] at c0
              have hbj := HBD.out j (by omega)
              have HUPJ := Lib.hid (HUP.out j k hlt hjt)
              obtain ⟨vj, hvj⟩ : ∃ vj, vj = V.getD j 0 := ⟨_, rfl⟩
              obtain ⟨A0, A1, A2, A3⟩ := (HLI.out.below hb).cells (i := j) (by omega)
              obtain ⟨B0, B1, B2, B3⟩ := (HLI.out.below hb).cells (i := k) hlt
              rw [Nat.zero_add] at A0 A1 A2 A3 B0 B1 B2 B3
              have HFJ : Hid (fndM L V k (j + 1) = (fndM L V k j || (vj == vk - 1 && confM (L.getD j noA) (L.getD k noA)))) := Lib.hid (by rw [HVK.out, hvj]; rfl)
              rw [← HVK.out, ← hvj] at HUPJ
              rw [← hvj] at c1 hbj
              obtain ⟨x, hx⟩ : ∃ x, x = L.getD j noA := ⟨_, rfl⟩
              obtain ⟨y, hy⟩ : ∃ y, y = L.getD k noA := ⟨_, rfl⟩
              rw [← hx] at A0 A1 A2 A3 HFJ HUPJ
              rw [← hy] at B0 B1 B2 B3 HFJ HUPJ
              obtain ⟨p, q, r, t⟩ := x
              obtain ⟨p2, q2, r2, t2⟩ := y
              simp only at A0 A1 A2 A3 B0 B1 B2 B3
              obtain ⟨u, hu⟩ : ∃ u, u = confM ⟨p, q, r, t⟩ ⟨p2, q2, r2, t2⟩ := ⟨_, rfl⟩
              have HU := Lib.hid hu.symm
              obtain ⟨d, hd⟩ : ∃ d, d = (vj == vk - 1) := ⟨_, rfl⟩
              rw [← hu, ← hd] at HFJ
              rw [← hu] at HUPJ
              obtain ⟨f, hf⟩ : ∃ f, f = fndM L V k j := ⟨_, rfl⟩
              rw [← hf] at HFJ ⊢
              have HB1 := Lib.hid hb
              have HD := Lib.hid hd.symm
              have HGE : Hid (u = true → decide (vk ≤ vj) = false) := Lib.hid (fun hu => decide_eq_false (by have := HUPJ.out hu; omega))
              have hvw : IntKind.i64.wrap (vk - 1) = vk - 1 := IntWalk.i64_in _ (by omega)
              have hj0 : (0 : Int) ≤ (j : Int) := by omega
              have hjn : (j : Int) < (n : Int) := by omega
              have hkn : (k : Int) < (n : Int) := by omega
              have hbX : b < wr.heap.size := World.block_lt_of_cell? wr ⟨b, o + k, none⟩ c0
              have hbA : g < wr.heap.size := World.block_lt_of_cell? wr ⟨g, j * 4, none⟩ A0
              clear hcX e' hx hy hu hd hf hvj hb hbj hbd
              go_wp2
              -- REGION 16
              refine wp_region_light (by kernel_rfl) (fun lz fz wz => Vals (bif u then [(0, 45, (.slice (some ⟨g, 0, none⟩) n c)), (1, 46, (.int .i64 (j : Int))), (2, 47, (.pointer (some ⟨g, j * 4, none⟩))), (3, 48, (.agg #[.int .i64 p, .int .i64 q, .int .i64 r, .int .i64 t])), (4, 49, (.slice (some ⟨g, 0, none⟩) n c)), (5, 50, (.int .i64 (k : Int))), (6, 51, (.pointer (some ⟨g, k * 4, none⟩))), (7, 52, (.agg #[.int .i64 p2, .int .i64 q2, .int .i64 r2, .int .i64 t2])), (8, 53, (.bool true)), (9, 54, (.bool true)), (10, 55, (.slice (some ⟨b, o, none⟩) n cX)), (11, 56, (.int .i64 (j : Int))), (12, 57, (.pointer (some ⟨b, o + j, none⟩))), (13, 58, (.int .i64 vj)), (14, 59, (.slice (some ⟨b, o, none⟩) n cX)), (15, 60, (.int .i64 (k : Int))), (16, 61, (.pointer (some ⟨b, o + k, none⟩))), (17, 62, (.int .i64 vk)), (18, 63, (.bool false)), (19, 64, (.bool false))] else [(0, 45, (.slice (some ⟨g, 0, none⟩) n c)), (1, 46, (.int .i64 (j : Int))), (2, 47, (.pointer (some ⟨g, j * 4, none⟩))), (3, 48, (.agg #[.int .i64 p, .int .i64 q, .int .i64 r, .int .i64 t])), (4, 49, (.slice (some ⟨g, 0, none⟩) n c)), (5, 50, (.int .i64 (k : Int))), (6, 51, (.pointer (some ⟨g, k * 4, none⟩))), (7, 52, (.agg #[.int .i64 p2, .int .i64 q2, .int .i64 r2, .int .i64 t2])), (8, 53, (.bool false)), (9, 54, (.bool false)), (19, 64, (.bool false))]) lz fz ∧ Facts wr [] lz fz wz) 96 rfl [45, 46, 47, 48, 49, 50, 51, 52, 53, 54, 55, 56, 57, 58, 59, 60, 61, 62, 63, 64] (by kernel_rfl) (by kernel_rfl) (by kernel_rfl) (fun f => ⟨Vals.nothing _ f, Facts.nothing _ _ f⟩) ?_ ?_
              · intro i hi
                rcases (by have : i < 20 := hi; omega : i = 0 ∨ i = 1 ∨ i = 2 ∨ i = 3 ∨ i = 4 ∨ i = 5 ∨ i = 6 ∨ i = 7 ∨ i = 8 ∨ i = 9 ∨ i = 10 ∨ i = 11 ∨ i = 12 ∨ i = 13 ∨ i = 14 ∨ i = 15 ∨ i = 16 ∨ i = 17 ∨ i = 18 ∨ i = 19) with rfl | rfl | rfl | rfl | rfl | rfl | rfl | rfl | rfl | rfl | rfl | rfl | rfl | rfl | rfl | rfl | rfl | rfl | rfl | rfl
                · clear hi; intro o ho lz fz w' A hJ hli ha hA K hK
                  obtain ⟨hv, hq⟩ := hJ
                  obtain rfl := Option.some.inj ho
                  clear ho
                  cases u
                  case true =>
                    simp only [cond_true, cond_false] at hv
                    have hr := hq
                    have g3 := slot_out hA 3 _ (by decide) (by decide) rfl
                    simp only [List.getD_cons_succ, List.getD_cons_zero] at g3
                    have gg3 := slot_get g3
                    rw [if_pos (by rfl)]
                    have hF := hK (.slice (some ⟨g, 0, none⟩) n c) w' ⟨hv.step 0 45 _ (by simp), hq.step 0 45 _ (Below.refl _ _) (by simp)⟩
                    clear hv hq hr ha hK hA hli
                    go_simp
                    exact hF
                  case false =>
                    simp only [cond_true, cond_false] at hv
                    have hr := hq
                    have g3 := slot_out hA 3 _ (by decide) (by decide) rfl
                    simp only [List.getD_cons_succ, List.getD_cons_zero] at g3
                    have gg3 := slot_get g3
                    rw [if_pos (by rfl)]
                    have hF := hK (.slice (some ⟨g, 0, none⟩) n c) w' ⟨hv.step 0 45 _ (by simp), hq.step 0 45 _ (Below.refl _ _) (by simp)⟩
                    clear hv hq hr ha hK hA hli
                    go_simp
                    exact hF
                · clear hi; intro o ho lz fz w' A hJ hli ha hA K hK
                  obtain ⟨hv, hq⟩ := hJ
                  obtain rfl := Option.some.inj ho
                  clear ho
                  cases u
                  case true =>
                    simp only [cond_true, cond_false] at hv
                    have hr := hq
                    have g7 := slot_out hA 7 _ (by decide) (by decide) rfl
                    simp only [List.getD_cons_succ, List.getD_cons_zero] at g7
                    have gg7 := slot_get g7
                    rw [if_pos (by rfl)]
                    have hF := hK (.int .i64 (j : Int)) w' ⟨hv.step 1 46 _ (by simp), hq.step 1 46 _ (Below.refl _ _) (by simp)⟩
                    clear hv hq hr ha hK hA hli
                    go_simp
                    exact hF
                  case false =>
                    simp only [cond_true, cond_false] at hv
                    have hr := hq
                    have g7 := slot_out hA 7 _ (by decide) (by decide) rfl
                    simp only [List.getD_cons_succ, List.getD_cons_zero] at g7
                    have gg7 := slot_get g7
                    rw [if_pos (by rfl)]
                    have hF := hK (.int .i64 (j : Int)) w' ⟨hv.step 1 46 _ (by simp), hq.step 1 46 _ (Below.refl _ _) (by simp)⟩
                    clear hv hq hr ha hK hA hli
                    go_simp
                    exact hF
                · clear hi; intro o ho lz fz w' A hJ hli ha hA K hK
                  obtain ⟨hv, hq⟩ := hJ
                  obtain rfl := Option.some.inj ho
                  clear ho
                  cases u
                  case true =>
                    simp only [cond_true, cond_false] at hv
                    have hr := hq
                    have g45 := slot_in hA 45 (by decide) (by decide) (hv (0, 45, (.slice (some ⟨g, 0, none⟩) n c)) (by simp) (ha 0 (by simp [aftersOf, Region.binds])))
                    have g46 := slot_in hA 46 (by decide) (by decide) (hv (1, 46, (.int .i64 (j : Int))) (by simp) (ha 1 (by simp [aftersOf, Region.binds])))
                    have gg45 := slot_get g45
                    have gg46 := slot_get g46
                    rw [if_pos (by rfl)]
                    have hF := hK (.pointer (some ⟨g, j * 4, none⟩)) w' ⟨hv.step 2 47 _ (by simp), hq.step 2 47 _ (Below.refl _ _) (by simp)⟩
                    clear hv hq hr ha hK hA hli
                    go_simp
                    exact hF
                  case false =>
                    simp only [cond_true, cond_false] at hv
                    have hr := hq
                    have g45 := slot_in hA 45 (by decide) (by decide) (hv (0, 45, (.slice (some ⟨g, 0, none⟩) n c)) (by simp) (ha 0 (by simp [aftersOf, Region.binds])))
                    have g46 := slot_in hA 46 (by decide) (by decide) (hv (1, 46, (.int .i64 (j : Int))) (by simp) (ha 1 (by simp [aftersOf, Region.binds])))
                    have gg45 := slot_get g45
                    have gg46 := slot_get g46
                    rw [if_pos (by rfl)]
                    have hF := hK (.pointer (some ⟨g, j * 4, none⟩)) w' ⟨hv.step 2 47 _ (by simp), hq.step 2 47 _ (Below.refl _ _) (by simp)⟩
                    clear hv hq hr ha hK hA hli
                    go_simp
                    exact hF
                · clear hi; intro o ho lz fz w' A hJ hli ha hA K hK
                  obtain ⟨hv, hq⟩ := hJ
                  obtain rfl := Option.some.inj ho
                  clear ho
                  cases u
                  case true =>
                    simp only [cond_true, cond_false] at hv
                    have hr := hq
                    have g47 := slot_in hA 47 (by decide) (by decide) (hv (2, 47, (.pointer (some ⟨g, j * 4, none⟩))) (by simp) (ha 2 (by simp [aftersOf, Region.binds])))
                    have gg47 := slot_get g47
                    rw [if_pos (by rfl)]
                    have k0 := (hr.1.cell (p := ⟨g, j * 4, none⟩) hbA).trans A0
                    have k1 := (hr.1.cell (p := ⟨g, j * 4 + 1, none⟩) hbA).trans A1
                    have k2 := (hr.1.cell (p := ⟨g, j * 4 + 2, none⟩) hbA).trans A2
                    have k3 := (hr.1.cell (p := ⟨g, j * 4 + 3, none⟩) hbA).trans A3
                    have hF := hK (.agg #[.int .i64 p, .int .i64 q, .int .i64 r, .int .i64 t]) w' ⟨hv.step 3 48 _ (by simp), hq.step 3 48 _ (Below.refl _ _) (by simp)⟩
                    clear hv hq hr ha hK hA hli
                    go_simp
                    exact hF
                  case false =>
                    simp only [cond_true, cond_false] at hv
                    have hr := hq
                    have g47 := slot_in hA 47 (by decide) (by decide) (hv (2, 47, (.pointer (some ⟨g, j * 4, none⟩))) (by simp) (ha 2 (by simp [aftersOf, Region.binds])))
                    have gg47 := slot_get g47
                    rw [if_pos (by rfl)]
                    have k0 := (hr.1.cell (p := ⟨g, j * 4, none⟩) hbA).trans A0
                    have k1 := (hr.1.cell (p := ⟨g, j * 4 + 1, none⟩) hbA).trans A1
                    have k2 := (hr.1.cell (p := ⟨g, j * 4 + 2, none⟩) hbA).trans A2
                    have k3 := (hr.1.cell (p := ⟨g, j * 4 + 3, none⟩) hbA).trans A3
                    have hF := hK (.agg #[.int .i64 p, .int .i64 q, .int .i64 r, .int .i64 t]) w' ⟨hv.step 3 48 _ (by simp), hq.step 3 48 _ (Below.refl _ _) (by simp)⟩
                    clear hv hq hr ha hK hA hli
                    go_simp
                    exact hF
                · clear hi; intro o ho lz fz w' A hJ hli ha hA K hK
                  obtain ⟨hv, hq⟩ := hJ
                  obtain rfl := Option.some.inj ho
                  clear ho
                  cases u
                  case true =>
                    simp only [cond_true, cond_false] at hv
                    have hr := hq
                    have g3 := slot_out hA 3 _ (by decide) (by decide) rfl
                    simp only [List.getD_cons_succ, List.getD_cons_zero] at g3
                    have gg3 := slot_get g3
                    rw [if_pos (by rfl)]
                    have hF := hK (.slice (some ⟨g, 0, none⟩) n c) w' ⟨hv.step 4 49 _ (by simp), hq.step 4 49 _ (Below.refl _ _) (by simp)⟩
                    clear hv hq hr ha hK hA hli
                    go_simp
                    exact hF
                  case false =>
                    simp only [cond_true, cond_false] at hv
                    have hr := hq
                    have g3 := slot_out hA 3 _ (by decide) (by decide) rfl
                    simp only [List.getD_cons_succ, List.getD_cons_zero] at g3
                    have gg3 := slot_get g3
                    rw [if_pos (by rfl)]
                    have hF := hK (.slice (some ⟨g, 0, none⟩) n c) w' ⟨hv.step 4 49 _ (by simp), hq.step 4 49 _ (Below.refl _ _) (by simp)⟩
                    clear hv hq hr ha hK hA hli
                    go_simp
                    exact hF
                · clear hi; intro o ho lz fz w' A hJ hli ha hA K hK
                  obtain ⟨hv, hq⟩ := hJ
                  obtain rfl := Option.some.inj ho
                  clear ho
                  cases u
                  case true =>
                    simp only [cond_true, cond_false] at hv
                    have hr := hq
                    have g5 := slot_out hA 5 _ (by decide) (by decide) rfl
                    simp only [List.getD_cons_succ, List.getD_cons_zero] at g5
                    have gg5 := slot_get g5
                    rw [if_pos (by rfl)]
                    have hF := hK (.int .i64 (k : Int)) w' ⟨hv.step 5 50 _ (by simp), hq.step 5 50 _ (Below.refl _ _) (by simp)⟩
                    clear hv hq hr ha hK hA hli
                    go_simp
                    exact hF
                  case false =>
                    simp only [cond_true, cond_false] at hv
                    have hr := hq
                    have g5 := slot_out hA 5 _ (by decide) (by decide) rfl
                    simp only [List.getD_cons_succ, List.getD_cons_zero] at g5
                    have gg5 := slot_get g5
                    rw [if_pos (by rfl)]
                    have hF := hK (.int .i64 (k : Int)) w' ⟨hv.step 5 50 _ (by simp), hq.step 5 50 _ (Below.refl _ _) (by simp)⟩
                    clear hv hq hr ha hK hA hli
                    go_simp
                    exact hF
                · clear hi; intro o ho lz fz w' A hJ hli ha hA K hK
                  obtain ⟨hv, hq⟩ := hJ
                  obtain rfl := Option.some.inj ho
                  clear ho
                  cases u
                  case true =>
                    simp only [cond_true, cond_false] at hv
                    have hr := hq
                    have g49 := slot_in hA 49 (by decide) (by decide) (hv (4, 49, (.slice (some ⟨g, 0, none⟩) n c)) (by simp) (ha 4 (by simp [aftersOf, Region.binds])))
                    have g50 := slot_in hA 50 (by decide) (by decide) (hv (5, 50, (.int .i64 (k : Int))) (by simp) (ha 5 (by simp [aftersOf, Region.binds])))
                    have gg49 := slot_get g49
                    have gg50 := slot_get g50
                    rw [if_pos (by rfl)]
                    have hF := hK (.pointer (some ⟨g, k * 4, none⟩)) w' ⟨hv.step 6 51 _ (by simp), hq.step 6 51 _ (Below.refl _ _) (by simp)⟩
                    clear hv hq hr ha hK hA hli
                    go_simp
                    exact hF
                  case false =>
                    simp only [cond_true, cond_false] at hv
                    have hr := hq
                    have g49 := slot_in hA 49 (by decide) (by decide) (hv (4, 49, (.slice (some ⟨g, 0, none⟩) n c)) (by simp) (ha 4 (by simp [aftersOf, Region.binds])))
                    have g50 := slot_in hA 50 (by decide) (by decide) (hv (5, 50, (.int .i64 (k : Int))) (by simp) (ha 5 (by simp [aftersOf, Region.binds])))
                    have gg49 := slot_get g49
                    have gg50 := slot_get g50
                    rw [if_pos (by rfl)]
                    have hF := hK (.pointer (some ⟨g, k * 4, none⟩)) w' ⟨hv.step 6 51 _ (by simp), hq.step 6 51 _ (Below.refl _ _) (by simp)⟩
                    clear hv hq hr ha hK hA hli
                    go_simp
                    exact hF
                · clear hi; intro o ho lz fz w' A hJ hli ha hA K hK
                  obtain ⟨hv, hq⟩ := hJ
                  obtain rfl := Option.some.inj ho
                  clear ho
                  cases u
                  case true =>
                    simp only [cond_true, cond_false] at hv
                    have hr := hq
                    have g51 := slot_in hA 51 (by decide) (by decide) (hv (6, 51, (.pointer (some ⟨g, k * 4, none⟩))) (by simp) (ha 6 (by simp [aftersOf, Region.binds])))
                    have gg51 := slot_get g51
                    rw [if_pos (by rfl)]
                    have k0 := (hr.1.cell (p := ⟨g, k * 4, none⟩) hbA).trans B0
                    have k1 := (hr.1.cell (p := ⟨g, k * 4 + 1, none⟩) hbA).trans B1
                    have k2 := (hr.1.cell (p := ⟨g, k * 4 + 2, none⟩) hbA).trans B2
                    have k3 := (hr.1.cell (p := ⟨g, k * 4 + 3, none⟩) hbA).trans B3
                    have hF := hK (.agg #[.int .i64 p2, .int .i64 q2, .int .i64 r2, .int .i64 t2]) w' ⟨hv.step 7 52 _ (by simp), hq.step 7 52 _ (Below.refl _ _) (by simp)⟩
                    clear hv hq hr ha hK hA hli
                    go_simp
                    exact hF
                  case false =>
                    simp only [cond_true, cond_false] at hv
                    have hr := hq
                    have g51 := slot_in hA 51 (by decide) (by decide) (hv (6, 51, (.pointer (some ⟨g, k * 4, none⟩))) (by simp) (ha 6 (by simp [aftersOf, Region.binds])))
                    have gg51 := slot_get g51
                    rw [if_pos (by rfl)]
                    have k0 := (hr.1.cell (p := ⟨g, k * 4, none⟩) hbA).trans B0
                    have k1 := (hr.1.cell (p := ⟨g, k * 4 + 1, none⟩) hbA).trans B1
                    have k2 := (hr.1.cell (p := ⟨g, k * 4 + 2, none⟩) hbA).trans B2
                    have k3 := (hr.1.cell (p := ⟨g, k * 4 + 3, none⟩) hbA).trans B3
                    have hF := hK (.agg #[.int .i64 p2, .int .i64 q2, .int .i64 r2, .int .i64 t2]) w' ⟨hv.step 7 52 _ (by simp), hq.step 7 52 _ (Below.refl _ _) (by simp)⟩
                    clear hv hq hr ha hK hA hli
                    go_simp
                    exact hF
                · clear hi; intro o ho lz fz w' A hJ hli ha hA K hK
                  obtain ⟨hv, hq⟩ := hJ
                  obtain rfl := Option.some.inj ho
                  clear ho
                  cases u
                  case true =>
                    simp only [cond_true, cond_false] at hv
                    have hr := hq
                    have g48 := slot_in hA 48 (by decide) (by decide) (hv (3, 48, (.agg #[.int .i64 p, .int .i64 q, .int .i64 r, .int .i64 t])) (by simp) (ha 3 (by simp [aftersOf, Region.binds])))
                    have g52 := slot_in hA 52 (by decide) (by decide) (hv (7, 52, (.agg #[.int .i64 p2, .int .i64 q2, .int .i64 r2, .int .i64 t2])) (by simp) (ha 7 (by simp [aftersOf, Region.binds])))
                    have gg48 := slot_get g48
                    have gg52 := slot_get g52
                    rw [if_pos (by rfl)]
                    clear hA
                    go_simp
                    refine (conflict_impl p q r t p2 q2 r2 t2 _).mono ?_
                    rintro e w9 ⟨rfl, hb9⟩
                    rw [HU.out]
                    exact hK (.bool true) w9 ⟨hv.step 8 53 _ (by simp), hq.step 8 53 _ hb9 (by simp)⟩
                  case false =>
                    simp only [cond_true, cond_false] at hv
                    have hr := hq
                    have g48 := slot_in hA 48 (by decide) (by decide) (hv (3, 48, (.agg #[.int .i64 p, .int .i64 q, .int .i64 r, .int .i64 t])) (by simp) (ha 3 (by simp [aftersOf, Region.binds])))
                    have g52 := slot_in hA 52 (by decide) (by decide) (hv (7, 52, (.agg #[.int .i64 p2, .int .i64 q2, .int .i64 r2, .int .i64 t2])) (by simp) (ha 7 (by simp [aftersOf, Region.binds])))
                    have gg48 := slot_get g48
                    have gg52 := slot_get g52
                    rw [if_pos (by rfl)]
                    clear hA
                    go_simp
                    refine (conflict_impl p q r t p2 q2 r2 t2 _).mono ?_
                    rintro e w9 ⟨rfl, hb9⟩
                    rw [HU.out]
                    exact hK (.bool false) w9 ⟨hv.step 8 53 _ (by simp), hq.step 8 53 _ hb9 (by simp)⟩
                · clear hi; intro o ho lz fz w' A hJ hli ha hA K hK
                  obtain ⟨hv, hq⟩ := hJ
                  obtain rfl := Option.some.inj ho
                  clear ho
                  cases u
                  case true =>
                    simp only [cond_true, cond_false] at hv
                    have hr := hq
                    have g53 := slot_in hA 53 (by decide) (by decide) (hv (8, 53, (.bool true)) (by simp) (ha 8 (by simp [aftersOf, Region.binds])))
                    have gg53 := slot_get g53
                    rw [if_pos (by rfl)]
                    have hF := hK (.bool true) w' ⟨hv.step 9 54 _ (by simp), hq.step 9 54 _ (Below.refl _ _) (by simp)⟩
                    clear hv hq hr ha hK hA hli
                    go_simp
                    exact hF
                  case false =>
                    simp only [cond_true, cond_false] at hv
                    have hr := hq
                    have g53 := slot_in hA 53 (by decide) (by decide) (hv (8, 53, (.bool false)) (by simp) (ha 8 (by simp [aftersOf, Region.binds])))
                    have gg53 := slot_get g53
                    rw [if_pos (by rfl)]
                    have hF := hK (.bool false) w' ⟨hv.step 9 54 _ (by simp), hq.step 9 54 _ (Below.refl _ _) (by simp)⟩
                    clear hv hq hr ha hK hA hli
                    go_simp
                    exact hF
                · clear hi; intro o ho lz fz w' A hJ hli ha hA K hK
                  obtain ⟨hv, hq⟩ := hJ
                  obtain rfl := Option.some.inj ho
                  clear ho
                  cases u
                  case true =>
                    simp only [cond_true, cond_false] at hv
                    have hr := hq
                    have g4 := slot_out hA 4 _ (by decide) (by decide) rfl
                    simp only [List.getD_cons_succ, List.getD_cons_zero] at g4
                    have g54 := slot_in hA 54 (by decide) (by decide) (hv (9, 54, (.bool true)) (by simp) (ha 9 (by simp [aftersOf, Region.binds])))
                    have gg4 := slot_get g4
                    have gg54 := slot_get g54
                    have gw := slot_bool g54
                    rw [if_pos (by simp [Region.wanted, yielded, gw])]
                    clear gw
                    have hF := hK (.slice (some ⟨b, o, none⟩) n cX) w' ⟨hv.step 10 55 _ (by simp), hq.step 10 55 _ (Below.refl _ _) (by simp)⟩
                    clear hv hq hr ha hK hA hli
                    go_simp
                    exact hF
                  case false =>
                    simp only [cond_true, cond_false] at hv
                    have hr := hq
                    have g54 := slot_in hA 54 (by decide) (by decide) (hv (9, 54, (.bool false)) (by simp) (ha 9 (by simp [aftersOf, Region.binds])))
                    have gg54 := slot_get g54
                    have gw := slot_bool g54
                    rw [if_neg (by simp [Region.wanted, yielded, gw])]
                    clear gw
                    exact hK undef w' ⟨hv.step 10 55 _ (by simp), hq.step 10 55 _ (Below.refl _ _) (by simp)⟩
                · clear hi; intro o ho lz fz w' A hJ hli ha hA K hK
                  obtain ⟨hv, hq⟩ := hJ
                  obtain rfl := Option.some.inj ho
                  clear ho
                  cases u
                  case true =>
                    simp only [cond_true, cond_false] at hv
                    have hr := hq
                    have g7 := slot_out hA 7 _ (by decide) (by decide) rfl
                    simp only [List.getD_cons_succ, List.getD_cons_zero] at g7
                    have g54 := slot_in hA 54 (by decide) (by decide) (hv (9, 54, (.bool true)) (by simp) (ha 9 (by simp [aftersOf, Region.binds])))
                    have gg7 := slot_get g7
                    have gg54 := slot_get g54
                    have gw := slot_bool g54
                    rw [if_pos (by simp [Region.wanted, yielded, gw])]
                    clear gw
                    have hF := hK (.int .i64 (j : Int)) w' ⟨hv.step 11 56 _ (by simp), hq.step 11 56 _ (Below.refl _ _) (by simp)⟩
                    clear hv hq hr ha hK hA hli
                    go_simp
                    exact hF
                  case false =>
                    simp only [cond_true, cond_false] at hv
                    have hr := hq
                    have g54 := slot_in hA 54 (by decide) (by decide) (hv (9, 54, (.bool false)) (by simp) (ha 9 (by simp [aftersOf, Region.binds])))
                    have gg54 := slot_get g54
                    have gw := slot_bool g54
                    rw [if_neg (by simp [Region.wanted, yielded, gw])]
                    clear gw
                    exact hK undef w' ⟨hv.step 11 56 _ (by simp), hq.step 11 56 _ (Below.refl _ _) (by simp)⟩
                · clear hi; intro o ho lz fz w' A hJ hli ha hA K hK
                  obtain ⟨hv, hq⟩ := hJ
                  obtain rfl := Option.some.inj ho
                  clear ho
                  cases u
                  case true =>
                    simp only [cond_true, cond_false] at hv
                    have hr := hq
                    have g55 := slot_in hA 55 (by decide) (by decide) (hv (10, 55, (.slice (some ⟨b, o, none⟩) n cX)) (by simp) (ha 10 (by simp [aftersOf, Region.binds])))
                    have g56 := slot_in hA 56 (by decide) (by decide) (hv (11, 56, (.int .i64 (j : Int))) (by simp) (ha 11 (by simp [aftersOf, Region.binds])))
                    have g54 := slot_in hA 54 (by decide) (by decide) (hv (9, 54, (.bool true)) (by simp) (ha 9 (by simp [aftersOf, Region.binds])))
                    have gg55 := slot_get g55
                    have gg56 := slot_get g56
                    have gg54 := slot_get g54
                    have gw := slot_bool g54
                    rw [if_pos (by simp [Region.wanted, yielded, gw])]
                    clear gw
                    have hF := hK (.pointer (some ⟨b, o + j, none⟩)) w' ⟨hv.step 12 57 _ (by simp), hq.step 12 57 _ (Below.refl _ _) (by simp)⟩
                    clear hv hq hr ha hK hA hli
                    go_simp
                    exact hF
                  case false =>
                    simp only [cond_true, cond_false] at hv
                    have hr := hq
                    have g54 := slot_in hA 54 (by decide) (by decide) (hv (9, 54, (.bool false)) (by simp) (ha 9 (by simp [aftersOf, Region.binds])))
                    have gg54 := slot_get g54
                    have gw := slot_bool g54
                    rw [if_neg (by simp [Region.wanted, yielded, gw])]
                    clear gw
                    exact hK undef w' ⟨hv.step 12 57 _ (by simp), hq.step 12 57 _ (Below.refl _ _) (by simp)⟩
                · clear hi; intro o ho lz fz w' A hJ hli ha hA K hK
                  obtain ⟨hv, hq⟩ := hJ
                  obtain rfl := Option.some.inj ho
                  clear ho
                  cases u
                  case true =>
                    simp only [cond_true, cond_false] at hv
                    have hr := hq
                    have g57 := slot_in hA 57 (by decide) (by decide) (hv (12, 57, (.pointer (some ⟨b, o + j, none⟩))) (by simp) (ha 12 (by simp [aftersOf, Region.binds])))
                    have g54 := slot_in hA 54 (by decide) (by decide) (hv (9, 54, (.bool true)) (by simp) (ha 9 (by simp [aftersOf, Region.binds])))
                    have gg57 := slot_get g57
                    have gg54 := slot_get g54
                    have gw := slot_bool g54
                    rw [if_pos (by simp [Region.wanted, yielded, gw])]
                    clear gw
                    have kc := (hr.1.cell (p := ⟨b, o + j, none⟩) hbX).trans c1
                    have hF := hK (.int .i64 vj) w' ⟨hv.step 13 58 _ (by simp), hq.step 13 58 _ (Below.refl _ _) (by simp)⟩
                    clear hv hq hr ha hK hA hli
                    go_simp
                    exact hF
                  case false =>
                    simp only [cond_true, cond_false] at hv
                    have hr := hq
                    have g54 := slot_in hA 54 (by decide) (by decide) (hv (9, 54, (.bool false)) (by simp) (ha 9 (by simp [aftersOf, Region.binds])))
                    have gg54 := slot_get g54
                    have gw := slot_bool g54
                    rw [if_neg (by simp [Region.wanted, yielded, gw])]
                    clear gw
                    exact hK undef w' ⟨hv.step 13 58 _ (by simp), hq.step 13 58 _ (Below.refl _ _) (by simp)⟩
                · clear hi; intro o ho lz fz w' A hJ hli ha hA K hK
                  obtain ⟨hv, hq⟩ := hJ
                  obtain rfl := Option.some.inj ho
                  clear ho
                  cases u
                  case true =>
                    simp only [cond_true, cond_false] at hv
                    have hr := hq
                    have g4 := slot_out hA 4 _ (by decide) (by decide) rfl
                    simp only [List.getD_cons_succ, List.getD_cons_zero] at g4
                    have g54 := slot_in hA 54 (by decide) (by decide) (hv (9, 54, (.bool true)) (by simp) (ha 9 (by simp [aftersOf, Region.binds])))
                    have gg4 := slot_get g4
                    have gg54 := slot_get g54
                    have gw := slot_bool g54
                    rw [if_pos (by simp [Region.wanted, yielded, gw])]
                    clear gw
                    have hF := hK (.slice (some ⟨b, o, none⟩) n cX) w' ⟨hv.step 14 59 _ (by simp), hq.step 14 59 _ (Below.refl _ _) (by simp)⟩
                    clear hv hq hr ha hK hA hli
                    go_simp
                    exact hF
                  case false =>
                    simp only [cond_true, cond_false] at hv
                    have hr := hq
                    have g54 := slot_in hA 54 (by decide) (by decide) (hv (9, 54, (.bool false)) (by simp) (ha 9 (by simp [aftersOf, Region.binds])))
                    have gg54 := slot_get g54
                    have gw := slot_bool g54
                    rw [if_neg (by simp [Region.wanted, yielded, gw])]
                    clear gw
                    exact hK undef w' ⟨hv.step 14 59 _ (by simp), hq.step 14 59 _ (Below.refl _ _) (by simp)⟩
                · clear hi; intro o ho lz fz w' A hJ hli ha hA K hK
                  obtain ⟨hv, hq⟩ := hJ
                  obtain rfl := Option.some.inj ho
                  clear ho
                  cases u
                  case true =>
                    simp only [cond_true, cond_false] at hv
                    have hr := hq
                    have g5 := slot_out hA 5 _ (by decide) (by decide) rfl
                    simp only [List.getD_cons_succ, List.getD_cons_zero] at g5
                    have g54 := slot_in hA 54 (by decide) (by decide) (hv (9, 54, (.bool true)) (by simp) (ha 9 (by simp [aftersOf, Region.binds])))
                    have gg5 := slot_get g5
                    have gg54 := slot_get g54
                    have gw := slot_bool g54
                    rw [if_pos (by simp [Region.wanted, yielded, gw])]
                    clear gw
                    have hF := hK (.int .i64 (k : Int)) w' ⟨hv.step 15 60 _ (by simp), hq.step 15 60 _ (Below.refl _ _) (by simp)⟩
                    clear hv hq hr ha hK hA hli
                    go_simp
                    exact hF
                  case false =>
                    simp only [cond_true, cond_false] at hv
                    have hr := hq
                    have g54 := slot_in hA 54 (by decide) (by decide) (hv (9, 54, (.bool false)) (by simp) (ha 9 (by simp [aftersOf, Region.binds])))
                    have gg54 := slot_get g54
                    have gw := slot_bool g54
                    rw [if_neg (by simp [Region.wanted, yielded, gw])]
                    clear gw
                    exact hK undef w' ⟨hv.step 15 60 _ (by simp), hq.step 15 60 _ (Below.refl _ _) (by simp)⟩
                · clear hi; intro o ho lz fz w' A hJ hli ha hA K hK
                  obtain ⟨hv, hq⟩ := hJ
                  obtain rfl := Option.some.inj ho
                  clear ho
                  cases u
                  case true =>
                    simp only [cond_true, cond_false] at hv
                    have hr := hq
                    have g59 := slot_in hA 59 (by decide) (by decide) (hv (14, 59, (.slice (some ⟨b, o, none⟩) n cX)) (by simp) (ha 14 (by simp [aftersOf, Region.binds])))
                    have g60 := slot_in hA 60 (by decide) (by decide) (hv (15, 60, (.int .i64 (k : Int))) (by simp) (ha 15 (by simp [aftersOf, Region.binds])))
                    have g54 := slot_in hA 54 (by decide) (by decide) (hv (9, 54, (.bool true)) (by simp) (ha 9 (by simp [aftersOf, Region.binds])))
                    have gg59 := slot_get g59
                    have gg60 := slot_get g60
                    have gg54 := slot_get g54
                    have gw := slot_bool g54
                    rw [if_pos (by simp [Region.wanted, yielded, gw])]
                    clear gw
                    have hF := hK (.pointer (some ⟨b, o + k, none⟩)) w' ⟨hv.step 16 61 _ (by simp), hq.step 16 61 _ (Below.refl _ _) (by simp)⟩
                    clear hv hq hr ha hK hA hli
                    go_simp
                    exact hF
                  case false =>
                    simp only [cond_true, cond_false] at hv
                    have hr := hq
                    have g54 := slot_in hA 54 (by decide) (by decide) (hv (9, 54, (.bool false)) (by simp) (ha 9 (by simp [aftersOf, Region.binds])))
                    have gg54 := slot_get g54
                    have gw := slot_bool g54
                    rw [if_neg (by simp [Region.wanted, yielded, gw])]
                    clear gw
                    exact hK undef w' ⟨hv.step 16 61 _ (by simp), hq.step 16 61 _ (Below.refl _ _) (by simp)⟩
                · clear hi; intro o ho lz fz w' A hJ hli ha hA K hK
                  obtain ⟨hv, hq⟩ := hJ
                  obtain rfl := Option.some.inj ho
                  clear ho
                  cases u
                  case true =>
                    simp only [cond_true, cond_false] at hv
                    have hr := hq
                    have g61 := slot_in hA 61 (by decide) (by decide) (hv (16, 61, (.pointer (some ⟨b, o + k, none⟩))) (by simp) (ha 16 (by simp [aftersOf, Region.binds])))
                    have g54 := slot_in hA 54 (by decide) (by decide) (hv (9, 54, (.bool true)) (by simp) (ha 9 (by simp [aftersOf, Region.binds])))
                    have gg61 := slot_get g61
                    have gg54 := slot_get g54
                    have gw := slot_bool g54
                    rw [if_pos (by simp [Region.wanted, yielded, gw])]
                    clear gw
                    have kc := (hr.1.cell (p := ⟨b, o + k, none⟩) hbX).trans c0
                    have hF := hK (.int .i64 vk) w' ⟨hv.step 17 62 _ (by simp), hq.step 17 62 _ (Below.refl _ _) (by simp)⟩
                    clear hv hq hr ha hK hA hli
                    go_simp
                    exact hF
                  case false =>
                    simp only [cond_true, cond_false] at hv
                    have hr := hq
                    have g54 := slot_in hA 54 (by decide) (by decide) (hv (9, 54, (.bool false)) (by simp) (ha 9 (by simp [aftersOf, Region.binds])))
                    have gg54 := slot_get g54
                    have gw := slot_bool g54
                    rw [if_neg (by simp [Region.wanted, yielded, gw])]
                    clear gw
                    exact hK undef w' ⟨hv.step 17 62 _ (by simp), hq.step 17 62 _ (Below.refl _ _) (by simp)⟩
                · clear hi; intro o ho lz fz w' A hJ hli ha hA K hK
                  obtain ⟨hv, hq⟩ := hJ
                  obtain rfl := Option.some.inj ho
                  clear ho
                  cases u
                  case true =>
                    simp only [cond_true, cond_false] at hv
                    have hr := hq
                    have g58 := slot_in hA 58 (by decide) (by decide) (hv (13, 58, (.int .i64 vj)) (by simp) (ha 13 (by simp [aftersOf, Region.binds])))
                    have g62 := slot_in hA 62 (by decide) (by decide) (hv (17, 62, (.int .i64 vk)) (by simp) (ha 17 (by simp [aftersOf, Region.binds])))
                    have g54 := slot_in hA 54 (by decide) (by decide) (hv (9, 54, (.bool true)) (by simp) (ha 9 (by simp [aftersOf, Region.binds])))
                    have gg58 := slot_get g58
                    have gg62 := slot_get g62
                    have gg54 := slot_get g54
                    have gw := slot_bool g54
                    rw [if_pos (by simp [Region.wanted, yielded, gw])]
                    clear gw
                    have hge := HGE.out rfl
                    have hF := hK (.bool false) w' ⟨hv.step 18 63 _ (by simp), hq.step 18 63 _ (Below.refl _ _) (by simp)⟩
                    clear hv hq hr ha hK hA hli
                    go_simp
                    exact hF
                  case false =>
                    simp only [cond_true, cond_false] at hv
                    have hr := hq
                    have g54 := slot_in hA 54 (by decide) (by decide) (hv (9, 54, (.bool false)) (by simp) (ha 9 (by simp [aftersOf, Region.binds])))
                    have gg54 := slot_get g54
                    have gw := slot_bool g54
                    rw [if_neg (by simp [Region.wanted, yielded, gw])]
                    clear gw
                    exact hK undef w' ⟨hv.step 18 63 _ (by simp), hq.step 18 63 _ (Below.refl _ _) (by simp)⟩
                · clear hi; intro o ho lz fz w' A hJ hli ha hA K hK
                  obtain ⟨hv, hq⟩ := hJ
                  obtain rfl := Option.some.inj ho
                  clear ho
                  cases u
                  case true =>
                    simp only [cond_true, cond_false] at hv
                    have hr := hq
                    have g54 := slot_in hA 54 (by decide) (by decide) (hv (9, 54, (.bool true)) (by simp) (ha 9 (by simp [aftersOf, Region.binds])))
                    have g63 := slot_in hA 63 (by decide) (by decide) (hv (18, 63, (.bool false)) (by simp) (ha 18 (by simp [aftersOf, Region.binds])))
                    have gg54 := slot_get g54
                    have gg63 := slot_get g63
                    rw [if_pos (by rfl)]
                    have hF := hK (.bool false) w' ⟨hv.step 19 64 _ (by simp), hq.step 19 64 _ (Below.refl _ _) (by simp)⟩
                    clear hv hq hr ha hK hA hli
                    go_simp
                    exact hF
                  case false =>
                    simp only [cond_true, cond_false] at hv
                    have hr := hq
                    have g54 := slot_in hA 54 (by decide) (by decide) (hv (9, 54, (.bool false)) (by simp) (ha 9 (by simp [aftersOf, Region.binds])))
                    have gg54 := slot_get g54
                    rw [if_pos (by rfl)]
                    have hF := hK (.bool false) w' ⟨hv.step 19 64 _ (by simp), hq.step 19 64 _ (Below.refl _ _) (by simp)⟩
                    clear hv hq hr ha hK hA hli
                    go_simp
                    exact hF
              · intro lz fz w6 hall hJ
                obtain ⟨hv, hq⟩ := hJ
                have hbR := hq.1
                have h64 : fz 64 = .bool false := by
                  clear hq hbR
                  cases u
                  case true =>
                    exact hv (19, 64, (.bool false)) (by simp) (hall 19 (by decide))
                  case false =>
                    exact hv (19, 64, (.bool false)) (by simp) (hall 19 (by decide))
                clear hv hq hall
                simp only [mixF, List.contains_cons, List.contains_nil]
                go_simp
              -- END REGION 16
                have HB2 := Lib.hid (HB1.out.trans (hbR.mono HB1.out.size))
                have HBR := Lib.hid hbR
                clear hbR
                go_wp2
                have c0' := (HBR.out.cell (p := ⟨b, o + k, none⟩) hbX).trans c0
                have c1' := (HBR.out.cell (p := ⟨b, o + j, none⟩) hbX).trans c1
                have A0' := (HBR.out.cell (p := ⟨g, j * 4, none⟩) hbA).trans A0
                have A1' := (HBR.out.cell (p := ⟨g, j * 4 + 1, none⟩) hbA).trans A1
                have A2' := (HBR.out.cell (p := ⟨g, j * 4 + 2, none⟩) hbA).trans A2
                have A3' := (HBR.out.cell (p := ⟨g, j * 4 + 3, none⟩) hbA).trans A3
                have B0' := (HBR.out.cell (p := ⟨g, k * 4, none⟩) hbA).trans B0
                have B1' := (HBR.out.cell (p := ⟨g, k * 4 + 1, none⟩) hbA).trans B1
                have B2' := (HBR.out.cell (p := ⟨g, k * 4 + 2, none⟩) hbA).trans B2
                have B3' := (HBR.out.cell (p := ⟨g, k * 4 + 3, none⟩) hbA).trans B3
                have hbX' : b < w6.heap.size := World.block_lt_of_cell? w6 ⟨b, o + k, none⟩ c0'
                have hbA' : g < w6.heap.size := World.block_lt_of_cell? w6 ⟨g, j * 4, none⟩ A0'
                clear c0 c1 A0 A1 A2 A3 B0 B1 B2 B3 hbX hbA HBR
                -- REGION 18
                refine wp_region_lightI (by kernel_rfl) (fun lz fz wz => Vals (bif f then [(0, 65, (.bool true)), (1, 66, (.bool true)), (12, 77, undef), (23, 88, (.bool true)), (24, 6, (.bool true))] else (bif d then [(0, 65, (.bool false)), (1, 66, (.bool false)), (2, 67, (.slice (some ⟨b, o, none⟩) n cX)), (3, 68, (.int .i64 (j : Int))), (4, 69, (.pointer (some ⟨b, o + j, none⟩))), (5, 70, (.int .i64 vj)), (6, 71, (.slice (some ⟨b, o, none⟩) n cX)), (7, 72, (.int .i64 (k : Int))), (8, 73, (.pointer (some ⟨b, o + k, none⟩))), (9, 74, (.int .i64 vk)), (10, 75, (.int .i64 (vk - 1))), (11, 76, (.bool true)), (12, 77, (.bool true)), (13, 78, (.slice (some ⟨g, 0, none⟩) n c)), (14, 79, (.int .i64 (j : Int))), (15, 80, (.pointer (some ⟨g, j * 4, none⟩))), (16, 81, (.agg #[.int .i64 p, .int .i64 q, .int .i64 r, .int .i64 t])), (17, 82, (.slice (some ⟨g, 0, none⟩) n c)), (18, 83, (.int .i64 (k : Int))), (19, 84, (.pointer (some ⟨g, k * 4, none⟩))), (20, 85, (.agg #[.int .i64 p2, .int .i64 q2, .int .i64 r2, .int .i64 t2])), (21, 86, (.bool u)), (22, 87, (.bool u)), (23, 88, (.bool u)), (24, 6, (.bool u))] else [(0, 65, (.bool false)), (1, 66, (.bool false)), (2, 67, (.slice (some ⟨b, o, none⟩) n cX)), (3, 68, (.int .i64 (j : Int))), (4, 69, (.pointer (some ⟨b, o + j, none⟩))), (5, 70, (.int .i64 vj)), (6, 71, (.slice (some ⟨b, o, none⟩) n cX)), (7, 72, (.int .i64 (k : Int))), (8, 73, (.pointer (some ⟨b, o + k, none⟩))), (9, 74, (.int .i64 vk)), (10, 75, (.int .i64 (vk - 1))), (11, 76, (.bool false)), (12, 77, (.bool false)), (22, 87, (.bool false)), (23, 88, (.bool false)), (24, 6, (.bool false))])) lz fz ∧ Facts w6 [] lz fz wz ∧ Olds [(24, 6, (.bool f))] lz fz ∧ LastW 24 lz) 96 rfl [65, 66, 67, 68, 69, 70, 71, 72, 73, 74, 75, 76, 77, 78, 79, 80, 81, 82, 83, 84, 85, 86, 87, 88, 6] (by kernel_rfl) (by kernel_rfl) (by kernel_rfl) (fun f hf => ⟨Vals.nothing _ f, Facts.nothing _ _ f, (fun t ht _ => by simp only [List.mem_cons, List.not_mem_nil, or_false] at ht; subst ht; exact hf _), LastW.nothing _⟩) ?_ ?_
                · intro i hi
                  rcases (by have : i < 25 := hi; omega : i = 0 ∨ i = 1 ∨ i = 2 ∨ i = 3 ∨ i = 4 ∨ i = 5 ∨ i = 6 ∨ i = 7 ∨ i = 8 ∨ i = 9 ∨ i = 10 ∨ i = 11 ∨ i = 12 ∨ i = 13 ∨ i = 14 ∨ i = 15 ∨ i = 16 ∨ i = 17 ∨ i = 18 ∨ i = 19 ∨ i = 20 ∨ i = 21 ∨ i = 22 ∨ i = 23 ∨ i = 24) with rfl | rfl | rfl | rfl | rfl | rfl | rfl | rfl | rfl | rfl | rfl | rfl | rfl | rfl | rfl | rfl | rfl | rfl | rfl | rfl | rfl | rfl | rfl | rfl | rfl
                  · clear hi; intro o ho lz fz w' A hJ hli ha hA K hK
                    obtain ⟨hv, hq, hol, hlw⟩ := hJ
                    obtain rfl := Option.some.inj ho
                    clear ho
                    cases f
                    case true =>
                      simp only [cond_true, cond_false] at hv
                      have hr := hq
                      have g6 := slot_in hA 6 (by decide) (by decide) (hol (24, 6, (.bool true)) (by simp) (hlw.not (i := 0) (by omega) hli))
                      have gg6 := slot_get g6
                      rw [if_pos (by rfl)]
                      have hF := hK (.bool true) w' ⟨hv.step 0 65 _ (by simp), hq.step 0 65 _ (Below.refl _ _) (by simp), hol.step 0 65 _ (by simp), hlw.step 0 (by omega)⟩
                      clear hv hq hr ha hK hA hli hol hlw
                      go_simp
                      exact hF
                    case false =>
                      cases d
                      case true =>
                        simp only [cond_true, cond_false] at hv
                        have hr := hq
                        have g6 := slot_in hA 6 (by decide) (by decide) (hol (24, 6, (.bool false)) (by simp) (hlw.not (i := 0) (by omega) hli))
                        have gg6 := slot_get g6
                        rw [if_pos (by rfl)]
                        have hF := hK (.bool false) w' ⟨hv.step 0 65 _ (by simp), hq.step 0 65 _ (Below.refl _ _) (by simp), hol.step 0 65 _ (by simp), hlw.step 0 (by omega)⟩
                        clear hv hq hr ha hK hA hli hol hlw
                        go_simp
                        exact hF
                      case false =>
                        simp only [cond_true, cond_false] at hv
                        have hr := hq
                        have g6 := slot_in hA 6 (by decide) (by decide) (hol (24, 6, (.bool false)) (by simp) (hlw.not (i := 0) (by omega) hli))
                        have gg6 := slot_get g6
                        rw [if_pos (by rfl)]
                        have hF := hK (.bool false) w' ⟨hv.step 0 65 _ (by simp), hq.step 0 65 _ (Below.refl _ _) (by simp), hol.step 0 65 _ (by simp), hlw.step 0 (by omega)⟩
                        clear hv hq hr ha hK hA hli hol hlw
                        go_simp
                        exact hF
                  · clear hi; intro o ho lz fz w' A hJ hli ha hA K hK
                    obtain ⟨hv, hq, hol, hlw⟩ := hJ
                    obtain rfl := Option.some.inj ho
                    clear ho
                    cases f
                    case true =>
                      simp only [cond_true, cond_false] at hv
                      have hr := hq
                      have g65 := slot_in hA 65 (by decide) (by decide) (hv (0, 65, (.bool true)) (by simp) (ha 0 (by simp [aftersOf, Region.binds])))
                      have gg65 := slot_get g65
                      rw [if_pos (by rfl)]
                      have hF := hK (.bool true) w' ⟨hv.step 1 66 _ (by simp), hq.step 1 66 _ (Below.refl _ _) (by simp), hol.step 1 66 _ (by simp), hlw.step 1 (by omega)⟩
                      clear hv hq hr ha hK hA hli hol hlw
                      go_simp
                      exact hF
                    case false =>
                      cases d
                      case true =>
                        simp only [cond_true, cond_false] at hv
                        have hr := hq
                        have g65 := slot_in hA 65 (by decide) (by decide) (hv (0, 65, (.bool false)) (by simp) (ha 0 (by simp [aftersOf, Region.binds])))
                        have gg65 := slot_get g65
                        rw [if_pos (by rfl)]
                        have hF := hK (.bool false) w' ⟨hv.step 1 66 _ (by simp), hq.step 1 66 _ (Below.refl _ _) (by simp), hol.step 1 66 _ (by simp), hlw.step 1 (by omega)⟩
                        clear hv hq hr ha hK hA hli hol hlw
                        go_simp
                        exact hF
                      case false =>
                        simp only [cond_true, cond_false] at hv
                        have hr := hq
                        have g65 := slot_in hA 65 (by decide) (by decide) (hv (0, 65, (.bool false)) (by simp) (ha 0 (by simp [aftersOf, Region.binds])))
                        have gg65 := slot_get g65
                        rw [if_pos (by rfl)]
                        have hF := hK (.bool false) w' ⟨hv.step 1 66 _ (by simp), hq.step 1 66 _ (Below.refl _ _) (by simp), hol.step 1 66 _ (by simp), hlw.step 1 (by omega)⟩
                        clear hv hq hr ha hK hA hli hol hlw
                        go_simp
                        exact hF
                  · clear hi; intro o ho lz fz w' A hJ hli ha hA K hK
                    obtain ⟨hv, hq, hol, hlw⟩ := hJ
                    obtain rfl := Option.some.inj ho
                    clear ho
                    cases f
                    case true =>
                      simp only [cond_true, cond_false] at hv
                      have hr := hq
                      have g66 := slot_in hA 66 (by decide) (by decide) (hv (1, 66, (.bool true)) (by simp) (ha 1 (by simp [aftersOf, Region.binds])))
                      have gg66 := slot_get g66
                      have gw := slot_bool g66
                      rw [if_neg (by simp [Region.wanted, yielded, gw])]
                      clear gw
                      exact hK undef w' ⟨hv.step 2 67 _ (by simp), hq.step 2 67 _ (Below.refl _ _) (by simp), hol.step 2 67 _ (by simp), hlw.step 2 (by omega)⟩
                    case false =>
                      cases d
                      case true =>
                        simp only [cond_true, cond_false] at hv
                        have hr := hq
                        have g4 := slot_out hA 4 _ (by decide) (by decide) rfl
                        simp only [List.getD_cons_succ, List.getD_cons_zero] at g4
                        have g66 := slot_in hA 66 (by decide) (by decide) (hv (1, 66, (.bool false)) (by simp) (ha 1 (by simp [aftersOf, Region.binds])))
                        have gg4 := slot_get g4
                        have gg66 := slot_get g66
                        have gw := slot_bool g66
                        rw [if_pos (by simp [Region.wanted, yielded, gw])]
                        clear gw
                        have hF := hK (.slice (some ⟨b, o, none⟩) n cX) w' ⟨hv.step 2 67 _ (by simp), hq.step 2 67 _ (Below.refl _ _) (by simp), hol.step 2 67 _ (by simp), hlw.step 2 (by omega)⟩
                        clear hv hq hr ha hK hA hli hol hlw
                        go_simp
                        exact hF
                      case false =>
                        simp only [cond_true, cond_false] at hv
                        have hr := hq
                        have g4 := slot_out hA 4 _ (by decide) (by decide) rfl
                        simp only [List.getD_cons_succ, List.getD_cons_zero] at g4
                        have g66 := slot_in hA 66 (by decide) (by decide) (hv (1, 66, (.bool false)) (by simp) (ha 1 (by simp [aftersOf, Region.binds])))
                        have gg4 := slot_get g4
                        have gg66 := slot_get g66
                        have gw := slot_bool g66
                        rw [if_pos (by simp [Region.wanted, yielded, gw])]
                        clear gw
                        have hF := hK (.slice (some ⟨b, o, none⟩) n cX) w' ⟨hv.step 2 67 _ (by simp), hq.step 2 67 _ (Below.refl _ _) (by simp), hol.step 2 67 _ (by simp), hlw.step 2 (by omega)⟩
                        clear hv hq hr ha hK hA hli hol hlw
                        go_simp
                        exact hF
                  · clear hi; intro o ho lz fz w' A hJ hli ha hA K hK
                    obtain ⟨hv, hq, hol, hlw⟩ := hJ
                    obtain rfl := Option.some.inj ho
                    clear ho
                    cases f
                    case true =>
                      simp only [cond_true, cond_false] at hv
                      have hr := hq
                      have g66 := slot_in hA 66 (by decide) (by decide) (hv (1, 66, (.bool true)) (by simp) (ha 1 (by simp [aftersOf, Region.binds])))
                      have gg66 := slot_get g66
                      have gw := slot_bool g66
                      rw [if_neg (by simp [Region.wanted, yielded, gw])]
                      clear gw
                      exact hK undef w' ⟨hv.step 3 68 _ (by simp), hq.step 3 68 _ (Below.refl _ _) (by simp), hol.step 3 68 _ (by simp), hlw.step 3 (by omega)⟩
                    case false =>
                      cases d
                      case true =>
                        simp only [cond_true, cond_false] at hv
                        have hr := hq
                        have g7 := slot_out hA 7 _ (by decide) (by decide) rfl
                        simp only [List.getD_cons_succ, List.getD_cons_zero] at g7
                        have g66 := slot_in hA 66 (by decide) (by decide) (hv (1, 66, (.bool false)) (by simp) (ha 1 (by simp [aftersOf, Region.binds])))
                        have gg7 := slot_get g7
                        have gg66 := slot_get g66
                        have gw := slot_bool g66
                        rw [if_pos (by simp [Region.wanted, yielded, gw])]
                        clear gw
                        have hF := hK (.int .i64 (j : Int)) w' ⟨hv.step 3 68 _ (by simp), hq.step 3 68 _ (Below.refl _ _) (by simp), hol.step 3 68 _ (by simp), hlw.step 3 (by omega)⟩
                        clear hv hq hr ha hK hA hli hol hlw
                        go_simp
                        exact hF
                      case false =>
                        simp only [cond_true, cond_false] at hv
                        have hr := hq
                        have g7 := slot_out hA 7 _ (by decide) (by decide) rfl
                        simp only [List.getD_cons_succ, List.getD_cons_zero] at g7
                        have g66 := slot_in hA 66 (by decide) (by decide) (hv (1, 66, (.bool false)) (by simp) (ha 1 (by simp [aftersOf, Region.binds])))
                        have gg7 := slot_get g7
                        have gg66 := slot_get g66
                        have gw := slot_bool g66
                        rw [if_pos (by simp [Region.wanted, yielded, gw])]
                        clear gw
                        have hF := hK (.int .i64 (j : Int)) w' ⟨hv.step 3 68 _ (by simp), hq.step 3 68 _ (Below.refl _ _) (by simp), hol.step 3 68 _ (by simp), hlw.step 3 (by omega)⟩
                        clear hv hq hr ha hK hA hli hol hlw
                        go_simp
                        exact hF
                  · clear hi; intro o ho lz fz w' A hJ hli ha hA K hK
                    obtain ⟨hv, hq, hol, hlw⟩ := hJ
                    obtain rfl := Option.some.inj ho
                    clear ho
                    cases f
                    case true =>
                      simp only [cond_true, cond_false] at hv
                      have hr := hq
                      have g66 := slot_in hA 66 (by decide) (by decide) (hv (1, 66, (.bool true)) (by simp) (ha 1 (by simp [aftersOf, Region.binds])))
                      have gg66 := slot_get g66
                      have gw := slot_bool g66
                      rw [if_neg (by simp [Region.wanted, yielded, gw])]
                      clear gw
                      exact hK undef w' ⟨hv.step 4 69 _ (by simp), hq.step 4 69 _ (Below.refl _ _) (by simp), hol.step 4 69 _ (by simp), hlw.step 4 (by omega)⟩
                    case false =>
                      cases d
                      case true =>
                        simp only [cond_true, cond_false] at hv
                        have hr := hq
                        have g67 := slot_in hA 67 (by decide) (by decide) (hv (2, 67, (.slice (some ⟨b, o, none⟩) n cX)) (by simp) (ha 2 (by simp [aftersOf, Region.binds])))
                        have g68 := slot_in hA 68 (by decide) (by decide) (hv (3, 68, (.int .i64 (j : Int))) (by simp) (ha 3 (by simp [aftersOf, Region.binds])))
                        have g66 := slot_in hA 66 (by decide) (by decide) (hv (1, 66, (.bool false)) (by simp) (ha 1 (by simp [aftersOf, Region.binds])))
                        have gg67 := slot_get g67
                        have gg68 := slot_get g68
                        have gg66 := slot_get g66
                        have gw := slot_bool g66
                        rw [if_pos (by simp [Region.wanted, yielded, gw])]
                        clear gw
                        have hF := hK (.pointer (some ⟨b, o + j, none⟩)) w' ⟨hv.step 4 69 _ (by simp), hq.step 4 69 _ (Below.refl _ _) (by simp), hol.step 4 69 _ (by simp), hlw.step 4 (by omega)⟩
                        clear hv hq hr ha hK hA hli hol hlw
                        go_simp
                        exact hF
                      case false =>
                        simp only [cond_true, cond_false] at hv
                        have hr := hq
                        have g67 := slot_in hA 67 (by decide) (by decide) (hv (2, 67, (.slice (some ⟨b, o, none⟩) n cX)) (by simp) (ha 2 (by simp [aftersOf, Region.binds])))
                        have g68 := slot_in hA 68 (by decide) (by decide) (hv (3, 68, (.int .i64 (j : Int))) (by simp) (ha 3 (by simp [aftersOf, Region.binds])))
                        have g66 := slot_in hA 66 (by decide) (by decide) (hv (1, 66, (.bool false)) (by simp) (ha 1 (by simp [aftersOf, Region.binds])))
                        have gg67 := slot_get g67
                        have gg68 := slot_get g68
                        have gg66 := slot_get g66
                        have gw := slot_bool g66
                        rw [if_pos (by simp [Region.wanted, yielded, gw])]
                        clear gw
                        have hF := hK (.pointer (some ⟨b, o + j, none⟩)) w' ⟨hv.step 4 69 _ (by simp), hq.step 4 69 _ (Below.refl _ _) (by simp), hol.step 4 69 _ (by simp), hlw.step 4 (by omega)⟩
                        clear hv hq hr ha hK hA hli hol hlw
                        go_simp
                        exact hF
                  · clear hi; intro o ho lz fz w' A hJ hli ha hA K hK
                    obtain ⟨hv, hq, hol, hlw⟩ := hJ
                    obtain rfl := Option.some.inj ho
                    clear ho
                    cases f
                    case true =>
                      simp only [cond_true, cond_false] at hv
                      have hr := hq
                      have g66 := slot_in hA 66 (by decide) (by decide) (hv (1, 66, (.bool true)) (by simp) (ha 1 (by simp [aftersOf, Region.binds])))
                      have gg66 := slot_get g66
                      have gw := slot_bool g66
                      rw [if_neg (by simp [Region.wanted, yielded, gw])]
                      clear gw
                      exact hK undef w' ⟨hv.step 5 70 _ (by simp), hq.step 5 70 _ (Below.refl _ _) (by simp), hol.step 5 70 _ (by simp), hlw.step 5 (by omega)⟩
                    case false =>
                      cases d
                      case true =>
                        simp only [cond_true, cond_false] at hv
                        have hr := hq
                        have g69 := slot_in hA 69 (by decide) (by decide) (hv (4, 69, (.pointer (some ⟨b, o + j, none⟩))) (by simp) (ha 4 (by simp [aftersOf, Region.binds])))
                        have g66 := slot_in hA 66 (by decide) (by decide) (hv (1, 66, (.bool false)) (by simp) (ha 1 (by simp [aftersOf, Region.binds])))
                        have gg69 := slot_get g69
                        have gg66 := slot_get g66
                        have gw := slot_bool g66
                        rw [if_pos (by simp [Region.wanted, yielded, gw])]
                        clear gw
                        have kc := (hr.1.cell (p := ⟨b, o + j, none⟩) hbX').trans c1'
                        have hF := hK (.int .i64 vj) w' ⟨hv.step 5 70 _ (by simp), hq.step 5 70 _ (Below.refl _ _) (by simp), hol.step 5 70 _ (by simp), hlw.step 5 (by omega)⟩
                        clear hv hq hr ha hK hA hli hol hlw
                        go_simp
                        exact hF
                      case false =>
                        simp only [cond_true, cond_false] at hv
                        have hr := hq
                        have g69 := slot_in hA 69 (by decide) (by decide) (hv (4, 69, (.pointer (some ⟨b, o + j, none⟩))) (by simp) (ha 4 (by simp [aftersOf, Region.binds])))
                        have g66 := slot_in hA 66 (by decide) (by decide) (hv (1, 66, (.bool false)) (by simp) (ha 1 (by simp [aftersOf, Region.binds])))
                        have gg69 := slot_get g69
                        have gg66 := slot_get g66
                        have gw := slot_bool g66
                        rw [if_pos (by simp [Region.wanted, yielded, gw])]
                        clear gw
                        have kc := (hr.1.cell (p := ⟨b, o + j, none⟩) hbX').trans c1'
                        have hF := hK (.int .i64 vj) w' ⟨hv.step 5 70 _ (by simp), hq.step 5 70 _ (Below.refl _ _) (by simp), hol.step 5 70 _ (by simp), hlw.step 5 (by omega)⟩
                        clear hv hq hr ha hK hA hli hol hlw
                        go_simp
                        exact hF
                  · clear hi; intro o ho lz fz w' A hJ hli ha hA K hK
                    obtain ⟨hv, hq, hol, hlw⟩ := hJ
                    obtain rfl := Option.some.inj ho
                    clear ho
                    cases f
                    case true =>
                      simp only [cond_true, cond_false] at hv
                      have hr := hq
                      have g66 := slot_in hA 66 (by decide) (by decide) (hv (1, 66, (.bool true)) (by simp) (ha 1 (by simp [aftersOf, Region.binds])))
                      have gg66 := slot_get g66
                      have gw := slot_bool g66
                      rw [if_neg (by simp [Region.wanted, yielded, gw])]
                      clear gw
                      exact hK undef w' ⟨hv.step 6 71 _ (by simp), hq.step 6 71 _ (Below.refl _ _) (by simp), hol.step 6 71 _ (by simp), hlw.step 6 (by omega)⟩
                    case false =>
                      cases d
                      case true =>
                        simp only [cond_true, cond_false] at hv
                        have hr := hq
                        have g4 := slot_out hA 4 _ (by decide) (by decide) rfl
                        simp only [List.getD_cons_succ, List.getD_cons_zero] at g4
                        have g66 := slot_in hA 66 (by decide) (by decide) (hv (1, 66, (.bool false)) (by simp) (ha 1 (by simp [aftersOf, Region.binds])))
                        have gg4 := slot_get g4
                        have gg66 := slot_get g66
                        have gw := slot_bool g66
                        rw [if_pos (by simp [Region.wanted, yielded, gw])]
                        clear gw
                        have hF := hK (.slice (some ⟨b, o, none⟩) n cX) w' ⟨hv.step 6 71 _ (by simp), hq.step 6 71 _ (Below.refl _ _) (by simp), hol.step 6 71 _ (by simp), hlw.step 6 (by omega)⟩
                        clear hv hq hr ha hK hA hli hol hlw
                        go_simp
                        exact hF
                      case false =>
                        simp only [cond_true, cond_false] at hv
                        have hr := hq
                        have g4 := slot_out hA 4 _ (by decide) (by decide) rfl
                        simp only [List.getD_cons_succ, List.getD_cons_zero] at g4
                        have g66 := slot_in hA 66 (by decide) (by decide) (hv (1, 66, (.bool false)) (by simp) (ha 1 (by simp [aftersOf, Region.binds])))
                        have gg4 := slot_get g4
                        have gg66 := slot_get g66
                        have gw := slot_bool g66
                        rw [if_pos (by simp [Region.wanted, yielded, gw])]
                        clear gw
                        have hF := hK (.slice (some ⟨b, o, none⟩) n cX) w' ⟨hv.step 6 71 _ (by simp), hq.step 6 71 _ (Below.refl _ _) (by simp), hol.step 6 71 _ (by simp), hlw.step 6 (by omega)⟩
                        clear hv hq hr ha hK hA hli hol hlw
                        go_simp
                        exact hF
                  · clear hi; intro o ho lz fz w' A hJ hli ha hA K hK
                    obtain ⟨hv, hq, hol, hlw⟩ := hJ
                    obtain rfl := Option.some.inj ho
                    clear ho
                    cases f
                    case true =>
                      simp only [cond_true, cond_false] at hv
                      have hr := hq
                      have g66 := slot_in hA 66 (by decide) (by decide) (hv (1, 66, (.bool true)) (by simp) (ha 1 (by simp [aftersOf, Region.binds])))
                      have gg66 := slot_get g66
                      have gw := slot_bool g66
                      rw [if_neg (by simp [Region.wanted, yielded, gw])]
                      clear gw
                      exact hK undef w' ⟨hv.step 7 72 _ (by simp), hq.step 7 72 _ (Below.refl _ _) (by simp), hol.step 7 72 _ (by simp), hlw.step 7 (by omega)⟩
                    case false =>
                      cases d
                      case true =>
                        simp only [cond_true, cond_false] at hv
                        have hr := hq
                        have g5 := slot_out hA 5 _ (by decide) (by decide) rfl
                        simp only [List.getD_cons_succ, List.getD_cons_zero] at g5
                        have g66 := slot_in hA 66 (by decide) (by decide) (hv (1, 66, (.bool false)) (by simp) (ha 1 (by simp [aftersOf, Region.binds])))
                        have gg5 := slot_get g5
                        have gg66 := slot_get g66
                        have gw := slot_bool g66
                        rw [if_pos (by simp [Region.wanted, yielded, gw])]
                        clear gw
                        have hF := hK (.int .i64 (k : Int)) w' ⟨hv.step 7 72 _ (by simp), hq.step 7 72 _ (Below.refl _ _) (by simp), hol.step 7 72 _ (by simp), hlw.step 7 (by omega)⟩
                        clear hv hq hr ha hK hA hli hol hlw
                        go_simp
                        exact hF
                      case false =>
                        simp only [cond_true, cond_false] at hv
                        have hr := hq
                        have g5 := slot_out hA 5 _ (by decide) (by decide) rfl
                        simp only [List.getD_cons_succ, List.getD_cons_zero] at g5
                        have g66 := slot_in hA 66 (by decide) (by decide) (hv (1, 66, (.bool false)) (by simp) (ha 1 (by simp [aftersOf, Region.binds])))
                        have gg5 := slot_get g5
                        have gg66 := slot_get g66
                        have gw := slot_bool g66
                        rw [if_pos (by simp [Region.wanted, yielded, gw])]
                        clear gw
                        have hF := hK (.int .i64 (k : Int)) w' ⟨hv.step 7 72 _ (by simp), hq.step 7 72 _ (Below.refl _ _) (by simp), hol.step 7 72 _ (by simp), hlw.step 7 (by omega)⟩
                        clear hv hq hr ha hK hA hli hol hlw
                        go_simp
                        exact hF
                  · clear hi; intro o ho lz fz w' A hJ hli ha hA K hK
                    obtain ⟨hv, hq, hol, hlw⟩ := hJ
                    obtain rfl := Option.some.inj ho
                    clear ho
                    cases f
                    case true =>
                      simp only [cond_true, cond_false] at hv
                      have hr := hq
                      have g66 := slot_in hA 66 (by decide) (by decide) (hv (1, 66, (.bool true)) (by simp) (ha 1 (by simp [aftersOf, Region.binds])))
                      have gg66 := slot_get g66
                      have gw := slot_bool g66
                      rw [if_neg (by simp [Region.wanted, yielded, gw])]
                      clear gw
                      exact hK undef w' ⟨hv.step 8 73 _ (by simp), hq.step 8 73 _ (Below.refl _ _) (by simp), hol.step 8 73 _ (by simp), hlw.step 8 (by omega)⟩
                    case false =>
                      cases d
                      case true =>
                        simp only [cond_true, cond_false] at hv
                        have hr := hq
                        have g71 := slot_in hA 71 (by decide) (by decide) (hv (6, 71, (.slice (some ⟨b, o, none⟩) n cX)) (by simp) (ha 6 (by simp [aftersOf, Region.binds])))
                        have g72 := slot_in hA 72 (by decide) (by decide) (hv (7, 72, (.int .i64 (k : Int))) (by simp) (ha 7 (by simp [aftersOf, Region.binds])))
                        have g66 := slot_in hA 66 (by decide) (by decide) (hv (1, 66, (.bool false)) (by simp) (ha 1 (by simp [aftersOf, Region.binds])))
                        have gg71 := slot_get g71
                        have gg72 := slot_get g72
                        have gg66 := slot_get g66
                        have gw := slot_bool g66
                        rw [if_pos (by simp [Region.wanted, yielded, gw])]
                        clear gw
                        have hF := hK (.pointer (some ⟨b, o + k, none⟩)) w' ⟨hv.step 8 73 _ (by simp), hq.step 8 73 _ (Below.refl _ _) (by simp), hol.step 8 73 _ (by simp), hlw.step 8 (by omega)⟩
                        clear hv hq hr ha hK hA hli hol hlw
                        go_simp
                        exact hF
                      case false =>
                        simp only [cond_true, cond_false] at hv
                        have hr := hq
                        have g71 := slot_in hA 71 (by decide) (by decide) (hv (6, 71, (.slice (some ⟨b, o, none⟩) n cX)) (by simp) (ha 6 (by simp [aftersOf, Region.binds])))
                        have g72 := slot_in hA 72 (by decide) (by decide) (hv (7, 72, (.int .i64 (k : Int))) (by simp) (ha 7 (by simp [aftersOf, Region.binds])))
                        have g66 := slot_in hA 66 (by decide) (by decide) (hv (1, 66, (.bool false)) (by simp) (ha 1 (by simp [aftersOf, Region.binds])))
                        have gg71 := slot_get g71
                        have gg72 := slot_get g72
                        have gg66 := slot_get g66
                        have gw := slot_bool g66
                        rw [if_pos (by simp [Region.wanted, yielded, gw])]
                        clear gw
                        have hF := hK (.pointer (some ⟨b, o + k, none⟩)) w' ⟨hv.step 8 73 _ (by simp), hq.step 8 73 _ (Below.refl _ _) (by simp), hol.step 8 73 _ (by simp), hlw.step 8 (by omega)⟩
                        clear hv hq hr ha hK hA hli hol hlw
                        go_simp
                        exact hF
                  · clear hi; intro o ho lz fz w' A hJ hli ha hA K hK
                    obtain ⟨hv, hq, hol, hlw⟩ := hJ
                    obtain rfl := Option.some.inj ho
                    clear ho
                    cases f
                    case true =>
                      simp only [cond_true, cond_false] at hv
                      have hr := hq
                      have g66 := slot_in hA 66 (by decide) (by decide) (hv (1, 66, (.bool true)) (by simp) (ha 1 (by simp [aftersOf, Region.binds])))
                      have gg66 := slot_get g66
                      have gw := slot_bool g66
                      rw [if_neg (by simp [Region.wanted, yielded, gw])]
                      clear gw
                      exact hK undef w' ⟨hv.step 9 74 _ (by simp), hq.step 9 74 _ (Below.refl _ _) (by simp), hol.step 9 74 _ (by simp), hlw.step 9 (by omega)⟩
                    case false =>
                      cases d
                      case true =>
                        simp only [cond_true, cond_false] at hv
                        have hr := hq
                        have g73 := slot_in hA 73 (by decide) (by decide) (hv (8, 73, (.pointer (some ⟨b, o + k, none⟩))) (by simp) (ha 8 (by simp [aftersOf, Region.binds])))
                        have g66 := slot_in hA 66 (by decide) (by decide) (hv (1, 66, (.bool false)) (by simp) (ha 1 (by simp [aftersOf, Region.binds])))
                        have gg73 := slot_get g73
                        have gg66 := slot_get g66
                        have gw := slot_bool g66
                        rw [if_pos (by simp [Region.wanted, yielded, gw])]
                        clear gw
                        have kc := (hr.1.cell (p := ⟨b, o + k, none⟩) hbX').trans c0'
                        have hF := hK (.int .i64 vk) w' ⟨hv.step 9 74 _ (by simp), hq.step 9 74 _ (Below.refl _ _) (by simp), hol.step 9 74 _ (by simp), hlw.step 9 (by omega)⟩
                        clear hv hq hr ha hK hA hli hol hlw
                        go_simp
                        exact hF
                      case false =>
                        simp only [cond_true, cond_false] at hv
                        have hr := hq
                        have g73 := slot_in hA 73 (by decide) (by decide) (hv (8, 73, (.pointer (some ⟨b, o + k, none⟩))) (by simp) (ha 8 (by simp [aftersOf, Region.binds])))
                        have g66 := slot_in hA 66 (by decide) (by decide) (hv (1, 66, (.bool false)) (by simp) (ha 1 (by simp [aftersOf, Region.binds])))
                        have gg73 := slot_get g73
                        have gg66 := slot_get g66
                        have gw := slot_bool g66
                        rw [if_pos (by simp [Region.wanted, yielded, gw])]
                        clear gw
                        have kc := (hr.1.cell (p := ⟨b, o + k, none⟩) hbX').trans c0'
                        have hF := hK (.int .i64 vk) w' ⟨hv.step 9 74 _ (by simp), hq.step 9 74 _ (Below.refl _ _) (by simp), hol.step 9 74 _ (by simp), hlw.step 9 (by omega)⟩
                        clear hv hq hr ha hK hA hli hol hlw
                        go_simp
                        exact hF
                  · clear hi; intro o ho lz fz w' A hJ hli ha hA K hK
                    obtain ⟨hv, hq, hol, hlw⟩ := hJ
                    obtain rfl := Option.some.inj ho
                    clear ho
                    cases f
                    case true =>
                      simp only [cond_true, cond_false] at hv
                      have hr := hq
                      have g66 := slot_in hA 66 (by decide) (by decide) (hv (1, 66, (.bool true)) (by simp) (ha 1 (by simp [aftersOf, Region.binds])))
                      have gg66 := slot_get g66
                      have gw := slot_bool g66
                      rw [if_neg (by simp [Region.wanted, yielded, gw])]
                      clear gw
                      exact hK undef w' ⟨hv.step 10 75 _ (by simp), hq.step 10 75 _ (Below.refl _ _) (by simp), hol.step 10 75 _ (by simp), hlw.step 10 (by omega)⟩
                    case false =>
                      cases d
                      case true =>
                        simp only [cond_true, cond_false] at hv
                        have hr := hq
                        have g74 := slot_in hA 74 (by decide) (by decide) (hv (9, 74, (.int .i64 vk)) (by simp) (ha 9 (by simp [aftersOf, Region.binds])))
                        have g66 := slot_in hA 66 (by decide) (by decide) (hv (1, 66, (.bool false)) (by simp) (ha 1 (by simp [aftersOf, Region.binds])))
                        have gg74 := slot_get g74
                        have gg66 := slot_get g66
                        have gw := slot_bool g66
                        rw [if_pos (by simp [Region.wanted, yielded, gw])]
                        clear gw
                        have hF := hK (.int .i64 (vk - 1)) w' ⟨hv.step 10 75 _ (by simp), hq.step 10 75 _ (Below.refl _ _) (by simp), hol.step 10 75 _ (by simp), hlw.step 10 (by omega)⟩
                        clear hv hq hr ha hK hA hli hol hlw
                        go_simp
                        exact hF
                      case false =>
                        simp only [cond_true, cond_false] at hv
                        have hr := hq
                        have g74 := slot_in hA 74 (by decide) (by decide) (hv (9, 74, (.int .i64 vk)) (by simp) (ha 9 (by simp [aftersOf, Region.binds])))
                        have g66 := slot_in hA 66 (by decide) (by decide) (hv (1, 66, (.bool false)) (by simp) (ha 1 (by simp [aftersOf, Region.binds])))
                        have gg74 := slot_get g74
                        have gg66 := slot_get g66
                        have gw := slot_bool g66
                        rw [if_pos (by simp [Region.wanted, yielded, gw])]
                        clear gw
                        have hF := hK (.int .i64 (vk - 1)) w' ⟨hv.step 10 75 _ (by simp), hq.step 10 75 _ (Below.refl _ _) (by simp), hol.step 10 75 _ (by simp), hlw.step 10 (by omega)⟩
                        clear hv hq hr ha hK hA hli hol hlw
                        go_simp
                        exact hF
                  · clear hi; intro o ho lz fz w' A hJ hli ha hA K hK
                    obtain ⟨hv, hq, hol, hlw⟩ := hJ
                    obtain rfl := Option.some.inj ho
                    clear ho
                    cases f
                    case true =>
                      simp only [cond_true, cond_false] at hv
                      have hr := hq
                      have g66 := slot_in hA 66 (by decide) (by decide) (hv (1, 66, (.bool true)) (by simp) (ha 1 (by simp [aftersOf, Region.binds])))
                      have gg66 := slot_get g66
                      have gw := slot_bool g66
                      rw [if_neg (by simp [Region.wanted, yielded, gw])]
                      clear gw
                      exact hK undef w' ⟨hv.step 11 76 _ (by simp), hq.step 11 76 _ (Below.refl _ _) (by simp), hol.step 11 76 _ (by simp), hlw.step 11 (by omega)⟩
                    case false =>
                      cases d
                      case true =>
                        simp only [cond_true, cond_false] at hv
                        have hr := hq
                        have g70 := slot_in hA 70 (by decide) (by decide) (hv (5, 70, (.int .i64 vj)) (by simp) (ha 5 (by simp [aftersOf, Region.binds])))
                        have g75 := slot_in hA 75 (by decide) (by decide) (hv (10, 75, (.int .i64 (vk - 1))) (by simp) (ha 10 (by simp [aftersOf, Region.binds])))
                        have g66 := slot_in hA 66 (by decide) (by decide) (hv (1, 66, (.bool false)) (by simp) (ha 1 (by simp [aftersOf, Region.binds])))
                        have gg70 := slot_get g70
                        have gg75 := slot_get g75
                        have gg66 := slot_get g66
                        have gw := slot_bool g66
                        rw [if_pos (by simp [Region.wanted, yielded, gw])]
                        clear gw
                        have hde := HD.out
                        have hF := hK (.bool true) w' ⟨hv.step 11 76 _ (by simp), hq.step 11 76 _ (Below.refl _ _) (by simp), hol.step 11 76 _ (by simp), hlw.step 11 (by omega)⟩
                        clear hv hq hr ha hK hA hli hol hlw
                        go_simp
                        exact hF
                      case false =>
                        simp only [cond_true, cond_false] at hv
                        have hr := hq
                        have g70 := slot_in hA 70 (by decide) (by decide) (hv (5, 70, (.int .i64 vj)) (by simp) (ha 5 (by simp [aftersOf, Region.binds])))
                        have g75 := slot_in hA 75 (by decide) (by decide) (hv (10, 75, (.int .i64 (vk - 1))) (by simp) (ha 10 (by simp [aftersOf, Region.binds])))
                        have g66 := slot_in hA 66 (by decide) (by decide) (hv (1, 66, (.bool false)) (by simp) (ha 1 (by simp [aftersOf, Region.binds])))
                        have gg70 := slot_get g70
                        have gg75 := slot_get g75
                        have gg66 := slot_get g66
                        have gw := slot_bool g66
                        rw [if_pos (by simp [Region.wanted, yielded, gw])]
                        clear gw
                        have hde := HD.out
                        have hF := hK (.bool false) w' ⟨hv.step 11 76 _ (by simp), hq.step 11 76 _ (Below.refl _ _) (by simp), hol.step 11 76 _ (by simp), hlw.step 11 (by omega)⟩
                        clear hv hq hr ha hK hA hli hol hlw
                        go_simp
                        exact hF
                  · clear hi; intro o ho lz fz w' A hJ hli ha hA K hK
                    obtain ⟨hv, hq, hol, hlw⟩ := hJ
                    obtain rfl := Option.some.inj ho
                    clear ho
                    cases f
                    case true =>
                      simp only [cond_true, cond_false] at hv
                      have hr := hq
                      have g66 := slot_in hA 66 (by decide) (by decide) (hv (1, 66, (.bool true)) (by simp) (ha 1 (by simp [aftersOf, Region.binds])))
                      have gg66 := slot_get g66
                      have gw := slot_bool g66
                      rw [if_neg (by simp [Region.wanted, yielded, gw])]
                      clear gw
                      exact hK undef w' ⟨hv.step 12 77 _ (by simp), hq.step 12 77 _ (Below.refl _ _) (by simp), hol.step 12 77 _ (by simp), hlw.step 12 (by omega)⟩
                    case false =>
                      cases d
                      case true =>
                        simp only [cond_true, cond_false] at hv
                        have hr := hq
                        have g76 := slot_in hA 76 (by decide) (by decide) (hv (11, 76, (.bool true)) (by simp) (ha 11 (by simp [aftersOf, Region.binds])))
                        have g66 := slot_in hA 66 (by decide) (by decide) (hv (1, 66, (.bool false)) (by simp) (ha 1 (by simp [aftersOf, Region.binds])))
                        have gg76 := slot_get g76
                        have gg66 := slot_get g66
                        have gw := slot_bool g66
                        rw [if_pos (by simp [Region.wanted, yielded, gw])]
                        clear gw
                        have hF := hK (.bool true) w' ⟨hv.step 12 77 _ (by simp), hq.step 12 77 _ (Below.refl _ _) (by simp), hol.step 12 77 _ (by simp), hlw.step 12 (by omega)⟩
                        clear hv hq hr ha hK hA hli hol hlw
                        go_simp
                        exact hF
                      case false =>
                        simp only [cond_true, cond_false] at hv
                        have hr := hq
                        have g76 := slot_in hA 76 (by decide) (by decide) (hv (11, 76, (.bool false)) (by simp) (ha 11 (by simp [aftersOf, Region.binds])))
                        have g66 := slot_in hA 66 (by decide) (by decide) (hv (1, 66, (.bool false)) (by simp) (ha 1 (by simp [aftersOf, Region.binds])))
                        have gg76 := slot_get g76
                        have gg66 := slot_get g66
                        have gw := slot_bool g66
                        rw [if_pos (by simp [Region.wanted, yielded, gw])]
                        clear gw
                        have hF := hK (.bool false) w' ⟨hv.step 12 77 _ (by simp), hq.step 12 77 _ (Below.refl _ _) (by simp), hol.step 12 77 _ (by simp), hlw.step 12 (by omega)⟩
                        clear hv hq hr ha hK hA hli hol hlw
                        go_simp
                        exact hF
                  · clear hi; intro o ho lz fz w' A hJ hli ha hA K hK
                    obtain ⟨hv, hq, hol, hlw⟩ := hJ
                    obtain rfl := Option.some.inj ho
                    clear ho
                    cases f
                    case true =>
                      simp only [cond_true, cond_false] at hv
                      have hr := hq
                      have g77 := slot_in hA 77 (by decide) (by decide) (hv (12, 77, undef) (by simp) (ha 12 (by simp [aftersOf, Region.binds])))
                      have gw := slot_no g77
                      rw [if_neg (by rcases gw with gw | gw <;> simp [Region.wanted, yielded, gw, undef])]
                      clear gw
                      exact hK undef w' ⟨hv.step 13 78 _ (by simp), hq.step 13 78 _ (Below.refl _ _) (by simp), hol.step 13 78 _ (by simp), hlw.step 13 (by omega)⟩
                    case false =>
                      cases d
                      case true =>
                        simp only [cond_true, cond_false] at hv
                        have hr := hq
                        have g3 := slot_out hA 3 _ (by decide) (by decide) rfl
                        simp only [List.getD_cons_succ, List.getD_cons_zero] at g3
                        have g77 := slot_in hA 77 (by decide) (by decide) (hv (12, 77, (.bool true)) (by simp) (ha 12 (by simp [aftersOf, Region.binds])))
                        have gg3 := slot_get g3
                        have gg77 := slot_get g77
                        have gw := slot_bool g77
                        rw [if_pos (by simp [Region.wanted, yielded, gw])]
                        clear gw
                        have hF := hK (.slice (some ⟨g, 0, none⟩) n c) w' ⟨hv.step 13 78 _ (by simp), hq.step 13 78 _ (Below.refl _ _) (by simp), hol.step 13 78 _ (by simp), hlw.step 13 (by omega)⟩
                        clear hv hq hr ha hK hA hli hol hlw
                        go_simp
                        exact hF
                      case false =>
                        simp only [cond_true, cond_false] at hv
                        have hr := hq
                        have g77 := slot_in hA 77 (by decide) (by decide) (hv (12, 77, (.bool false)) (by simp) (ha 12 (by simp [aftersOf, Region.binds])))
                        have gg77 := slot_get g77
                        have gw := slot_bool g77
                        rw [if_neg (by simp [Region.wanted, yielded, gw])]
                        clear gw
                        exact hK undef w' ⟨hv.step 13 78 _ (by simp), hq.step 13 78 _ (Below.refl _ _) (by simp), hol.step 13 78 _ (by simp), hlw.step 13 (by omega)⟩
                  · clear hi; intro o ho lz fz w' A hJ hli ha hA K hK
                    obtain ⟨hv, hq, hol, hlw⟩ := hJ
                    obtain rfl := Option.some.inj ho
                    clear ho
                    cases f
                    case true =>
                      simp only [cond_true, cond_false] at hv
                      have hr := hq
                      have g77 := slot_in hA 77 (by decide) (by decide) (hv (12, 77, undef) (by simp) (ha 12 (by simp [aftersOf, Region.binds])))
                      have gw := slot_no g77
                      rw [if_neg (by rcases gw with gw | gw <;> simp [Region.wanted, yielded, gw, undef])]
                      clear gw
                      exact hK undef w' ⟨hv.step 14 79 _ (by simp), hq.step 14 79 _ (Below.refl _ _) (by simp), hol.step 14 79 _ (by simp), hlw.step 14 (by omega)⟩
                    case false =>
                      cases d
                      case true =>
                        simp only [cond_true, cond_false] at hv
                        have hr := hq
                        have g7 := slot_out hA 7 _ (by decide) (by decide) rfl
                        simp only [List.getD_cons_succ, List.getD_cons_zero] at g7
                        have g77 := slot_in hA 77 (by decide) (by decide) (hv (12, 77, (.bool true)) (by simp) (ha 12 (by simp [aftersOf, Region.binds])))
                        have gg7 := slot_get g7
                        have gg77 := slot_get g77
                        have gw := slot_bool g77
                        rw [if_pos (by simp [Region.wanted, yielded, gw])]
                        clear gw
                        have hF := hK (.int .i64 (j : Int)) w' ⟨hv.step 14 79 _ (by simp), hq.step 14 79 _ (Below.refl _ _) (by simp), hol.step 14 79 _ (by simp), hlw.step 14 (by omega)⟩
                        clear hv hq hr ha hK hA hli hol hlw
                        go_simp
                        exact hF
                      case false =>
                        simp only [cond_true, cond_false] at hv
                        have hr := hq
                        have g77 := slot_in hA 77 (by decide) (by decide) (hv (12, 77, (.bool false)) (by simp) (ha 12 (by simp [aftersOf, Region.binds])))
                        have gg77 := slot_get g77
                        have gw := slot_bool g77
                        rw [if_neg (by simp [Region.wanted, yielded, gw])]
                        clear gw
                        exact hK undef w' ⟨hv.step 14 79 _ (by simp), hq.step 14 79 _ (Below.refl _ _) (by simp), hol.step 14 79 _ (by simp), hlw.step 14 (by omega)⟩
                  · clear hi; intro o ho lz fz w' A hJ hli ha hA K hK
                    obtain ⟨hv, hq, hol, hlw⟩ := hJ
                    obtain rfl := Option.some.inj ho
                    clear ho
                    cases f
                    case true =>
                      simp only [cond_true, cond_false] at hv
                      have hr := hq
                      have g77 := slot_in hA 77 (by decide) (by decide) (hv (12, 77, undef) (by simp) (ha 12 (by simp [aftersOf, Region.binds])))
                      have gw := slot_no g77
                      rw [if_neg (by rcases gw with gw | gw <;> simp [Region.wanted, yielded, gw, undef])]
                      clear gw
                      exact hK undef w' ⟨hv.step 15 80 _ (by simp), hq.step 15 80 _ (Below.refl _ _) (by simp), hol.step 15 80 _ (by simp), hlw.step 15 (by omega)⟩
                    case false =>
                      cases d
                      case true =>
                        simp only [cond_true, cond_false] at hv
                        have hr := hq
                        have g78 := slot_in hA 78 (by decide) (by decide) (hv (13, 78, (.slice (some ⟨g, 0, none⟩) n c)) (by simp) (ha 13 (by simp [aftersOf, Region.binds])))
                        have g79 := slot_in hA 79 (by decide) (by decide) (hv (14, 79, (.int .i64 (j : Int))) (by simp) (ha 14 (by simp [aftersOf, Region.binds])))
                        have g77 := slot_in hA 77 (by decide) (by decide) (hv (12, 77, (.bool true)) (by simp) (ha 12 (by simp [aftersOf, Region.binds])))
                        have gg78 := slot_get g78
                        have gg79 := slot_get g79
                        have gg77 := slot_get g77
                        have gw := slot_bool g77
                        rw [if_pos (by simp [Region.wanted, yielded, gw])]
                        clear gw
                        have hF := hK (.pointer (some ⟨g, j * 4, none⟩)) w' ⟨hv.step 15 80 _ (by simp), hq.step 15 80 _ (Below.refl _ _) (by simp), hol.step 15 80 _ (by simp), hlw.step 15 (by omega)⟩
                        clear hv hq hr ha hK hA hli hol hlw
                        go_simp
                        exact hF
                      case false =>
                        simp only [cond_true, cond_false] at hv
                        have hr := hq
                        have g77 := slot_in hA 77 (by decide) (by decide) (hv (12, 77, (.bool false)) (by simp) (ha 12 (by simp [aftersOf, Region.binds])))
                        have gg77 := slot_get g77
                        have gw := slot_bool g77
                        rw [if_neg (by simp [Region.wanted, yielded, gw])]
                        clear gw
                        exact hK undef w' ⟨hv.step 15 80 _ (by simp), hq.step 15 80 _ (Below.refl _ _) (by simp), hol.step 15 80 _ (by simp), hlw.step 15 (by omega)⟩
                  · clear hi; intro o ho lz fz w' A hJ hli ha hA K hK
                    obtain ⟨hv, hq, hol, hlw⟩ := hJ
                    obtain rfl := Option.some.inj ho
                    clear ho
                    cases f
                    case true =>
                      simp only [cond_true, cond_false] at hv
                      have hr := hq
                      have g77 := slot_in hA 77 (by decide) (by decide) (hv (12, 77, undef) (by simp) (ha 12 (by simp [aftersOf, Region.binds])))
                      have gw := slot_no g77
                      rw [if_neg (by rcases gw with gw | gw <;> simp [Region.wanted, yielded, gw, undef])]
                      clear gw
                      exact hK undef w' ⟨hv.step 16 81 _ (by simp), hq.step 16 81 _ (Below.refl _ _) (by simp), hol.step 16 81 _ (by simp), hlw.step 16 (by omega)⟩
                    case false =>
                      cases d
                      case true =>
                        simp only [cond_true, cond_false] at hv
                        have hr := hq
                        have g80 := slot_in hA 80 (by decide) (by decide) (hv (15, 80, (.pointer (some ⟨g, j * 4, none⟩))) (by simp) (ha 15 (by simp [aftersOf, Region.binds])))
                        have g77 := slot_in hA 77 (by decide) (by decide) (hv (12, 77, (.bool true)) (by simp) (ha 12 (by simp [aftersOf, Region.binds])))
                        have gg80 := slot_get g80
                        have gg77 := slot_get g77
                        have gw := slot_bool g77
                        rw [if_pos (by simp [Region.wanted, yielded, gw])]
                        clear gw
                        have k0 := (hr.1.cell (p := ⟨g, j * 4, none⟩) hbA').trans A0'
                        have k1 := (hr.1.cell (p := ⟨g, j * 4 + 1, none⟩) hbA').trans A1'
                        have k2 := (hr.1.cell (p := ⟨g, j * 4 + 2, none⟩) hbA').trans A2'
                        have k3 := (hr.1.cell (p := ⟨g, j * 4 + 3, none⟩) hbA').trans A3'
                        have hF := hK (.agg #[.int .i64 p, .int .i64 q, .int .i64 r, .int .i64 t]) w' ⟨hv.step 16 81 _ (by simp), hq.step 16 81 _ (Below.refl _ _) (by simp), hol.step 16 81 _ (by simp), hlw.step 16 (by omega)⟩
                        clear hv hq hr ha hK hA hli hol hlw
                        go_simp
                        exact hF
                      case false =>
                        simp only [cond_true, cond_false] at hv
                        have hr := hq
                        have g77 := slot_in hA 77 (by decide) (by decide) (hv (12, 77, (.bool false)) (by simp) (ha 12 (by simp [aftersOf, Region.binds])))
                        have gg77 := slot_get g77
                        have gw := slot_bool g77
                        rw [if_neg (by simp [Region.wanted, yielded, gw])]
                        clear gw
                        exact hK undef w' ⟨hv.step 16 81 _ (by simp), hq.step 16 81 _ (Below.refl _ _) (by simp), hol.step 16 81 _ (by simp), hlw.step 16 (by omega)⟩
                  · clear hi; intro o ho lz fz w' A hJ hli ha hA K hK
                    obtain ⟨hv, hq, hol, hlw⟩ := hJ
                    obtain rfl := Option.some.inj ho
                    clear ho
                    cases f
                    case true =>
                      simp only [cond_true, cond_false] at hv
                      have hr := hq
                      have g77 := slot_in hA 77 (by decide) (by decide) (hv (12, 77, undef) (by simp) (ha 12 (by simp [aftersOf, Region.binds])))
                      have gw := slot_no g77
                      rw [if_neg (by rcases gw with gw | gw <;> simp [Region.wanted, yielded, gw, undef])]
                      clear gw
                      exact hK undef w' ⟨hv.step 17 82 _ (by simp), hq.step 17 82 _ (Below.refl _ _) (by simp), hol.step 17 82 _ (by simp), hlw.step 17 (by omega)⟩
                    case false =>
                      cases d
                      case true =>
                        simp only [cond_true, cond_false] at hv
                        have hr := hq
                        have g3 := slot_out hA 3 _ (by decide) (by decide) rfl
                        simp only [List.getD_cons_succ, List.getD_cons_zero] at g3
                        have g77 := slot_in hA 77 (by decide) (by decide) (hv (12, 77, (.bool true)) (by simp) (ha 12 (by simp [aftersOf, Region.binds])))
                        have gg3 := slot_get g3
                        have gg77 := slot_get g77
                        have gw := slot_bool g77
                        rw [if_pos (by simp [Region.wanted, yielded, gw])]
                        clear gw
                        have hF := hK (.slice (some ⟨g, 0, none⟩) n c) w' ⟨hv.step 17 82 _ (by simp), hq.step 17 82 _ (Below.refl _ _) (by simp), hol.step 17 82 _ (by simp), hlw.step 17 (by omega)⟩
                        clear hv hq hr ha hK hA hli hol hlw
                        go_simp
                        exact hF
                      case false =>
                        simp only [cond_true, cond_false] at hv
                        have hr := hq
                        have g77 := slot_in hA 77 (by decide) (by decide) (hv (12, 77, (.bool false)) (by simp) (ha 12 (by simp [aftersOf, Region.binds])))
                        have gg77 := slot_get g77
                        have gw := slot_bool g77
                        rw [if_neg (by simp [Region.wanted, yielded, gw])]
                        clear gw
                        exact hK undef w' ⟨hv.step 17 82 _ (by simp), hq.step 17 82 _ (Below.refl _ _) (by simp), hol.step 17 82 _ (by simp), hlw.step 17 (by omega)⟩
                  · clear hi; intro o ho lz fz w' A hJ hli ha hA K hK
                    obtain ⟨hv, hq, hol, hlw⟩ := hJ
                    obtain rfl := Option.some.inj ho
                    clear ho
                    cases f
                    case true =>
                      simp only [cond_true, cond_false] at hv
                      have hr := hq
                      have g77 := slot_in hA 77 (by decide) (by decide) (hv (12, 77, undef) (by simp) (ha 12 (by simp [aftersOf, Region.binds])))
                      have gw := slot_no g77
                      rw [if_neg (by rcases gw with gw | gw <;> simp [Region.wanted, yielded, gw, undef])]
                      clear gw
                      exact hK undef w' ⟨hv.step 18 83 _ (by simp), hq.step 18 83 _ (Below.refl _ _) (by simp), hol.step 18 83 _ (by simp), hlw.step 18 (by omega)⟩
                    case false =>
                      cases d
                      case true =>
                        simp only [cond_true, cond_false] at hv
                        have hr := hq
                        have g5 := slot_out hA 5 _ (by decide) (by decide) rfl
                        simp only [List.getD_cons_succ, List.getD_cons_zero] at g5
                        have g77 := slot_in hA 77 (by decide) (by decide) (hv (12, 77, (.bool true)) (by simp) (ha 12 (by simp [aftersOf, Region.binds])))
                        have gg5 := slot_get g5
                        have gg77 := slot_get g77
                        have gw := slot_bool g77
                        rw [if_pos (by simp [Region.wanted, yielded, gw])]
                        clear gw
                        have hF := hK (.int .i64 (k : Int)) w' ⟨hv.step 18 83 _ (by simp), hq.step 18 83 _ (Below.refl _ _) (by simp), hol.step 18 83 _ (by simp), hlw.step 18 (by omega)⟩
                        clear hv hq hr ha hK hA hli hol hlw
                        go_simp
                        exact hF
                      case false =>
                        simp only [cond_true, cond_false] at hv
                        have hr := hq
                        have g77 := slot_in hA 77 (by decide) (by decide) (hv (12, 77, (.bool false)) (by simp) (ha 12 (by simp [aftersOf, Region.binds])))
                        have gg77 := slot_get g77
                        have gw := slot_bool g77
                        rw [if_neg (by simp [Region.wanted, yielded, gw])]
                        clear gw
                        exact hK undef w' ⟨hv.step 18 83 _ (by simp), hq.step 18 83 _ (Below.refl _ _) (by simp), hol.step 18 83 _ (by simp), hlw.step 18 (by omega)⟩
                  · clear hi; intro o ho lz fz w' A hJ hli ha hA K hK
                    obtain ⟨hv, hq, hol, hlw⟩ := hJ
                    obtain rfl := Option.some.inj ho
                    clear ho
                    cases f
                    case true =>
                      simp only [cond_true, cond_false] at hv
                      have hr := hq
                      have g77 := slot_in hA 77 (by decide) (by decide) (hv (12, 77, undef) (by simp) (ha 12 (by simp [aftersOf, Region.binds])))
                      have gw := slot_no g77
                      rw [if_neg (by rcases gw with gw | gw <;> simp [Region.wanted, yielded, gw, undef])]
                      clear gw
                      exact hK undef w' ⟨hv.step 19 84 _ (by simp), hq.step 19 84 _ (Below.refl _ _) (by simp), hol.step 19 84 _ (by simp), hlw.step 19 (by omega)⟩
                    case false =>
                      cases d
                      case true =>
                        simp only [cond_true, cond_false] at hv
                        have hr := hq
                        have g82 := slot_in hA 82 (by decide) (by decide) (hv (17, 82, (.slice (some ⟨g, 0, none⟩) n c)) (by simp) (ha 17 (by simp [aftersOf, Region.binds])))
                        have g83 := slot_in hA 83 (by decide) (by decide) (hv (18, 83, (.int .i64 (k : Int))) (by simp) (ha 18 (by simp [aftersOf, Region.binds])))
                        have g77 := slot_in hA 77 (by decide) (by decide) (hv (12, 77, (.bool true)) (by simp) (ha 12 (by simp [aftersOf, Region.binds])))
                        have gg82 := slot_get g82
                        have gg83 := slot_get g83
                        have gg77 := slot_get g77
                        have gw := slot_bool g77
                        rw [if_pos (by simp [Region.wanted, yielded, gw])]
                        clear gw
                        have hF := hK (.pointer (some ⟨g, k * 4, none⟩)) w' ⟨hv.step 19 84 _ (by simp), hq.step 19 84 _ (Below.refl _ _) (by simp), hol.step 19 84 _ (by simp), hlw.step 19 (by omega)⟩
                        clear hv hq hr ha hK hA hli hol hlw
                        go_simp
                        exact hF
                      case false =>
                        simp only [cond_true, cond_false] at hv
                        have hr := hq
                        have g77 := slot_in hA 77 (by decide) (by decide) (hv (12, 77, (.bool false)) (by simp) (ha 12 (by simp [aftersOf, Region.binds])))
                        have gg77 := slot_get g77
                        have gw := slot_bool g77
                        rw [if_neg (by simp [Region.wanted, yielded, gw])]
                        clear gw
                        exact hK undef w' ⟨hv.step 19 84 _ (by simp), hq.step 19 84 _ (Below.refl _ _) (by simp), hol.step 19 84 _ (by simp), hlw.step 19 (by omega)⟩
                  · clear hi; intro o ho lz fz w' A hJ hli ha hA K hK
                    obtain ⟨hv, hq, hol, hlw⟩ := hJ
                    obtain rfl := Option.some.inj ho
                    clear ho
                    cases f
                    case true =>
                      simp only [cond_true, cond_false] at hv
                      have hr := hq
                      have g77 := slot_in hA 77 (by decide) (by decide) (hv (12, 77, undef) (by simp) (ha 12 (by simp [aftersOf, Region.binds])))
                      have gw := slot_no g77
                      rw [if_neg (by rcases gw with gw | gw <;> simp [Region.wanted, yielded, gw, undef])]
                      clear gw
                      exact hK undef w' ⟨hv.step 20 85 _ (by simp), hq.step 20 85 _ (Below.refl _ _) (by simp), hol.step 20 85 _ (by simp), hlw.step 20 (by omega)⟩
                    case false =>
                      cases d
                      case true =>
                        simp only [cond_true, cond_false] at hv
                        have hr := hq
                        have g84 := slot_in hA 84 (by decide) (by decide) (hv (19, 84, (.pointer (some ⟨g, k * 4, none⟩))) (by simp) (ha 19 (by simp [aftersOf, Region.binds])))
                        have g77 := slot_in hA 77 (by decide) (by decide) (hv (12, 77, (.bool true)) (by simp) (ha 12 (by simp [aftersOf, Region.binds])))
                        have gg84 := slot_get g84
                        have gg77 := slot_get g77
                        have gw := slot_bool g77
                        rw [if_pos (by simp [Region.wanted, yielded, gw])]
                        clear gw
                        have k0 := (hr.1.cell (p := ⟨g, k * 4, none⟩) hbA').trans B0'
                        have k1 := (hr.1.cell (p := ⟨g, k * 4 + 1, none⟩) hbA').trans B1'
                        have k2 := (hr.1.cell (p := ⟨g, k * 4 + 2, none⟩) hbA').trans B2'
                        have k3 := (hr.1.cell (p := ⟨g, k * 4 + 3, none⟩) hbA').trans B3'
                        have hF := hK (.agg #[.int .i64 p2, .int .i64 q2, .int .i64 r2, .int .i64 t2]) w' ⟨hv.step 20 85 _ (by simp), hq.step 20 85 _ (Below.refl _ _) (by simp), hol.step 20 85 _ (by simp), hlw.step 20 (by omega)⟩
                        clear hv hq hr ha hK hA hli hol hlw
                        go_simp
                        exact hF
                      case false =>
                        simp only [cond_true, cond_false] at hv
                        have hr := hq
                        have g77 := slot_in hA 77 (by decide) (by decide) (hv (12, 77, (.bool false)) (by simp) (ha 12 (by simp [aftersOf, Region.binds])))
                        have gg77 := slot_get g77
                        have gw := slot_bool g77
                        rw [if_neg (by simp [Region.wanted, yielded, gw])]
                        clear gw
                        exact hK undef w' ⟨hv.step 20 85 _ (by simp), hq.step 20 85 _ (Below.refl _ _) (by simp), hol.step 20 85 _ (by simp), hlw.step 20 (by omega)⟩
                  · clear hi; intro o ho lz fz w' A hJ hli ha hA K hK
                    obtain ⟨hv, hq, hol, hlw⟩ := hJ
                    obtain rfl := Option.some.inj ho
                    clear ho
                    cases f
                    case true =>
                      simp only [cond_true, cond_false] at hv
                      have hr := hq
                      have g77 := slot_in hA 77 (by decide) (by decide) (hv (12, 77, undef) (by simp) (ha 12 (by simp [aftersOf, Region.binds])))
                      have gw := slot_no g77
                      rw [if_neg (by rcases gw with gw | gw <;> simp [Region.wanted, yielded, gw, undef])]
                      clear gw
                      exact hK undef w' ⟨hv.step 21 86 _ (by simp), hq.step 21 86 _ (Below.refl _ _) (by simp), hol.step 21 86 _ (by simp), hlw.step 21 (by omega)⟩
                    case false =>
                      cases d
                      case true =>
                        simp only [cond_true, cond_false] at hv
                        have hr := hq
                        have g81 := slot_in hA 81 (by decide) (by decide) (hv (16, 81, (.agg #[.int .i64 p, .int .i64 q, .int .i64 r, .int .i64 t])) (by simp) (ha 16 (by simp [aftersOf, Region.binds])))
                        have g85 := slot_in hA 85 (by decide) (by decide) (hv (20, 85, (.agg #[.int .i64 p2, .int .i64 q2, .int .i64 r2, .int .i64 t2])) (by simp) (ha 20 (by simp [aftersOf, Region.binds])))
                        have g77 := slot_in hA 77 (by decide) (by decide) (hv (12, 77, (.bool true)) (by simp) (ha 12 (by simp [aftersOf, Region.binds])))
                        have gg81 := slot_get g81
                        have gg85 := slot_get g85
                        have gg77 := slot_get g77
                        have gw := slot_bool g77
                        rw [if_pos (by simp [Region.wanted, yielded, gw])]
                        clear gw
                        clear hA
                        go_simp
                        refine (conflict_impl p q r t p2 q2 r2 t2 _).mono ?_
                        rintro e w9 ⟨rfl, hb9⟩
                        rw [HU.out]
                        exact hK (.bool u) w9 ⟨hv.step 21 86 _ (by simp), hq.step 21 86 _ hb9 (by simp), hol.step 21 86 _ (by simp), hlw.step 21 (by omega)⟩
                      case false =>
                        simp only [cond_true, cond_false] at hv
                        have hr := hq
                        have g77 := slot_in hA 77 (by decide) (by decide) (hv (12, 77, (.bool false)) (by simp) (ha 12 (by simp [aftersOf, Region.binds])))
                        have gg77 := slot_get g77
                        have gw := slot_bool g77
                        rw [if_neg (by simp [Region.wanted, yielded, gw])]
                        clear gw
                        exact hK undef w' ⟨hv.step 21 86 _ (by simp), hq.step 21 86 _ (Below.refl _ _) (by simp), hol.step 21 86 _ (by simp), hlw.step 21 (by omega)⟩
                  · clear hi; intro o ho lz fz w' A hJ hli ha hA K hK
                    obtain ⟨hv, hq, hol, hlw⟩ := hJ
                    obtain rfl := Option.some.inj ho
                    clear ho
                    cases f
                    case true =>
                      simp only [cond_true, cond_false] at hv
                      have hr := hq
                      have g66 := slot_in hA 66 (by decide) (by decide) (hv (1, 66, (.bool true)) (by simp) (ha 1 (by simp [aftersOf, Region.binds])))
                      have gg66 := slot_get g66
                      have gw := slot_bool g66
                      rw [if_neg (by simp [Region.wanted, yielded, gw])]
                      clear gw
                      exact hK undef w' ⟨hv.step 22 87 _ (by simp), hq.step 22 87 _ (Below.refl _ _) (by simp), hol.step 22 87 _ (by simp), hlw.step 22 (by omega)⟩
                    case false =>
                      cases d
                      case true =>
                        simp only [cond_true, cond_false] at hv
                        have hr := hq
                        have g77 := slot_in hA 77 (by decide) (by decide) (hv (12, 77, (.bool true)) (by simp) (ha 12 (by simp [aftersOf, Region.binds])))
                        have g86 := slot_in hA 86 (by decide) (by decide) (hv (21, 86, (.bool u)) (by simp) (ha 21 (by simp [aftersOf, Region.binds])))
                        have g66 := slot_in hA 66 (by decide) (by decide) (hv (1, 66, (.bool false)) (by simp) (ha 1 (by simp [aftersOf, Region.binds])))
                        have gg77 := slot_get g77
                        have gg86 := slot_get g86
                        have gg66 := slot_get g66
                        have gw := slot_bool g66
                        rw [if_pos (by simp [Region.wanted, yielded, gw])]
                        clear gw
                        have hF := hK (.bool u) w' ⟨hv.step 22 87 _ (by simp), hq.step 22 87 _ (Below.refl _ _) (by simp), hol.step 22 87 _ (by simp), hlw.step 22 (by omega)⟩
                        clear hv hq hr ha hK hA hli hol hlw
                        go_simp
                        exact hF
                      case false =>
                        simp only [cond_true, cond_false] at hv
                        have hr := hq
                        have g77 := slot_in hA 77 (by decide) (by decide) (hv (12, 77, (.bool false)) (by simp) (ha 12 (by simp [aftersOf, Region.binds])))
                        have g66 := slot_in hA 66 (by decide) (by decide) (hv (1, 66, (.bool false)) (by simp) (ha 1 (by simp [aftersOf, Region.binds])))
                        have gg77 := slot_get g77
                        have gg66 := slot_get g66
                        have gw := slot_bool g66
                        rw [if_pos (by simp [Region.wanted, yielded, gw])]
                        clear gw
                        have hF := hK (.bool false) w' ⟨hv.step 22 87 _ (by simp), hq.step 22 87 _ (Below.refl _ _) (by simp), hol.step 22 87 _ (by simp), hlw.step 22 (by omega)⟩
                        clear hv hq hr ha hK hA hli hol hlw
                        go_simp
                        exact hF
                  · clear hi; intro o ho lz fz w' A hJ hli ha hA K hK
                    obtain ⟨hv, hq, hol, hlw⟩ := hJ
                    obtain rfl := Option.some.inj ho
                    clear ho
                    cases f
                    case true =>
                      simp only [cond_true, cond_false] at hv
                      have hr := hq
                      have g66 := slot_in hA 66 (by decide) (by decide) (hv (1, 66, (.bool true)) (by simp) (ha 1 (by simp [aftersOf, Region.binds])))
                      have gg66 := slot_get g66
                      rw [if_pos (by rfl)]
                      have hF := hK (.bool true) w' ⟨hv.step 23 88 _ (by simp), hq.step 23 88 _ (Below.refl _ _) (by simp), hol.step 23 88 _ (by simp), hlw.step 23 (by omega)⟩
                      clear hv hq hr ha hK hA hli hol hlw
                      go_simp
                      exact hF
                    case false =>
                      cases d
                      case true =>
                        simp only [cond_true, cond_false] at hv
                        have hr := hq
                        have g66 := slot_in hA 66 (by decide) (by decide) (hv (1, 66, (.bool false)) (by simp) (ha 1 (by simp [aftersOf, Region.binds])))
                        have g87 := slot_in hA 87 (by decide) (by decide) (hv (22, 87, (.bool u)) (by simp) (ha 22 (by simp [aftersOf, Region.binds])))
                        have gg66 := slot_get g66
                        have gg87 := slot_get g87
                        rw [if_pos (by rfl)]
                        have hF := hK (.bool u) w' ⟨hv.step 23 88 _ (by simp), hq.step 23 88 _ (Below.refl _ _) (by simp), hol.step 23 88 _ (by simp), hlw.step 23 (by omega)⟩
                        clear hv hq hr ha hK hA hli hol hlw
                        go_simp
                        exact hF
                      case false =>
                        simp only [cond_true, cond_false] at hv
                        have hr := hq
                        have g66 := slot_in hA 66 (by decide) (by decide) (hv (1, 66, (.bool false)) (by simp) (ha 1 (by simp [aftersOf, Region.binds])))
                        have g87 := slot_in hA 87 (by decide) (by decide) (hv (22, 87, (.bool false)) (by simp) (ha 22 (by simp [aftersOf, Region.binds])))
                        have gg66 := slot_get g66
                        have gg87 := slot_get g87
                        rw [if_pos (by rfl)]
                        have hF := hK (.bool false) w' ⟨hv.step 23 88 _ (by simp), hq.step 23 88 _ (Below.refl _ _) (by simp), hol.step 23 88 _ (by simp), hlw.step 23 (by omega)⟩
                        clear hv hq hr ha hK hA hli hol hlw
                        go_simp
                        exact hF
                  · clear hi; intro o ho lz fz w' A hJ hli ha hA K hK
                    obtain ⟨hv, hq, hol, hlw⟩ := hJ
                    obtain rfl := Option.some.inj ho
                    clear ho
                    cases f
                    case true =>
                      simp only [cond_true, cond_false] at hv
                      have hr := hq
                      have g88 := slot_in hA 88 (by decide) (by decide) (hv (23, 88, (.bool true)) (by simp) (ha 23 (by simp [aftersOf, Region.binds])))
                      have gg88 := slot_get g88
                      rw [if_pos (by rfl)]
                      have hF := hK (.bool true) w' ⟨hv.step 24 6 _ (by simp), hq.step 24 6 _ (Below.refl _ _) (by simp), hol.step 24 6 _ (by simp), LastW.last (fun k hk => ha k (by have hk2 : k < 24 := hk; (rcases (by omega : k = 0 ∨ k = 1 ∨ k = 2 ∨ k = 3 ∨ k = 4 ∨ k = 5 ∨ k = 6 ∨ k = 7 ∨ k = 8 ∨ k = 9 ∨ k = 10 ∨ k = 11 ∨ k = 12 ∨ k = 13 ∨ k = 14 ∨ k = 15 ∨ k = 16 ∨ k = 17 ∨ k = 18 ∨ k = 19 ∨ k = 20 ∨ k = 21 ∨ k = 22 ∨ k = 23) with rfl | rfl | rfl | rfl | rfl | rfl | rfl | rfl | rfl | rfl | rfl | rfl | rfl | rfl | rfl | rfl | rfl | rfl | rfl | rfl | rfl | rfl | rfl | rfl) <;> simp [aftersOf, Region.binds]))⟩
                      clear hv hq hr ha hK hA hli hol hlw
                      go_simp
                      exact hF
                    case false =>
                      cases d
                      case true =>
                        simp only [cond_true, cond_false] at hv
                        have hr := hq
                        have g88 := slot_in hA 88 (by decide) (by decide) (hv (23, 88, (.bool u)) (by simp) (ha 23 (by simp [aftersOf, Region.binds])))
                        have gg88 := slot_get g88
                        rw [if_pos (by rfl)]
                        have hF := hK (.bool u) w' ⟨hv.step 24 6 _ (by simp), hq.step 24 6 _ (Below.refl _ _) (by simp), hol.step 24 6 _ (by simp), LastW.last (fun k hk => ha k (by have hk2 : k < 24 := hk; (rcases (by omega : k = 0 ∨ k = 1 ∨ k = 2 ∨ k = 3 ∨ k = 4 ∨ k = 5 ∨ k = 6 ∨ k = 7 ∨ k = 8 ∨ k = 9 ∨ k = 10 ∨ k = 11 ∨ k = 12 ∨ k = 13 ∨ k = 14 ∨ k = 15 ∨ k = 16 ∨ k = 17 ∨ k = 18 ∨ k = 19 ∨ k = 20 ∨ k = 21 ∨ k = 22 ∨ k = 23) with rfl | rfl | rfl | rfl | rfl | rfl | rfl | rfl | rfl | rfl | rfl | rfl | rfl | rfl | rfl | rfl | rfl | rfl | rfl | rfl | rfl | rfl | rfl | rfl) <;> simp [aftersOf, Region.binds]))⟩
                        clear hv hq hr ha hK hA hli hol hlw
                        go_simp
                        exact hF
                      case false =>
                        simp only [cond_true, cond_false] at hv
                        have hr := hq
                        have g88 := slot_in hA 88 (by decide) (by decide) (hv (23, 88, (.bool false)) (by simp) (ha 23 (by simp [aftersOf, Region.binds])))
                        have gg88 := slot_get g88
                        rw [if_pos (by rfl)]
                        have hF := hK (.bool false) w' ⟨hv.step 24 6 _ (by simp), hq.step 24 6 _ (Below.refl _ _) (by simp), hol.step 24 6 _ (by simp), LastW.last (fun k hk => ha k (by have hk2 : k < 24 := hk; (rcases (by omega : k = 0 ∨ k = 1 ∨ k = 2 ∨ k = 3 ∨ k = 4 ∨ k = 5 ∨ k = 6 ∨ k = 7 ∨ k = 8 ∨ k = 9 ∨ k = 10 ∨ k = 11 ∨ k = 12 ∨ k = 13 ∨ k = 14 ∨ k = 15 ∨ k = 16 ∨ k = 17 ∨ k = 18 ∨ k = 19 ∨ k = 20 ∨ k = 21 ∨ k = 22 ∨ k = 23) with rfl | rfl | rfl | rfl | rfl | rfl | rfl | rfl | rfl | rfl | rfl | rfl | rfl | rfl | rfl | rfl | rfl | rfl | rfl | rfl | rfl | rfl | rfl | rfl) <;> simp [aftersOf, Region.binds]))⟩
                        clear hv hq hr ha hK hA hli hol hlw
                        go_simp
                        exact hF
                · intro lz fz w7 hall hJ
                  obtain ⟨hv, hq, -⟩ := hJ
                  have hbR := hq.1
                  have h6 : fz 6 = .bool (f || (d && u)) := by
                    clear hq hbR
                    cases f
                    case true =>
                      exact hv (24, 6, (.bool true)) (by simp) (hall 24 (by decide))
                    case false =>
                      cases d
                      case true =>
                        exact hv (24, 6, (.bool u)) (by simp) (hall 24 (by decide))
                      case false =>
                        exact hv (24, 6, (.bool false)) (by simp) (hall 24 (by decide))
                  clear hv hq hall
                  simp only [mixF, List.contains_cons, List.contains_nil]
                  go_simp
                -- END REGION 18
                  have HB3 := Lib.hid (HB2.out.trans (hbR.mono HB2.out.size))
                  clear hbR
                  go_wp2
                  go_roundw
                  case rel => exact ⟨j + 1, by omega, by go_num, by rw [HFJ.out], HB3.out⟩
                  case measure => simp [intOf]; omega
            · obtain rfl : j = k := by omega
              have hF := HFN.out j hlt
              rw [hF]
              clear hF
              go_wp2
              go_roundw
              case rel => exact ⟨j + 1, by omega, by go_num, hb⟩
              case measure => simp [intOf]; omega
        · obtain rfl : k = n := by omega
          go_wp2
          go_ret
          exact ⟨by simp, HB.out.trans (hb.mono HB.out.size)⟩
  · have hs' : (1048576 : Int) < (len : Int) := by omega
    clear h hlc
    go_enter Try.func4, Try.ntmps4
    go_wp2
    go_ret
    exact ⟨rfl, Below.refl _ _⟩
end Go.Proofs.Ytfhbolpchmdaoaa
