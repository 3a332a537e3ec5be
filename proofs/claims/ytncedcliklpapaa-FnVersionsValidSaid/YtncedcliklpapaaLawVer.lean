/- The walk of the law FnVersionsValid (gen9/lawver.py). -/
import Derived.Test.YtncedcliklpapaaDrawVer2
import Derived.Test.YtncedcliklpapaaVerBase
import Derived.Test.YtncedcliklpapaaSpecVer5
import Derived.Test.YtncedcliklpapaaOne
import Derived.Test.YtncedcliklpapaaRegionTurn
import Derived.Test.YtncedcliklpapaaRegJ
import Derived.Deep.Cut
namespace Go.Proofs.Ytncedcliklpapaa
open Go.RowKit
set_option linter.unusedVariables false
set_option linter.unusedSimpArgs false
theorem versB_drop {L : List Ver} (h : versB L = true) (k : Nat) : versB (L.drop k) = true := (versB_ok _).2 (((versB_ok L).1 h).sub (List.drop_sublist k L))
theorem versB_twice {L : List Ver} (h0 : 0 < L.length) : versB (L ++ [L.getD (L.length - 1) noV]) = false := by
  rw [Bool.eq_false_iff]
  intro h
  have h1 := (versB_ok _).1 h
  have h2 := h1.get (i := L.length - 1) (j := L.length) (by omega) (by simp)
  have e1 : (L ++ [L.getD (L.length - 1) noV]).getD (L.length - 1) noV = L.getD (L.length - 1) noV := by
    rw [List.getD_eq_getElem?_getD, List.getElem?_append_left (by omega), ← List.getD_eq_getElem?_getD]
  have e2 : (L ++ [L.getD (L.length - 1) noV]).getD L.length noV = L.getD (L.length - 1) noV := by
    rw [List.getD_eq_getElem?_getD, List.getElem?_append_right (Nat.le_refl _)]; simp
  rw [e1, e2] at h2
  exact vLt_irrefl h2
theorem sta_owned_slice {w : World} {B : Nat} {e : TypeId} {size n : Nat} {xs : List Value} {x : Value} (h : (Sta.owned B e size n xs).own w x) : ∃ g c, x = .slice (some ⟨g, 0, none⟩) n c ∧ Own w B e size (.slice (some ⟨g, 0, none⟩) n c) n xs := by
  have h' : Own w B e size x n xs := h
  obtain ⟨g, c, e2, -, -⟩ := h'.slice
  subst e2
  exact ⟨g, c, rfl, h'⟩
set_option maxRecDepth 100000 in
set_option maxHeartbeats 8000000 in
theorem lawVersionsValid (a : Option Addr) (len cap : Nat) (z : List Int) (w : World) (h : RowB w a len z) (hc : a = none → cap = 0) (hlc : len ≤ cap) :
    Calls Try.prog 3 #[.slice a len cap] w (LawTrue w) := by
  by_cases hs : len ≤ 1048576
  · have hs' : ¬ (1048576 : Int) < (len : Int) := by omega
    go_enter Try.func3, Try.ntmps3
    go_wp2_with fail
    refine (drawVersionsValid_any a len cap z w h hlc).mono ?_; rintro e w1 ⟨g, c, L, rfl, hr, hcc, hl3, hb1⟩
    clear h hs hs' hc hlc
    obtain ⟨n, hn⟩ : ∃ n, n = L.length := ⟨_, rfl⟩
    have HL := Lib.hid hn.symm
    rw [← hn] at hr hcc hl3 ⊢
    clear hn
    obtain ⟨v, hv⟩ : ∃ v, versB L = v := ⟨_, rfl⟩
    have HV := Lib.hid hv
    have hvv : (v != v) = false := by simp
    clear hv
    go_wp2_with fail
    refine (versionsValid_impl _ n c L _ hr).mono ?_; rintro e w2 ⟨rfl, hb2'⟩
    rw [HV.out]
    have hr2 := hr.below hb2'
    have hb2 := hb1.trans (hb2'.mono hb1.size)
    clear hr hb1 hb2'
    go_wp2_with fail
    refine (versionsValid_spec _ n c L _ hr2).mono ?_; rintro e w0 ⟨rfl, hb3'⟩
    rw [HV.out]
    have hr3 := hr2.below hb3'
    have hb3 := hb2.trans (hb3'.mono hb2.size)
    clear hr2 hb2 hb3'
    cases v with
    | false =>
      clear hr3
      go_wp2_with fail
      refine (alive_any _).mono ?_; rintro e w5 ⟨rfl, hb5'⟩
      go_wp2
      go_ret
      exact ⟨rfl, hb3.trans (hb5'.mono hb3.size)⟩
    | true =>
      by_cases hn0 : 0 < n
      · have hnz : ((n : Int) == 0) = false := by simp; omega
        obtain ⟨m, hm⟩ : ∃ m, m = n / 2 := ⟨_, rfl⟩
        have hq27 : (n : Int).tdiv 2 = (m : Int) := by rw [Int.tdiv_eq_ediv_of_nonneg (by omega)]; omega
        have hmn : m < n := by omega
        have HRD : Hid (RowV w0 (some ⟨g, m * 3, none⟩) (n - m) (L.drop m)) := Lib.hid (by have := hr3.drop m (by omega); simpa only [Nat.zero_add] using this)
        have HDR : Hid (versB (L.drop m) = true) := Lib.hid (versB_drop HV.out m)
        obtain ⟨c0, c1, c2⟩ := hr3.cells (i := n - 1) (by omega)
        have hwl := hr3.bd (n - 1) (by omega)
        have HTW : Hid (versB (L ++ [L.getD (n - 1) noV]) = false) := Lib.hid (by have := versB_twice (L := L) (by rw [HL.out]; exact hn0); rw [HL.out] at this; exact this)
        obtain ⟨x, hx⟩ : ∃ x, x = L.getD (n - 1) noV := ⟨_, rfl⟩
        rw [← hx] at c0 c1 c2 hwl HTW
        clear hx hm
        obtain ⟨p, q, r⟩ := x
        simp only [Nat.zero_add] at c0 c1 c2
        have hgw : g < w0.heap.size := World.block_lt_of_cell? w0 ⟨g, (n - 1) * 3, none⟩ c0
        have HC : Hid (∀ W, Below w0.heap.size w0 W → W.cell? ⟨g, (n - 1) * 3, none⟩ = some (.int .i64 p) ∧ W.cell? ⟨g, (n - 1) * 3 + 1, none⟩ = some (.int .i64 q) ∧ W.cell? ⟨g, (n - 1) * 3 + 2, none⟩ = some (.int .i64 r)) := Lib.hid (fun W hb => ⟨(hb.cell (p := ⟨g, (n - 1) * 3, none⟩) hgw).trans c0, (hb.cell (p := ⟨g, (n - 1) * 3 + 1, none⟩) hgw).trans c1, (hb.cell (p := ⟨g, (n - 1) * 3 + 2, none⟩) hgw).trans c2⟩)
        have HLT : Hid ((L ++ [(⟨p, q, r⟩ : Ver)]).length = n + 1) := Lib.hid (by simp [HL.out])
        have HWT : Hid (WfVs (L ++ [(⟨p, q, r⟩ : Ver)])) := Lib.hid (WfVs.snoc hr3.2.2.2 hwl)
        have HR := Lib.hid hr3
        have HB := Lib.hid hb3
        have k1 : IntKind.i64.wrap ((n : Int) - 1) = (n : Int) - 1 := IntWalk.i64_in _ (by omega)
        have k2 : (1 : Int) ≤ (n : Int) := by omega
        have k3 : (n : Int) - 1 < (n : Int) := by omega
        have k4 : ((n : Int) - 1).toNat = n - 1 := by omega
        have k5 : (0 : Int) ≤ (m : Int) := by omega
        have k6 : (m : Int) ≤ (n : Int) := by omega
        have k7 : (n : Int) ≤ (c : Int) := by omega
        have k8 : (m : Int) ≤ (c : Int) := by omega
        have k11 : IntKind.i64.wrap (m : Int) = (m : Int) := IntWalk.i64_in _ (by omega)
        have k9 : ¬ c = m := by omega
        have k10 : ¬ m = c := by omega
        clear c0 c1 c2 hwl hr3 hb3 hvv
        go_wp2_with fail
        go_upto_region 9 with (fail)
        -- REGION
        refine wp_region_light (by kernel_rfl) (fun lz fz wz => Vals [(0, 24, (.slice (some ⟨g, 0, none⟩) n c)), (1, 25, (.slice (some ⟨g, 0, none⟩) n c)), (2, 26, (.int .i64 (n : Int))), (3, 27, (.int .i64 (m : Int))), (4, 28, (.slice (some ⟨g, m * 3, none⟩) (n - m) (c - m))), (5, 29, (.bool true)), (6, 30, (.bool true)), (8, 32, (.slice (some ⟨g, 0, none⟩) n c)), (10, 34, (.slice (some ⟨g, 0, none⟩) n c)), (11, 35, (.slice (some ⟨g, 0, none⟩) n c)), (12, 36, (.int .i64 (n : Int))), (13, 37, (.int .i64 ((n : Int) - 1))), (14, 38, (.pointer (some ⟨g, (n - 1) * 3, none⟩))), (15, 39, (.agg #[.int .i64 p, .int .i64 q, .int .i64 r])), (18, 42, (.bool false)), (19, 43, (.bool true)), (20, 44, (.bool true)), (21, 2, (.bool true))] lz fz ∧ Facts2 w0 [(7, 31, Sta.none0), (9, 33, (Sta.owned w0.heap.size 28 3 n (flatV L))), (16, 40, (Sta.one [.int .i64 p, .int .i64 q, .int .i64 r]))] 17 41 [9, 16] (Sta.owned w0.heap.size 28 3 (n + 1) (flatV L ++ [.int .i64 p, .int .i64 q, .int .i64 r])) lz fz wz) 45 rfl [24, 25, 26, 27, 28, 29, 30, 31, 32, 33, 34, 35, 36, 37, 38, 39, 40, 41, 42, 43, 44, 2] (by kernel_rfl) (by kernel_rfl) (by kernel_rfl) (fun f => ⟨Vals.nothing _ f, Facts2.nothing _ _ _ _ _ _ f⟩) ?_ ?_
        · intro i hi
          rcases (by have : i < 22 := hi; omega : i = 0 ∨ i = 1 ∨ i = 2 ∨ i = 3 ∨ i = 4 ∨ i = 5 ∨ i = 6 ∨ i = 7 ∨ i = 8 ∨ i = 9 ∨ i = 10 ∨ i = 11 ∨ i = 12 ∨ i = 13 ∨ i = 14 ∨ i = 15 ∨ i = 16 ∨ i = 17 ∨ i = 18 ∨ i = 19 ∨ i = 20 ∨ i = 21) with rfl | rfl | rfl | rfl | rfl | rfl | rfl | rfl | rfl | rfl | rfl | rfl | rfl | rfl | rfl | rfl | rfl | rfl | rfl | rfl | rfl | rfl
          · clear hi; intro o ho lz fz w' A hJ hli ha hA K hK
            obtain ⟨hv, hq⟩ := hJ
            obtain rfl := Option.some.inj ho
            clear ho
            have g3 := slot_out hA 3 _ (by decide) (by decide) rfl
            simp only [List.getD_cons_succ, List.getD_cons_zero] at g3
            have gg3 := slot_get g3
            rw [if_pos (by rfl)]
            have hF := hK (.slice (some ⟨g, 0, none⟩) n c) w' ⟨hv.step 0 24 _ (by simp), hq.step 0 24 _ (Below.refl _ _) (by simp)⟩
            clear hv hq ha hK hA hli
            go_simp
            exact hF
          · clear hi; intro o ho lz fz w' A hJ hli ha hA K hK
            obtain ⟨hv, hq⟩ := hJ
            obtain rfl := Option.some.inj ho
            clear ho
            have g3 := slot_out hA 3 _ (by decide) (by decide) rfl
            simp only [List.getD_cons_succ, List.getD_cons_zero] at g3
            have gg3 := slot_get g3
            rw [if_pos (by rfl)]
            have hF := hK (.slice (some ⟨g, 0, none⟩) n c) w' ⟨hv.step 1 25 _ (by simp), hq.step 1 25 _ (Below.refl _ _) (by simp)⟩
            clear hv hq ha hK hA hli
            go_simp
            exact hF
          · clear hi; intro o ho lz fz w' A hJ hli ha hA K hK
            obtain ⟨hv, hq⟩ := hJ
            obtain rfl := Option.some.inj ho
            clear ho
            have g25 := slot_in hA 25 (by decide) (by decide) (hv (1, 25, (.slice (some ⟨g, 0, none⟩) n c)) (by simp) (ha 1 (by simp [aftersOf, Region.binds])))
            have gg25 := slot_get g25
            rw [if_pos (by rfl)]
            have hF := hK (.int .i64 (n : Int)) w' ⟨hv.step 2 26 _ (by simp), hq.step 2 26 _ (Below.refl _ _) (by simp)⟩
            clear hv hq ha hK hA hli
            go_simp
            exact hF
          · clear hi; intro o ho lz fz w' A hJ hli ha hA K hK
            obtain ⟨hv, hq⟩ := hJ
            obtain rfl := Option.some.inj ho
            clear ho
            have g26 := slot_in hA 26 (by decide) (by decide) (hv (2, 26, (.int .i64 (n : Int))) (by simp) (ha 2 (by simp [aftersOf, Region.binds])))
            have gg26 := slot_get g26
            rw [if_pos (by rfl)]
            have hF := hK (.int .i64 (m : Int)) w' ⟨hv.step 3 27 _ (by simp), hq.step 3 27 _ (Below.refl _ _) (by simp)⟩
            clear hv hq ha hK hA hli
            go_simp
            exact hF
          · clear hi; intro o ho lz fz w' A hJ hli ha hA K hK
            obtain ⟨hv, hq⟩ := hJ
            obtain rfl := Option.some.inj ho
            clear ho
            have g24 := slot_in hA 24 (by decide) (by decide) (hv (0, 24, (.slice (some ⟨g, 0, none⟩) n c)) (by simp) (ha 0 (by simp [aftersOf, Region.binds])))
            have g27 := slot_in hA 27 (by decide) (by decide) (hv (3, 27, (.int .i64 (m : Int))) (by simp) (ha 3 (by simp [aftersOf, Region.binds])))
            have gg24 := slot_get g24
            have gg27 := slot_get g27
            rw [if_pos (by rfl)]
            have hF := hK (.slice (some ⟨g, m * 3, none⟩) (n - m) (c - m)) w' ⟨hv.step 4 28 _ (by simp), hq.step 4 28 _ (Below.refl _ _) (by simp)⟩
            clear hv hq ha hK hA hli
            go_simp
            exact hF
          · clear hi; intro o ho lz fz w' A hJ hli ha hA K hK
            obtain ⟨hv, hq⟩ := hJ
            obtain rfl := Option.some.inj ho
            clear ho
            have g28 := slot_in hA 28 (by decide) (by decide) (hv (4, 28, (.slice (some ⟨g, m * 3, none⟩) (n - m) (c - m))) (by simp) (ha 4 (by simp [aftersOf, Region.binds])))
            have gg28 := slot_get g28
            rw [if_pos (by rfl)]
            clear hA
            go_simp
            refine (versionsValid_impl _ _ _ (L.drop m) _ (HRD.out.below hq.1)).mono ?_
            rintro e w9 ⟨rfl, hb9⟩
            rw [HDR.out]
            exact hK (.bool true) w9 ⟨hv.step 5 29 _ (by simp), hq.step 5 29 _ hb9 (by simp)⟩
          · clear hi; intro o ho lz fz w' A hJ hli ha hA K hK
            obtain ⟨hv, hq⟩ := hJ
            obtain rfl := Option.some.inj ho
            clear ho
            have g29 := slot_in hA 29 (by decide) (by decide) (hv (5, 29, (.bool true)) (by simp) (ha 5 (by simp [aftersOf, Region.binds])))
            have gg29 := slot_get g29
            rw [if_pos (by rfl)]
            have hF := hK (.bool true) w' ⟨hv.step 6 30 _ (by simp), hq.step 6 30 _ (Below.refl _ _) (by simp)⟩
            clear hv hq ha hK hA hli
            go_simp
            exact hF
          · clear hi; intro o ho lz fz w' A hJ hli ha hA K hK
            obtain ⟨hv, hq⟩ := hJ
            obtain rfl := Option.some.inj ho
            clear ho
            have g30 := slot_in hA 30 (by decide) (by decide) (hv (6, 30, (.bool true)) (by simp) (ha 6 (by simp [aftersOf, Region.binds])))
            have gg30 := slot_get g30
            have gw := slot_bool g30
            rw [if_pos (by simp [Region.wanted, yielded, gw])]
            clear gw
            go_simp
            have hb9 := (Below.refl w'.heap.size w').alloc (Nat.le_refl _) (.cells #[] 28)
            exact hK _ _ ⟨hv.step 7 31 _ (by simp), hq.step 7 31 _ hb9 (by simp; exact ⟨_, rfl⟩)⟩
          · clear hi; intro o ho lz fz w' A hJ hli ha hA K hK
            obtain ⟨hv, hq⟩ := hJ
            obtain rfl := Option.some.inj ho
            clear ho
            have g3 := slot_out hA 3 _ (by decide) (by decide) rfl
            simp only [List.getD_cons_succ, List.getD_cons_zero] at g3
            have g30 := slot_in hA 30 (by decide) (by decide) (hv (6, 30, (.bool true)) (by simp) (ha 6 (by simp [aftersOf, Region.binds])))
            have gg3 := slot_get g3
            have gg30 := slot_get g30
            have gw := slot_bool g30
            rw [if_pos (by simp [Region.wanted, yielded, gw])]
            clear gw
            have hF := hK (.slice (some ⟨g, 0, none⟩) n c) w' ⟨hv.step 8 32 _ (by simp), hq.step 8 32 _ (Below.refl _ _) (by simp)⟩
            clear hv hq ha hK hA hli
            go_simp
            exact hF
          · clear hi; intro o ho lz fz w' A hJ hli ha hA K hK
            obtain ⟨hv, hq⟩ := hJ
            obtain rfl := Option.some.inj ho
            clear ho
            have hr := hq.now (i := 9) (by decide) hli
            have r31 := hr.2 (7, 31, Sta.none0) (by simp) (ha 7 (by simp [aftersOf, Region.binds]))
            have g31 : A.tmps.getD 31 undef = fz 31 := slot_in hA 31 (by decide) (by decide) rfl
            have g32 := slot_in hA 32 (by decide) (by decide) (hv (8, 32, (.slice (some ⟨g, 0, none⟩) n c)) (by simp) (ha 8 (by simp [aftersOf, Region.binds])))
            have g30 := slot_in hA 30 (by decide) (by decide) (hv (6, 30, (.bool true)) (by simp) (ha 6 (by simp [aftersOf, Region.binds])))
            have gg31 := slot_get g31
            have gg32 := slot_get g32
            have gg30 := slot_get g30
            have gw := slot_bool g30
            rw [if_pos (by simp [Region.wanted, yielded, gw])]
            clear gw
            refine wp_append_none0 (.tmp 31) (.tmp 32) 23 rfl 28 (.agg #[.int .i64 0, .int .i64 0, .int .i64 0]) 3 24 Try.underlying23 infoVer rfl (by decide) (by rw [slot_eval g31]; exact r31) ⟨g, 0, none⟩ n c (by rw [slot_eval g32]) hn0 (flatV L) (by rw [flatV_len, HL.out]) ((HR.out.below hq.1).news _ rfl) (by omega) (by decide) ?_
            intro v9 w9 ho9 hb9
            have hs9 : (Sta.owned w0.heap.size 28 3 n (flatV L)).own w9 v9 := ho9.mono hq.1.size
            exact hK v9 w9 ⟨hv.step 9 33 _ (by simp), hq.step 9 33 _ hb9 (by simp; exact hs9)⟩
          · clear hi; intro o ho lz fz w' A hJ hli ha hA K hK
            obtain ⟨hv, hq⟩ := hJ
            obtain rfl := Option.some.inj ho
            clear ho
            have g3 := slot_out hA 3 _ (by decide) (by decide) rfl
            simp only [List.getD_cons_succ, List.getD_cons_zero] at g3
            have g30 := slot_in hA 30 (by decide) (by decide) (hv (6, 30, (.bool true)) (by simp) (ha 6 (by simp [aftersOf, Region.binds])))
            have gg3 := slot_get g3
            have gg30 := slot_get g30
            have gw := slot_bool g30
            rw [if_pos (by simp [Region.wanted, yielded, gw])]
            clear gw
            have hF := hK (.slice (some ⟨g, 0, none⟩) n c) w' ⟨hv.step 10 34 _ (by simp), hq.step 10 34 _ (Below.refl _ _) (by simp)⟩
            clear hv hq ha hK hA hli
            go_simp
            exact hF
          · clear hi; intro o ho lz fz w' A hJ hli ha hA K hK
            obtain ⟨hv, hq⟩ := hJ
            obtain rfl := Option.some.inj ho
            clear ho
            have g3 := slot_out hA 3 _ (by decide) (by decide) rfl
            simp only [List.getD_cons_succ, List.getD_cons_zero] at g3
            have g30 := slot_in hA 30 (by decide) (by decide) (hv (6, 30, (.bool true)) (by simp) (ha 6 (by simp [aftersOf, Region.binds])))
            have gg3 := slot_get g3
            have gg30 := slot_get g30
            have gw := slot_bool g30
            rw [if_pos (by simp [Region.wanted, yielded, gw])]
            clear gw
            have hF := hK (.slice (some ⟨g, 0, none⟩) n c) w' ⟨hv.step 11 35 _ (by simp), hq.step 11 35 _ (Below.refl _ _) (by simp)⟩
            clear hv hq ha hK hA hli
            go_simp
            exact hF
          · clear hi; intro o ho lz fz w' A hJ hli ha hA K hK
            obtain ⟨hv, hq⟩ := hJ
            obtain rfl := Option.some.inj ho
            clear ho
            have g35 := slot_in hA 35 (by decide) (by decide) (hv (11, 35, (.slice (some ⟨g, 0, none⟩) n c)) (by simp) (ha 11 (by simp [aftersOf, Region.binds])))
            have g30 := slot_in hA 30 (by decide) (by decide) (hv (6, 30, (.bool true)) (by simp) (ha 6 (by simp [aftersOf, Region.binds])))
            have gg35 := slot_get g35
            have gg30 := slot_get g30
            have gw := slot_bool g30
            rw [if_pos (by simp [Region.wanted, yielded, gw])]
            clear gw
            have hF := hK (.int .i64 (n : Int)) w' ⟨hv.step 12 36 _ (by simp), hq.step 12 36 _ (Below.refl _ _) (by simp)⟩
            clear hv hq ha hK hA hli
            go_simp
            exact hF
          · clear hi; intro o ho lz fz w' A hJ hli ha hA K hK
            obtain ⟨hv, hq⟩ := hJ
            obtain rfl := Option.some.inj ho
            clear ho
            have g36 := slot_in hA 36 (by decide) (by decide) (hv (12, 36, (.int .i64 (n : Int))) (by simp) (ha 12 (by simp [aftersOf, Region.binds])))
            have g30 := slot_in hA 30 (by decide) (by decide) (hv (6, 30, (.bool true)) (by simp) (ha 6 (by simp [aftersOf, Region.binds])))
            have gg36 := slot_get g36
            have gg30 := slot_get g30
            have gw := slot_bool g30
            rw [if_pos (by simp [Region.wanted, yielded, gw])]
            clear gw
            have hF := hK (.int .i64 ((n : Int) - 1)) w' ⟨hv.step 13 37 _ (by simp), hq.step 13 37 _ (Below.refl _ _) (by simp)⟩
            clear hv hq ha hK hA hli
            go_simp
            exact hF
          · clear hi; intro o ho lz fz w' A hJ hli ha hA K hK
            obtain ⟨hv, hq⟩ := hJ
            obtain rfl := Option.some.inj ho
            clear ho
            have g34 := slot_in hA 34 (by decide) (by decide) (hv (10, 34, (.slice (some ⟨g, 0, none⟩) n c)) (by simp) (ha 10 (by simp [aftersOf, Region.binds])))
            have g37 := slot_in hA 37 (by decide) (by decide) (hv (13, 37, (.int .i64 ((n : Int) - 1))) (by simp) (ha 13 (by simp [aftersOf, Region.binds])))
            have g30 := slot_in hA 30 (by decide) (by decide) (hv (6, 30, (.bool true)) (by simp) (ha 6 (by simp [aftersOf, Region.binds])))
            have gg34 := slot_get g34
            have gg37 := slot_get g37
            have gg30 := slot_get g30
            have gw := slot_bool g30
            rw [if_pos (by simp [Region.wanted, yielded, gw])]
            clear gw
            have hF := hK (.pointer (some ⟨g, (n - 1) * 3, none⟩)) w' ⟨hv.step 14 38 _ (by simp), hq.step 14 38 _ (Below.refl _ _) (by simp)⟩
            clear hv hq ha hK hA hli
            go_simp
            exact hF
          · clear hi; intro o ho lz fz w' A hJ hli ha hA K hK
            obtain ⟨hv, hq⟩ := hJ
            obtain rfl := Option.some.inj ho
            clear ho
            have g38 := slot_in hA 38 (by decide) (by decide) (hv (14, 38, (.pointer (some ⟨g, (n - 1) * 3, none⟩))) (by simp) (ha 14 (by simp [aftersOf, Region.binds])))
            have g30 := slot_in hA 30 (by decide) (by decide) (hv (6, 30, (.bool true)) (by simp) (ha 6 (by simp [aftersOf, Region.binds])))
            have gg38 := slot_get g38
            have gg30 := slot_get g30
            have gw := slot_bool g30
            rw [if_pos (by simp [Region.wanted, yielded, gw])]
            clear gw
            obtain ⟨z0, z1, z2⟩ := HC.out w' hq.1
            have hF := hK (.agg #[.int .i64 p, .int .i64 q, .int .i64 r]) w' ⟨hv.step 15 39 _ (by simp), hq.step 15 39 _ (Below.refl _ _) (by simp)⟩
            clear hv hq ha hK hA hli
            go_simp
            exact hF
          · clear hi; intro o ho lz fz w' A hJ hli ha hA K hK
            obtain ⟨hv, hq⟩ := hJ
            obtain rfl := Option.some.inj ho
            clear ho
            have g39 := slot_in hA 39 (by decide) (by decide) (hv (15, 39, (.agg #[.int .i64 p, .int .i64 q, .int .i64 r])) (by simp) (ha 15 (by simp [aftersOf, Region.binds])))
            have g30 := slot_in hA 30 (by decide) (by decide) (hv (6, 30, (.bool true)) (by simp) (ha 6 (by simp [aftersOf, Region.binds])))
            have gg39 := slot_get g39
            have gg30 := slot_get g30
            have gw := slot_bool g30
            rw [if_pos (by simp [Region.wanted, yielded, gw])]
            clear gw
            go_simp
            have hb9 := (Below.refl w'.heap.size w').alloc (Nat.le_refl _) (.cells #[.int .i64 p, .int .i64 q, .int .i64 r] 28)
            have hs9 := sta_one_new w' 28 [.int .i64 p, .int .i64 q, .int .i64 r]
            exact hK _ _ ⟨hv.step 16 40 _ (by simp), hq.step 16 40 _ hb9 (by simp; exact hs9)⟩
          · clear hi; intro o ho lz fz w' A hJ hli ha hA K hK
            obtain ⟨hv, hq⟩ := hJ
            obtain rfl := Option.some.inj ho
            clear ho
            have hr := hq.2.1 hli
            have r33 := hr.2 (9, 33, (Sta.owned w0.heap.size 28 3 n (flatV L))) (by simp) (ha 9 (by simp [aftersOf, Region.binds]))
            have g33 : A.tmps.getD 33 undef = fz 33 := slot_in hA 33 (by decide) (by decide) rfl
            have r40 := hr.2 (16, 40, (Sta.one [.int .i64 p, .int .i64 q, .int .i64 r])) (by simp) (ha 16 (by simp [aftersOf, Region.binds]))
            have g40 : A.tmps.getD 40 undef = fz 40 := slot_in hA 40 (by decide) (by decide) rfl
            have g30 := slot_in hA 30 (by decide) (by decide) (hv (6, 30, (.bool true)) (by simp) (ha 6 (by simp [aftersOf, Region.binds])))
            have gg33 := slot_get g33
            have gg40 := slot_get g40
            have gg30 := slot_get g30
            have gw := slot_bool g30
            rw [if_pos (by simp [Region.wanted, yielded, gw])]
            clear gw
            refine wp_append_lit1 (.tmp 33) (.tmp 40) 23 rfl w0.heap.size 28 (.agg #[.int .i64 0, .int .i64 0, .int .i64 0]) 3 24 Try.underlying23 infoVer rfl (by decide) n (flatV L) [.int .i64 p, .int .i64 q, .int .i64 r] (by rw [slot_eval g33]; exact r33) (by rw [slot_eval g40]; exact r40) rfl (celV_one ⟨p, q, r⟩) (by omega) (by decide) hq.1 (Nat.le_refl _) hq.1.size ?_
            intro v9 w9 hsT hbT
            exact hK v9 w9 ⟨hv.step 17 41 _ (by simp), Facts2.turn v9 (by intro j hj; simp only [List.mem_cons, List.not_mem_nil, or_false] at hj; rcases hj with rfl | rfl <;> exact ha _ (by simp [aftersOf, Region.binds])) hbT hsT⟩
          · clear hi; intro o ho lz fz w' A hJ hli ha hA K hK
            obtain ⟨hv, hq⟩ := hJ
            obtain rfl := Option.some.inj ho
            clear ho
            obtain ⟨gT, cT, h41, ho41⟩ := sta_owned_slice (hq.2.2 (ha 17 (by simp [aftersOf, Region.binds]))).1
            have g41 := slot_in hA 41 (by decide) (by decide) h41
            have g30 := slot_in hA 30 (by decide) (by decide) (hv (6, 30, (.bool true)) (by simp) (ha 6 (by simp [aftersOf, Region.binds])))
            have gg41 := slot_get g41
            have gg30 := slot_get g30
            have gw := slot_bool g30
            rw [if_pos (by simp [Region.wanted, yielded, gw])]
            clear gw
            clear hA
            go_simp
            refine (versionsValid_impl _ _ _ (L ++ [⟨p, q, r⟩]) _ (rowV_owned (by rw [flatV_append]; exact ho41.1) HLT.out (by omega) HWT.out)).mono ?_
            rintro e w9 ⟨rfl, hb9⟩
            rw [HTW.out]
            exact hK (.bool false) w9 ⟨hv.step 18 42 _ (by simp), hq.step 18 42 _ hb9 (by simp)⟩
          · clear hi; intro o ho lz fz w' A hJ hli ha hA K hK
            obtain ⟨hv, hq⟩ := hJ
            obtain rfl := Option.some.inj ho
            clear ho
            have g42 := slot_in hA 42 (by decide) (by decide) (hv (18, 42, (.bool false)) (by simp) (ha 18 (by simp [aftersOf, Region.binds])))
            have g30 := slot_in hA 30 (by decide) (by decide) (hv (6, 30, (.bool true)) (by simp) (ha 6 (by simp [aftersOf, Region.binds])))
            have gg42 := slot_get g42
            have gg30 := slot_get g30
            have gw := slot_bool g30
            rw [if_pos (by simp [Region.wanted, yielded, gw])]
            clear gw
            have hF := hK (.bool true) w' ⟨hv.step 19 43 _ (by simp), hq.step 19 43 _ (Below.refl _ _) (by simp)⟩
            clear hv hq ha hK hA hli
            go_simp
            exact hF
          · clear hi; intro o ho lz fz w' A hJ hli ha hA K hK
            obtain ⟨hv, hq⟩ := hJ
            obtain rfl := Option.some.inj ho
            clear ho
            have g30 := slot_in hA 30 (by decide) (by decide) (hv (6, 30, (.bool true)) (by simp) (ha 6 (by simp [aftersOf, Region.binds])))
            have g43 := slot_in hA 43 (by decide) (by decide) (hv (19, 43, (.bool true)) (by simp) (ha 19 (by simp [aftersOf, Region.binds])))
            have gg30 := slot_get g30
            have gg43 := slot_get g43
            rw [if_pos (by rfl)]
            have hF := hK (.bool true) w' ⟨hv.step 20 44 _ (by simp), hq.step 20 44 _ (Below.refl _ _) (by simp)⟩
            clear hv hq ha hK hA hli
            go_simp
            exact hF
          · clear hi; intro o ho lz fz w' A hJ hli ha hA K hK
            obtain ⟨hv, hq⟩ := hJ
            obtain rfl := Option.some.inj ho
            clear ho
            have g44 := slot_in hA 44 (by decide) (by decide) (hv (20, 44, (.bool true)) (by simp) (ha 20 (by simp [aftersOf, Region.binds])))
            have gg44 := slot_get g44
            rw [if_pos (by rfl)]
            have hF := hK (.bool true) w' ⟨hv.step 21 2 _ (by simp), hq.step 21 2 _ (Below.refl _ _) (by simp)⟩
            clear hv hq ha hK hA hli
            go_simp
            exact hF
        · intro lz fz w5 hall hJ
          obtain ⟨hv, hq⟩ := hJ
          have hbR := hq.1
          have h2 : fz 2 = (.bool true) := hv (21, 2, (.bool true)) (by simp) (hall 21 (by decide))
          clear hv hq hall
          simp only [mixF, List.contains_cons, List.contains_nil]
          go_simp
          go_wp2
          go_ret
          exact ⟨rfl, HB.out.trans (hbR.mono HB.out.size)⟩
        -- END
      · obtain rfl : n = 0 := by omega
        clear hr3
        go_wp2_with fail
        refine (alive_any _).mono ?_; rintro e w5 ⟨rfl, hb5'⟩
        go_wp2
        go_ret
        exact ⟨rfl, hb3.trans (hb5'.mono hb3.size)⟩
  · have hs' : (1048576 : Int) < (len : Int) := by omega
    clear h hlc
    go_enter Try.func3, Try.ntmps3
    go_wp2
    go_ret
    exact ⟨rfl, Below.refl _ _⟩
end Go.Proofs.Ytncedcliklpapaa
