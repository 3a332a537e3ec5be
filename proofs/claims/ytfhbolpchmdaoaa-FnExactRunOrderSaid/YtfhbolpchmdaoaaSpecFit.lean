/- The contract of the model's OrderFits. -/
import Derived.Test.YtfhbolpchmdaoaaSpecC
import Derived.Deep.QuietTactic
import Derived.BigQuiet
import Derived.Test.YtfhbolpchmdaoaaRegJ
namespace Go.Proofs.Ytfhbolpchmdaoaa
open Go.RowKit
set_option linter.unusedVariables false
set_option linter.unusedSimpArgs false
/-- What is asked of the place k, but of the first j alone. -/
def FitIn (L : List Acn) (O : List Int) (k j : Nat) : Prop :=
  ∀ i, i < j → O.getD i 0 ≠ O.getD k 0 ∧ ¬ (O.getD k 0 < O.getD i 0 ∧ confM (L.getD (O.getD i 0).toNat noA) (L.getD (O.getD k 0).toNat noA) = true)
theorem FitIn.next {L : List Acn} {O : List Int} {k j : Nat} (h : FitIn L O k j) (h1 : O.getD j 0 ≠ O.getD k 0) (h2 : ¬ (O.getD k 0 < O.getD j 0 ∧ confM (L.getD (O.getD j 0).toNat noA) (L.getD (O.getD k 0).toNat noA) = true)) : FitIn L O k (j + 1) := by
  intro i hi
  rcases (by omega : i < j ∨ i = j) with h3 | rfl
  · exact h i h3
  · exact ⟨h1, h2⟩
set_option maxRecDepth 100000 in
set_option maxHeartbeats 8000000 in
theorem orderFits_spec (a : Option Addr) (n cap : Nat) (L : List Acn) (b : Option Addr) (m cap2 : Nat) (O : List Int) (w : World) (h : RowA w a n L) (h2 : RowI w b m O) :
    Calls Try.prog 29 #[.slice a n cap, .slice b m cap2] w (BoolS (fitsM L O) w) := by
  have HW := Lib.hid h
  have HO := Lib.hid h2
  have HN := Lib.hid h.1
  have HM := Lib.hid h2.1
  have hml := h2.2.1
  unfold maxLen at hml
  clear h h2
  cases hA : actsB L with
  | false =>
    have HP := Lib.hid (fitsM_acts (O := O) hA)
    go_enter Try.func29, Try.ntmps29
    go_wp2_with fail
    refine (actionsValid_spec a n cap L _ HW.out).mono ?_; rintro e w1 ⟨rfl, hb1⟩
    rw [hA]
    clear hA
    go_wp2
    go_ret
    exact ⟨by rw [HP.out]; rfl, hb1⟩
  | true =>
    have hn10 : n ≤ 10 := by have := (actsB_true hA).1; rw [← HN.out]; exact this
    have HA := Lib.hid hA
    by_cases hmn : m = n
    · subst hmn
      by_cases h0 : 0 < m
      · obtain ⟨b0, o0, rfl, -⟩ := HW.out.2.2.1 h0
        obtain ⟨b1, o1, rfl, -⟩ := HO.out.2.2.1 h0
        go_enter Try.func29, Try.ntmps29
        go_wp2_with fail
        refine (actionsValid_spec _ m cap L _ HW.out).mono ?_; rintro e w1 ⟨rfl, hb1⟩
        rw [hA]
        clear hA
        go_wp2
        go_loopw [5] (fun i wr => ∃ k : Nat, k ≤ m ∧ i = .int .i64 k ∧ FitTo L O k ∧ Below w.heap.size w wr) (fun i _ => m - (intOf i).toNat)
        case atStart => exact ⟨0, Nat.zero_le _, rfl, fun j hj => absurd hj (Nat.not_lt_zero j), hb1⟩
        case round =>
          clear hb1
          obtain ⟨k, hk, rfl, hfit, hb⟩ := hrel
          by_cases hlt : k < m
          · obtain ⟨b', o', he', hcl⟩ := (HO.out.below hb).2.2.1 h0
            obtain ⟨rfl, rfl⟩ : b1 = b' ∧ o1 = o' := by simpa using he'
            have hc0 := hcl k hlt
            have hxb := HO.out.bd k hlt
            have HNF := Lib.hid (fun h => fitsM_bad (L := L) (O := O) (k := k) (by rw [HN.out]; exact hlt) h)
            have HFIT := Lib.hid hfit
            have HB0 := Lib.hid hb
            clear hcl he' hfit hb
            cases hin : inB (O.getD k 0) 0 ((m : Int) - 1) with
            | false =>
              have HF := Lib.hid (HNF.out (fun hf => by
                have := hf.1; rw [HN.out] at this
                have h9 : ∀ z : Int, 0 ≤ z → z < m → inB z 0 ((m : Int) - 1) = true := fun z h1 h2 => by simp [inB]; omega
                rw [h9 _ this.1 this.2] at hin; cases hin))
              clear HNF
              generalize O.getD k 0 = x at *
              go_wp2_with fail
              refine (l1In_spec_hid _ _ _ _).mono ?_; rintro e w' ⟨rfl, rfl⟩
              rw [hin]
              clear hin
              go_wp2
              go_ret
              exact ⟨by rw [HF.out]; rfl, HB0.out⟩
            | true =>
              have hxr := inB_true hin
              have HIN := Lib.hid hin
              clear hin
              obtain ⟨X, hX⟩ : ∃ X : Nat, O.getD k 0 = (X : Int) := ⟨(O.getD k 0).toNat, by omega⟩
              have hXm : X < m := by omega
              have HX := Lib.hid hX
              rw [hX] at hc0 HIN
              clear hxr hxb hX
              go_wp2_with fail
              refine (l1In_spec_hid _ _ _ _).mono ?_; rintro e w' ⟨rfl, rfl⟩
              rw [HIN.out]
              go_wp2
              go_loopw [6] (fun i wr => ∃ j : Nat, j ≤ k ∧ i = .int .i64 j ∧ FitIn L O k j ∧ Below w.heap.size w wr) (fun i _ => k - (intOf i).toNat)
              case atStart => exact ⟨0, Nat.zero_le _, rfl, fun j hj => absurd hj (Nat.not_lt_zero j), HB0.out⟩
              case round =>
                clear hc0
                obtain ⟨j, hj, rfl, hfi, hb⟩ := hrel
                by_cases hjt : j < k
                · obtain ⟨b', o', he', hcl⟩ := (HO.out.below hb).2.2.1 h0
                  obtain ⟨rfl, rfl⟩ : b1 = b' ∧ o1 = o' := by simpa using he'
                  have hc0 := hcl k hlt
                  have hc1 := hcl j (by omega)
                  have hYb := (HFIT.out j hjt).1
                  rw [HN.out] at hYb
                  obtain ⟨Y, hY⟩ : ∃ Y : Nat, O.getD j 0 = (Y : Int) := ⟨(O.getD j 0).toNat, by omega⟩
                  have hYm : Y < m := by omega
                  rw [hY] at hc1
                  rw [HX.out] at hc0
                  obtain ⟨c0, c1, c2, c3⟩ := (HW.out.below hb).cells hYm
                  obtain ⟨d0, d1, d2, d3⟩ := (HW.out.below hb).cells hXm
                  have HNX := Lib.hid (fun h1 h2 => hfi.next h1 h2)
                  have HNO : Hid (¬ FitIn L O k (j + 1) → fitsM L O = false) := Lib.hid (fun h => HNF.out (fun hf => h (fun i hi => hf.2 i (by omega))))
                  have hLX : L.getD (O.getD k 0).toNat noA = L.getD X noA := by rw [HX.out]; rfl
                  have hLY : L.getD (O.getD j 0).toNat noA = L.getD Y noA := by rw [hY]; rfl
                  have HL1 : Hid (∀ h1 : FitIn L O k (j + 1), Y ≠ X ∧ ¬ (X < Y ∧ confM (L.getD Y noA) (L.getD X noA) = true)) := Lib.hid (fun h1 => by
                    have h2 := h1 j (by omega)
                    rw [hLX, hLY, hY, HX.out] at h2
                    exact ⟨fun e => h2.1 (by rw [e]), fun ⟨e1, e2⟩ => h2.2 ⟨by omega, e2⟩⟩)
                  have HL2 : Hid (Y ≠ X → ¬ (X < Y ∧ confM (L.getD Y noA) (L.getD X noA) = true) → FitIn L O k (j + 1)) := Lib.hid (fun h1 h2 => by
                    refine HNX.out ?_ ?_
                    · rw [hY, HX.out]; omega
                    · rw [hLX, hLY, hY, HX.out]
                      exact fun ⟨e1, e2⟩ => h2 ⟨by omega, e2⟩)
                  obtain ⟨x, hx⟩ : ∃ x, x = L.getD X noA := ⟨_, rfl⟩
                  obtain ⟨y, hy⟩ : ∃ y, y = L.getD Y noA := ⟨_, rfl⟩
                  rw [← hx] at d0 d1 d2 d3 HL1 HL2
                  rw [← hy] at c0 c1 c2 c3 HL1 HL2
                  have HB1 := Lib.hid hb
                  clear hx hy hcl he' hYb hY HNX hLX hLY hfi hb
                  obtain ⟨p, q, r, t⟩ := y
                  obtain ⟨p2, q2, r2, t2⟩ := x
                  simp only at c0 c1 c2 c3 d0 d1 d2 d3
                  have hX0 : (0 : Int) ≤ (X : Int) := by omega
                  have hX1 : (X : Int) < (m : Int) := by omega
                  have hY0 : (0 : Int) ≤ (Y : Int) := by omega
                  have hY1 : (Y : Int) < (m : Int) := by omega
                  by_cases hxy : Y = X
                  · subst hxy
                    have HF := Lib.hid (HNO.out (fun h => (HL1.out h).1 rfl))
                    go_wp2
                    go_quiet (fail)
                    go_wp2
                    go_ret
                    exact ⟨by rw [HF.out]; rfl, below_drewN' HB1.out _⟩
                  · have e1 : ((Y : Int) == (X : Int)) = false := by simp; omega
                    have HXY := Lib.hid hxy
                    by_cases hgt : X < Y
                    · have e3 : decide (X < Y) = true := by simpa using hgt
                      have HGT := Lib.hid hgt
                      clear hxy hgt
                      go_wp2
                      have hjm : j < m := by omega
                      have hq1 : b1 < wr.heap.size := World.block_lt_of_cell? wr ⟨b1, o1 + j, none⟩ hc1
                      have hq0 : b0 < wr.heap.size := World.block_lt_of_cell? wr ⟨b0, o0 + Y * 4, none⟩ c0
                      obtain ⟨u, hu⟩ : ∃ u, u = confM ⟨p, q, r, t⟩ ⟨p2, q2, r2, t2⟩ := ⟨_, rfl⟩
                      rw [← hu] at HL1 HL2
                      have HU := Lib.hid hu.symm
                      clear hu
                      -- REGION
                      refine wp_region_light (by kernel_rfl) (fun lz fz wz => Vals [(0, 37, (.slice (some ⟨b1, o1, none⟩) m cap2)), (1, 38, (.int .i64 (j : Int))), (2, 39, (.pointer (some ⟨b1, o1 + j, none⟩))), (3, 40, (.int .i64 (Y : Int))), (4, 41, (.slice (some ⟨b1, o1, none⟩) m cap2)), (5, 42, (.int .i64 (k : Int))), (6, 43, (.pointer (some ⟨b1, o1 + k, none⟩))), (7, 44, (.int .i64 (X : Int))), (8, 45, (.bool false)), (9, 46, (.bool false)), (10, 47, (.slice (some ⟨b1, o1, none⟩) m cap2)), (11, 48, (.int .i64 (j : Int))), (12, 49, (.pointer (some ⟨b1, o1 + j, none⟩))), (13, 50, (.int .i64 (Y : Int))), (14, 51, (.slice (some ⟨b1, o1, none⟩) m cap2)), (15, 52, (.int .i64 (k : Int))), (16, 53, (.pointer (some ⟨b1, o1 + k, none⟩))), (17, 54, (.int .i64 (X : Int))), (18, 55, (.bool true)), (19, 56, (.bool true)), (20, 57, (.slice (some ⟨b0, o0, none⟩) m cap)), (21, 58, (.slice (some ⟨b1, o1, none⟩) m cap2)), (22, 59, (.int .i64 (j : Int))), (23, 60, (.pointer (some ⟨b1, o1 + j, none⟩))), (24, 61, (.int .i64 (Y : Int))), (25, 62, (.pointer (some ⟨b0, o0 + Y * 4, none⟩))), (26, 63, (.agg #[.int .i64 p, .int .i64 q, .int .i64 r, .int .i64 t])), (27, 64, (.slice (some ⟨b0, o0, none⟩) m cap)), (28, 65, (.slice (some ⟨b1, o1, none⟩) m cap2)), (29, 66, (.int .i64 (k : Int))), (30, 67, (.pointer (some ⟨b1, o1 + k, none⟩))), (31, 68, (.int .i64 (X : Int))), (32, 69, (.pointer (some ⟨b0, o0 + X * 4, none⟩))), (33, 70, (.agg #[.int .i64 p2, .int .i64 q2, .int .i64 r2, .int .i64 t2])), (34, 71, (.bool u)), (35, 72, (.bool u)), (36, 73, (.bool u))] lz fz ∧ Facts wr [] lz fz wz) 74 rfl [37, 38, 39, 40, 41, 42, 43, 44, 45, 46, 47, 48, 49, 50, 51, 52, 53, 54, 55, 56, 57, 58, 59, 60, 61, 62, 63, 64, 65, 66, 67, 68, 69, 70, 71, 72, 73] (by kernel_rfl) (by kernel_rfl) (by kernel_rfl) (fun f => ⟨Vals.nothing _ f, Facts.nothing _ _ f⟩) ?_ ?_
                      · intro i hi
                        rcases (by have : i < 37 := hi; omega : i = 0 ∨ i = 1 ∨ i = 2 ∨ i = 3 ∨ i = 4 ∨ i = 5 ∨ i = 6 ∨ i = 7 ∨ i = 8 ∨ i = 9 ∨ i = 10 ∨ i = 11 ∨ i = 12 ∨ i = 13 ∨ i = 14 ∨ i = 15 ∨ i = 16 ∨ i = 17 ∨ i = 18 ∨ i = 19 ∨ i = 20 ∨ i = 21 ∨ i = 22 ∨ i = 23 ∨ i = 24 ∨ i = 25 ∨ i = 26 ∨ i = 27 ∨ i = 28 ∨ i = 29 ∨ i = 30 ∨ i = 31 ∨ i = 32 ∨ i = 33 ∨ i = 34 ∨ i = 35 ∨ i = 36) with rfl | rfl | rfl | rfl | rfl | rfl | rfl | rfl | rfl | rfl | rfl | rfl | rfl | rfl | rfl | rfl | rfl | rfl | rfl | rfl | rfl | rfl | rfl | rfl | rfl | rfl | rfl | rfl | rfl | rfl | rfl | rfl | rfl | rfl | rfl | rfl | rfl
                        · clear hi; intro o ho lz fz w' A hJ hli ha hA K hK
                          obtain ⟨hv, hq⟩ := hJ
                          obtain rfl := Option.some.inj ho
                          clear ho
                          have hr := hq
                          have g1 := slot_out hA 1 _ (by decide) (by decide) rfl
                          simp only [List.getD_cons_succ, List.getD_cons_zero] at g1
                          have gg1 := slot_get g1
                          rw [if_pos (by rfl)]
                          have hF := hK (.slice (some ⟨b1, o1, none⟩) m cap2) w' ⟨hv.step 0 37 _ (by simp), hq.step 0 37 _ (Below.refl _ _) (by simp)⟩
                          clear hv hq hr ha hK hA hli
                          go_simp
                          exact hF
                        · clear hi; intro o ho lz fz w' A hJ hli ha hA K hK
                          obtain ⟨hv, hq⟩ := hJ
                          obtain rfl := Option.some.inj ho
                          clear ho
                          have hr := hq
                          have g6 := slot_out hA 6 _ (by decide) (by decide) rfl
                          simp only [List.getD_cons_succ, List.getD_cons_zero] at g6
                          have gg6 := slot_get g6
                          rw [if_pos (by rfl)]
                          have hF := hK (.int .i64 (j : Int)) w' ⟨hv.step 1 38 _ (by simp), hq.step 1 38 _ (Below.refl _ _) (by simp)⟩
                          clear hv hq hr ha hK hA hli
                          go_simp
                          exact hF
                        · clear hi; intro o ho lz fz w' A hJ hli ha hA K hK
                          obtain ⟨hv, hq⟩ := hJ
                          obtain rfl := Option.some.inj ho
                          clear ho
                          have hr := hq
                          have g37 := slot_in hA 37 (by decide) (by decide) (hv (0, 37, (.slice (some ⟨b1, o1, none⟩) m cap2)) (by simp) (ha 0 (by simp [aftersOf, Region.binds])))
                          have g38 := slot_in hA 38 (by decide) (by decide) (hv (1, 38, (.int .i64 (j : Int))) (by simp) (ha 1 (by simp [aftersOf, Region.binds])))
                          have gg37 := slot_get g37
                          have gg38 := slot_get g38
                          rw [if_pos (by rfl)]
                          have hF := hK (.pointer (some ⟨b1, o1 + j, none⟩)) w' ⟨hv.step 2 39 _ (by simp), hq.step 2 39 _ (Below.refl _ _) (by simp)⟩
                          clear hv hq hr ha hK hA hli
                          go_simp
                          exact hF
                        · clear hi; intro o ho lz fz w' A hJ hli ha hA K hK
                          obtain ⟨hv, hq⟩ := hJ
                          obtain rfl := Option.some.inj ho
                          clear ho
                          have hr := hq
                          have g39 := slot_in hA 39 (by decide) (by decide) (hv (2, 39, (.pointer (some ⟨b1, o1 + j, none⟩))) (by simp) (ha 2 (by simp [aftersOf, Region.binds])))
                          have gg39 := slot_get g39
                          rw [if_pos (by rfl)]
                          have kc := (hr.1.cell (p := ⟨b1, o1 + j, none⟩) hq1).trans hc1
                          have hF := hK (.int .i64 (Y : Int)) w' ⟨hv.step 3 40 _ (by simp), hq.step 3 40 _ (Below.refl _ _) (by simp)⟩
                          clear hv hq hr ha hK hA hli
                          go_simp
                          exact hF
                        · clear hi; intro o ho lz fz w' A hJ hli ha hA K hK
                          obtain ⟨hv, hq⟩ := hJ
                          obtain rfl := Option.some.inj ho
                          clear ho
                          have hr := hq
                          have g1 := slot_out hA 1 _ (by decide) (by decide) rfl
                          simp only [List.getD_cons_succ, List.getD_cons_zero] at g1
                          have gg1 := slot_get g1
                          rw [if_pos (by rfl)]
                          have hF := hK (.slice (some ⟨b1, o1, none⟩) m cap2) w' ⟨hv.step 4 41 _ (by simp), hq.step 4 41 _ (Below.refl _ _) (by simp)⟩
                          clear hv hq hr ha hK hA hli
                          go_simp
                          exact hF
                        · clear hi; intro o ho lz fz w' A hJ hli ha hA K hK
                          obtain ⟨hv, hq⟩ := hJ
                          obtain rfl := Option.some.inj ho
                          clear ho
                          have hr := hq
                          have g5 := slot_out hA 5 _ (by decide) (by decide) rfl
                          simp only [List.getD_cons_succ, List.getD_cons_zero] at g5
                          have gg5 := slot_get g5
                          rw [if_pos (by rfl)]
                          have hF := hK (.int .i64 (k : Int)) w' ⟨hv.step 5 42 _ (by simp), hq.step 5 42 _ (Below.refl _ _) (by simp)⟩
                          clear hv hq hr ha hK hA hli
                          go_simp
                          exact hF
                        · clear hi; intro o ho lz fz w' A hJ hli ha hA K hK
                          obtain ⟨hv, hq⟩ := hJ
                          obtain rfl := Option.some.inj ho
                          clear ho
                          have hr := hq
                          have g41 := slot_in hA 41 (by decide) (by decide) (hv (4, 41, (.slice (some ⟨b1, o1, none⟩) m cap2)) (by simp) (ha 4 (by simp [aftersOf, Region.binds])))
                          have g42 := slot_in hA 42 (by decide) (by decide) (hv (5, 42, (.int .i64 (k : Int))) (by simp) (ha 5 (by simp [aftersOf, Region.binds])))
                          have gg41 := slot_get g41
                          have gg42 := slot_get g42
                          rw [if_pos (by rfl)]
                          have hF := hK (.pointer (some ⟨b1, o1 + k, none⟩)) w' ⟨hv.step 6 43 _ (by simp), hq.step 6 43 _ (Below.refl _ _) (by simp)⟩
                          clear hv hq hr ha hK hA hli
                          go_simp
                          exact hF
                        · clear hi; intro o ho lz fz w' A hJ hli ha hA K hK
                          obtain ⟨hv, hq⟩ := hJ
                          obtain rfl := Option.some.inj ho
                          clear ho
                          have hr := hq
                          have g43 := slot_in hA 43 (by decide) (by decide) (hv (6, 43, (.pointer (some ⟨b1, o1 + k, none⟩))) (by simp) (ha 6 (by simp [aftersOf, Region.binds])))
                          have gg43 := slot_get g43
                          rw [if_pos (by rfl)]
                          have kc := (hr.1.cell (p := ⟨b1, o1 + k, none⟩) hq1).trans hc0
                          have hF := hK (.int .i64 (X : Int)) w' ⟨hv.step 7 44 _ (by simp), hq.step 7 44 _ (Below.refl _ _) (by simp)⟩
                          clear hv hq hr ha hK hA hli
                          go_simp
                          exact hF
                        · clear hi; intro o ho lz fz w' A hJ hli ha hA K hK
                          obtain ⟨hv, hq⟩ := hJ
                          obtain rfl := Option.some.inj ho
                          clear ho
                          have hr := hq
                          have g40 := slot_in hA 40 (by decide) (by decide) (hv (3, 40, (.int .i64 (Y : Int))) (by simp) (ha 3 (by simp [aftersOf, Region.binds])))
                          have g44 := slot_in hA 44 (by decide) (by decide) (hv (7, 44, (.int .i64 (X : Int))) (by simp) (ha 7 (by simp [aftersOf, Region.binds])))
                          have gg40 := slot_get g40
                          have gg44 := slot_get g44
                          rw [if_pos (by rfl)]
                          have hF := hK (.bool false) w' ⟨hv.step 8 45 _ (by simp), hq.step 8 45 _ (Below.refl _ _) (by simp)⟩
                          clear hv hq hr ha hK hA hli
                          go_simp
                          exact hF
                        · clear hi; intro o ho lz fz w' A hJ hli ha hA K hK
                          obtain ⟨hv, hq⟩ := hJ
                          obtain rfl := Option.some.inj ho
                          clear ho
                          have hr := hq
                          have g45 := slot_in hA 45 (by decide) (by decide) (hv (8, 45, (.bool false)) (by simp) (ha 8 (by simp [aftersOf, Region.binds])))
                          have gg45 := slot_get g45
                          rw [if_pos (by rfl)]
                          have hF := hK (.bool false) w' ⟨hv.step 9 46 _ (by simp), hq.step 9 46 _ (Below.refl _ _) (by simp)⟩
                          clear hv hq hr ha hK hA hli
                          go_simp
                          exact hF
                        · clear hi; intro o ho lz fz w' A hJ hli ha hA K hK
                          obtain ⟨hv, hq⟩ := hJ
                          obtain rfl := Option.some.inj ho
                          clear ho
                          have hr := hq
                          have g1 := slot_out hA 1 _ (by decide) (by decide) rfl
                          simp only [List.getD_cons_succ, List.getD_cons_zero] at g1
                          have g46 := slot_in hA 46 (by decide) (by decide) (hv (9, 46, (.bool false)) (by simp) (ha 9 (by simp [aftersOf, Region.binds])))
                          have gg1 := slot_get g1
                          have gg46 := slot_get g46
                          have gw := slot_bool g46
                          rw [if_pos (by simp [Region.wanted, yielded, gw])]
                          clear gw
                          have hF := hK (.slice (some ⟨b1, o1, none⟩) m cap2) w' ⟨hv.step 10 47 _ (by simp), hq.step 10 47 _ (Below.refl _ _) (by simp)⟩
                          clear hv hq hr ha hK hA hli
                          go_simp
                          exact hF
                        · clear hi; intro o ho lz fz w' A hJ hli ha hA K hK
                          obtain ⟨hv, hq⟩ := hJ
                          obtain rfl := Option.some.inj ho
                          clear ho
                          have hr := hq
                          have g6 := slot_out hA 6 _ (by decide) (by decide) rfl
                          simp only [List.getD_cons_succ, List.getD_cons_zero] at g6
                          have g46 := slot_in hA 46 (by decide) (by decide) (hv (9, 46, (.bool false)) (by simp) (ha 9 (by simp [aftersOf, Region.binds])))
                          have gg6 := slot_get g6
                          have gg46 := slot_get g46
                          have gw := slot_bool g46
                          rw [if_pos (by simp [Region.wanted, yielded, gw])]
                          clear gw
                          have hF := hK (.int .i64 (j : Int)) w' ⟨hv.step 11 48 _ (by simp), hq.step 11 48 _ (Below.refl _ _) (by simp)⟩
                          clear hv hq hr ha hK hA hli
                          go_simp
                          exact hF
                        · clear hi; intro o ho lz fz w' A hJ hli ha hA K hK
                          obtain ⟨hv, hq⟩ := hJ
                          obtain rfl := Option.some.inj ho
                          clear ho
                          have hr := hq
                          have g47 := slot_in hA 47 (by decide) (by decide) (hv (10, 47, (.slice (some ⟨b1, o1, none⟩) m cap2)) (by simp) (ha 10 (by simp [aftersOf, Region.binds])))
                          have g48 := slot_in hA 48 (by decide) (by decide) (hv (11, 48, (.int .i64 (j : Int))) (by simp) (ha 11 (by simp [aftersOf, Region.binds])))
                          have g46 := slot_in hA 46 (by decide) (by decide) (hv (9, 46, (.bool false)) (by simp) (ha 9 (by simp [aftersOf, Region.binds])))
                          have gg47 := slot_get g47
                          have gg48 := slot_get g48
                          have gg46 := slot_get g46
                          have gw := slot_bool g46
                          rw [if_pos (by simp [Region.wanted, yielded, gw])]
                          clear gw
                          have hF := hK (.pointer (some ⟨b1, o1 + j, none⟩)) w' ⟨hv.step 12 49 _ (by simp), hq.step 12 49 _ (Below.refl _ _) (by simp)⟩
                          clear hv hq hr ha hK hA hli
                          go_simp
                          exact hF
                        · clear hi; intro o ho lz fz w' A hJ hli ha hA K hK
                          obtain ⟨hv, hq⟩ := hJ
                          obtain rfl := Option.some.inj ho
                          clear ho
                          have hr := hq
                          have g49 := slot_in hA 49 (by decide) (by decide) (hv (12, 49, (.pointer (some ⟨b1, o1 + j, none⟩))) (by simp) (ha 12 (by simp [aftersOf, Region.binds])))
                          have g46 := slot_in hA 46 (by decide) (by decide) (hv (9, 46, (.bool false)) (by simp) (ha 9 (by simp [aftersOf, Region.binds])))
                          have gg49 := slot_get g49
                          have gg46 := slot_get g46
                          have gw := slot_bool g46
                          rw [if_pos (by simp [Region.wanted, yielded, gw])]
                          clear gw
                          have kc := (hr.1.cell (p := ⟨b1, o1 + j, none⟩) hq1).trans hc1
                          have hF := hK (.int .i64 (Y : Int)) w' ⟨hv.step 13 50 _ (by simp), hq.step 13 50 _ (Below.refl _ _) (by simp)⟩
                          clear hv hq hr ha hK hA hli
                          go_simp
                          exact hF
                        · clear hi; intro o ho lz fz w' A hJ hli ha hA K hK
                          obtain ⟨hv, hq⟩ := hJ
                          obtain rfl := Option.some.inj ho
                          clear ho
                          have hr := hq
                          have g1 := slot_out hA 1 _ (by decide) (by decide) rfl
                          simp only [List.getD_cons_succ, List.getD_cons_zero] at g1
                          have g46 := slot_in hA 46 (by decide) (by decide) (hv (9, 46, (.bool false)) (by simp) (ha 9 (by simp [aftersOf, Region.binds])))
                          have gg1 := slot_get g1
                          have gg46 := slot_get g46
                          have gw := slot_bool g46
                          rw [if_pos (by simp [Region.wanted, yielded, gw])]
                          clear gw
                          have hF := hK (.slice (some ⟨b1, o1, none⟩) m cap2) w' ⟨hv.step 14 51 _ (by simp), hq.step 14 51 _ (Below.refl _ _) (by simp)⟩
                          clear hv hq hr ha hK hA hli
                          go_simp
                          exact hF
                        · clear hi; intro o ho lz fz w' A hJ hli ha hA K hK
                          obtain ⟨hv, hq⟩ := hJ
                          obtain rfl := Option.some.inj ho
                          clear ho
                          have hr := hq
                          have g5 := slot_out hA 5 _ (by decide) (by decide) rfl
                          simp only [List.getD_cons_succ, List.getD_cons_zero] at g5
                          have g46 := slot_in hA 46 (by decide) (by decide) (hv (9, 46, (.bool false)) (by simp) (ha 9 (by simp [aftersOf, Region.binds])))
                          have gg5 := slot_get g5
                          have gg46 := slot_get g46
                          have gw := slot_bool g46
                          rw [if_pos (by simp [Region.wanted, yielded, gw])]
                          clear gw
                          have hF := hK (.int .i64 (k : Int)) w' ⟨hv.step 15 52 _ (by simp), hq.step 15 52 _ (Below.refl _ _) (by simp)⟩
                          clear hv hq hr ha hK hA hli
                          go_simp
                          exact hF
                        · clear hi; intro o ho lz fz w' A hJ hli ha hA K hK
                          obtain ⟨hv, hq⟩ := hJ
                          obtain rfl := Option.some.inj ho
                          clear ho
                          have hr := hq
                          have g51 := slot_in hA 51 (by decide) (by decide) (hv (14, 51, (.slice (some ⟨b1, o1, none⟩) m cap2)) (by simp) (ha 14 (by simp [aftersOf, Region.binds])))
                          have g52 := slot_in hA 52 (by decide) (by decide) (hv (15, 52, (.int .i64 (k : Int))) (by simp) (ha 15 (by simp [aftersOf, Region.binds])))
                          have g46 := slot_in hA 46 (by decide) (by decide) (hv (9, 46, (.bool false)) (by simp) (ha 9 (by simp [aftersOf, Region.binds])))
                          have gg51 := slot_get g51
                          have gg52 := slot_get g52
                          have gg46 := slot_get g46
                          have gw := slot_bool g46
                          rw [if_pos (by simp [Region.wanted, yielded, gw])]
                          clear gw
                          have hF := hK (.pointer (some ⟨b1, o1 + k, none⟩)) w' ⟨hv.step 16 53 _ (by simp), hq.step 16 53 _ (Below.refl _ _) (by simp)⟩
                          clear hv hq hr ha hK hA hli
                          go_simp
                          exact hF
                        · clear hi; intro o ho lz fz w' A hJ hli ha hA K hK
                          obtain ⟨hv, hq⟩ := hJ
                          obtain rfl := Option.some.inj ho
                          clear ho
                          have hr := hq
                          have g53 := slot_in hA 53 (by decide) (by decide) (hv (16, 53, (.pointer (some ⟨b1, o1 + k, none⟩))) (by simp) (ha 16 (by simp [aftersOf, Region.binds])))
                          have g46 := slot_in hA 46 (by decide) (by decide) (hv (9, 46, (.bool false)) (by simp) (ha 9 (by simp [aftersOf, Region.binds])))
                          have gg53 := slot_get g53
                          have gg46 := slot_get g46
                          have gw := slot_bool g46
                          rw [if_pos (by simp [Region.wanted, yielded, gw])]
                          clear gw
                          have kc := (hr.1.cell (p := ⟨b1, o1 + k, none⟩) hq1).trans hc0
                          have hF := hK (.int .i64 (X : Int)) w' ⟨hv.step 17 54 _ (by simp), hq.step 17 54 _ (Below.refl _ _) (by simp)⟩
                          clear hv hq hr ha hK hA hli
                          go_simp
                          exact hF
                        · clear hi; intro o ho lz fz w' A hJ hli ha hA K hK
                          obtain ⟨hv, hq⟩ := hJ
                          obtain rfl := Option.some.inj ho
                          clear ho
                          have hr := hq
                          have g50 := slot_in hA 50 (by decide) (by decide) (hv (13, 50, (.int .i64 (Y : Int))) (by simp) (ha 13 (by simp [aftersOf, Region.binds])))
                          have g54 := slot_in hA 54 (by decide) (by decide) (hv (17, 54, (.int .i64 (X : Int))) (by simp) (ha 17 (by simp [aftersOf, Region.binds])))
                          have g46 := slot_in hA 46 (by decide) (by decide) (hv (9, 46, (.bool false)) (by simp) (ha 9 (by simp [aftersOf, Region.binds])))
                          have gg50 := slot_get g50
                          have gg54 := slot_get g54
                          have gg46 := slot_get g46
                          have gw := slot_bool g46
                          rw [if_pos (by simp [Region.wanted, yielded, gw])]
                          clear gw
                          have hF := hK (.bool true) w' ⟨hv.step 18 55 _ (by simp), hq.step 18 55 _ (Below.refl _ _) (by simp)⟩
                          clear hv hq hr ha hK hA hli
                          go_simp
                          exact hF
                        · clear hi; intro o ho lz fz w' A hJ hli ha hA K hK
                          obtain ⟨hv, hq⟩ := hJ
                          obtain rfl := Option.some.inj ho
                          clear ho
                          have hr := hq
                          have g55 := slot_in hA 55 (by decide) (by decide) (hv (18, 55, (.bool true)) (by simp) (ha 18 (by simp [aftersOf, Region.binds])))
                          have g46 := slot_in hA 46 (by decide) (by decide) (hv (9, 46, (.bool false)) (by simp) (ha 9 (by simp [aftersOf, Region.binds])))
                          have gg55 := slot_get g55
                          have gg46 := slot_get g46
                          have gw := slot_bool g46
                          rw [if_pos (by simp [Region.wanted, yielded, gw])]
                          clear gw
                          have hF := hK (.bool true) w' ⟨hv.step 19 56 _ (by simp), hq.step 19 56 _ (Below.refl _ _) (by simp)⟩
                          clear hv hq hr ha hK hA hli
                          go_simp
                          exact hF
                        · clear hi; intro o ho lz fz w' A hJ hli ha hA K hK
                          obtain ⟨hv, hq⟩ := hJ
                          obtain rfl := Option.some.inj ho
                          clear ho
                          have hr := hq
                          have g0 := slot_out hA 0 _ (by decide) (by decide) rfl
                          simp only [List.getD_cons_succ, List.getD_cons_zero] at g0
                          have g56 := slot_in hA 56 (by decide) (by decide) (hv (19, 56, (.bool true)) (by simp) (ha 19 (by simp [aftersOf, Region.binds])))
                          have gg0 := slot_get g0
                          have gg56 := slot_get g56
                          have gw := slot_bool g56
                          rw [if_pos (by simp [Region.wanted, yielded, gw])]
                          clear gw
                          have hF := hK (.slice (some ⟨b0, o0, none⟩) m cap) w' ⟨hv.step 20 57 _ (by simp), hq.step 20 57 _ (Below.refl _ _) (by simp)⟩
                          clear hv hq hr ha hK hA hli
                          go_simp
                          exact hF
                        · clear hi; intro o ho lz fz w' A hJ hli ha hA K hK
                          obtain ⟨hv, hq⟩ := hJ
                          obtain rfl := Option.some.inj ho
                          clear ho
                          have hr := hq
                          have g1 := slot_out hA 1 _ (by decide) (by decide) rfl
                          simp only [List.getD_cons_succ, List.getD_cons_zero] at g1
                          have g56 := slot_in hA 56 (by decide) (by decide) (hv (19, 56, (.bool true)) (by simp) (ha 19 (by simp [aftersOf, Region.binds])))
                          have gg1 := slot_get g1
                          have gg56 := slot_get g56
                          have gw := slot_bool g56
                          rw [if_pos (by simp [Region.wanted, yielded, gw])]
                          clear gw
                          have hF := hK (.slice (some ⟨b1, o1, none⟩) m cap2) w' ⟨hv.step 21 58 _ (by simp), hq.step 21 58 _ (Below.refl _ _) (by simp)⟩
                          clear hv hq hr ha hK hA hli
                          go_simp
                          exact hF
                        · clear hi; intro o ho lz fz w' A hJ hli ha hA K hK
                          obtain ⟨hv, hq⟩ := hJ
                          obtain rfl := Option.some.inj ho
                          clear ho
                          have hr := hq
                          have g6 := slot_out hA 6 _ (by decide) (by decide) rfl
                          simp only [List.getD_cons_succ, List.getD_cons_zero] at g6
                          have g56 := slot_in hA 56 (by decide) (by decide) (hv (19, 56, (.bool true)) (by simp) (ha 19 (by simp [aftersOf, Region.binds])))
                          have gg6 := slot_get g6
                          have gg56 := slot_get g56
                          have gw := slot_bool g56
                          rw [if_pos (by simp [Region.wanted, yielded, gw])]
                          clear gw
                          have hF := hK (.int .i64 (j : Int)) w' ⟨hv.step 22 59 _ (by simp), hq.step 22 59 _ (Below.refl _ _) (by simp)⟩
                          clear hv hq hr ha hK hA hli
                          go_simp
                          exact hF
                        · clear hi; intro o ho lz fz w' A hJ hli ha hA K hK
                          obtain ⟨hv, hq⟩ := hJ
                          obtain rfl := Option.some.inj ho
                          clear ho
                          have hr := hq
                          have g58 := slot_in hA 58 (by decide) (by decide) (hv (21, 58, (.slice (some ⟨b1, o1, none⟩) m cap2)) (by simp) (ha 21 (by simp [aftersOf, Region.binds])))
                          have g59 := slot_in hA 59 (by decide) (by decide) (hv (22, 59, (.int .i64 (j : Int))) (by simp) (ha 22 (by simp [aftersOf, Region.binds])))
                          have g56 := slot_in hA 56 (by decide) (by decide) (hv (19, 56, (.bool true)) (by simp) (ha 19 (by simp [aftersOf, Region.binds])))
                          have gg58 := slot_get g58
                          have gg59 := slot_get g59
                          have gg56 := slot_get g56
                          have gw := slot_bool g56
                          rw [if_pos (by simp [Region.wanted, yielded, gw])]
                          clear gw
                          have hF := hK (.pointer (some ⟨b1, o1 + j, none⟩)) w' ⟨hv.step 23 60 _ (by simp), hq.step 23 60 _ (Below.refl _ _) (by simp)⟩
                          clear hv hq hr ha hK hA hli
                          go_simp
                          exact hF
                        · clear hi; intro o ho lz fz w' A hJ hli ha hA K hK
                          obtain ⟨hv, hq⟩ := hJ
                          obtain rfl := Option.some.inj ho
                          clear ho
                          have hr := hq
                          have g60 := slot_in hA 60 (by decide) (by decide) (hv (23, 60, (.pointer (some ⟨b1, o1 + j, none⟩))) (by simp) (ha 23 (by simp [aftersOf, Region.binds])))
                          have g56 := slot_in hA 56 (by decide) (by decide) (hv (19, 56, (.bool true)) (by simp) (ha 19 (by simp [aftersOf, Region.binds])))
                          have gg60 := slot_get g60
                          have gg56 := slot_get g56
                          have gw := slot_bool g56
                          rw [if_pos (by simp [Region.wanted, yielded, gw])]
                          clear gw
                          have kc := (hr.1.cell (p := ⟨b1, o1 + j, none⟩) hq1).trans hc1
                          have hF := hK (.int .i64 (Y : Int)) w' ⟨hv.step 24 61 _ (by simp), hq.step 24 61 _ (Below.refl _ _) (by simp)⟩
                          clear hv hq hr ha hK hA hli
                          go_simp
                          exact hF
                        · clear hi; intro o ho lz fz w' A hJ hli ha hA K hK
                          obtain ⟨hv, hq⟩ := hJ
                          obtain rfl := Option.some.inj ho
                          clear ho
                          have hr := hq
                          have g57 := slot_in hA 57 (by decide) (by decide) (hv (20, 57, (.slice (some ⟨b0, o0, none⟩) m cap)) (by simp) (ha 20 (by simp [aftersOf, Region.binds])))
                          have g61 := slot_in hA 61 (by decide) (by decide) (hv (24, 61, (.int .i64 (Y : Int))) (by simp) (ha 24 (by simp [aftersOf, Region.binds])))
                          have g56 := slot_in hA 56 (by decide) (by decide) (hv (19, 56, (.bool true)) (by simp) (ha 19 (by simp [aftersOf, Region.binds])))
                          have gg57 := slot_get g57
                          have gg61 := slot_get g61
                          have gg56 := slot_get g56
                          have gw := slot_bool g56
                          rw [if_pos (by simp [Region.wanted, yielded, gw])]
                          clear gw
                          have hF := hK (.pointer (some ⟨b0, o0 + Y * 4, none⟩)) w' ⟨hv.step 25 62 _ (by simp), hq.step 25 62 _ (Below.refl _ _) (by simp)⟩
                          clear hv hq hr ha hK hA hli
                          go_simp
                          exact hF
                        · clear hi; intro o ho lz fz w' A hJ hli ha hA K hK
                          obtain ⟨hv, hq⟩ := hJ
                          obtain rfl := Option.some.inj ho
                          clear ho
                          have hr := hq
                          have g62 := slot_in hA 62 (by decide) (by decide) (hv (25, 62, (.pointer (some ⟨b0, o0 + Y * 4, none⟩))) (by simp) (ha 25 (by simp [aftersOf, Region.binds])))
                          have g56 := slot_in hA 56 (by decide) (by decide) (hv (19, 56, (.bool true)) (by simp) (ha 19 (by simp [aftersOf, Region.binds])))
                          have gg62 := slot_get g62
                          have gg56 := slot_get g56
                          have gw := slot_bool g56
                          rw [if_pos (by simp [Region.wanted, yielded, gw])]
                          clear gw
                          have k0 := (hr.1.cell (p := ⟨b0, o0 + Y * 4, none⟩) hq0).trans c0
                          have k1 := (hr.1.cell (p := ⟨b0, o0 + Y * 4 + 1, none⟩) hq0).trans c1
                          have k2 := (hr.1.cell (p := ⟨b0, o0 + Y * 4 + 2, none⟩) hq0).trans c2
                          have k3 := (hr.1.cell (p := ⟨b0, o0 + Y * 4 + 3, none⟩) hq0).trans c3
                          have hF := hK (.agg #[.int .i64 p, .int .i64 q, .int .i64 r, .int .i64 t]) w' ⟨hv.step 26 63 _ (by simp), hq.step 26 63 _ (Below.refl _ _) (by simp)⟩
                          clear hv hq hr ha hK hA hli
                          go_simp
                          exact hF
                        · clear hi; intro o ho lz fz w' A hJ hli ha hA K hK
                          obtain ⟨hv, hq⟩ := hJ
                          obtain rfl := Option.some.inj ho
                          clear ho
                          have hr := hq
                          have g0 := slot_out hA 0 _ (by decide) (by decide) rfl
                          simp only [List.getD_cons_succ, List.getD_cons_zero] at g0
                          have g56 := slot_in hA 56 (by decide) (by decide) (hv (19, 56, (.bool true)) (by simp) (ha 19 (by simp [aftersOf, Region.binds])))
                          have gg0 := slot_get g0
                          have gg56 := slot_get g56
                          have gw := slot_bool g56
                          rw [if_pos (by simp [Region.wanted, yielded, gw])]
                          clear gw
                          have hF := hK (.slice (some ⟨b0, o0, none⟩) m cap) w' ⟨hv.step 27 64 _ (by simp), hq.step 27 64 _ (Below.refl _ _) (by simp)⟩
                          clear hv hq hr ha hK hA hli
                          go_simp
                          exact hF
                        · clear hi; intro o ho lz fz w' A hJ hli ha hA K hK
                          obtain ⟨hv, hq⟩ := hJ
                          obtain rfl := Option.some.inj ho
                          clear ho
                          have hr := hq
                          have g1 := slot_out hA 1 _ (by decide) (by decide) rfl
                          simp only [List.getD_cons_succ, List.getD_cons_zero] at g1
                          have g56 := slot_in hA 56 (by decide) (by decide) (hv (19, 56, (.bool true)) (by simp) (ha 19 (by simp [aftersOf, Region.binds])))
                          have gg1 := slot_get g1
                          have gg56 := slot_get g56
                          have gw := slot_bool g56
                          rw [if_pos (by simp [Region.wanted, yielded, gw])]
                          clear gw
                          have hF := hK (.slice (some ⟨b1, o1, none⟩) m cap2) w' ⟨hv.step 28 65 _ (by simp), hq.step 28 65 _ (Below.refl _ _) (by simp)⟩
                          clear hv hq hr ha hK hA hli
                          go_simp
                          exact hF
                        · clear hi; intro o ho lz fz w' A hJ hli ha hA K hK
                          obtain ⟨hv, hq⟩ := hJ
                          obtain rfl := Option.some.inj ho
                          clear ho
                          have hr := hq
                          have g5 := slot_out hA 5 _ (by decide) (by decide) rfl
                          simp only [List.getD_cons_succ, List.getD_cons_zero] at g5
                          have g56 := slot_in hA 56 (by decide) (by decide) (hv (19, 56, (.bool true)) (by simp) (ha 19 (by simp [aftersOf, Region.binds])))
                          have gg5 := slot_get g5
                          have gg56 := slot_get g56
                          have gw := slot_bool g56
                          rw [if_pos (by simp [Region.wanted, yielded, gw])]
                          clear gw
                          have hF := hK (.int .i64 (k : Int)) w' ⟨hv.step 29 66 _ (by simp), hq.step 29 66 _ (Below.refl _ _) (by simp)⟩
                          clear hv hq hr ha hK hA hli
                          go_simp
                          exact hF
                        · clear hi; intro o ho lz fz w' A hJ hli ha hA K hK
                          obtain ⟨hv, hq⟩ := hJ
                          obtain rfl := Option.some.inj ho
                          clear ho
                          have hr := hq
                          have g65 := slot_in hA 65 (by decide) (by decide) (hv (28, 65, (.slice (some ⟨b1, o1, none⟩) m cap2)) (by simp) (ha 28 (by simp [aftersOf, Region.binds])))
                          have g66 := slot_in hA 66 (by decide) (by decide) (hv (29, 66, (.int .i64 (k : Int))) (by simp) (ha 29 (by simp [aftersOf, Region.binds])))
                          have g56 := slot_in hA 56 (by decide) (by decide) (hv (19, 56, (.bool true)) (by simp) (ha 19 (by simp [aftersOf, Region.binds])))
                          have gg65 := slot_get g65
                          have gg66 := slot_get g66
                          have gg56 := slot_get g56
                          have gw := slot_bool g56
                          rw [if_pos (by simp [Region.wanted, yielded, gw])]
                          clear gw
                          have hF := hK (.pointer (some ⟨b1, o1 + k, none⟩)) w' ⟨hv.step 30 67 _ (by simp), hq.step 30 67 _ (Below.refl _ _) (by simp)⟩
                          clear hv hq hr ha hK hA hli
                          go_simp
                          exact hF
                        · clear hi; intro o ho lz fz w' A hJ hli ha hA K hK
                          obtain ⟨hv, hq⟩ := hJ
                          obtain rfl := Option.some.inj ho
                          clear ho
                          have hr := hq
                          have g67 := slot_in hA 67 (by decide) (by decide) (hv (30, 67, (.pointer (some ⟨b1, o1 + k, none⟩))) (by simp) (ha 30 (by simp [aftersOf, Region.binds])))
                          have g56 := slot_in hA 56 (by decide) (by decide) (hv (19, 56, (.bool true)) (by simp) (ha 19 (by simp [aftersOf, Region.binds])))
                          have gg67 := slot_get g67
                          have gg56 := slot_get g56
                          have gw := slot_bool g56
                          rw [if_pos (by simp [Region.wanted, yielded, gw])]
                          clear gw
                          have kc := (hr.1.cell (p := ⟨b1, o1 + k, none⟩) hq1).trans hc0
                          have hF := hK (.int .i64 (X : Int)) w' ⟨hv.step 31 68 _ (by simp), hq.step 31 68 _ (Below.refl _ _) (by simp)⟩
                          clear hv hq hr ha hK hA hli
                          go_simp
                          exact hF
                        · clear hi; intro o ho lz fz w' A hJ hli ha hA K hK
                          obtain ⟨hv, hq⟩ := hJ
                          obtain rfl := Option.some.inj ho
                          clear ho
                          have hr := hq
                          have g64 := slot_in hA 64 (by decide) (by decide) (hv (27, 64, (.slice (some ⟨b0, o0, none⟩) m cap)) (by simp) (ha 27 (by simp [aftersOf, Region.binds])))
                          have g68 := slot_in hA 68 (by decide) (by decide) (hv (31, 68, (.int .i64 (X : Int))) (by simp) (ha 31 (by simp [aftersOf, Region.binds])))
                          have g56 := slot_in hA 56 (by decide) (by decide) (hv (19, 56, (.bool true)) (by simp) (ha 19 (by simp [aftersOf, Region.binds])))
                          have gg64 := slot_get g64
                          have gg68 := slot_get g68
                          have gg56 := slot_get g56
                          have gw := slot_bool g56
                          rw [if_pos (by simp [Region.wanted, yielded, gw])]
                          clear gw
                          have hF := hK (.pointer (some ⟨b0, o0 + X * 4, none⟩)) w' ⟨hv.step 32 69 _ (by simp), hq.step 32 69 _ (Below.refl _ _) (by simp)⟩
                          clear hv hq hr ha hK hA hli
                          go_simp
                          exact hF
                        · clear hi; intro o ho lz fz w' A hJ hli ha hA K hK
                          obtain ⟨hv, hq⟩ := hJ
                          obtain rfl := Option.some.inj ho
                          clear ho
                          have hr := hq
                          have g69 := slot_in hA 69 (by decide) (by decide) (hv (32, 69, (.pointer (some ⟨b0, o0 + X * 4, none⟩))) (by simp) (ha 32 (by simp [aftersOf, Region.binds])))
                          have g56 := slot_in hA 56 (by decide) (by decide) (hv (19, 56, (.bool true)) (by simp) (ha 19 (by simp [aftersOf, Region.binds])))
                          have gg69 := slot_get g69
                          have gg56 := slot_get g56
                          have gw := slot_bool g56
                          rw [if_pos (by simp [Region.wanted, yielded, gw])]
                          clear gw
                          have k0 := (hr.1.cell (p := ⟨b0, o0 + X * 4, none⟩) hq0).trans d0
                          have k1 := (hr.1.cell (p := ⟨b0, o0 + X * 4 + 1, none⟩) hq0).trans d1
                          have k2 := (hr.1.cell (p := ⟨b0, o0 + X * 4 + 2, none⟩) hq0).trans d2
                          have k3 := (hr.1.cell (p := ⟨b0, o0 + X * 4 + 3, none⟩) hq0).trans d3
                          have hF := hK (.agg #[.int .i64 p2, .int .i64 q2, .int .i64 r2, .int .i64 t2]) w' ⟨hv.step 33 70 _ (by simp), hq.step 33 70 _ (Below.refl _ _) (by simp)⟩
                          clear hv hq hr ha hK hA hli
                          go_simp
                          exact hF
                        · clear hi; intro o ho lz fz w' A hJ hli ha hA K hK
                          obtain ⟨hv, hq⟩ := hJ
                          obtain rfl := Option.some.inj ho
                          clear ho
                          have hr := hq
                          have g63 := slot_in hA 63 (by decide) (by decide) (hv (26, 63, (.agg #[.int .i64 p, .int .i64 q, .int .i64 r, .int .i64 t])) (by simp) (ha 26 (by simp [aftersOf, Region.binds])))
                          have g70 := slot_in hA 70 (by decide) (by decide) (hv (33, 70, (.agg #[.int .i64 p2, .int .i64 q2, .int .i64 r2, .int .i64 t2])) (by simp) (ha 33 (by simp [aftersOf, Region.binds])))
                          have g56 := slot_in hA 56 (by decide) (by decide) (hv (19, 56, (.bool true)) (by simp) (ha 19 (by simp [aftersOf, Region.binds])))
                          have gg63 := slot_get g63
                          have gg70 := slot_get g70
                          have gg56 := slot_get g56
                          have gw := slot_bool g56
                          rw [if_pos (by simp [Region.wanted, yielded, gw])]
                          clear gw
                          clear hA
                          go_simp
                          refine (conflict_spec p q r t p2 q2 r2 t2 _).mono ?_
                          rintro e w9 ⟨rfl, hb9⟩
                          rw [HU.out]
                          exact hK (.bool u) w9 ⟨hv.step 34 71 _ (by simp), hq.step 34 71 _ hb9 (by simp)⟩
                        · clear hi; intro o ho lz fz w' A hJ hli ha hA K hK
                          obtain ⟨hv, hq⟩ := hJ
                          obtain rfl := Option.some.inj ho
                          clear ho
                          have hr := hq
                          have g56 := slot_in hA 56 (by decide) (by decide) (hv (19, 56, (.bool true)) (by simp) (ha 19 (by simp [aftersOf, Region.binds])))
                          have g71 := slot_in hA 71 (by decide) (by decide) (hv (34, 71, (.bool u)) (by simp) (ha 34 (by simp [aftersOf, Region.binds])))
                          have g46 := slot_in hA 46 (by decide) (by decide) (hv (9, 46, (.bool false)) (by simp) (ha 9 (by simp [aftersOf, Region.binds])))
                          have gg56 := slot_get g56
                          have gg71 := slot_get g71
                          have gg46 := slot_get g46
                          have gw := slot_bool g46
                          rw [if_pos (by simp [Region.wanted, yielded, gw])]
                          clear gw
                          have hF := hK (.bool u) w' ⟨hv.step 35 72 _ (by simp), hq.step 35 72 _ (Below.refl _ _) (by simp)⟩
                          clear hv hq hr ha hK hA hli
                          go_simp
                          exact hF
                        · clear hi; intro o ho lz fz w' A hJ hli ha hA K hK
                          obtain ⟨hv, hq⟩ := hJ
                          obtain rfl := Option.some.inj ho
                          clear ho
                          have hr := hq
                          have g46 := slot_in hA 46 (by decide) (by decide) (hv (9, 46, (.bool false)) (by simp) (ha 9 (by simp [aftersOf, Region.binds])))
                          have g72 := slot_in hA 72 (by decide) (by decide) (hv (35, 72, (.bool u)) (by simp) (ha 35 (by simp [aftersOf, Region.binds])))
                          have gg46 := slot_get g46
                          have gg72 := slot_get g72
                          rw [if_pos (by rfl)]
                          have hF := hK (.bool u) w' ⟨hv.step 36 73 _ (by simp), hq.step 36 73 _ (Below.refl _ _) (by simp)⟩
                          clear hv hq hr ha hK hA hli
                          go_simp
                          exact hF
                      · intro lz fz w' hall hJ
                        obtain ⟨hv, hq⟩ := hJ
                        have h73 : fz 73 = (.bool u) := hv (36, 73, (.bool u)) (by simp) (hall 36 (by decide))
                        have hbR := hq.1
                        clear hv hq hall
                        simp only [mixF, List.contains_cons, List.contains_nil]
                        go_simp
                      -- END REGION
                        have HBQ := Lib.hid (HB1.out.trans (hbR.mono HB1.out.size))
                        clear hbR
                        cases u with
                        | true =>
                          have HF := Lib.hid (HNO.out (fun h => (HL1.out h).2 ⟨HGT.out, rfl⟩))
                          go_wp2
                          go_ret
                          exact ⟨by rw [HF.out]; rfl, HBQ.out⟩
                        | false =>
                          have HN3 := Lib.hid (HL2.out HXY.out (fun h => by cases h.2))
                          go_wp2
                          go_roundw
                          case rel => exact ⟨j + 1, by omega, by go_num, HN3.out, HBQ.out⟩
                          case measure => simp [intOf]; omega
                    · have e3 : decide (X < Y) = false := by simpa using hgt
                      have HN3 := Lib.hid (HL2.out hxy (fun h => hgt h.1))
                      clear hxy hgt
                      go_wp2
                      go_quiet (fail)
                      go_wp2
                      go_roundw
                      case rel => exact ⟨j + 1, by omega, by go_num, HN3.out, below_drewN' HB1.out _⟩
                      case measure => simp [intOf]; omega
                · obtain rfl : j = k := by omega
                  have HFT : Hid (FitTo L O (j + 1)) := Lib.hid (HFIT.out.next ⟨by rw [HX.out, HN.out]; omega, hfi⟩)
                  clear hfi
                  go_wp2
                  go_roundw
                  case rel => exact ⟨j + 1, by omega, by go_num, HFT.out, hb⟩
                  case measure => simp [intOf]; omega
          · obtain rfl : k = m := by omega
            have HF := Lib.hid (fitsM_yes HA.out (HM.out.trans HN.out.symm) (by rw [HN.out]; exact hfit))
            clear hfit
            go_wp2
            go_ret
            exact ⟨by rw [HF.out]; rfl, hb⟩
      · obtain rfl : m = 0 := by omega
        have HF := Lib.hid (fitsM_yes HA.out (HM.out.trans HN.out.symm) (by rw [HN.out]; intro k hk; omega))
        go_enter Try.func29, Try.ntmps29
        go_wp2_with fail
        refine (actionsValid_spec a 0 cap L _ HW.out).mono ?_; rintro e w1 ⟨rfl, hb1⟩
        rw [hA]
        clear hA
        go_wp2
        go_loopw [5] (fun i wr => i = .int .i64 0 ∧ wr = w1) (fun _ _ => 0)
        case atStart => exact ⟨rfl, rfl⟩
        case round =>
          obtain ⟨rfl, rfl⟩ := hrel
          go_wp2
          go_ret
          exact ⟨by rw [HF.out]; rfl, hb1⟩
    · have HP := Lib.hid (fitsM_len (L := L) (O := O) (by rw [HM.out, HN.out]; exact hmn))
      have hd : decide ((m : Int) = (n : Int)) = false := by simp; omega
      have hd2 : ((m : Int) != (n : Int)) = true := by simp; omega
      clear hmn
      go_enter Try.func29, Try.ntmps29
      go_wp2_with fail
      refine (actionsValid_spec a n cap L _ HW.out).mono ?_; rintro e w1 ⟨rfl, hb1⟩
      rw [hA]
      clear hA
      go_wp2
      go_ret
      exact ⟨by rw [HP.out]; rfl, hb1⟩
end Go.Proofs.Ytfhbolpchmdaoaa
