/- The walk of the exact law of NextBlock (gen15/lawnext.py). -/
import Derived.Test.YtaaffpolmecicaaGreatImplNext
import Derived.Test.YtaaffpolmecicaaGreatSpecNext
import Derived.Test.YtaaffpolmecicaaGreatConvBk
import Derived.Deep.RegionHeld3
namespace Go.Proofs.YtaaffpolmecicaaGreat
open Go.RowKit
set_option linter.unusedVariables false
set_option linter.unusedSimpArgs false
theorem owns_grownN {w w' : World} {B : Nat} {e : TypeId} {size n : Nat} {v : Value} {xs : List Value} {r : Option Nat} (h : w.ownsRow B e size v n xs) (hg : w.grownBy w' r) (hne : ∀ g, v.ownBlock = some g → r ≠ some g) : w'.ownsRow B e size v n xs := by
  refine h.kept hg ?_
  rcases hv : v.ownBlock with _ | k
  · exact .inl rfl
  · exact .inr (fun e => hne k hv e.symm)
theorem wfA_marksN (k : Int) (n : Nat) (h0 : 0 ≤ k) (h1 : k ≤ 100000000) (hn : n ≤ 4000000) : WfAs (marksA k n) := by
  intro e he
  obtain ⟨i, hi, rfl⟩ := List.mem_map.1 he
  have := List.mem_range.1 hi
  exact ⟨WalkArith.wf_i64 (by simp only; omega), WalkArith.wf_i64 (by simp only; omega), WalkArith.wf_i64 (by simp only; omega), WalkArith.wf_i64 (by simp only; omega)⟩
set_option maxRecDepth 100000 in
set_option maxHeartbeats 16000000 in
theorem lawExactNextBlock (p q r : Int) (a : Option Addr) (n c : Nat) (t u : Int) (L : List Acn) (a1 : Option Addr) (n1 c1 : Nat) (S : List Ent) (view : Int) (a2 : Option Addr) (n2 c2 : Nat) (M : List Acn) (w : World) (h : RowA w a n L ∧ (a = none → c = 0) ∧ n ≤ c ∧ WfB ⟨p, q, r, L, t, u⟩) (h1 : RowE w a1 n1 S) (hz1 : a1 = none → c1 = 0) (hlc1 : n1 ≤ c1) (hvw : (Lit.int .i64 view).wf = true) (h2 : RowA w a2 n2 M) (hz2 : a2 = none → c2 = 0) (hlc2 : n2 ≤ c2) :
    Calls Tryz.prog 3 #[.agg #[.int .i64 p, .int .i64 q, .int .i64 r, .slice a n c, .int .i64 t, .int .i64 u], .slice a1 n1 c1, .int .i64 view, .slice a2 n2 c2] w (LawTrue w) := by
  obtain ⟨h, -, -, hwf⟩ := h
  have HWF := Lib.hid hwf
  have HVW := Lib.hid hvw
  have hm := h.2.1
  have hm1 := h1.2.1
  have hm2 := h2.2.1
  have HLL : Hid (L.length = n) := Lib.hid h.1
  have HSL : Hid (S.length = n1) := Lib.hid h1.1
  have HML : Hid (M.length = n2) := Lib.hid h2.1
  have hb0 := (Below.refl w.heap.size w).alloc (Nat.le_refl _) (.cells #[.int .i64 p, .int .i64 q, .int .i64 r, .slice a n c, .int .i64 t, .int .i64 u] 24)
  have hg0 := bkAt_new w 24 (.int .i64 p) (.int .i64 q) (.int .i64 r) (.slice a n c) (.int .i64 t) (.int .i64 u)
  obtain ⟨W1, hW1⟩ : ∃ W1, W1 = w.alloc (.cells #[.int .i64 p, .int .i64 q, .int .i64 r, .slice a n c, .int .i64 t, .int .i64 u] 24) := ⟨_, rfl⟩
  have HW1 := Lib.hid hW1
  rw [← hW1] at hb0 hg0
  clear hW1
  have HKK := Lib.hid (fun (W : World) (hb : Below W1.heap.size W1 W) => (⟨hg0.below hb, (h.below hb0).below hb, hb0.trans (hb.mono hb0.size), (h1.below hb0).below hb, (h2.below hb0).below hb⟩ : BkAt W w.heap.size (.int .i64 p) (.int .i64 q) (.int .i64 r) (.slice a n c) (.int .i64 t) (.int .i64 u) ∧ RowA W a n L ∧ Below w.heap.size w W ∧ RowE W a1 n1 S ∧ RowA W a2 n2 M))
  clear hb0 hg0 h hwf h1 hz1 hlc1 h2 hz2 hlc2 hvw
  go_enter Tryz.func3, Tryz.ntmps3
  go_upto_region 1 with (fail)
  rw [← HW1.out]
  clear HW1
  obtain ⟨⟨k0, k1, k2, k3, k4, k5, -⟩, kr, -, -, -⟩ := HKK.out W1 (Below.refl _ _)
  go_wp2_with fail
  refine (szBlock_any p q r t u a n c 1048576 _ (by omega) (by omega) hm).mono ?_; rintro e1 w1 ⟨rfl, hb1⟩
  have HB1 := Lib.hid hb1
  clear k0 k1 k2 k3 k4 k5 kr hb1
  by_cases hs : (n : Int) ≤ 1048576
  · rw [if_pos hs]
    have hnn : decide ((1048576 : Int) - (n : Int) < 0) = false := by simp; omega
    go_wp2_with fail
    refine (szEntryS_any a1 n1 c1 (1048576 - (n : Int)) _ (by omega) (by omega) hm1).mono ?_; rintro e1 w' ⟨rfl, rfl⟩
    by_cases hs1 : (n1 : Int) ≤ 1048576 - (n : Int)
    · rw [if_pos hs1]
      have hnn1 : decide ((1048576 : Int) - (n : Int) - (n1 : Int) < 0) = false := by simp; omega
      go_wp2_with fail
      refine (szActionS_any a2 n2 c2 (1048576 - (n : Int) - (n1 : Int)) _ (by omega) (by omega) hm2).mono ?_; rintro e1 w' ⟨rfl, rfl⟩
      by_cases hs2 : (n2 : Int) ≤ 1048576 - (n : Int) - (n1 : Int)
      · rw [if_pos hs2]
        have hnn2 : decide ((1048576 : Int) - (n : Int) - (n1 : Int) - (n2 : Int) < 0) = false := by simp; omega
        have HSN : Hid (n ≤ 1048576 ∧ n1 ≤ 1048576 ∧ n2 ≤ 1048576) := Lib.hid ⟨by omega, by omega, by omega⟩
        obtain ⟨x, hx⟩ : ∃ x, x = nextM ⟨p, q, r, L, t, u⟩ S view M := ⟨_, rfl⟩
        obtain ⟨v, hv⟩ : ∃ v, v = nextB ⟨p, q, r, L, t, u⟩ S view M := ⟨_, rfl⟩
        have hxl : x.acts.length ≤ 1048576 := by
          rw [hx]; unfold nextM; split
          · have := HML.out; simp only [nextK, blkRun]; omega
          · simp [noBlk]
        have HX := Lib.hid (⟨hx.symm, hv.symm⟩ : nextM ⟨p, q, r, L, t, u⟩ S view M = x ∧ nextB ⟨p, q, r, L, t, u⟩ S view M = v)
        have HXL := Lib.hid hxl
        have hvv : (v != v) = false := by simp
        clear hx hv hxl hs hs1 hs2 hm hm1 hm2 hnn hnn1
        obtain ⟨⟨k0, k1, k2, k3, k4, k5, -⟩, kr, -, -, -⟩ := HKK.out w1 HB1.out
        have HT := Lib.hid (toBlock_any p q r t u a n c L w1 kr HSN.out.1 HWF.out)
        clear kr
        go_wp2_with fail
        refine HT.out.mono ?_; rintro e1 w2 ⟨v2, rfl, ho2, hwa, -, hb2⟩
        obtain ⟨a2x, c2x, rfl, hr2, -, -, hl2⟩ := rowA_of_owns ho2 (by have := HLL.out; have := HSN.out; simp only; omega) hwa
        clear k0 k1 k2 k3 k4 k5 HT
        have HO2 := Lib.hid hr2
        have HB2 := Lib.hid (HB1.out.trans (hb2.mono HB1.out.size))
        clear ho2 hwa hb2 HB1 hr2 hl2
        go_wp2_with fail
        refine (toEntryS_any a1 n1 c1 S _ (HKK.out w2 HB2.out).2.2.2.1 HSN.out.2.1).mono ?_; rintro e1 w3 ⟨v3, rfl, ho3, hw3, hb3⟩
        obtain ⟨g3, c3, rfl, -, hr3⟩ := rowE_of_own ho3 (by have := HSL.out; have := HSN.out; omega) hw3
        have HR3 := Lib.hid hr3
        have HO3 := Lib.hid (HO2.out.below hb3)
        have HB3 := Lib.hid (HB2.out.trans (hb3.mono HB2.out.size))
        clear ho3 hw3 hr3 hb3 HB2 HO2
        go_wp2_with fail
        refine (toActionS_any a2 n2 c2 M _ (HKK.out w3 HB3.out).2.2.2.2 HSN.out.2.2).mono ?_; rintro e1 w4 ⟨v4, rfl, ho4, hw4, hb4⟩
        obtain ⟨g4, c4, rfl, -, -, hr4, -⟩ := rowA_of_own ho4 (by have := HML.out; have := HSN.out; omega) hw4
        have HIN := Lib.hid (nextBlock_spec p q r t u a2x _ c2x L _ _ c3 S view _ _ c4 M w4 (HO3.out.below hb4) (HR3.out.below hb4) (fun h => by cases h) hr4 (fun h => by cases h) HVW.out)
        rw [HX.out.1, HX.out.2] at HIN
        have HB4 := Lib.hid (HB3.out.trans (hb4.mono HB3.out.size))
        clear ho4 hw4 hr4 hb4 HB3 HO3 HR3
        go_wp2_with fail
        refine HIN.out.mono ?_; rintro e1 w5 ⟨v5, rfl, ho5, hwa, -, hb5⟩
        obtain ⟨aW, cW, rfl, hr5, -, -, -⟩ := rowA_of_owns ho5 (by have := HXL.out; omega) hwa
        have HB5 := Lib.hid (HB4.out.trans (hb5.mono HB4.out.size))
        clear HIN HB4 ho5 hb5
        go_upto_region 12 with (fail)
        generalize hw6 : World.alloc _ _ = w6
        have hb6 : Below w5.heap.size w5 w6 := by rw [← hw6]; exact (Below.refl _ _).alloc (Nat.le_refl _) _
        have hW6 : BkAt w6 w5.heap.size (.int .i64 x.bef) (.int .i64 x.hgt) (.int .i64 x.view) (.slice aW x.acts.length cW) (.int .i64 x.root) (.int .i64 x.effs) := by rw [← hw6]; exact bkAt_new w5 _ _ _ _ _ _ _
        have hB6 := HB5.out.trans (hb6.mono HB5.out.size)
        have HXA := Lib.hid hwa
        have hr6 := hr5.below hb6
        obtain ⟨Z, hZ⟩ : ∃ Z, Z = w5.heap.size := ⟨_, rfl⟩
        rw [← hZ] at hW6 ⊢
        have hZ6 : Z < w6.heap.size := hW6.lt
        have HKW := Lib.hid (fun (W : World) (hb : Below w6.heap.size w6 W) => (⟨hW6.below hb, hr6.below hb, hB6.trans (hb.mono hB6.size)⟩ : BkAt W Z (.int .i64 x.bef) (.int .i64 x.hgt) (.int .i64 x.view) (.slice aW x.acts.length cW) (.int .i64 x.root) (.int .i64 x.effs) ∧ RowA W aW x.acts.length x.acts ∧ Below W1.heap.size W1 W))
        clear hw6 hb6 hW6 hB6 hwa hr6 hr5 hZ hZ6 HB5
        obtain ⟨⟨k0, k1, k2, k3, k4, k5, -⟩, kr, -, -, -⟩ := HKK.out w6 (HKW.out w6 (Below.refl _ _)).2.2
        have HT := Lib.hid (toBlock_any p q r t u a n c L w6 kr HSN.out.1 HWF.out)
        clear kr
        go_wp2_with fail
        refine HT.out.mono ?_; rintro e1 w7 ⟨v7, rfl, ho7, hwa, -, hb7⟩
        obtain ⟨a0, c0, rfl, hr7, -, -, hl7⟩ := rowA_of_owns ho7 (by have := HLL.out; have := HSN.out; simp only; omega) hwa
        clear k0 k1 k2 k3 k4 k5 HT hl7
        go_upto_region 13 with (fail)
        generalize hw8 : World.alloc _ _ = w8
        have hb8 : Below w7.heap.size w7 w8 := by rw [← hw8]; exact (Below.refl _ _).alloc (Nat.le_refl _) _
        have hX8 : BkAt w8 w7.heap.size (.int .i64 p) (.int .i64 q) (.int .i64 r) (.slice a0 L.length c0) (.int .i64 t) (.int .i64 u) := by rw [← hw8]; exact bkAt_new w7 _ _ _ _ _ _ _
        have HB8 := Lib.hid (hb7.trans (hb8.mono hb7.size))
        have HO8 := Lib.hid (owns_below ho7 hb8)
        have HWA := Lib.hid hwa
        have HA8 := Lib.hid (hr7.below hb8)
        have HG0 : Hid (∀ g, Value.ownBlock (.slice a0 L.length c0) = some g → w6.heap.size ≤ g ∧ g < w7.heap.size) := Lib.hid (fun g hg => ho7.lt g hg)
        obtain ⟨X, hX⟩ : ∃ X, X = w7.heap.size := ⟨_, rfl⟩
        rw [← hX] at hX8 HG0 ⊢
        have HX8 := Lib.hid hX8
        have HXS : Hid (w6.heap.size ≤ X ∧ X < w8.heap.size) := Lib.hid ⟨by rw [hX]; exact hb7.size, hX8.lt⟩
        clear hw8 hb8 hX8 hX hb7 ho7 hwa hr7
        go_wp2_with fail
        refine (toEntryS_any a1 n1 c1 S _ (HKK.out w8 (HKW.out w8 HB8.out).2.2).2.2.2.1 HSN.out.2.1).mono ?_; rintro e1 w9 ⟨v9, rfl, ho9, hw9, hb9⟩
        obtain ⟨gx, cx, rfl, hgx, hr9⟩ := rowE_of_own ho9 (by have := HSL.out; have := HSN.out; omega) hw9
        have HWX := Lib.hid hw9
        have HO9 := Lib.hid ho9
        have HGX : Hid (w8.heap.size ≤ gx ∧ gx < w9.heap.size) := Lib.hid ⟨hgx, (ho9.1.lt gx rfl).2⟩
        have HB9 := Lib.hid (HB8.out.trans (hb9.mono HB8.out.size))
        have HX9 := Lib.hid (HX8.out.below hb9)
        have HP9 := Lib.hid (owns_below HO8.out hb9)
        have HA9 := Lib.hid (HA8.out.below hb9)
        have HE9 := Lib.hid hr9
        clear ho9 hw9 hb9 hgx HB8 HX8 HO8 HA8 hr9
        go_wp2_with fail
        refine (toActionS_any a2 n2 c2 M _ (HKK.out w9 (HKW.out w9 HB9.out).2.2).2.2.2.2 HSN.out.2.2).mono ?_; rintro e1 w10 ⟨v10, rfl, ho10, hw10, hb10⟩
        obtain ⟨gy, cy, rfl, hgy, hly, hr10, -⟩ := rowA_of_own ho10 (by have := HML.out; have := HSN.out; omega) hw10
        have HGY : Hid (w9.heap.size ≤ gy ∧ gy < w10.heap.size) := Lib.hid ⟨hgy, hly⟩
        have HWY := Lib.hid hw10
        have HY10 := Lib.hid ho10
        have HB10 := Lib.hid (HB9.out.trans (hb10.mono HB9.out.size))
        have HX10 := Lib.hid (HX9.out.below hb10)
        have HP10 := Lib.hid (owns_below HP9.out hb10)
        have HO10 := Lib.hid (HO9.out.below hb10)
        have HIM := Lib.hid (nextBlock_impl p q r t u a0 _ c0 L _ _ cx S view _ _ cy M w10 (HA9.out.below hb10) (HE9.out.below hb10) (fun h => by cases h) hr10 (fun h => by cases h) HVW.out)
        rw [HX.out.1, HX.out.2] at HIM
        clear ho10 hw10 hb10 hgy hly hr10 HB9 HX9 HP9 HO9 HA9 HE9
        obtain ⟨k0, k1, k2, k3, k4, k5, -⟩ := HX10.out
        go_wp2_with fail
        refine HIM.out.mono ?_; rintro e1 w11 ⟨v11, rfl, ho11, hwa, -, hb11⟩
        obtain ⟨aG, cG, rfl, hr11, -, -, -⟩ := rowA_of_owns ho11 (by have := HXL.out; omega) hwa
        clear k0 k1 k2 k3 k4 k5 HIM
        go_upto_region 16 with (fail)
        generalize hw12 : World.alloc _ _ = w12
        have hb12 : Below w11.heap.size w11 w12 := by rw [← hw12]; exact (Below.refl _ _).alloc (Nat.le_refl _) _
        have hG12 : BkAt w12 w11.heap.size (.int .i64 x.bef) (.int .i64 x.hgt) (.int .i64 x.view) (.slice aG x.acts.length cG) (.int .i64 x.root) (.int .i64 x.effs) := by rw [← hw12]; exact bkAt_new w11 _ _ _ _ _ _ _
        have hB12 := HB10.out.trans ((hb11.trans (hb12.mono hb11.size)).mono HB10.out.size)
        have hbx := hb11.trans (hb12.mono hb11.size)
        have hX12 := HX10.out.below hbx
        have hP12 := owns_below HP10.out hbx
        have hO12 := HO10.out.below hbx
        have hY12 := HY10.out.below hbx
        have hL12 := owns_below ho11 hb12
        have HGG : Hid (∀ g, Value.ownBlock (.slice aG x.acts.length cG) = some g → w10.heap.size ≤ g ∧ g < w11.heap.size) := Lib.hid (fun g hg => ho11.lt g hg)
        obtain ⟨G, hGe⟩ : ∃ G, G = w11.heap.size := ⟨_, rfl⟩
        rw [← hGe] at hG12 HGG ⊢
        have HSZ : Hid (w6.heap.size ≤ X ∧ X < w8.heap.size ∧ w8.heap.size ≤ w9.heap.size ∧ w9.heap.size ≤ w10.heap.size ∧ w10.heap.size ≤ G ∧ w6.heap.size ≤ w12.heap.size) := Lib.hid ⟨HXS.out.1, HXS.out.2, by have := HGX.out; omega, by have := HGY.out; omega, by rw [hGe]; exact hb11.size, hB12.size⟩
        have HY := Lib.hid (fun (W : World) (hb : Below w12.heap.size w12 W) => (⟨hX12.below hb, owns_below hP12 hb, hO12.below hb, hY12.below hb, hG12.below hb, owns_below hL12 hb, hB12.trans (hb.mono hB12.size)⟩ : BkAt W X (.int .i64 p) (.int .i64 q) (.int .i64 r) (.slice a0 L.length c0) (.int .i64 t) (.int .i64 u) ∧ W.ownsRow w6.heap.size 69 4 (.slice a0 L.length c0) L.length (flatA L) ∧ Own W w8.heap.size 65 2 (.slice (some ⟨gx, 0, none⟩) S.length cx) S.length (flatE S) ∧ Own W w9.heap.size 69 4 (.slice (some ⟨gy, 0, none⟩) M.length cy) M.length (flatA M) ∧ BkAt W G (.int .i64 x.bef) (.int .i64 x.hgt) (.int .i64 x.view) (.slice aG x.acts.length cG) (.int .i64 x.root) (.int .i64 x.effs) ∧ W.ownsRow w10.heap.size 69 4 (.slice aG x.acts.length cG) x.acts.length (flatA x.acts) ∧ Below w6.heap.size w6 W))
        clear hw12 hb12 hG12 hB12 hbx hX12 hP12 hO12 hY12 hL12 hGe hb11 hr11 ho11 hwa HB10 HX10 HP10 HO10 HY10 HXS
        have HRG := Lib.hid (fun (W : World) (ho : W.ownsRow w10.heap.size 69 4 (.slice aG x.acts.length cG) x.acts.length (flatA x.acts)) => (by
          obtain ⟨a', c', he, hr, -⟩ := rowA_of_owns ho (by have := HXL.out; omega) HXA.out
          simp only [Value.slice.injEq] at he
          obtain ⟨rfl, -, -⟩ := he
          exact hr : RowA W aG x.acts.length x.acts))
        obtain ⟨⟨k0, k1, k2, k3, k4, k5, -⟩, -, -⟩ := HKW.out w12 (HY.out w12 (Below.refl _ _)).2.2.2.2.2.2
        obtain ⟨-, -, -, -, ⟨j0, j1, j2, j3, j4, j5, -⟩, -⟩ := HY.out w12 (Below.refl _ _)
        have HQ := Lib.hid (eqBlock_same x.bef x.hgt x.view x.root x.effs aG _ cG aW cW x.acts w12 (HRG.out w12 (HY.out w12 (Below.refl _ _)).2.2.2.2.2.1) (HKW.out w12 (HY.out w12 (Below.refl _ _)).2.2.2.2.2.2).2.1)
        go_wp2_with fail
        refine HQ.out.mono ?_; rintro e1 w13 ⟨rfl, hb13⟩
        have HY13 := Lib.hid hb13
        clear k0 k1 k2 k3 k4 k5 j0 j1 j2 j3 j4 j5 hb13 HQ
        have HKP := Lib.hid (fun (w' : World) (hb : Below w13.heap.size w13 w') => (⟨⟨((HY.out w13 HY13.out).1.below hb).c0, ((HY.out w13 HY13.out).1.below hb).c1, ((HY.out w13 HY13.out).1.below hb).c2, ((HY.out w13 HY13.out).1.below hb).c3, ((HY.out w13 HY13.out).1.below hb).c4, ((HY.out w13 HY13.out).1.below hb).c5⟩, (((HKK.out w13 (HKW.out w13 (HY.out w13 HY13.out).2.2.2.2.2.2).2.2).1).below hb).c0, (((HKK.out w13 (HKW.out w13 (HY.out w13 HY13.out).2.2.2.2.2.2).2.2).1).below hb).c1, (((HKK.out w13 (HKW.out w13 (HY.out w13 HY13.out).2.2.2.2.2.2).2.2).1).below hb).c2, (((HKK.out w13 (HKW.out w13 (HY.out w13 HY13.out).2.2.2.2.2.2).2.2).1).below hb).c3, (((HKK.out w13 (HKW.out w13 (HY.out w13 HY13.out).2.2.2.2.2.2).2.2).1).below hb).c4, (((HKK.out w13 (HKW.out w13 (HY.out w13 HY13.out).2.2.2.2.2.2).2.2).1).below hb).c5⟩ : (w'.cell? ⟨X, 0, none⟩ = some (.int .i64 p) ∧ w'.cell? ⟨X, 1, none⟩ = some (.int .i64 q) ∧ w'.cell? ⟨X, 2, none⟩ = some (.int .i64 r) ∧ w'.cell? ⟨X, 3, none⟩ = some (.slice a0 L.length c0) ∧ w'.cell? ⟨X, 4, none⟩ = some (.int .i64 t) ∧ w'.cell? ⟨X, 5, none⟩ = some (.int .i64 u)) ∧ (w'.cell? ⟨w.heap.size, 0, none⟩ = some (.int .i64 p) ∧ w'.cell? ⟨w.heap.size, 1, none⟩ = some (.int .i64 q) ∧ w'.cell? ⟨w.heap.size, 2, none⟩ = some (.int .i64 r) ∧ w'.cell? ⟨w.heap.size, 3, none⟩ = some (.slice a n c) ∧ w'.cell? ⟨w.heap.size, 4, none⟩ = some (.int .i64 t) ∧ w'.cell? ⟨w.heap.size, 5, none⟩ = some (.int .i64 u))))
        have hkp0 := HKP.out w13 (Below.refl _ _)
        have HT13 := Lib.hid (toBlock_any p q r t u a n c L w13.drew (((HKK.out w13 (HKW.out w13 (HY.out w13 HY13.out).2.2.2.2.2.2).2.2).2.1).below (Below.refl _ _).drew) HSN.out.1 HWF.out)
        have HR13 := Lib.hid (fun (W : World) (hb : Below w13.heap.size w13 W) => (by
          obtain ⟨a', c', he, hr, -⟩ := rowA_of_owns (HY.out W (HY13.out.trans (hb.mono HY13.out.size))).2.1 (by have := HLL.out; have := HSN.out; omega) HWA.out
          simp only [Value.slice.injEq] at he
          obtain ⟨rfl, -, -⟩ := he
          exact hr : RowA W a0 L.length L))
        go_upto_region 18 with (fail)
        go_region_held3 (fun w' => (w'.cell? ⟨X, 0, none⟩ = some (.int .i64 p) ∧ w'.cell? ⟨X, 1, none⟩ = some (.int .i64 q) ∧ w'.cell? ⟨X, 2, none⟩ = some (.int .i64 r) ∧ w'.cell? ⟨X, 3, none⟩ = some (.slice a0 L.length c0) ∧ w'.cell? ⟨X, 4, none⟩ = some (.int .i64 t) ∧ w'.cell? ⟨X, 5, none⟩ = some (.int .i64 u)) ∧ (w'.cell? ⟨w.heap.size, 0, none⟩ = some (.int .i64 p) ∧ w'.cell? ⟨w.heap.size, 1, none⟩ = some (.int .i64 q) ∧ w'.cell? ⟨w.heap.size, 2, none⟩ = some (.int .i64 r) ∧ w'.cell? ⟨w.heap.size, 3, none⟩ = some (.slice a n c) ∧ w'.cell? ⟨w.heap.size, 4, none⟩ = some (.int .i64 t) ∧ w'.cell? ⟨w.heap.size, 5, none⟩ = some (.int .i64 u))) (first | exact hkp0 | exact hkp | exact hkp2 | go_keep)
          (first | (go_at_call 11; (with_reducible refine HT13.out.mono ?_); rintro e1 w14 ⟨v14, rfl, ho14, hwa14, -, hb14'⟩; obtain ⟨a14, c14, rfl, hr14, -, -, -⟩ := rowA_of_owns ho14 (by have := HLL.out; have := HSN.out; simp only; omega) hwa14; have hb14 := (Below.refl w13.heap.size w13).drew.trans hb14'; have hkp := HKP.out _ hb14) | (go_at_call 15; refine (eqBlock_same p q r t u _ _ c0 _ c14 L _ (HR13.out _ hb14) hr14).mono ?_; rintro e1 w15 ⟨rfl, hb15'⟩; have hb15 := hb14.trans (hb15'.mono hb14.size); have hkp2 := HKP.out _ hb15))
        have HY15 := Lib.hid (HY13.out.trans (hb15.mono HY13.out.size))
        clear hkp0 hkp hkp2 hb14 hb14' hb15 hb15' ho14 hwa14 hr14 HT13 HKP HR13 HY13
        go_wp2_with fail
        refine (toEntryS_any a1 n1 c1 S _ (HKK.out w15 (HKW.out w15 (HY.out w15 HY15.out).2.2.2.2.2.2).2.2).2.2.2.1 HSN.out.2.1).mono ?_; rintro e1 w16 ⟨v16, rfl, ho16, hw16, hb16⟩
        obtain ⟨g16, c16, rfl, -, hr16⟩ := rowE_of_own ho16 (by have := HSL.out; have := HSN.out; omega) hw16
        have HY16 := Lib.hid (HY15.out.trans (hb16.mono HY15.out.size))
        have HQ := Lib.hid (eqEntryS_same (some ⟨gx, 0, none⟩) (some ⟨g16, 0, none⟩) S.length cx c16 S w16 (rowE_owned (HY.out w16 HY16.out).2.2.1.1 rfl (by have := HSL.out; have := HSN.out; omega) HWX.out) hr16)
        clear ho16 hw16 hb16 HY15 hr16
        go_wp2_with fail
        refine HQ.out.mono ?_; rintro e1 w17 ⟨rfl, hb17⟩
        have HY17 := Lib.hid (HY16.out.trans (hb17.mono HY16.out.size))
        clear HQ hb17 HY16
        go_wp2_with fail
        refine (toActionS_any a2 n2 c2 M _ (HKK.out w17 (HKW.out w17 (HY.out w17 HY17.out).2.2.2.2.2.2).2.2).2.2.2.2 HSN.out.2.2).mono ?_; rintro e1 w18 ⟨v18, rfl, ho18, hw18, hb18⟩
        obtain ⟨g18, c18, rfl, -, -, hr18, -⟩ := rowA_of_own ho18 (by have := HML.out; have := HSN.out; omega) hw18
        have HY18 := Lib.hid (HY17.out.trans (hb18.mono HY17.out.size))
        have HQ := Lib.hid (eqActionS_same (some ⟨gy, 0, none⟩) (some ⟨g18, 0, none⟩) M.length cy c18 M w18 (rowA_owned (HY.out w18 HY18.out).2.2.2.1.1 rfl (by have := HML.out; have := HSN.out; omega) HWY.out) hr18)
        clear ho18 hw18 hb18 HY17 hr18
        go_wp2_with fail
        refine HQ.out.mono ?_; rintro e1 w19 ⟨rfl, hb19⟩
        have HY19 := Lib.hid (HY18.out.trans (hb19.mono HY18.out.size))
        clear HQ hb19 HY18
        obtain ⟨⟨k0, k1, k2, k3, k4, k5, -⟩, hp, -⟩ := HY.out w19 HY19.out
        have HMK := Lib.hid (markBlock_own _ p q r t u (.slice a0 L.length c0) L.length L 1 w19 hp rfl (by have := HLL.out; have := HSN.out; omega) (by omega) (by omega))
        clear hp
        go_wp2_with fail
        refine HMK.out.mono ?_; rintro e1 w20 ⟨rfl, -, hg20⟩
        have HG20 := Lib.hid hg20
        clear k0 k1 k2 k3 k4 k5 HMK hg20
        have hE20 : Own w20 w8.heap.size 65 2 (.slice (some ⟨gx, 0, none⟩) S.length cx) S.length (flatE S) := (HY.out w19 HY19.out).2.2.1.grown HG20.out (fun k hk => by have := HG0.out k hk; have := HSZ.out; omega)
        have HE20 := Lib.hid hE20
        clear hE20
        go_wp2_with fail
        refine (markEntryS_any _ gx _ cx S (1 + 4 * (L.length : Int)) _ HE20.out rfl (by have := HSL.out; have := HSN.out; omega) (by omega) (by have := HLL.out; have := HSN.out; omega)).mono ?_; rintro e1 w21 ⟨rfl, -, hg21⟩
        have HG21 := Lib.hid hg21
        have hA21 : Own w21 w9.heap.size 69 4 (.slice (some ⟨gy, 0, none⟩) M.length cy) M.length (flatA M) := ((HY.out w19 HY19.out).2.2.2.1.grown HG20.out (fun k hk => by have := HG0.out k hk; have := HSZ.out; omega)).grown HG21.out (fun k hk => by have := HGX.out; simp only [Option.some.injEq] at hk; omega)
        have HA21 := Lib.hid hA21
        clear hA21 hg21 HE20
        go_wp2_with fail
        refine (markActionS_ownX _ gy _ cy _ (1 + 4 * (L.length : Int) + 2 * (S.length : Int)) _ HA21.out.1 (by have := HML.out; have := HSN.out; omega) (by omega) (by have := HLL.out; have := HSL.out; have := HSN.out; omega)).mono ?_; rintro e1 w22 ⟨rfl, hg22⟩
        have HG22 := Lib.hid hg22
        clear hg22 HA21
        have hkk : decide ((1 : Int) + 4 * (L.length : Int) + 2 * (S.length : Int) + 4 * (M.length : Int) < 0) = false := by simp; omega
        obtain ⟨-, -, -, -, hg, ho, hb⟩ := HY.out w19 HY19.out
        have hsz := HSZ.out
        have hs0 := HG0.out
        have hsx := HGX.out
        have hsy := HGY.out
        have hgo := HGG.out
        have hz19 := hb.size
        have hz20 := HG20.out.size
        have hz21 := HG21.out.size
        have hB22 : Below w6.heap.size w6 w22 := ((hb.grown HG20.out (by omega) (fun k hk => (hs0 k hk).1)).grown HG21.out (by omega) (fun k hk => by simp only [Option.some.injEq] at hk; omega)).grown HG22.out (by omega) (fun k hk => by simp only [Option.some.injEq] at hk; omega)
        have hG22 := ((hg.grown HG20.out (fun h => by have := hs0 G h.symm; omega)).grown HG21.out (fun h => by simp only [Option.some.injEq] at h; omega)).grown HG22.out (fun h => by simp only [Option.some.injEq] at h; omega)
        have hL22 := owns_grownN (owns_grownN (owns_grownN ho HG20.out (fun g hg h => by have := hs0 g h; have := hgo g hg; omega)) HG21.out (fun g hg h => by have := hgo g hg; simp only [Option.some.injEq] at h; omega)) HG22.out (fun g hg h => by have := hgo g hg; simp only [Option.some.injEq] at h; omega)
        have HU := Lib.hid (fun (W : World) (hb : Below w22.heap.size w22 W) => (⟨hG22.below hb, owns_below hL22 hb, hB22.trans (hb.mono hB22.size)⟩ : BkAt W G (.int .i64 x.bef) (.int .i64 x.hgt) (.int .i64 x.view) (.slice aG x.acts.length cG) (.int .i64 x.root) (.int .i64 x.effs) ∧ W.ownsRow w10.heap.size 69 4 (.slice aG x.acts.length cG) x.acts.length (flatA x.acts) ∧ Below w6.heap.size w6 W))
        clear hg ho hb hsz hs0 hsx hsy hgo hz19 hz20 hz21 hB22 hG22 hL22 HG20 HG21 HG22 HY HY19
        obtain ⟨⟨k0, k1, k2, k3, k4, k5, -⟩, -, -⟩ := HKW.out w22 (HU.out w22 (Below.refl _ _)).2.2
        obtain ⟨⟨j0, j1, j2, j3, j4, j5, -⟩, -⟩ := HU.out w22 (Below.refl _ _)
        have HQ := Lib.hid (eqBlock_same x.bef x.hgt x.view x.root x.effs aG _ cG aW cW x.acts w22 (HRG.out w22 (HU.out w22 (Below.refl _ _)).2.1) (HKW.out w22 (HU.out w22 (Below.refl _ _)).2.2).2.1)
        go_wp2_with fail
        refine HQ.out.mono ?_; rintro e1 w23 ⟨rfl, hb23⟩
        have HU23 := Lib.hid hb23
        clear k0 k1 k2 k3 k4 k5 j0 j1 j2 j3 j4 j5 hb23 HQ hkk
        obtain ⟨⟨k0, k1, k2, k3, k4, k5, -⟩, ho, hb⟩ := HU.out w23 HU23.out
        have HMK := Lib.hid (markBlock_own _ x.bef x.hgt x.view x.root x.effs (.slice aG x.acts.length cG) x.acts.length x.acts 1 w23 ho rfl (by have := HXL.out; omega) (by omega) (by omega))
        have HB23 := Lib.hid hb
        clear ho hb
        go_wp2_with fail
        refine HMK.out.mono ?_; rintro e1 w24 ⟨rfl, ho24, hg24⟩
        have hsz := HSZ.out
        have hgo := HGG.out
        have hz := HB23.out.size
        have hB24 := HB23.out.grown hg24 hz (fun k hk => by have := hgo k hk; omega)
        have hG24 := (HU.out w23 HU23.out).1.grown hg24 (fun h => by have := hgo G h.symm; omega)
        have hM24 : RowA w24 aG x.acts.length (marksA 1 x.acts.length) := by
          obtain ⟨a', c', he, hr, -⟩ := rowA_of_owns (l := marksA 1 x.acts.length) (by rw [marksA_len]; exact ho24) (by rw [marksA_len]; have := HXL.out; omega) (wfA_marksN 1 x.acts.length (by omega) (by omega) (by have := HXL.out; omega))
          rw [marksA_len] at he hr
          simp only [Value.slice.injEq] at he
          obtain ⟨rfl, -, -⟩ := he
          exact hr
        have HV := Lib.hid (fun (W : World) (hb : Below w24.heap.size w24 W) => (⟨hG24.below hb, hM24.below hb, hB24.trans (hb.mono hB24.size)⟩ : BkAt W G (.int .i64 x.bef) (.int .i64 x.hgt) (.int .i64 x.view) (.slice aG x.acts.length cG) (.int .i64 x.root) (.int .i64 x.effs) ∧ RowA W aG x.acts.length (marksA 1 x.acts.length) ∧ Below w6.heap.size w6 W))
        clear k0 k1 k2 k3 k4 k5 ho24 hg24 hsz hgo hz hB24 hG24 hM24 HU HU23 HB23 HMK HSZ HGG HGX HGY HG0 HRG
        obtain ⟨⟨k0, k1, k2, k3, k4, k5, -⟩, hm, -⟩ := HV.out w24 (Below.refl _ _)
        have HHD := Lib.hid (heldBlock_any x.bef x.hgt x.view x.root x.effs aG _ cG 1 w24 hm (by have := HXL.out; omega) (by omega) (by omega))
        clear hm
        go_wp2_with fail
        refine HHD.out.mono ?_; rintro e1 w25 ⟨rfl, hb25⟩
        have HV25 := Lib.hid hb25
        clear k0 k1 k2 k3 k4 k5 hb25 HHD
        have hq1 : decide ((1 : Int) + 4 * (x.acts.length : Int) < 0) = false := by simp; omega
        have hq2 : ((1 : Int) + 4 * (x.acts.length : Int) != 1 + 4 * (x.acts.length : Int)) = false := by simp
        obtain ⟨⟨k0, k1, k2, k3, k4, k5, -⟩, kr, -, -, -⟩ := HKK.out w25 (HKW.out w25 (HV.out w25 HV25.out).2.2).2.2
        have HT := Lib.hid (toBlock_any p q r t u a n c L w25 kr HSN.out.1 HWF.out)
        clear kr
        go_wp2_with fail
        refine HT.out.mono ?_; rintro e1 w26 ⟨v26, rfl, ho26, hwa, -, hb26⟩
        obtain ⟨a26, c26, rfl, hr26, -, -, -⟩ := rowA_of_owns ho26 (by have := HLL.out; have := HSN.out; simp only; omega) hwa
        have HO26 := Lib.hid hr26
        have HV26 := Lib.hid (HV25.out.trans (hb26.mono HV25.out.size))
        clear k0 k1 k2 k3 k4 k5 HT ho26 hwa hb26 hr26 HV25
        go_wp2_with fail
        refine (toEntryS_any a1 n1 c1 S _ (HKK.out w26 (HKW.out w26 (HV.out w26 HV26.out).2.2).2.2).2.2.2.1 HSN.out.2.1).mono ?_; rintro e1 w27 ⟨v27, rfl, ho27, hw27, hb27⟩
        obtain ⟨g27, c27, rfl, -, hr27⟩ := rowE_of_own ho27 (by have := HSL.out; have := HSN.out; omega) hw27
        have HR27 := Lib.hid hr27
        have HO27 := Lib.hid (HO26.out.below hb27)
        have HV27 := Lib.hid (HV26.out.trans (hb27.mono HV26.out.size))
        clear ho27 hw27 hr27 hb27 HV26 HO26
        go_wp2_with fail
        refine (toActionS_any a2 n2 c2 M _ (HKK.out w27 (HKW.out w27 (HV.out w27 HV27.out).2.2).2.2).2.2.2.2 HSN.out.2.2).mono ?_; rintro e1 w28 ⟨v28, rfl, ho28, hw28, hb28⟩
        obtain ⟨g28, c28, rfl, -, -, hr28, -⟩ := rowA_of_own ho28 (by have := HML.out; have := HSN.out; omega) hw28
        have HIM := Lib.hid (nextBlock_impl p q r t u a26 _ c26 L _ _ c27 S view _ _ c28 M w28 (HO27.out.below hb28) (HR27.out.below hb28) (fun h => by cases h) hr28 (fun h => by cases h) HVW.out)
        rw [HX.out.1, HX.out.2] at HIM
        have HV28 := Lib.hid (HV27.out.trans (hb28.mono HV27.out.size))
        clear ho28 hw28 hr28 hb28 HV27 HO27 HR27
        go_wp2_with fail
        refine HIM.out.mono ?_; rintro e1 w29 ⟨v29, rfl, ho29, hwa, -, hb29⟩
        obtain ⟨aH, cH, rfl, hr29, -, -, -⟩ := rowA_of_owns ho29 (by have := HXL.out; omega) hwa
        have HV29 := Lib.hid (HV28.out.trans (hb29.mono HV28.out.size))
        clear HIM ho29 hwa hb29 HV28
        go_upto_region 39 with (fail)
        generalize hw30 : World.alloc _ _ = w30
        have hb30 : Below w29.heap.size w29 w30 := by rw [← hw30]; exact (Below.refl _ _).alloc (Nat.le_refl _) _
        have hH30 : BkAt w30 w29.heap.size (.int .i64 x.bef) (.int .i64 x.hgt) (.int .i64 x.view) (.slice aH x.acts.length cH) (.int .i64 x.root) (.int .i64 x.effs) := by rw [← hw30]; exact bkAt_new w29 _ _ _ _ _ _ _
        have HV30 := Lib.hid (HV29.out.trans (hb30.mono HV29.out.size))
        have hr30 := hr29.below hb30
        clear hw30 hb30 hr29 HV29
        obtain ⟨j0, j1, j2, j3, j4, j5, -⟩ := hH30
        obtain ⟨⟨k0, k1, k2, k3, k4, k5, -⟩, -, -⟩ := HKW.out w30 (HV.out w30 HV30.out).2.2
        have HQ := Lib.hid (eqBlock_same x.bef x.hgt x.view x.root x.effs aH _ cH aW cW x.acts w30 hr30 (HKW.out w30 (HV.out w30 HV30.out).2.2).2.1)
        clear hr30
        go_wp2_with fail
        refine HQ.out.mono ?_; rintro e1 w31 ⟨rfl, hb31⟩
        have HV31 := Lib.hid (HV30.out.trans (hb31.mono HV30.out.size))
        clear k0 k1 k2 k3 k4 k5 j0 j1 j2 j3 j4 j5 hb31 HQ HV30
        obtain ⟨⟨k0, k1, k2, k3, k4, k5, -⟩, hm, -⟩ := HV.out w31 HV31.out
        have HHD := Lib.hid (heldBlock_any x.bef x.hgt x.view x.root x.effs aG _ cG 1 w31 hm (by have := HXL.out; omega) (by omega) (by omega))
        clear hm
        go_wp2_with fail
        refine HHD.out.mono ?_; rintro e1 w32 ⟨rfl, hb32⟩
        have HBF := Lib.hid (HKK.out w32 (HKW.out w32 (HV.out w32 (HV31.out.trans (hb32.mono HV31.out.size))).2.2).2.2).2.2.1
        clear k0 k1 k2 k3 k4 k5 hb32 HHD HV31
        go_wp2
        go_ret
        exact ⟨rfl, HBF.out⟩
      · rw [if_neg hs2]
        have HBF := Lib.hid ((HKK.out _ HB1.out).2.2.1)
        clear hs hs1 hs2
        go_wp2
        go_ret
        exact ⟨rfl, HBF.out⟩
    · rw [if_neg hs1]
      have HBF := Lib.hid ((HKK.out _ HB1.out).2.2.1)
      clear hs hs1
      go_wp2
      go_ret
      exact ⟨rfl, HBF.out⟩
  · rw [if_neg hs]
    have HBF := Lib.hid ((HKK.out _ HB1.out).2.2.1)
    clear hs
    go_wp2
    go_ret
    exact ⟨rfl, HBF.out⟩
end Go.Proofs.YtaaffpolmecicaaGreat
