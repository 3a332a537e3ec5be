/- The walk of the exact law of FirstBlock (gen15/lawfirst.py). -/
import Derived.Test.YtaaffpolmecicaaImplBlk3
import Derived.Test.YtaaffpolmecicaaSpecBlk2
import Derived.Test.YtaaffpolmecicaaConvBk
namespace Go.Proofs.Ytaaffpolmecicaa
open Go.RowKit
set_option linter.unusedVariables false
set_option linter.unusedSimpArgs false
/-- A new block without actions: its parts. -/
theorem NewBk.none {w w' : World} {eA : TypeId} {b : Blk} {e : Ending} (h : NewBk w eA b e w') (hb : b.acts = []) :
    ∃ a c, e = .returned (.agg #[.int .i64 b.bef, .int .i64 b.hgt, .int .i64 b.view, .slice a 0 c, .int .i64 b.root, .int .i64 b.effs]) ∧ w'.ownsRow w.heap.size eA 4 (.slice a 0 c) 0 (flatA []) ∧ Below w.heap.size w w' := by
  obtain ⟨v, rfl, ho, -, -, hb'⟩ := h
  rw [hb] at ho
  obtain ⟨a, n, c, rfl⟩ := slice_form ho
  have : n = 0 := by
    rcases ho.2 with ⟨h1, _⟩ | ⟨g, cap, cur, h1, _⟩
    · simp only [Value.slice.injEq] at h1; exact h1.2.1
    · simp only [Value.slice.injEq] at h1; exact h1.2.1
  subst this
  exact ⟨a, c, rfl, ho, hb'⟩
theorem rowA_none (w : World) (a : Option Addr) : RowA w a 0 [] := ⟨rfl, by unfold maxLen; omega, fun h => absurd h (by omega), fun x hx => by cases hx⟩
theorem owns_grownX {w w' : World} {B : Nat} {e : TypeId} {size n : Nat} {v : Value} {xs : List Value} {g : Nat} (h : w.ownsRow B e size v n xs) (hg : w.grownBy w' (some g)) (hne : some g ≠ v.ownBlock) : w'.ownsRow B e size v n xs := by
  refine h.kept hg ?_
  rcases hv : v.ownBlock with _ | k
  · exact .inl rfl
  · exact .inr (fun e => by rw [hv] at hne; exact hne e.symm)
set_option maxRecDepth 100000 in
set_option maxHeartbeats 8000000 in
theorem lawExactFirstBlock (a : Option Addr) (n cap : Nat) (S : List Ent) (w : World) (h : RowE w a n S) (hz : a = none → cap = 0) (hlc : n ≤ cap) :
    Calls Try.prog 5 #[.slice a n cap] w (LawTrue w) := by
  have HR := Lib.hid h
  have hm := h.2.1
  clear h hz hlc
  go_enter Try.func5, Try.ntmps5
  go_wp2_with fail
  refine (szEntryS_any a n cap 1048576 _ (by omega) (by omega) hm).mono ?_; rintro e w' ⟨rfl, rfl⟩
  by_cases hs : (n : Int) ≤ 1048576
  · rw [if_pos hs]
    have hnn : decide ((1048576 : Int) - (n : Int) < 0) = false := by simp; omega
    have hsn : n ≤ 1048576 := by omega
    have HSN := Lib.hid hsn
    obtain rfl := HR.out.1
    obtain ⟨x, hx⟩ : ∃ x, x = firstM S := ⟨_, rfl⟩
    have HX := Lib.hid hx
    have hxa : x.acts = [] := by
      rw [hx]; unfold firstM; split <;> rfl
    have HXA := Lib.hid hxa
    clear hx hxa hs hm hsn
    go_wp2_with fail
    refine (toEntryS_any a _ cap S _ HR.out HSN.out).mono ?_; rintro e w2 ⟨v2, rfl, ho2, hw2, hb2⟩
    obtain ⟨g2, c2, rfl, -, hr2⟩ := rowE_of_own ho2 (by have := HSN.out; omega) hw2
    have HR2 := Lib.hid hr2
    have HB2 := Lib.hid hb2
    clear ho2 hw2 hb2 hr2
    go_wp2_with fail
    refine (firstBlock_spec _ _ c2 S _ HR2.out).mono ?_; intro e w3 hF3
    rw [← HX.out] at hF3
    obtain ⟨aW, cW, rfl, hoW, hb3⟩ := hF3.none HXA.out
    have HB3 := Lib.hid (HB2.out.trans (hb3.mono HB2.out.size))
    clear hF3 hb3 HB2 HR2 hoW
    go_upto_region 6 with (fail)
    generalize hw4 : World.alloc _ _ = w4
    have HB4 := Lib.hid (show Below w.heap.size w w4 by rw [← hw4]; exact HB3.out.alloc HB3.out.size _)
    have hW4 : BkAt w4 w3.heap.size (.int .i64 x.bef) (.int .i64 x.hgt) (.int .i64 x.view) (.slice aW 0 cW) (.int .i64 x.root) (.int .i64 x.effs) := by rw [← hw4]; exact bkAt_new w3 _ _ _ _ _ _ _
    have HKW := Lib.hid (fun (W : World) (hb : Below w4.heap.size w4 W) => (⟨hW4.below hb, HB4.out.trans (hb.mono HB4.out.size), HR.out.below (HB4.out.trans (hb.mono HB4.out.size))⟩ : BkAt W w3.heap.size (.int .i64 x.bef) (.int .i64 x.hgt) (.int .i64 x.view) (.slice aW 0 cW) (.int .i64 x.root) (.int .i64 x.effs) ∧ Below w.heap.size w W ∧ RowE W a S.length S))
    obtain ⟨Z, hZ⟩ : ∃ Z, Z = w3.heap.size := ⟨_, rfl⟩
    rw [← hZ] at HKW ⊢
    have HZ4 : Hid (Z < w4.heap.size) := Lib.hid (by rw [hZ]; exact hW4.lt)
    clear hw4 hW4 hZ HB3
    go_wp2_with fail
    refine (toEntryS_any a _ cap S _ (HKW.out w4 (Below.refl _ _)).2.2 HSN.out).mono ?_; rintro e w5 ⟨v5, rfl, ho5, hw5, hb5⟩
    obtain ⟨gx, cx, rfl, hgx, hr5⟩ := rowE_of_own ho5 (by have := HSN.out; omega) hw5
    have HWX := Lib.hid hw5
    have HO5 := Lib.hid ho5
    have HR5 := Lib.hid hr5
    have HB5 := Lib.hid hb5
    have HGX := Lib.hid hgx
    clear ho5 hw5 hb5 hr5 hgx
    go_wp2_with fail
    refine (firstBlock_impl _ _ cx S _ HR5.out (fun h => by cases h)).mono ?_; intro e w6 hF6
    rw [← HX.out] at hF6
    obtain ⟨aG, cG, rfl, hoG, hb6⟩ := hF6.none HXA.out
    have HB6 := Lib.hid (HB5.out.trans (hb6.mono HB5.out.size))
    have HO6 := Lib.hid (HO5.out.below hb6)
    have HSZ : Hid (w4.heap.size ≤ w5.heap.size ∧ w5.heap.size ≤ w6.heap.size ∧ gx < w5.heap.size) := Lib.hid ⟨HB5.out.size, hb6.size, (HO5.out.1.lt gx rfl).2⟩
    have HG6 := Lib.hid hoG
    clear hF6 hb6 hoG HR5 HB5 HO5
    go_upto_region 8 with (fail)
    generalize hw7 : World.alloc _ _ = w7
    have hb67 : Below w6.heap.size w6 w7 := by rw [← hw7]; exact (Below.refl _ _).alloc (Nat.le_refl _) _
    have HB7 := Lib.hid (HB6.out.trans (hb67.mono HB6.out.size))
    have HG7 : Hid (BkAt w7 w6.heap.size (.int .i64 x.bef) (.int .i64 x.hgt) (.int .i64 x.view) (.slice aG 0 cG) (.int .i64 x.root) (.int .i64 x.effs)) := Lib.hid (by rw [← hw7]; exact bkAt_new w6 _ _ _ _ _ _ _)
    have HO7 := Lib.hid (HO6.out.below hb67)
    have HL7 := Lib.hid (owns_below HG6.out hb67)
    have HGS : Hid (∀ g, Value.ownBlock (.slice aG 0 cG) = some g → w5.heap.size ≤ g ∧ g < w6.heap.size) := Lib.hid (fun g hg => HG6.out.lt g hg)
    obtain ⟨G, hG⟩ : ∃ G, G = w6.heap.size := ⟨_, rfl⟩
    rw [← hG] at HG7 HSZ HGS ⊢
    clear hw7 hb67 hG HB6 HO6 HG6
    obtain ⟨k0, k1, k2, k3, k4, k5, -⟩ := HG7.out
    obtain ⟨⟨j0, j1, j2, j3, j4, j5, -⟩, -, -⟩ := HKW.out w7 HB7.out
    go_wp2_with fail
    refine (eqBlock_same x.bef x.hgt x.view x.root x.effs aG 0 cG aW cW [] w7 (rowA_none _ _) (rowA_none _ _)).mono ?_; rintro e w8 ⟨rfl, hb8⟩
    have HB8 := Lib.hid (HB7.out.trans (hb8.mono HB7.out.size))
    have HG8 := Lib.hid (HG7.out.below hb8)
    have HO8 := Lib.hid (HO7.out.below hb8)
    have HL8 := Lib.hid (owns_below HL7.out hb8)
    clear k0 k1 k2 k3 k4 k5 j0 j1 j2 j3 j4 j5 hb8 HB7 HG7 HO7 HL7
    go_wp2_with fail
    refine (toEntryS_any a _ cap S _ (HKW.out w8 HB8.out).2.2 HSN.out).mono ?_; rintro e w9 ⟨v9, rfl, ho9, hw9, hb9⟩
    obtain ⟨g9, c9, rfl, -, hr9⟩ := rowE_of_own ho9 (by have := HSN.out; omega) hw9
    have HB9 := Lib.hid (HB8.out.trans (hb9.mono HB8.out.size))
    have HG9 := Lib.hid (HG8.out.below hb9)
    have HO9 := Lib.hid (HO8.out.below hb9)
    have HL9 := Lib.hid (owns_below HL8.out hb9)
    clear ho9 hw9 hb9 HB8 HG8 HO8 HL8
    have hrx9 : RowE w9 (some ⟨gx, 0, none⟩) S.length S := rowE_owned HO9.out.1 rfl (by have := HSN.out; omega) HWX.out
    go_wp2_with fail
    refine (eqEntryS_same _ _ _ cx c9 S _ hrx9 hr9).mono ?_; rintro e w10 ⟨rfl, hb10⟩
    have HB10 := Lib.hid (HB9.out.trans (hb10.mono HB9.out.size))
    have HG10 := Lib.hid (HG9.out.below hb10)
    have HO10 := Lib.hid (HO9.out.below hb10)
    have HL10 := Lib.hid (owns_below HL9.out hb10)
    clear hrx9 hr9 hb10 HB9 HG9 HO9 HL9
    go_wp2_with fail
    refine (markEntryS_any _ gx _ cx S 1 _ HO10.out rfl (by have := HSN.out; omega) (by omega) (by omega)).mono ?_; rintro e w11 ⟨rfl, -, hg11⟩
    have hsz := HSZ.out
    have hgx := HGX.out
    have HB11 := Lib.hid (HB10.out.grown hg11 HB10.out.size (fun k hk => by simp at hk; omega))
    have HG11 := Lib.hid (HG10.out.grown hg11 (fun h => by simp at h; omega))
    have HL11 := Lib.hid (owns_grownX HL10.out hg11 (fun h => by have := HGS.out gx h.symm; omega))
    clear hg11 HB10 HG10 HO10 HL10 hsz hgx
    have hkk : decide ((1 : Int) + 2 * (S.length : Int) < 0) = false := by simp; omega
    obtain ⟨k0, k1, k2, k3, k4, k5, -⟩ := HG11.out
    obtain ⟨⟨j0, j1, j2, j3, j4, j5, -⟩, -, -⟩ := HKW.out w11 HB11.out
    go_wp2_with fail
    refine (eqBlock_same x.bef x.hgt x.view x.root x.effs aG 0 cG aW cW [] w11 (rowA_none _ _) (rowA_none _ _)).mono ?_; rintro e w12 ⟨rfl, hb12⟩
    have HB12 := Lib.hid (HB11.out.trans (hb12.mono HB11.out.size))
    have HG12 := Lib.hid (HG11.out.below hb12)
    have HL12 := Lib.hid (owns_below HL11.out hb12)
    clear k0 k1 k2 k3 k4 k5 j0 j1 j2 j3 j4 j5 hb12 HB11 HG11 HL11 hkk
    obtain ⟨k0, k1, k2, k3, k4, k5, -⟩ := HG12.out
    go_wp2_with fail
    refine (markBlock_own _ x.bef x.hgt x.view x.root x.effs (.slice aG 0 cG) 0 [] 1 w12 HL12.out rfl (by omega) (by omega) (by omega)).mono ?_; rintro e w13 ⟨rfl, -, hg13⟩
    have hsz := HSZ.out
    have HB13 := Lib.hid (HB12.out.grown hg13 HB12.out.size (fun k hk => by have := HGS.out k hk; omega))
    have HG13 := Lib.hid (HG12.out.grown hg13 (fun h => by have := HGS.out G h.symm; omega))
    clear k0 k1 k2 k3 k4 k5 hg13 HB12 HG12 HL12 hsz
    obtain ⟨k0, k1, k2, k3, k4, k5, -⟩ := HG13.out
    have hq0 : (1 : Int) + 4 * ((0 : Nat) : Int) = 1 := by omega
    rw [hq0]
    clear hq0
    go_wp2_with fail
    refine (heldBlock_any x.bef x.hgt x.view x.root x.effs aG 0 cG 1 w13 (rowA_none _ _) (by omega) (by omega) (by omega)).mono ?_; rintro e w14 ⟨rfl, hb14⟩
    have hq0 : (1 : Int) + 4 * ((0 : Nat) : Int) = 1 := by omega
    rw [hq0]
    clear hq0
    have HB14 := Lib.hid (HB13.out.trans (hb14.mono HB13.out.size))
    have HG14 := Lib.hid (HG13.out.below hb14)
    clear k0 k1 k2 k3 k4 k5 hb14 HB13 HG13
    go_wp2_with fail
    refine (toEntryS_any a _ cap S _ (HKW.out w14 HB14.out).2.2 HSN.out).mono ?_; rintro e w15 ⟨v15, rfl, ho15, hw15, hb15⟩
    obtain ⟨g15, c15, rfl, -, hr15⟩ := rowE_of_own ho15 (by have := HSN.out; omega) hw15
    have HB15 := Lib.hid (HB14.out.trans (hb15.mono HB14.out.size))
    have HG15 := Lib.hid (HG14.out.below hb15)
    have HR15 := Lib.hid hr15
    clear ho15 hw15 hb15 hr15 HB14 HG14
    go_wp2_with fail
    refine (firstBlock_impl _ _ c15 S _ HR15.out (fun h => by cases h)).mono ?_; intro e w16 hF16
    rw [← HX.out] at hF16
    obtain ⟨aH, cH, rfl, -, hb16⟩ := hF16.none HXA.out
    have HB16 := Lib.hid (HB15.out.trans (hb16.mono HB15.out.size))
    have HG16 := Lib.hid (HG15.out.below hb16)
    clear hF16 hb16 HR15 HB15 HG15
    go_upto_region 25 with (fail)
    generalize hw17 : World.alloc _ _ = w17
    have hb17 : Below w16.heap.size w16 w17 := by rw [← hw17]; exact (Below.refl _ _).alloc (Nat.le_refl _) _
    have hH17 : BkAt w17 w16.heap.size (.int .i64 x.bef) (.int .i64 x.hgt) (.int .i64 x.view) (.slice aH 0 cH) (.int .i64 x.root) (.int .i64 x.effs) := by rw [← hw17]; exact bkAt_new w16 _ _ _ _ _ _ _
    have HB17 := Lib.hid (HB16.out.trans (hb17.mono HB16.out.size))
    have HG17 := Lib.hid (HG16.out.below hb17)
    clear hw17 hb17 HB16 HG16
    obtain ⟨k0, k1, k2, k3, k4, k5, -⟩ := hH17
    obtain ⟨⟨j0, j1, j2, j3, j4, j5, -⟩, -, -⟩ := HKW.out w17 HB17.out
    go_wp2_with fail
    refine (eqBlock_same x.bef x.hgt x.view x.root x.effs aH 0 cH aW cW [] w17 (rowA_none _ _) (rowA_none _ _)).mono ?_; rintro e w18 ⟨rfl, hb18⟩
    have HB18 := Lib.hid (HB17.out.trans (hb18.mono HB17.out.size))
    have HG18 := Lib.hid (HG17.out.below hb18)
    clear k0 k1 k2 k3 k4 k5 j0 j1 j2 j3 j4 j5 hb18 HB17 HG17
    obtain ⟨k0, k1, k2, k3, k4, k5, -⟩ := HG18.out
    go_wp2_with fail
    refine (heldBlock_any x.bef x.hgt x.view x.root x.effs aG 0 cG 1 w18 (rowA_none _ _) (by omega) (by omega) (by omega)).mono ?_; rintro e w19 ⟨rfl, hb19⟩
    have hq0 : (1 : Int) + 4 * ((0 : Nat) : Int) = 1 := by omega
    rw [hq0]
    clear hq0
    have HBF := Lib.hid (HKW.out w19 (HB18.out.trans (hb19.mono HB18.out.size))).2.1
    clear k0 k1 k2 k3 k4 k5 hb19 HB18 HG18
    go_wp2
    go_ret
    exact ⟨rfl, HBF.out⟩
  · rw [if_neg hs]
    clear hs
    go_wp2
    go_ret
    exact ⟨rfl, Below.refl _ _⟩
end Go.Proofs.Ytaaffpolmecicaa
