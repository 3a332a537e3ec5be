/- The contract of the program's RunOrder. -/
import Derived.Test.YtfhbolpchmdaoaaPermMem
import Derived.Test.YtfhbolpchmdaoaaImplSer
import Derived.Test.YtfhbolpchmdaoaaEightA
namespace Go.Proofs.Ytfhbolpchmdaoaa
open Go.RowKit
set_option linter.unusedVariables false
set_option linter.unusedSimpArgs false
theorem infoAct : (Try.prog.info? 24).map (fun i => (i.zero, i.size, i.bytes)) = some (some (.agg #[.int .i64 0, .int .i64 0, .int .i64 0, .int .i64 0]), 4, 32) := by kernel_rfl
theorem grown4 (w : World) (g o1 o2 o3 o4 : Nat) (p q r s : Value) : w.grownBy ((((w.setCell ⟨g, o1, none⟩ p).setCell ⟨g, o2, none⟩ q).setCell ⟨g, o3, none⟩ r).setCell ⟨g, o4, none⟩ s) (some g) :=
  grownBy_trans (grown3 w g o1 o2 o3 p q r) (grownBy_set _ g o4 s)
set_option maxRecDepth 100000 in
set_option maxHeartbeats 8000000 in
theorem runOrder_impl (a : Option Addr) (n cap : Nat) (S : List Ent) (b : Option Addr) (m c2 : Nat) (L : List Acn) (d : Option Addr) (q3 c3 : Nat) (O : List Int) (w : World) (h : RowE w a n S) (hz : a = none → cap = 0) (h2 : RowA w b m L) (h3 : RowI w d q3 O) :
    Calls Try.prog 32 #[.slice a n cap, .slice b m c2, .slice d q3 c3] w (NewSF w 40 31 (runOrdM S L O).1 (runOrdM S L O).2) := by
  have HS := Lib.hid h
  have HAW := Lib.hid h2
  have HOW := Lib.hid h3
  have HZ := Lib.hid hz
  clear h h2 h3 hz
  have HNO : Hid ((storeB S && fitsM L O) = false → runOrdM S L O = ([], [])) := Lib.hid runOrdM_no
  have HNIL : Hid (∀ w5, Below w.heap.size w w5 → OwnSF w5 w.heap.size w5.heap.size 40 31 (.slice none 0 0) (.slice none 0 0) [] []) := Lib.hid (fun w5 hb =>
    ⟨World.ownsRow_nil _ _ _ _, fun e he => (by cases he), fun p hp => (by cases hp), by simp, [], own2_nil _ _ _ _ _, fun y hy p hp hq => by cases hp⟩)
  go_enter Try.func32, Try.ntmps32
  go_wp2_with fail
  refine (storeValid_impl a n cap S _ HS.out).mono ?_; rintro e w1 ⟨rfl, hb1⟩
  cases hS : storeB S with
  | false =>
    have HE := Lib.hid (HNO.out (by rw [hS]; rfl))
    clear hS HNO
    go_wp2
    go_ret2
    exact ⟨.slice none 0 0, .slice none 0 0, rfl, by rw [HE.out]; exact HNIL.out _ hb1, hb1⟩
  | true =>
    have HSB := Lib.hid hS
    clear hS
    go_wp2_with fail
    refine (orderFits_impl b m c2 L d q3 c3 O _ (HAW.out.below hb1) (HOW.out.below hb1)).mono ?_; rintro e w2 ⟨rfl, hb2'⟩
    have hb2 := hb1.trans (hb2'.mono hb1.size)
    clear hb1 hb2'
    cases hf : fitsM L O with
    | false =>
      have HE := Lib.hid (HNO.out (by rw [HSB.out, hf]; rfl))
      clear hf HNO
      go_wp2
      go_ret2
      exact ⟨.slice none 0 0, .slice none 0 0, rfl, by rw [HE.out]; exact HNIL.out _ hb2, hb2⟩
    | true =>
      obtain ⟨hA, hOl, hFT⟩ := fitsM_true hf
      have hm10 : m ≤ 10 := by have := (actsB_true hA).1; have := HAW.out.1; omega
      have hqm : q3 = m := by have := HOW.out.1; have := HAW.out.1; omega
      subst hqm
      have HLl := Lib.hid HAW.out.1
      have HOl := Lib.hid HOW.out.1
      have HY := Lib.hid (runOrdM_yes HSB.out hf)
      have HFT := Lib.hid hFT
      have HOLL := Lib.hid hOl
      have HOV := Lib.hid (ord_valid hf)
      have HWFA : Hid (WfAs (ordM L O)) := Lib.hid (fun x hx => by
        obtain ⟨i, hi, e⟩ := List.getElem_of_mem hx
        rw [ordM_len] at hi
        have h1 := ordM_get L O i hi
        rw [List.getD_eq_getElem?_getD, List.getElem?_eq_getElem (by rw [ordM_len]; exact hi)] at h1
        have h2 := (hFT i (by rw [← hOl]; exact hi)).1
        rw [← e]
        have h3 : (ordM L O)[i]'(by rw [ordM_len]; exact hi) = L.getD (O.getD i 0).toNat noA := h1
        rw [h3]
        exact HAW.out.2.2.2 _ (getD_memA L _ (by omega)))
      have hS32 := store_len HSB.out
      have hSl := HS.out.1
      clear hf hA hOl hFT HNO HNIL
      have HML : Hid ((ordM L O).length = q3) := Lib.hid (by rw [ordM_len]; exact HOl.out)
      have HMG : Hid (∀ k x : Nat, k < q3 → O.getD k 0 = x → (ordM L O).getD k noA = L.getD x noA) := Lib.hid (fun k x hk hx => by rw [ordM_get L O k (by rw [HOl.out]; exact hk), hx]; rfl)
      obtain ⟨M, hM⟩ : ∃ M, M = ordM L O := ⟨_, rfl⟩
      rw [← hM] at HML HMG HWFA HOV HY
      clear hM
      obtain ⟨i0, hi, hz0, hz1, hz2⟩ := info_parts infoAct
      obtain ⟨i1, gi, gz0, gz1, gz2⟩ := info_parts infoEffS
      have HGI := Lib.hid gi
      have HG0 := Lib.hid gz0
      have HG1 := Lib.hid gz1
      have HG2 := Lib.hid gz2
      clear gi gz0 gz1 gz2
      go_wp2_with (first | (at_make; refine wpList_make_full _ rfl (.tmp 26) (.tmp 26) 36 rfl w2.heap.size 24 i0 (.agg #[.int .i64 0, .int .i64 0, .int .i64 0, .int .i64 0]) 4 Try.underlying36 hi hz0 hz1 .i64 .i64 q3 q3 q3 rfl rfl rfl rfl (by rw [hz2]; omega) (by unfold maxLen; omega) (Nat.le_refl _) ?_; intro w3 hown hgrow; clear hi hz0 hz1 hz2))
      have hb23 : Below w2.heap.size w2 w3 := (Below.refl _ _).grown hgrow (Nat.le_refl _) (fun k hk => by simp at hk)
      have hb3 := hb2.trans (hb23.mono hb2.size)
      rw [madeA, ← HML.out, ← fillP_zero, HML.out] at hown
      obtain ⟨gO, hgO⟩ : ∃ gO, gO = w2.heap.size := ⟨_, rfl⟩
      have hgw : w.heap.size ≤ gO := by rw [hgO]; exact hb2.size
      rw [← hgO] at hown ⊢
      have HR3 := Lib.hid hown
      have HB3 := Lib.hid hb3
      have HGI' : Hid (∀ wr, Below w.heap.size w wr → RowI wr d q3 O) := Lib.hid (fun wr hb => HOW.out.below hb)
      clear hown hgrow hb23 hb3 hb2 hgO
      by_cases h0 : 0 < q3
      · obtain ⟨b1, o1, rfl, -⟩ := HOW.out.2.2.1 h0
        obtain ⟨b0, o0, rfl, -⟩ := HAW.out.2.2.1 h0
        go_loopw [30] (fun i wr => ∃ k : Nat, k ≤ q3 ∧ i = .int .i64 k ∧ wr.ownsRow gO 24 4 (.slice (some ⟨gO, 0, none⟩) q3 q3) q3 (flatA (fillP M k)) ∧ Below w.heap.size w wr) (fun i _ => q3 - (intOf i).toNat)
        case atStart => exact ⟨0, Nat.zero_le _, rfl, HR3.out, HB3.out⟩
        case round =>
          clear HR3 HB3
          obtain ⟨k, hk, rfl, hR, hb⟩ := hrel
          by_cases hlt : k < q3
          · obtain ⟨b', o', he', hoc⟩ := (HGI'.out wr hb).2.2.1 h0
            obtain ⟨rfl, rfl⟩ : b1 = b' ∧ o1 = o' := by simpa using he'
            have hc0 := hoc k hlt
            have hOb := (HFT.out k (by rw [HLl.out]; exact hlt)).1
            rw [HLl.out] at hOb
            obtain ⟨x, hx⟩ : ∃ x : Nat, O.getD k 0 = (x : Int) := ⟨(O.getD k 0).toNat, by omega⟩
            have hxm : x < q3 := by omega
            rw [hx] at hc0
            obtain ⟨d1, d2, d3, d4⟩ := (HAW.out.below hb).cells hxm
            have hkl : k < (fillP M k).length := by rw [fillP_len M k (by rw [HML.out]; omega), HML.out]; exact hlt
            have HST := Lib.hid (rowA_store hR k hkl (L.getD x noA))
            have HSE : Hid ((fillP M k).set k (L.getD x noA) = fillP M (k + 1)) := Lib.hid (by rw [← HMG.out k x hlt hx]; exact fillP_set M k (by rw [HML.out]; exact hlt))
            have hfc : ∀ q, q < 4 → ∃ y, wr.cell? ⟨gO, k * 4 + q, none⟩ = some y := fun q hq => by
              rw [hR.cellAt (k * 4 + q) (by omega)]
              exact ⟨_, List.getElem?_eq_getElem (by rw [flatA_len]; omega)⟩
            obtain ⟨y0, j0⟩ := hfc 0 (by omega)
            obtain ⟨y1, j1⟩ := hfc 1 (by omega)
            obtain ⟨y2, j2⟩ := hfc 2 (by omega)
            obtain ⟨y3, j3⟩ := hfc 3 (by omega)
            rw [Nat.add_zero] at j0
            have f0 := hR.frozenAt (k * 4)
            have f1 := hR.frozenAt (k * 4 + 1)
            have f2 := hR.frozenAt (k * 4 + 2)
            have f3 := hR.frozenAt (k * 4 + 3)
            obtain ⟨p, q, r, t, hxe⟩ : ∃ p q r t, L.getD x noA = ⟨p, q, r, t⟩ := ⟨_, _, _, _, rfl⟩
            rw [hxe] at d1 d2 d3 d4 HST HSE
            simp only at d1 d2 d3 d4
            have HBT : Hid (Below w.heap.size w ((((wr.setCell ⟨gO, k * 4, none⟩ (.int .i64 p)).setCell ⟨gO, k * 4 + 1, none⟩ (.int .i64 q)).setCell ⟨gO, k * 4 + 2, none⟩ (.int .i64 r)).setCell ⟨gO, k * 4 + 3, none⟩ (.int .i64 t))) := Lib.hid ((below_set3 hb hgw _ _ _ _ _ _).setCell (p := ⟨gO, k * 4 + 3, none⟩) hgw _)
            have hx0 : (0 : Int) ≤ (x : Int) := by omega
            have hx1 : (x : Int) < (q3 : Int) := by omega
            clear he' hoc hOb hx hfc hR hb hxe hkl
            go_wp2
            go_roundw
            case rel => exact ⟨k + 1, by omega, by go_num, by rw [← HSE.out]; exact HST.out, HBT.out⟩
            case measure => simp [intOf]; omega
          · obtain rfl : k = q3 := by omega
            have hfa : fillP M k = M := by rw [← HML.out]; exact fillP_all M
            rw [hfa] at hR
            obtain ⟨wo, hwo⟩ : ∃ wo, wo = wr := ⟨wr, rfl⟩
            subst hwo
            have hRA : RowA wo (some ⟨gO, 0, none⟩) k M := by
              obtain ⟨a', c', e1, e2, -, -, -⟩ := rowA_of_owns (l := M) (by rw [HML.out]; exact hR) (by rw [HML.out]; omega) HWFA.out
              simp only [Value.slice.injEq] at e1
              obtain ⟨rfl, -, -⟩ := e1
              rw [HML.out] at e2
              exact e2
            have HSM := Lib.hid (serM_yes HSB.out HOV.out)
            have HSr := Lib.hid (HS.out.below hb)
            have HBr := Lib.hid hb
            clear hR hfa hb
            go_wp2_with fail
            refine (runSerial_impl a n cap S _ k k M _ HSr.out HZ.out hRA).mono ?_; rintro e w4 ⟨v4, u4, rfl, hSF, hb4⟩
            rw [HSM.out] at hSF
            obtain ⟨R, hRR⟩ : ∃ R, R = (serL S M).2 := ⟨_, rfl⟩
            obtain ⟨T, hT⟩ : ∃ T, T = (serL S M).1 := ⟨_, rfl⟩
            have HRL : Hid (R.length = k) := Lib.hid (by rw [hRR, serL_len]; exact HML.out)
            have HYY : Hid (runOrdM S L O = (T, placeM O R)) := Lib.hid (by rw [HY.out, hRR, hT])
            rw [← hRR, ← hT] at hSF
            have hbw4 := HBr.out.trans (hb4.mono HBr.out.size)
            have hws := HBr.out.size
            obtain ⟨t1, t2, t3, t4, xs, hO, h6⟩ := hSF
            rcases (OwnFs.form ⟨t4, xs, hO⟩) with ⟨-, hR0⟩ | ⟨gR, cR, hu4, hgR1, hgR2, hgR3⟩
            · rw [hR0] at HRL; have := HRL.out; simp at this; omega
            subst hu4
            rw [HRL.out] at hO h6 ⊢
            have HT2 := Lib.hid t2
            have HH6 := Lib.hid h6
            have HT3 := Lib.hid t3
            have hxl : xs.length = k * 3 := by rw [hO.2.2.1, flatMap_len (effC 31) 3 (effC_len _), HRL.out]
            clear hRR hT t2 h6 hRA t3
            go_wp2_with (first | (at_make; refine wpList_make_full _ rfl (.tmp 50) (.tmp 50) 33 rfl w4.heap.size 40 i1 (.agg #[.bool false, .slice none 0 0, .slice none 0 0]) 3 Try.underlying33 HGI.out HG0.out HG1.out .i64 .i64 k k k rfl rfl rfl rfl (by rw [HG2.out]; omega) (by unfold maxLen; omega) (Nat.le_refl _) ?_; intro w5 hown hgrow))
            have hb45 : Below w4.heap.size w4 w5 := (Below.refl _ _).grown hgrow (Nat.le_refl _) (fun k hk => by simp at hk)
            have hb5 := hbw4.trans (hb45.mono hbw4.size)
            obtain ⟨zs, hzs⟩ : ∃ zs, zs = (madeCells (Value.agg #[.bool false, .slice none 0 0, .slice none 0 0]).cells (k * 3)).toList := ⟨_, rfl⟩
            rw [← hzs] at hown
            have hzl : zs.length = k * 3 := by rw [hzs]; simp [madeCells]
            obtain ⟨gE, hgE⟩ : ∃ gE, gE = w4.heap.size := ⟨_, rfl⟩
            have hg5 : gE < w5.heap.size := by rw [hgE]; exact (hown.lt _ rfl).2
            have hwgE : w.heap.size ≤ gE := by rw [hgE]; exact hbw4.size
            rw [← hgE] at hown hO HT3 hgR2 ⊢
            have HO5 := Lib.hid (hO.below hb45)
            have HV5 := Lib.hid (owns_below t1 hb45)
            have HE5 : Hid (w5.ownsRow gE 40 3 (.slice (some ⟨gE, 0, none⟩) k k) k (permV O xs zs 0)) := Lib.hid hown
            have HB5 := Lib.hid hb5
            have hwr4 : w.heap.size ≤ wo.heap.size := hws
            have HXL := Lib.hid hxl
            have HZL := Lib.hid hzl
            clear hown hgrow hb45 hb5 hO t1 hzs hgE hbw4 hb4 hxl hzl
            go_loopw [54] (fun i wq => ∃ j : Nat, j ≤ k ∧ i = .int .i64 j ∧ wq.ownsRow gE 40 3 (.slice (some ⟨gE, 0, none⟩) k k) k (permV O xs zs j) ∧ Own2 wq wo.heap.size gE 40 3 (.slice (some ⟨gR, 0, none⟩) k cR) k (R.flatMap (effC 31)) xs ∧ wq.ownsRow wo.heap.size 31 2 v4 T.length (flatE T) ∧ Below w.heap.size w wq) (fun i _ => k - (intOf i).toNat)
            case atStart => exact ⟨0, Nat.zero_le _, rfl, HE5.out, HO5.out, HV5.out, HB5.out⟩
            case round =>
              clear HE5 HO5 HV5 HB5
              obtain ⟨j, hj, rfl, hE, hO, hV, hb⟩ := hrel
              by_cases hjt : j < k
              · obtain ⟨b', o', he', hoc⟩ := (HOW.out.below hb).2.2.1 h0
                obtain ⟨rfl, rfl⟩ : b1 = b' ∧ o1 = o' := by simpa using he'
                have hc0 := hoc j hjt
                have hOb := (HFT.out j (by rw [HLl.out]; exact hjt)).1
                rw [HLl.out] at hOb
                obtain ⟨x, hx⟩ : ∃ x : Nat, O.getD j 0 = (x : Int) := ⟨(O.getD j 0).toNat, by omega⟩
                have hxm : x < k := by omega
                rw [hx] at hc0
                have hjR : j < R.length := by rw [HRL.out]; exact hjt
                obtain ⟨e0, e1, e2⟩ := effC_get 31 R j hjR
                obtain ⟨v0, hv0, c0', own0, -⟩ := hO.at e0
                obtain ⟨v1, hv1, c1', own1, -⟩ := hO.at e1
                obtain ⟨v2, hv2, c2', own2, -⟩ := hO.at e2
                obtain rfl : v0 = .bool (R.getD j noEff).done := own0
                obtain ⟨a1, r1, hs1, -, -⟩ := rowE_of_owns own1.1 own1.2.2 own1.2.1
                obtain ⟨a2, r2, hs2, -, -⟩ := rowE_of_owns own2.1 own2.2.2 own2.2.1
                subst hs1 hs2
                have hgd : ∀ (z : Nat) (y : Value), xs[z]? = some y → xs.getD z undef = y := fun z y h => by rw [List.getD_eq_getElem?_getD, h]; rfl
                have HPN : Hid (permV O xs zs (j + 1) = (((permV O xs zs j).set (x * 3) (.bool (R.getD j noEff).done)).set (x * 3 + 1) (.slice a1 (R.getD j noEff).rds.length r1)).set (x * 3 + 2) (.slice a2 (R.getD j noEff).wrs.length r2)) := Lib.hid (by
                  show (((permV O xs zs j).set ((O.getD j 0).toNat * 3) (xs.getD (j * 3) undef)).set ((O.getD j 0).toNat * 3 + 1) (xs.getD (j * 3 + 1) undef)).set ((O.getD j 0).toNat * 3 + 2) (xs.getD (j * 3 + 2) undef) = _
                  rw [hgd _ _ hv0, hgd _ _ hv1, hgd _ _ hv2, hx]; rfl)
                obtain ⟨X, hX⟩ : ∃ X, X = R.getD j noEff := ⟨_, rfl⟩
                rw [← hX] at c0' c1' c2' HPN
                have hpl := permV_len O xs zs j
                have hfc : ∀ q, q < 3 → ∃ y, wr.cell? ⟨gE, x * 3 + q, none⟩ = some y := fun q hq => by
                  rw [hE.cellAt (x * 3 + q) (by omega)]
                  exact ⟨_, List.getElem?_eq_getElem (by rw [hpl, HZL.out]; omega)⟩
                obtain ⟨y0, j0⟩ := hfc 0 (by omega)
                obtain ⟨y1, j1⟩ := hfc 1 (by omega)
                obtain ⟨y2, j2⟩ := hfc 2 (by omega)
                rw [Nat.add_zero] at j0
                have f0 := hE.frozenAt (x * 3)
                have f1 := hE.frozenAt (x * 3 + 1)
                have f2 := hE.frozenAt (x * 3 + 2)
                have hvne : v4.ownBlock ≠ some gE := fun e => by have := HT3.out gE e; omega
                have HST := Lib.hid (((hE.stored (x * 3) (.bool X.done)).1.stored (x * 3 + 1) (.slice a1 X.rds.length r1)).1.stored (x * 3 + 2) (.slice a2 X.wrs.length r2)).1
                have HOT := Lib.hid (hO.turn ((((Turn.refl gE (gE + 1) wr).setCell ⟨Nat.le_refl _, by omega⟩ (x * 3) (.bool X.done)).setCell ⟨Nat.le_refl _, by omega⟩ (x * 3 + 1) (.slice a1 X.rds.length r1)).setCell ⟨Nat.le_refl _, by omega⟩ (x * 3 + 2) (.slice a2 X.wrs.length r2)) (.inl (Nat.le_refl _)))
                have HVT := Lib.hid (owns_set (owns_set (owns_set hV hvne (x * 3) (.bool X.done)) hvne (x * 3 + 1) (.slice a1 X.rds.length r1)) hvne (x * 3 + 2) (.slice a2 X.wrs.length r2))
                have HBT := Lib.hid (below_set3 hb hwgE (x * 3) (x * 3 + 1) (x * 3 + 2) (.bool X.done) (.slice a1 X.rds.length r1) (.slice a2 X.wrs.length r2))
                have hx0 : (0 : Int) ≤ (x : Int) := by omega
                have hx1 : (x : Int) < (k : Int) := by omega
                clear he' hoc hOb hx own1 own2 hv0 hv1 hv2 e0 e1 e2 hfc hX hgd hE hO hV hb hpl hjR
                go_wp2
                go_roundw
                case rel => exact ⟨j + 1, by omega, by go_num, by rw [HPN.out]; exact HST.out, HOT.out, HVT.out, HBT.out⟩
                case measure => simp [intOf]; omega
              · obtain rfl : j = k := by omega
                obtain ⟨hP, hM⟩ := own2_perm (by rw [HRL.out]; exact hO) HRL.out HLl.out HOLL.out HFT.out HZL.out (owns_mono hE (by omega)) (Nat.le_refl _)
                have hpl : (placeM O R).length = j := by rw [placeM_len]; exact HOl.out
                have HSF : Hid (OwnSF wr w.heap.size wr.heap.size 40 31 v4 (.slice (some ⟨gE, 0, none⟩) j j) T (placeM O R)) := Lib.hid (by
                  refine ⟨owns_mono hV hwr4, HT2.out, fun p hp => (hV.lt p hp).2, by omega, permV O xs zs j, by rw [hpl]; exact hP.mono hwr4 (hP.blk_lt _ List.mem_cons_self gE rfl).2.2, fun y hy p hp hq => ?_⟩
                  rcases List.mem_cons.1 hy with rfl | hy
                  · simp [blk] at hq; have := HT3.out p hp; omega
                  · exact HH6.out y (List.mem_cons_of_mem _ (hM y hy)) p hp hq)
                have HBF := Lib.hid hb
                clear hP hM hE hO hV hb
                go_wp2
                go_ret2
                exact ⟨v4, .slice (some ⟨gE, 0, none⟩) j j, rfl, by rw [HYY.out]; exact HSF.out, HBF.out⟩
      · obtain rfl : q3 = 0 := by omega
        obtain rfl : O = [] := List.eq_nil_of_length_eq_zero HOl.out
        have hM0 : M = [] := List.eq_nil_of_length_eq_zero HML.out
        subst hM0
        go_loopw [30] (fun i wr => i = .int .i64 0 ∧ wr = w3) (fun _ _ => 0)
        case atStart => exact ⟨rfl, rfl⟩
        case round =>
          obtain ⟨rfl, rfl⟩ := hrel
          have hRA : RowA wr (some ⟨gO, 0, none⟩) 0 [] := rowA_empty _ _
          have HSM := Lib.hid (serM_yes HSB.out HOV.out)
          go_wp2_with fail
          refine (runSerial_impl a n cap S _ 0 0 [] _ (HS.out.below HB3.out) HZ.out hRA).mono ?_; rintro e w4 ⟨v4, u4, rfl, hSF, hb4⟩
          rw [HSM.out] at hSF
          obtain ⟨t1, t2, t3, t4, xs, hO, h6⟩ := hSF
          have hbw4 := HB3.out.trans (hb4.mono HB3.out.size)
          have hs3 := HB3.out.size
          have HYY : Hid (runOrdM S L [] = ((serL S []).1, [])) := Lib.hid (by rw [HY.out]; rfl)
          go_wp2_with (first | (at_make; refine wpList_make_full _ rfl (.tmp 50) (.tmp 50) 33 rfl w4.heap.size 40 i1 (.agg #[.bool false, .slice none 0 0, .slice none 0 0]) 3 Try.underlying33 HGI.out HG0.out HG1.out .i64 .i64 0 0 0 rfl rfl rfl rfl (by rw [HG2.out]; omega) (by unfold maxLen; omega) (Nat.le_refl _) ?_; intro w5 hown hgrow))
          have hb45 : Below w4.heap.size w4 w5 := (Below.refl _ _).grown hgrow (Nat.le_refl _) (fun k hk => by simp at hk)
          have hb5 := hbw4.trans (hb45.mono hbw4.size)
          obtain ⟨xs0, hx0⟩ := pos_made (eE := 31) hown
          have hg5 : w4.heap.size < w5.heap.size := (hown.lt _ rfl).2
          have HSF : Hid (OwnSF w5 w.heap.size w5.heap.size 40 31 v4 (.slice (some ⟨w4.heap.size, 0, none⟩) 0 0) (serL S []).1 []) := Lib.hid (by
            refine ⟨owns_mono (owns_below t1 hb45) hs3, t2, fun p hp => by have := t3 p hp; omega, by simp, xs0, hx0.mono (by have := hb4.size; omega) hg5, fun y hy p hp hq => ?_⟩
            have h1 := (hx0.blk_lt y hy p hq).1
            have h2 := t3 p hp
            omega)
          have HB5 := Lib.hid hb5
          clear hown hgrow hx0 hb45 hb5 hO t1 t2 t3 h6 hbw4 hb4 hs3 hg5
          go_loopw [54] (fun i wq => i = .int .i64 0 ∧ wq = w5) (fun _ _ => 0)
          case atStart => exact ⟨rfl, rfl⟩
          case round =>
            obtain ⟨rfl, rfl⟩ := hrel
            go_wp2
            go_ret2
            exact ⟨v4, .slice (some ⟨w4.heap.size, 0, none⟩) 0 0, rfl, by rw [HYY.out]; exact HSF.out, HB5.out⟩
end Go.Proofs.Ytfhbolpchmdaoaa
