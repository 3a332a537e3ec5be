/- The contract of the model's RunOrder. -/
import Derived.Test.YtfhbolpchmdaoaaPosMem
import Derived.Test.YtfhbolpchmdaoaaSpecX
import Derived.Test.YtfhbolpchmdaoaaSpecFit
import Derived.RegionTactic
namespace Go.Proofs.Ytfhbolpchmdaoaa
open Go.RowKit
set_option linter.unusedVariables false
set_option linter.unusedSimpArgs false
set_option maxRecDepth 100000 in
set_option maxHeartbeats 8000000 in
theorem runOrder_spec (a : Option Addr) (n cap : Nat) (S : List Ent) (b : Option Addr) (m c2 : Nat) (L : List Acn) (d : Option Addr) (q3 c3 : Nat) (O : List Int) (w : World) (h : RowE w a n S) (hz : a = none → cap = 0) (h2 : RowA w b m L) (h3 : RowI w d q3 O) :
    Calls Try.prog 33 #[.slice a n cap, .slice b m c2, .slice d q3 c3] w (NewSF w 40 31 (runOrdM S L O).1 (runOrdM S L O).2) := by
  have HS := Lib.hid h
  have HAW := Lib.hid h2
  have HOW := Lib.hid h3
  have HZ := Lib.hid hz
  clear h h2 h3 hz
  have HNO : Hid ((storeB S && fitsM L O) = false → runOrdM S L O = ([], [])) := Lib.hid runOrdM_no
  have HOK : Hid (∀ w5 w6, Below w.heap.size w w5 → w6 = (w5.alloc (.cells #[] 31)).alloc (.cells #[] 40) →
      OwnSF w6 w.heap.size w6.heap.size 40 31 (.slice (some ⟨w5.heap.size, 0, none⟩) 0 0) (.slice (some ⟨w5.heap.size + 1, 0, none⟩) 0 0) [] [] ∧ Below w.heap.size w w6) := Lib.hid (fun w5 w6 hb e => by
    have hs := hb.size
    subst e
    have h1 := own2_lit (w := w5.alloc (.cells #[] 31)) (B := w.heap.size) (T := w5.heap.size + 2) 40 3 (by simp; omega) (by simp)
    rw [show (w5.alloc (.cells #[] 31)).heap.size = w5.heap.size + 1 by simp] at h1
    refine ⟨⟨((own_lit (w := w5) 31 2 #[] 0 hs (by simp) rfl).alloc _).1, fun e he => (by cases he), fun p hp => (by simp [Value.ownBlock] at hp; simp; omega), by simp, [], h1.mono (Nat.le_refl _) (by simp), fun y hy p hp hq => ?_⟩, (hb.alloc hs _).alloc (by simp; omega) _⟩
    simp at hy; subst hy
    simp [blk, Value.ownBlock] at hp hq
    omega)
  go_enter Try.func33, Try.ntmps33
  go_wp2_with fail
  refine (storeValid_spec a n cap S _ HS.out).mono ?_; rintro e w1 ⟨rfl, hd1⟩
  have hb1 := hd1.below w.heap.size
  cases hS : storeB S with
  | false =>
    have HE := Lib.hid (HNO.out (by rw [hS]; rfl))
    obtain ⟨hO, hB⟩ := HOK.out w1 _ hb1 rfl
    have HO := Lib.hid hO
    have HB := Lib.hid hB
    clear hS hd1 hb1 hO hB HNO HOK
    go_wp2
    go_ret2
    exact ⟨.slice (some ⟨w1.heap.size, 0, none⟩) 0 0, .slice (some ⟨w1.heap.size + 1, 0, none⟩) 0 0, rfl, by rw [HE.out]; exact HO.out, HB.out⟩
  | true =>
    have HSB := Lib.hid hS
    clear hS hd1
    go_wp2_with fail
    refine (orderFits_spec b m c2 L d q3 c3 O _ (HAW.out.below hb1) (HOW.out.below hb1)).mono ?_; rintro e w2 ⟨rfl, hb2'⟩
    have hb2 := hb1.trans (hb2'.mono hb1.size)
    clear hb1 hb2'
    cases hf : fitsM L O with
    | false =>
      have HE := Lib.hid (HNO.out (by rw [HSB.out, hf]; rfl))
      obtain ⟨hO, hB⟩ := HOK.out w2 _ hb2 rfl
      have HO := Lib.hid hO
      have HB := Lib.hid hB
      clear hf hb2 hO hB HNO HOK
      go_wp2
      go_ret2
      exact ⟨.slice (some ⟨w2.heap.size, 0, none⟩) 0 0, .slice (some ⟨w2.heap.size + 1, 0, none⟩) 0 0, rfl, by rw [HE.out]; exact HO.out, HB.out⟩
    | true =>
      obtain ⟨hA, hOl, hFT⟩ := fitsM_true hf
      have hm10 : m ≤ 10 := by have := (actsB_true hA).1; have := HAW.out.1; omega
      have hqm : q3 = m := by have := HOW.out.1; have := HAW.out.1; omega
      subst hqm
      have HLl := Lib.hid HAW.out.1
      have HOl := Lib.hid HOW.out.1
      have HY := Lib.hid (runOrdM_yes HSB.out hf)
      have HFT := Lib.hid hFT
      have HOLL := Lib.hid hOl
      have hS32 := store_len HSB.out
      have hSl := HS.out.1
      clear hf hA hOl hFT HNO HOK
      obtain ⟨E, hE⟩ : ∃ E, E = (serL S (ordM L O)).2 := ⟨_, rfl⟩
      have HEL : Hid (E.length = q3) := Lib.hid (by rw [hE, serL_len, ordM_len]; exact HOl.out)
      have HEN : Hid (∀ k, k < q3 → E.getD k noEff = runM (serL S ((ordM L O).take k)).1 ((ordM L O).getD k noA)) := Lib.hid (fun k hk => by rw [hE]; exact ser_get _ S k (by rw [ordM_len, HOl.out]; exact hk))
      have HEF : Hid (runOrdM S L O = ((serL S (ordM L O)).1, placeM O E)) := Lib.hid (by rw [HY.out, ← hE])
      have HPS : Hid (posL O E O.length = (placeM O E).map some) := Lib.hid (placeM_some E HOLL.out HFT.out)
      clear hE HY
      obtain ⟨i0, hi, hz0, hz1, hz2⟩ := info_parts infoEffS
      have hnil : a = none → n = 0 ∧ cap = 0 := fun e => ⟨by
        rcases Nat.eq_zero_or_pos n with h | h
        · exact h
        · obtain ⟨b', o', he, -⟩ := HS.out.2.2.1 h; (rw [e] at he; cases he), HZ.out e⟩
      have HNL := Lib.hid hnil
      have HLN := Lib.hid (show (flatE S).length = n * 2 by rw [flatE_len, hSl])
      have hn32 : n ≤ 32 := by omega
      have HSL := Lib.hid hSl
      have HWS := Lib.hid HS.out.2.2.2
      clear hnil hSl hS32
      go_wp2_with (first | (at_make; refine wpList_make_full _ rfl (.tmp 24) (.tmp 24) 33 rfl w2.heap.size 40 i0 (.agg #[.bool false, .slice none 0 0, .slice none 0 0]) 3 Try.underlying33 hi hz0 hz1 .i64 .i64 q3 q3 q3 rfl rfl rfl rfl (by rw [hz2]; omega) (by unfold maxLen; omega) (Nat.le_refl _) ?_; intro w3 hown hgrow; clear hi hz0 hz1 hz2; have hb3' : Below w2.heap.size w2 w3 := (Below.refl _ _).grown hgrow (Nat.le_refl _) (fun k hk => by simp at hk); have hb3 := hb2.trans (hb3'.mono hb2.size); have ho := own_lit (w := w3) (B := w3.heap.size) 31 2 #[] 0 (Nat.le_refl _) (by unfold maxLen; omega) rfl; have hb4 := (Below.refl w3.heap.size w3).alloc (Nat.le_refl _) (.cells #[] 31); have HR4 := Lib.hid ((HS.out.below hb3).below hb4)) | (at_builtin; refine wpList_append_rows rfl _ _ 32 rfl w3.heap.size 31 (.agg #[.int .i64 0, .int .i64 0]) 2 16 Try.underlying32 infoEntF rfl (by decide) _ 0 [] (flatE S) (by rfl) ho a n cap (by rfl) HNL.out HLN.out HR4.out.news (flatE_oneCell S) (by omega) (by decide) (by simp) ?_; intro v5 w5 ho5 hg5; have hb5 := hb4.grown hg5 (by simp) (fun q hq => (ho.1.lt q hq).1)))
      rw [Nat.zero_add, List.nil_append] at ho5
      obtain ⟨gE, hgE⟩ : ∃ gE, gE = w2.heap.size := ⟨_, rfl⟩
      have hg3 : gE < w3.heap.size := by rw [hgE]; exact (hown.lt _ rfl).2
      have hgw : w.heap.size ≤ gE := by rw [hgE]; exact hb2.size
      have HB5 := Lib.hid (hb3.trans (hb5.mono hb3.size))
      obtain ⟨xs0, hx0⟩ := pos_made (eE := 31) hown
      rw [← hgE] at hx0 ⊢
      have HP5 : Hid (PosSF w5 w.heap.size gE q3 40 31 v5 (serL S ((ordM L O).take 0)).1 (posL O E 0)) := Lib.hid (by
        refine ⟨by rw [← HSL.out] at ho5; exact owns_mono ho5.1 hb3.size, HWS.out, gE + 1, xs0, by have := hb5.size; omega, ?_, fun p hp => by have := (ho5.1.lt p hp).1; omega⟩
        have h1 := (hx0.below hb5).mono hgw (Nat.le_refl _)
        rw [posL, HOl.out]; exact h1)
      clear hb2 hb3' hb3 ho hb4 HR4 hown hgrow ho5 hg5 hb5 hx0 hgE
      go_loopw [9, 10] (fun v i wr => ∃ k : Nat, k ≤ q3 ∧ i = .int .i64 k ∧ PosSF wr w.heap.size gE q3 40 31 v (serL S ((ordM L O).take k)).1 (posL O E k) ∧ Below w.heap.size w wr) (fun _ i _ => q3 - (intOf i).toNat)
      case atStart => exact ⟨0, Nat.zero_le _, rfl, HP5.out, HB5.out⟩
      case round =>
        clear HP5 HB5
        obtain ⟨k, hk, rfl, hSF, hb⟩ := hrel
        have hTB := store_ser ((ordM L O).take k) HSB.out
        have hT32 := store_len hTB
        by_cases hlt : k < q3
        · have HNX := Lib.hid (serL_next S (ordM L O) k (by rw [ordM_len, HOl.out]; exact hlt))
          have hX0 := HEN.out k hlt
          obtain ⟨b1, o1, rfl, hoc⟩ := HOW.out.2.2.1 (by omega)
          obtain ⟨b', off, rfl, -⟩ := HAW.out.2.2.1 (by omega)
          have hOb := (HFT.out k (by rw [HLl.out]; exact hlt)).1
          rw [HLl.out] at hOb
          obtain ⟨x, hx⟩ : ∃ x : Nat, O.getD k 0 = (x : Int) := ⟨(O.getD k 0).toNat, by omega⟩
          have hxm : x < q3 := by omega
          have hc0 := (hb.cell (p := ⟨b1, o1 + k, none⟩) (World.block_lt_of_cell? w ⟨b1, o1 + k, none⟩ (hoc k hlt))).trans (hoc k hlt)
          rw [hx] at hc0
          obtain ⟨d1, d2, d3, d4⟩ := (HAW.out.below hb).cells hxm
          have HPN : Hid (posL O E (k + 1) = (posL O E k).set x (some (E.getD k noEff))) := Lib.hid (by show (posL O E k).set (O.getD k 0).toNat _ = _; rw [hx]; rfl)
          have hor : (ordM L O).getD k noA = L.getD x noA := by rw [ordM_get L O k (by rw [HOl.out]; exact hlt), hx]; rfl
          rw [hor] at HNX hX0
          obtain ⟨T, hT⟩ : ∃ T, T = (serL S ((ordM L O).take k)).1 := ⟨_, rfl⟩
          rw [← hT] at hSF HNX hT32 hX0
          obtain ⟨p, q, r, t, hxe⟩ : ∃ p q r t, L.getD x noA = ⟨p, q, r, t⟩ := ⟨_, _, _, _, rfl⟩
          rw [hxe] at d1 d2 d3 d4 HNX hX0
          simp only at d1 d2 d3 d4
          obtain ⟨av, cv, rfl, hrv, zv⟩ := hSF.row (by omega)
          have HZV := Lib.hid zv
          have HSF := Lib.hid hSF
          have HPX : Hid ((posL O E k).length = q3) := Lib.hid (by rw [posL_len]; exact HOl.out)
          have HB := Lib.hid hb
          have hx0 : (0 : Int) ≤ (x : Int) := by omega
          have hx1 : (x : Int) < (q3 : Int) := by omega
          clear hoc hOb hx hor hT hxe zv hSF hb hTB
          go_wp2_with fail
          refine (runAction_spec _ _ cv T p q r t _ hrv).mono ?_; rintro e w3' ⟨v3, rfl, hF3, hb3⟩
          have hXr := runM_rlen T ⟨p, q, r, t⟩
          have hXw := runM_wlen T ⟨p, q, r, t⟩
          obtain ⟨X, hX⟩ : ∃ X, X = runM T ⟨p, q, r, t⟩ := ⟨_, rfl⟩
          rw [← hX] at hF3 hXr hXw HNX hX0
          clear hX
          obtain ⟨ax, cx, bx, dx, rfl, hf3, -⟩ := hF3.rows (by omega) (by omega)
          have hN4 := eAt_new w3' 40 X.done (.slice ax X.rds.length cx) (.slice bx X.wrs.length dx)
          have hbl := (Below.refl w3'.heap.size w3').alloc (Nat.le_refl _) (.cells #[.bool X.done, .slice ax X.rds.length cx, .slice bx X.wrs.length dx] 40)
          have hrv4 := hrv.below (hb3.trans (hbl.mono hb3.size))
          have hf4 := hf3.below hbl
          have hc3 := (hb3.cell (p := ⟨b1, o1 + k, none⟩) (World.block_lt_of_cell? wr ⟨b1, o1 + k, none⟩ hc0)).trans hc0
          have HF3 := Lib.hid hF3
          have HB3 := Lib.hid hb3
          clear hrv hf3 hF3 hb3 d1 d2 d3 d4 hc0
          go_wp2_with fail
          obtain ⟨w4, hw4⟩ : ∃ w4, w4 = w3'.alloc (.cells #[.bool X.done, .slice ax X.rds.length cx, .slice bx X.wrs.length dx] 40) := ⟨_, rfl⟩
          rw [← hw4] at hN4 hbl hrv4 hf4 ⊢
          clear hw4
          refine (applyEffect_spec _ _ cv T _ _ _ _ _ _ _ X.wrs _ hrv4 hf4.2 HZV.out).mono ?_; rintro e w5' ⟨v5', rfl, ho5, hw5, hb5⟩
          have hN5 := hN4.below hb5
          have hb35 := hbl.trans (hb5.mono hbl.size)
          have hbr5 := HB3.out.trans (hb35.mono HB3.out.size)
          have hc5 := (hb35.cell (p := ⟨b1, o1 + k, none⟩) (World.block_lt_of_cell? w3' ⟨b1, o1 + k, none⟩ hc3)).trans hc3
          obtain ⟨T', hT'⟩ : ∃ T', T' = applyM T X.wrs := ⟨_, rfl⟩
          rw [← hT'] at ho5 hw5 HNX
          clear hT'
          obtain ⟨g5, c5, rfl, hg5b, -⟩ := ho5.slice
          obtain ⟨-, -, Tq, xs, hTq, hO, -⟩ := HSF.out
          have hO5 := hO.below hbr5
          have hwq : w.heap.size ≤ Tq := by have := hO.blk_lt _ List.mem_cons_self gE rfl; omega
          obtain ⟨⟨y0, j0⟩, ⟨y1, j1⟩, ⟨y2, j2⟩, j3, j4, j5⟩ := pos_cells hO5 x (by rw [HPX.out]; exact hxm)
          obtain ⟨xs', hst⟩ := pos_store hO5 x (by rw [HPX.out]; exact hxm) (HF3.out.mono hTq) (by omega) (by omega) hb35 (by have := HB3.out.size; omega) hwq
          have hs3' := HB3.out.size
          have hs35 := hb35.size
          have hbs4 := hbl.size
          have hge := (hO5.blk_lt _ List.mem_cons_self gE rfl).2.2
          have HFIN : Hid (∀ W, W = (((w5'.setCell ⟨gE, x * 3, none⟩ (.bool X.done)).setCell ⟨gE, x * 3 + 1, none⟩ (.slice ax X.rds.length cx)).setCell ⟨gE, x * 3 + 2, none⟩ (.slice bx X.wrs.length dx)).drew ∨ W = (((w5'.setCell ⟨gE, x * 3, none⟩ (.bool X.done)).setCell ⟨gE, x * 3 + 1, none⟩ (.slice ax X.rds.length cx)).setCell ⟨gE, x * 3 + 2, none⟩ (.slice bx X.wrs.length dx)) →
              PosSF W w.heap.size gE q3 40 31 (.slice (some ⟨g5, 0, none⟩) T'.length c5) (serL S ((ordM L O).take (k + 1))).1 (posL O E (k + 1)) ∧ Below w.heap.size w W) := Lib.hid (fun W e => by
            have hgl : gE < Tq := (hO.blk_lt _ List.mem_cons_self gE rfl).2.1
            have hbW : Below w.heap.size w (((w5'.setCell ⟨gE, x * 3, none⟩ (.bool X.done)).setCell ⟨gE, x * 3 + 1, none⟩ (.slice ax X.rds.length cx)).setCell ⟨gE, x * 3 + 2, none⟩ (.slice bx X.wrs.length dx)) := below_set3 (HB.out.trans (hbr5.mono HB.out.size)) hgw _ _ _ _ _ _
            have hgr := grown3 w5' gE (x * 3) (x * 3 + 1) (x * 3 + 2) (.bool X.done) (.slice ax X.rds.length cx) (.slice bx X.wrs.length dx)
            have hk := owns_mono (ho5.1.kept hgr (.inr (by simp [Value.ownBlock]; omega))) (B' := w.heap.size) (by omega)
            have hP : PosSF (((w5'.setCell ⟨gE, x * 3, none⟩ (.bool X.done)).setCell ⟨gE, x * 3 + 1, none⟩ (.slice ax X.rds.length cx)).setCell ⟨gE, x * 3 + 2, none⟩ (.slice bx X.wrs.length dx)) w.heap.size gE q3 40 31 (.slice (some ⟨g5, 0, none⟩) T'.length c5) (serL S ((ordM L O).take (k + 1))).1 (posL O E (k + 1)) := by
              rw [HNX.out, HPN.out, hX0]
              exact ⟨hk, hw5, w3'.heap.size, xs', by have := hgr.size; omega, hst, fun p hp => by simp [Value.ownBlock] at hp; omega⟩
            rcases e with e | e
            · subst e
              obtain ⟨p1, p2, Tz, xz, p3, p4, p5⟩ := hP
              exact ⟨⟨p1, p2, Tz, xz, p3, p4.drewN 1, p5⟩, hbW.drew⟩
            · subst e; exact ⟨hP, hbW⟩)
          obtain ⟨e0, e1, e2⟩ := hN5.1
          clear hN4 hbl hrv4 hf4 hc3 hb35 hbr5 hO hO5 hst HF3 HB3 HSF HB ho5 hw5 hb5 hX0 HNX HPN
          go_wp2_with fail
          go_region
          all_goals
            go_wp2
            go_roundw
            case rel => exact ⟨k + 1, by omega, by go_num, (HFIN.out _ (by first | exact .inl rfl | exact .inr rfl)).1, (HFIN.out _ (by first | exact .inl rfl | exact .inr rfl)).2⟩
            case measure => simp [intOf]; omega
        · obtain rfl : k = q3 := by omega
          have e : (ordM L O).take k = ordM L O := List.take_of_length_le (by rw [ordM_len, HOl.out]; exact Nat.le_refl _)
          rw [e] at hSF
          have HPL : Hid (posL O E k = (placeM O E).map some) := Lib.hid (by rw [← HPS.out, HOl.out])
          have HSF := Lib.hid (hSF.all HPL.out (by rw [placeM_len]; exact HOl.out) (by omega))
          clear e hSF hT32 hTB
          go_wp2
          go_ret2
          exact ⟨u9, .slice (some ⟨gE, 0, none⟩) k k, rfl, by rw [HEF.out]; exact HSF.out, hb⟩
end Go.Proofs.Ytfhbolpchmdaoaa
