/- The contract of the program's NextBlock (gen15/nextblk.py). -/
import Derived.Test.YtaaffpolmecicaaGreatImplBlk3
import Derived.Test.YtaaffpolmecicaaGreatBlkLaws
import Derived.Test.YtaaffpolmecicaaGreatRegT
import Derived.Deep.Cut
namespace Go.Proofs.YtaaffpolmecicaaGreat
open Go.RowKit
set_option linter.unusedVariables false
set_option linter.unusedSimpArgs false
/-- Six values are written to a block. -/
def set6b (w : World) (Z : Nat) (x0 x1 x2 x3 x4 x5 : Value) : World := (((((w.setCell ⟨Z, 0, none⟩ x0).setCell ⟨Z, 1, none⟩ x1).setCell ⟨Z, 2, none⟩ x2).setCell ⟨Z, 3, none⟩ x3).setCell ⟨Z, 4, none⟩ x4).setCell ⟨Z, 5, none⟩ x5
theorem set6b_grown (w : World) (Z : Nat) (x0 x1 x2 x3 x4 x5 : Value) : w.grownBy (set6b w Z x0 x1 x2 x3 x4 x5) (some Z) :=
  grownBy_trans (grownBy_trans (grownBy_trans (grownBy_trans (grownBy_trans (grownBy_set w Z 0 x0) (grownBy_set _ Z 1 x1)) (grownBy_set _ Z 2 x2)) (grownBy_set _ Z 3 x3)) (grownBy_set _ Z 4 x4)) (grownBy_set _ Z 5 x5)
set_option maxRecDepth 100000 in
set_option maxHeartbeats 8000000 in
theorem nextBlock_impl (p q r t u : Int) (a : Option Addr) (n c : Nat) (L : List Acn) (a' : Option Addr) (m c' : Nat) (S : List Ent) (view : Int) (a2 : Option Addr) (n2 c2 : Nat) (M : List Acn) (w : World)
    (h : RowA w a n L) (hS : RowE w a' m S) (hz : a' = none → c' = 0) (hM : RowA w a2 n2 M) (hz2 : a2 = none → c2 = 0) (hvw : (Lit.int .i64 view).wf = true) :
    Calls Tryz.prog 14 #[.agg #[.int .i64 p, .int .i64 q, .int .i64 r, .slice a n c, .int .i64 t, .int .i64 u], .slice a' m c', .int .i64 view, .slice a2 n2 c2] w (NewBkB w 69 (nextM ⟨p, q, r, L, t, u⟩ S view M) (nextB ⟨p, q, r, L, t, u⟩ S view M)) := by
  have hb0 := ((Below.refl w.heap.size w).alloc (Nat.le_refl _) (.cells #[.int .i64 p, .int .i64 q, .int .i64 r, .slice a n c, .int .i64 t, .int .i64 u] 31)).alloc (by simp) (.cells #[.int .i64 0, .int .i64 0, .int .i64 0, .slice none 0 0, .int .i64 0, .int .i64 0] 31)
  have hA := (bkAt_new w 31 (.int .i64 p) (.int .i64 q) (.int .i64 r) (.slice a n c) (.int .i64 t) (.int .i64 u)).below ((Below.refl _ _).alloc (Nat.le_refl _) (.cells #[.int .i64 0, .int .i64 0, .int .i64 0, .slice none 0 0, .int .i64 0, .int .i64 0] 31))
  have hZ := bkAt_new (w.alloc (.cells #[.int .i64 p, .int .i64 q, .int .i64 r, .slice a n c, .int .i64 t, .int .i64 u] 31)) 31 (.int .i64 0) (.int .i64 0) (.int .i64 0) (.slice none 0 0) (.int .i64 0) (.int .i64 0)
  rw [World.size_alloc] at hZ
  obtain ⟨W1, hW1⟩ : ∃ W1, W1 = (w.alloc (.cells #[.int .i64 p, .int .i64 q, .int .i64 r, .slice a n c, .int .i64 t, .int .i64 u] 31)).alloc (.cells #[.int .i64 0, .int .i64 0, .int .i64 0, .slice none 0 0, .int .i64 0, .int .i64 0] 31) := ⟨_, rfl⟩
  have HW1 := Lib.hid hW1
  rw [← hW1] at hb0 hA hZ
  clear hW1
  have HN : Hid (w.heap.size + 1 < W1.heap.size) := Lib.hid hZ.lt
  have HA := Lib.hid (fun (W : World) (hb : Below W1.heap.size W1 W) => (⟨hA.below hb, hZ.below hb, hb0.trans (hb.mono hb0.size), (h.below hb0).below hb, (hS.below hb0).below hb, (hM.below hb0).below hb⟩ : BkAt W w.heap.size (.int .i64 p) (.int .i64 q) (.int .i64 r) (.slice a n c) (.int .i64 t) (.int .i64 u) ∧ BkAt W (w.heap.size + 1) (.int .i64 0) (.int .i64 0) (.int .i64 0) (.slice none 0 0) (.int .i64 0) (.int .i64 0) ∧ Below w.heap.size w W ∧ RowA W a n L ∧ RowE W a' m S ∧ RowA W a2 n2 M))
  have HVW := Lib.hid hvw
  clear h hS hM hb0 hA hZ hvw
  have HNO : Hid (∀ W, Below W1.heap.size W1 W → nextB ⟨p, q, r, L, t, u⟩ S view M = false → ∃ F, F = (((((W.setCell ⟨w.heap.size + 1, 0, none⟩ (.int .i64 0)).setCell ⟨w.heap.size + 1, 1, none⟩ (.int .i64 0)).setCell ⟨w.heap.size + 1, 2, none⟩ (.int .i64 0)).setCell ⟨w.heap.size + 1, 3, none⟩ (.slice none 0 0)).setCell ⟨w.heap.size + 1, 4, none⟩ (.int .i64 0)).setCell ⟨w.heap.size + 1, 5, none⟩ (.int .i64 0) ∧ BkAt F (w.heap.size + 1) (.int .i64 0) (.int .i64 0) (.int .i64 0) (.slice none 0 0) (.int .i64 0) (.int .i64 0) ∧ NewBkB w 69 (nextM ⟨p, q, r, L, t, u⟩ S view M) (nextB ⟨p, q, r, L, t, u⟩ S view M) (.returned (.tuple #[.agg #[.int .i64 0, .int .i64 0, .int .i64 0, .slice none 0 0, .int .i64 0, .int .i64 0], .bool false])) F) :=
    Lib.hid (fun W hb hn => ⟨_, rfl, (HA.out W hb).2.1.set6 _ _ _ _ _ _, .slice none 0 0, by rw [hn, nextM_no hn]; rfl, by rw [nextM_no hn]; exact newBk_zero _ _ _, by rw [nextM_no hn]; exact fun x hx => (by cases hx), by rw [nextM_no hn]; exact wfB_no, below_set6 (HA.out W hb).2.2.1 (by omega) _ _ _ _ _ _⟩)
  go_enter Tryz.func14, Tryz.ntmps14
  go_upto_region 1 with (fail)
  rw [← HW1.out]
  clear HW1
  obtain ⟨⟨x0, x1, x2, x3, x4, x5, -⟩, -, -, hr, -, -⟩ := HA.out W1 (Below.refl _ _)
  go_wp2_with fail
  refine (canBeBefore_impl p q r t u a n c L view _ hr HVW.out).mono ?_; rintro e w1 ⟨rfl, hb1⟩
  have HB1 := Lib.hid hb1
  clear x0 x1 x2 x3 x4 x5 hr hb1
  cases e0 : befB ⟨p, q, r, L, t, u⟩ view with
  | false =>
    have hnb : nextB ⟨p, q, r, L, t, u⟩ S view M = false := by unfold nextB; rw [e0]; rfl
    obtain ⟨F, hFe, hF, hRet⟩ := HNO.out _ HB1.out hnb
    obtain ⟨-, ⟨zc0, zc1, zc2, zc3, zc4, zc5, zf0, zf1, zf2, zf3, zf4, zf5⟩, -⟩ := HA.out _ HB1.out
    have HF := Lib.hid hF
    have HRET := Lib.hid hRet
    have HFE := Lib.hid hFe
    clear hnb hF hRet hFe
    go_wp2_with fail
    rw [← HFE.out]
    exact bodyPost_ret (results_blkB Tryz.results14 _ (by rfl) HF.out (.bool false) (by rfl)) rfl HRET.out
  | true =>
    have hs1 := (HA.out w1 HB1.out).2.2.2.2.1
    go_wp2_with fail
    refine (storeValid_impl a' m c' S _ hs1).mono ?_; rintro e w2 ⟨rfl, hb2⟩
    have HB2 := Lib.hid (HB1.out.trans (hb2.mono HB1.out.size))
    clear hs1 hb2
    cases e1 : storeB S with
    | false =>
      have hnb : nextB ⟨p, q, r, L, t, u⟩ S view M = false := by unfold nextB; rw [e1]; simp
      obtain ⟨F, hFe, hF, hRet⟩ := HNO.out _ HB2.out hnb
      obtain ⟨-, ⟨zc0, zc1, zc2, zc3, zc4, zc5, zf0, zf1, zf2, zf3, zf4, zf5⟩, -⟩ := HA.out _ HB2.out
      have HF := Lib.hid hF
      have HRET := Lib.hid hRet
      have HFE := Lib.hid hFe
      clear hnb hF hRet hFe
      go_wp2_with fail
      rw [← HFE.out]
      exact bodyPost_ret (results_blkB Tryz.results14 _ (by rfl) HF.out (.bool false) (by rfl)) rfl HRET.out
    | true =>
      have hm2 := (HA.out w2 HB2.out).2.2.2.2.2
      go_wp2_with fail
      refine (actionsValid_impl a2 n2 c2 M _ hm2).mono ?_; rintro e w3 ⟨rfl, hb3⟩
      have HB3 := Lib.hid (HB2.out.trans (hb3.mono HB2.out.size))
      clear hm2 hb3
      cases e2 : actsB M with
      | false =>
        have hnb : nextB ⟨p, q, r, L, t, u⟩ S view M = false := by unfold nextB; rw [e2]; simp
        obtain ⟨F, hFe, hF, hRet⟩ := HNO.out _ HB3.out hnb
        obtain ⟨-, ⟨zc0, zc1, zc2, zc3, zc4, zc5, zf0, zf1, zf2, zf3, zf4, zf5⟩, -⟩ := HA.out _ HB3.out
        have HF := Lib.hid hF
        have HRET := Lib.hid hRet
        have HFE := Lib.hid hFe
        clear hnb hF hRet hFe
        go_wp2_with fail
        rw [← HFE.out]
        exact bodyPost_ret (results_blkB Tryz.results14 _ (by rfl) HF.out (.bool false) (by rfl)) rfl HRET.out
      | true =>
        have HNB : Hid (nextB ⟨p, q, r, L, t, u⟩ S view M = true) := Lib.hid (by unfold nextB; rw [e0, e1, e2]; rfl)
        have hqr : 0 ≤ q ∧ q ≤ 100 := (blkB_true (nextB_true HNB.out).1).2.2.2.1
        have hwq : IntKind.i64.wrap (q + 1) = q + 1 := IntWalk.i64_in _ (by omega)
        have hn3 : n2 ≤ 3000000 := by have := (actsB_true e2).1; have := (HA.out w3 HB3.out).2.2.2.2.2.1; omega
        have HWM := Lib.hid (HA.out w3 HB3.out).2.2.2.2.2.2.2.2
        have HLM : Hid (M.length = n2) := Lib.hid (HA.out w3 HB3.out).2.2.2.2.2.1
        obtain ⟨bs, hbs⟩ : ∃ x, x = blkSumM ⟨p, q, r, L, t, u⟩ := ⟨_, rfl⟩
        have HBS := Lib.hid (fun (W : World) (hb : Below w3.heap.size w3 W) => (by have := blockSum_impl p q r t u a n c L W (HA.out W (HB3.out.trans (hb.mono HB3.out.size))).2.2.2.1; rw [← hbs] at this; exact this : Calls Tryz.prog 28 #[.agg #[.int .i64 p, .int .i64 q, .int .i64 r, .slice a n c, .int .i64 t, .int .i64 u]] W (IntB bs W)))
        have HCL := Lib.hid (fun (W : World) (hb : Below w3.heap.size w3 W) => cloneAct_any a2 n2 c2 M W (HA.out W (HB3.out.trans (hb.mono HB3.out.size))).2.2.2.2.2 hz2 hn3)
        have HKC := Lib.hid (fun (W : World) (hb : Below w3.heap.size w3 W) => (HA.out W (HB3.out.trans (hb.mono HB3.out.size))).1)
        have HBSE := Lib.hid hbs
        clear hbs
        unfold CopyA at HCL
        unfold IntB at HBS
        clear e0 e1 e2 hqr
        go_upto_region 3 with (fail)
        refine wp_region_light (by kernel_rfl) (LastJ (fun lz fz wz => Vals [(0, 26, (.agg #[.int .i64 p, .int .i64 q, .int .i64 r, .slice a n c, .int .i64 t, .int .i64 u])), (1, 27, (.int .i64 bs)), (2, 28, (.pointer (some ⟨w.heap.size, 1, none⟩))), (3, 29, (.int .i64 q)), (4, 30, (.int .i64 (q + 1))), (5, 31, (.int .i64 view)), (6, 32, (.slice a2 n2 c2))] lz fz ∧ Deps [(⟨8, 34, [(7, 33)], fun f => .agg #[.int .i64 bs, .int .i64 (q + 1), .int .i64 view, f 33, .int .i64 0, .int .i64 0], fun f g h => by simp at h; simp [h]⟩ : DepT)] lz fz ∧ RowsJ w3 [(⟨7, none, 33, 69, 4, n2, (flatA M)⟩ : RowT)] lz fz wz ∧ PtrJ w3 [(⟨7, none, 33, 69, 4, n2, (flatA M)⟩ : RowT)] 9 10 (fun (W : World) b => BkAt W b (.int .i64 0) (.int .i64 0) (.int .i64 0) (.slice none 0 0) (.int .i64 0) (.int .i64 0)) lz fz wz) 10 11 (fun f wz => ∃ (w1 : World) (v : Value) (b : Nat), f 10 = .pointer (some ⟨b, 0, none⟩) ∧ OwnR w1 w3.heap.size w1.heap.size [⟨v, 69, 4, n2, flatA M⟩] ∧ blk v ≠ some b ∧ BkAt w1 b (.int .i64 0) (.int .i64 0) (.int .i64 0) (.slice none 0 0) (.int .i64 0) (.int .i64 0) ∧ w3.heap.size ≤ b ∧ b < w1.heap.size ∧ Below w3.heap.size w3 w1 ∧ wz = set6b w1 b (.int .i64 bs) (.int .i64 (q + 1)) (.int .i64 view) v (.int .i64 0) (.int .i64 0))) 38 rfl [26, 27, 28, 29, 30, 31, 32, 33, 34, 10] (by kernel_rfl) (by kernel_rfl) (by kernel_rfl) (fun f => LastJ.nothing ⟨Vals.nothing _ f, Deps.nothing _ f, RowsJ.nothing _ _ f, PtrJ.nothing _ _ _ _ _ f _⟩) ?_ ?_
        · intro i hi
          rcases (by have : i < 11 := hi; omega : i = 0 ∨ i = 1 ∨ i = 2 ∨ i = 3 ∨ i = 4 ∨ i = 5 ∨ i = 6 ∨ i = 7 ∨ i = 8 ∨ i = 9 ∨ i = 10) with rfl | rfl | rfl | rfl | rfl | rfl | rfl | rfl | rfl | rfl | rfl
          · clear hi; intro o ho lz fz w' A hJ hli ha hA K hK
            obtain ⟨hv, hd, hq, hp⟩ := hJ.now (i := 0) (by omega) hli
            obtain rfl := Option.some.inj ho
            clear ho
            have hB := hq.below
            have g4 := slot_out hA 4 _ (by decide) (by decide) rfl
            simp only [List.getD_cons_succ, List.getD_cons_zero] at g4
            have gg4 := slot_get g4
            rw [if_pos (by rfl)]
            obtain ⟨kc0, kc1, kc2, kc3, kc4, kc5, -⟩ := HKC.out w' hB
            have hF := hK (.agg #[.int .i64 p, .int .i64 q, .int .i64 r, .slice a n c, .int .i64 t, .int .i64 u]) w' (LastJ.step hJ 0 (by omega) hli (by decide) ⟨hv.step 0 26 _ (by simp), hd.step 0 26 _ hli (by simp [allR]), hq.still 0 26 _ (Below.refl _ _) (by simp), hp.still (fun _ _ _ hb h => h.keep hb) 0 26 _ (by decide) (by decide) (Below.refl _ _) (by simp)⟩)
            clear hv hp hq ha hK hA hli hd hB hJ
            go_simp
            exact hF
          · clear hi; intro o ho lz fz w' A hJ hli ha hA K hK
            obtain ⟨hv, hd, hq, hp⟩ := hJ.now (i := 1) (by omega) hli
            obtain rfl := Option.some.inj ho
            clear ho
            have hB := hq.below
            have g26 := slot_in hA 26 (by decide) (by decide) (hv (0, 26, (.agg #[.int .i64 p, .int .i64 q, .int .i64 r, .slice a n c, .int .i64 t, .int .i64 u])) (by simp) (ha 0 (by simp [aftersOf, Region.binds])))
            have gg26 := slot_get g26
            rw [if_pos (by rfl)]
            have hh := HBS.out w' hB
            clear hA
            go_simp
            refine hh.mono ?_
            rintro e9 w9 ⟨rfl, hb9⟩
            exact hK _ w9 (LastJ.step hJ 1 (by omega) hli (by decide) ⟨hv.step 1 27 _ (by simp), hd.step 1 27 _ hli (by simp [allR]), hq.still 1 27 _ hb9 (by simp), hp.still (fun _ _ _ hb h => h.keep hb) 1 27 _ (by decide) (by decide) hb9 (by simp)⟩)
          · clear hi; intro o ho lz fz w' A hJ hli ha hA K hK
            obtain ⟨hv, hd, hq, hp⟩ := hJ.now (i := 2) (by omega) hli
            obtain rfl := Option.some.inj ho
            clear ho
            have hB := hq.below
            have g4 := slot_out hA 4 _ (by decide) (by decide) rfl
            simp only [List.getD_cons_succ, List.getD_cons_zero] at g4
            have gg4 := slot_get g4
            rw [if_pos (by rfl)]
            have hF := hK (.pointer (some ⟨w.heap.size, 1, none⟩)) w' (LastJ.step hJ 2 (by omega) hli (by decide) ⟨hv.step 2 28 _ (by simp), hd.step 2 28 _ hli (by simp [allR]), hq.still 2 28 _ (Below.refl _ _) (by simp), hp.still (fun _ _ _ hb h => h.keep hb) 2 28 _ (by decide) (by decide) (Below.refl _ _) (by simp)⟩)
            clear hv hp hq ha hK hA hli hd hB hJ
            go_simp
            exact hF
          · clear hi; intro o ho lz fz w' A hJ hli ha hA K hK
            obtain ⟨hv, hd, hq, hp⟩ := hJ.now (i := 3) (by omega) hli
            obtain rfl := Option.some.inj ho
            clear ho
            have hB := hq.below
            have g28 := slot_in hA 28 (by decide) (by decide) (hv (2, 28, (.pointer (some ⟨w.heap.size, 1, none⟩))) (by simp) (ha 2 (by simp [aftersOf, Region.binds])))
            have gg28 := slot_get g28
            rw [if_pos (by rfl)]
            obtain ⟨kc0, kc1, kc2, kc3, kc4, kc5, -⟩ := HKC.out w' hB
            have hF := hK (.int .i64 q) w' (LastJ.step hJ 3 (by omega) hli (by decide) ⟨hv.step 3 29 _ (by simp), hd.step 3 29 _ hli (by simp [allR]), hq.still 3 29 _ (Below.refl _ _) (by simp), hp.still (fun _ _ _ hb h => h.keep hb) 3 29 _ (by decide) (by decide) (Below.refl _ _) (by simp)⟩)
            clear hv hp hq ha hK hA hli hd hB hJ
            go_simp
            exact hF
          · clear hi; intro o ho lz fz w' A hJ hli ha hA K hK
            obtain ⟨hv, hd, hq, hp⟩ := hJ.now (i := 4) (by omega) hli
            obtain rfl := Option.some.inj ho
            clear ho
            have hB := hq.below
            have g29 := slot_in hA 29 (by decide) (by decide) (hv (3, 29, (.int .i64 q)) (by simp) (ha 3 (by simp [aftersOf, Region.binds])))
            have gg29 := slot_get g29
            rw [if_pos (by rfl)]
            have hF := hK (.int .i64 (q + 1)) w' (LastJ.step hJ 4 (by omega) hli (by decide) ⟨hv.step 4 30 _ (by simp), hd.step 4 30 _ hli (by simp [allR]), hq.still 4 30 _ (Below.refl _ _) (by simp), hp.still (fun _ _ _ hb h => h.keep hb) 4 30 _ (by decide) (by decide) (Below.refl _ _) (by simp)⟩)
            clear hv hp hq ha hK hA hli hd hB hJ
            go_simp
            exact hF
          · clear hi; intro o ho lz fz w' A hJ hli ha hA K hK
            obtain ⟨hv, hd, hq, hp⟩ := hJ.now (i := 5) (by omega) hli
            obtain rfl := Option.some.inj ho
            clear ho
            have hB := hq.below
            have g2 := slot_out hA 2 _ (by decide) (by decide) rfl
            simp only [List.getD_cons_succ, List.getD_cons_zero] at g2
            have gg2 := slot_get g2
            rw [if_pos (by rfl)]
            have hF := hK (.int .i64 view) w' (LastJ.step hJ 5 (by omega) hli (by decide) ⟨hv.step 5 31 _ (by simp), hd.step 5 31 _ hli (by simp [allR]), hq.still 5 31 _ (Below.refl _ _) (by simp), hp.still (fun _ _ _ hb h => h.keep hb) 5 31 _ (by decide) (by decide) (Below.refl _ _) (by simp)⟩)
            clear hv hp hq ha hK hA hli hd hB hJ
            go_simp
            exact hF
          · clear hi; intro o ho lz fz w' A hJ hli ha hA K hK
            obtain ⟨hv, hd, hq, hp⟩ := hJ.now (i := 6) (by omega) hli
            obtain rfl := Option.some.inj ho
            clear ho
            have hB := hq.below
            have g3 := slot_out hA 3 _ (by decide) (by decide) rfl
            simp only [List.getD_cons_succ, List.getD_cons_zero] at g3
            have gg3 := slot_get g3
            rw [if_pos (by rfl)]
            have hF := hK (.slice a2 n2 c2) w' (LastJ.step hJ 6 (by omega) hli (by decide) ⟨hv.step 6 32 _ (by simp), hd.step 6 32 _ hli (by simp [allR]), hq.still 6 32 _ (Below.refl _ _) (by simp), hp.still (fun _ _ _ hb h => h.keep hb) 6 32 _ (by decide) (by decide) (Below.refl _ _) (by simp)⟩)
            clear hv hp hq ha hK hA hli hd hB hJ
            go_simp
            exact hF
          · clear hi; intro o ho lz fz w' A hJ hli ha hA K hK
            obtain ⟨hv, hd, hq, hp⟩ := hJ.now (i := 7) (by omega) hli
            obtain rfl := Option.some.inj ho
            clear ho
            have hB := hq.below
            have g32 := slot_in hA 32 (by decide) (by decide) (hv (6, 32, (.slice a2 n2 c2)) (by simp) (ha 6 (by simp [aftersOf, Region.binds])))
            have gg32 := slot_get g32
            rw [if_pos (by rfl)]
            have hh := HCL.out w' hB
            clear hA
            go_simp
            refine hh.mono ?_
            rintro e9 w9 ⟨v9, rfl, ho9, hb9⟩
            exact hK v9 w9 (LastJ.step hJ 7 (by omega) hli (by decide) ⟨hv.step 7 33 _ (by simp), hd.step 7 33 _ hli (by simp [allR]), hq.new 7 33 _ hb9 (by simp; exact ho9), hp.new (fun _ _ _ hb h => h.keep hb) 7 33 _ (by decide) (by decide) hb9 (by simp; exact ho9)⟩)
          · clear hi; intro o ho lz fz w' A hJ hli ha hA K hK
            obtain ⟨hv, hd, hq, hp⟩ := hJ.now (i := 8) (by omega) hli
            obtain rfl := Option.some.inj ho
            clear ho
            have hB := hq.below
            have g27 := slot_in hA 27 (by decide) (by decide) (hv (1, 27, (.int .i64 bs)) (by simp) (ha 1 (by simp [aftersOf, Region.binds])))
            have g30 := slot_in hA 30 (by decide) (by decide) (hv (4, 30, (.int .i64 (q + 1))) (by simp) (ha 4 (by simp [aftersOf, Region.binds])))
            have g31 := slot_in hA 31 (by decide) (by decide) (hv (5, 31, (.int .i64 view)) (by simp) (ha 5 (by simp [aftersOf, Region.binds])))
            have g33 : A.tmps.getD 33 undef = fz 33 := slot_in hA 33 (by decide) (by decide) rfl
            have gg27 := slot_get g27
            have gg30 := slot_get g30
            have gg31 := slot_get g31
            have gg33 := slot_get g33
            rw [if_pos (by rfl)]
            have hF := hK (.agg #[.int .i64 bs, .int .i64 (q + 1), .int .i64 view, fz 33, .int .i64 0, .int .i64 0]) w' (LastJ.step hJ 8 (by omega) hli (by decide) ⟨hv.step 8 34 _ (by simp), hd.step 8 34 _ hli (by simp [allR, ha 7 (by simp [aftersOf, Region.binds])]), hq.still 8 34 _ (Below.refl _ _) (by simp), hp.still (fun _ _ _ hb h => h.keep hb) 8 34 _ (by decide) (by decide) (Below.refl _ _) (by simp)⟩)
            have o33 := hq.at (t := ⟨7, none, 33, 69, 4, n2, (flatA M)⟩) (by simp) (ha 7 (by simp [aftersOf, Region.binds])) (by rfl)
            obtain ⟨p33, q33, k33, e33⟩ := slice_form o33
            simp only at e33
            rw [e33] at g33 gg33 hF
            clear o33
            clear hv hp hq ha hK hA hli hd hB hJ
            go_simp
            exact hF
          · clear hi; intro o ho lz fz w' A hJ hli ha hA K hK
            obtain ⟨hv, hd, hq, hp⟩ := hJ.now (i := 9) (by omega) hli
            obtain rfl := Option.some.inj ho
            clear ho
            have hB := hq.below
            rw [if_pos (by rfl)]
            go_simp
            exact hK _ _ (LastJ.step hJ 9 (by omega) hli (by decide) ⟨hv.step 9 10 _ (by simp), hd.step 9 10 _ hli (by simp [allR]), hq.still 9 10 _ ((Below.refl w'.heap.size w').alloc (Nat.le_refl _) _) (by simp), PtrJ.make hq _ (bkAt_new _ _ _ _ _ _ _ _) (by simp)⟩)
          · clear hi; intro o ho lz fz w' A hJ hli ha hA K hK
            obtain ⟨hv, hd, hq, hp⟩ := hJ.now (i := 10) (by omega) hli
            obtain rfl := Option.some.inj ho
            clear ho
            have hB := hq.below
            have g10 : A.tmps.getD 10 undef = fz 10 := slot_in hA 10 (by decide) (by decide) rfl
            have hd34 := (hd (⟨8, 34, [(7, 33)], fun f => .agg #[.int .i64 bs, .int .i64 (q + 1), .int .i64 view, f 33, .int .i64 0, .int .i64 0], fun f g h => by simp at h; simp [h]⟩ : DepT) (by simp) (ha 8 (by simp [aftersOf, Region.binds]))).2
            simp only at hd34
            have g34 : A.tmps.getD 34 undef = fz 34 := slot_in hA 34 (by decide) (by decide) rfl
            have gg10 := slot_get g10
            have gg34 := slot_get g34
            rw [if_pos (by rfl)]
            have hall : ∀ k, k < 10 → lz k = true := fun k hk => ha k (by have hk2 : k < 10 := hk; rcases (by omega : k = 0 ∨ k = 1 ∨ k = 2 ∨ k = 3 ∨ k = 4 ∨ k = 5 ∨ k = 6 ∨ k = 7 ∨ k = 8 ∨ k = 9) with rfl | rfl | rfl | rfl | rfl | rfl | rfl | rfl | rfl | rfl <;> simp [aftersOf, Region.binds])
            have hR := hq.list [(⟨7, none, 33, 69, 4, n2, (flatA M)⟩ : RowT)] (by simp [RowT.live, hall 7 (by decide)]) (by simp)
            simp only [List.map_cons, List.map_nil, RowT.row] at hR
            obtain ⟨p33, q33, k33, e33⟩ := slice_form hR.head
            simp only at e33
            obtain ⟨b, e10, hb0, hb1, hbz, hb2⟩ := hp (hall 9 (by decide))
            have hb33 : blk (fz 33) ≠ some b := hb2 (⟨7, none, 33, 69, 4, n2, (flatA M)⟩ : RowT) (by simp) (by simp [RowT.live, hall 7 (by decide)])
            have hF := hK undef _ (LastJ.last (fun i hi hne => hall i (by omega)) ⟨w', fz 33, b, by simpa using e10, hR, hb33, hbz, hb0, hb1, hB, rfl⟩)
            obtain ⟨z0, z1, z2, z3, z4, z5, f0, f1, f2, f3, f4, f5⟩ := hbz
            rw [e10] at g10 gg10
            rw [hd34] at g34 gg34
            rw [e33] at g34 gg34 hF
            clear hv hq hp ha hK hA hli hd hB hJ hall hR hd34 hb33 hb0 hb1 hb2 e10 e33
            unfold set6b at hF
            go_simp
            exact hF
        · intro lz fz w5 hall hJ
          have hfin := (hJ.2 (hall 10 (by decide))).2
          simp only [mixF, List.contains_cons, List.contains_nil]
          go_simp
          obtain ⟨w4, v, b, e10, hR, hvb, hbz, hb0, hb1, hb4, hw5⟩ := hfin
          rw [e10]
          have ho4 := hR.head
          simp only at ho4
          obtain ⟨ag, ng, kg, rfl⟩ := slice_form ho4
          have hG := set6b_grown w4 b (.int .i64 bs) (.int .i64 (q + 1)) (.int .i64 view) (.slice ag ng kg) (.int .i64 0) (.int .i64 0)
          rw [← hw5] at hG
          have hs3 := HB3.out.size
          have hn1 := HN.out
          have hB5 : Below W1.heap.size W1 w5 := (HB3.out.trans (hb4.mono hs3)).grown hG (Nat.le_trans hs3 hb4.size) (fun k hk => by cases hk; omega)
          have HG5 : Hid (BkAt w5 b (.int .i64 bs) (.int .i64 (q + 1)) (.int .i64 view) (.slice ag ng kg) (.int .i64 0) (.int .i64 0)) := Lib.hid (by rw [hw5]; exact hbz.set6 _ _ _ _ _ _)
          have hob : Value.ownBlock (.slice ag ng kg) ≠ some b := by rw [← owns_blk ho4]; exact hvb
          have HO5 : Hid (w5.ownsRow w.heap.size 69 4 (.slice ag ng kg) n2 (flatA M)) := Lib.hid (owns_mono (ho4.kept hG (.inr hob)) (by omega))
          have HOB : Hid (Value.ownBlock (.slice ag ng kg) ≠ some (w.heap.size + 1)) := Lib.hid (fun h => by have := (ho4.lt _ h).1; omega)
          have HB5 := Lib.hid hB5
          have hrow5 : RowA w5 ag n2 M ∧ ng = n2 := by
            have e := HLM.out
            subst e
            obtain ⟨a9, c9, e9, r9, -⟩ := rowA_of_owns HO5.out (by omega) HWM.out
            simp only [Value.slice.injEq] at e9
            obtain ⟨rfl, rfl, rfl⟩ := e9
            exact ⟨r9, rfl⟩
          obtain ⟨hr5, rfl⟩ := hrow5
          have HR5 := Lib.hid hr5
          have HBL := Lib.hid hb1
          have HGS := Lib.hid hG.size
          clear e10 hR hvb hbz hb0 hb4 hw5 ho4 hG hB5 hob hJ hall hs3 hn1 hr5 hb1
          obtain ⟨x0, x1, x2, x3, x4, x5, -⟩ := HG5.out
          have hs5 := (HA.out w5 HB5.out).2.2.2.2.1
          go_wp2_with fail
          refine (blkRun_impl bs (q + 1) view 0 0 ag _ kg M a' m c' S _ HR5.out hs5 hz).mono ?_; rintro e w6 ⟨rfl, hb6⟩
          obtain ⟨-, hZ6, hbw6, -⟩ := HA.out w6 (HB5.out.trans (hb6.mono HB5.out.size))
          have HWB : Hid (WfB (blkRun ⟨bs, q + 1, view, M, 0, 0⟩ S)) := Lib.hid (wf_of_blkB (by have := nextK_ok HNB.out; unfold nextK at this; rw [← HBSE.out] at this; exact this))
          have HNK : Hid (nextM ⟨p, q, r, L, t, u⟩ S view M = blkRun ⟨bs, q + 1, view, M, 0, 0⟩ S) := Lib.hid (by rw [nextM_yes HNB.out]; unfold nextK; rw [← HBSE.out])
          have HO6 := Lib.hid (owns_below HO5.out hb6)
          obtain ⟨x, hx⟩ : ∃ x, x = blkRun ⟨bs, q + 1, view, M, 0, 0⟩ S := ⟨_, rfl⟩
          have HX : Hid (x.acts = M) := Lib.hid (by rw [hx]; rfl)
          rw [← hx] at HWB HNK ⊢
          clear hx x0 x1 x2 x3 x4 x5 hs5 hb6
          have HF := Lib.hid (hZ6.set6 (.int .i64 x.bef) (.int .i64 x.hgt) (.int .i64 x.view) (.slice ag ng kg) (.int .i64 x.root) (.int .i64 x.effs))
          have HBF := Lib.hid (below_set6 hbw6 (Z := w.heap.size + 1) (by omega) (.int .i64 x.bef) (.int .i64 x.hgt) (.int .i64 x.view) (.slice ag ng kg) (.int .i64 x.root) (.int .i64 x.effs))
          have HOF := Lib.hid (owns_set6 HO6.out HOB.out (.int .i64 x.bef) (.int .i64 x.hgt) (.int .i64 x.view) (.slice ag ng kg) (.int .i64 x.root) (.int .i64 x.effs))
          obtain ⟨zc0, zc1, zc2, zc3, zc4, zc5, zf0, zf1, zf2, zf3, zf4, zf5⟩ := hZ6
          clear hbw6
          go_wp2_with fail
          refine bodyPost_ret (results_blkB Tryz.results14 _ (by rfl) HF.out (.bool true) (by rfl)) rfl ?_
          exact ⟨.slice ag ng kg, by rw [HNB.out, HNK.out], by rw [HNK.out, HX.out, HLM.out]; exact HOF.out, by rw [HNK.out, HX.out]; exact HWM.out, by rw [HNK.out]; exact HWB.out, HBF.out⟩
end Go.Proofs.YtaaffpolmecicaaGreat
