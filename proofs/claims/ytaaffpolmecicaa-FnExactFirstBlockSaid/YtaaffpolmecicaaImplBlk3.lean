/- The contracts of the program's FirstBlock, canBeBefore, NextBlock and BlockRight. -/
import Derived.Test.YtaaffpolmecicaaImplBlk2
import Derived.Test.YtaaffpolmecicaaCloneA
namespace Go.Proofs.Ytaaffpolmecicaa
open Go.RowKit
set_option linter.unusedVariables false
set_option linter.unusedSimpArgs false
theorem rowA_nil (w : World) : RowA w none 0 [] := ⟨rfl, by unfold maxLen; omega, fun h => absurd h (by omega), fun x hx => by cases hx⟩
set_option maxRecDepth 100000 in
set_option maxHeartbeats 4000000 in
theorem firstBlock_impl (a : Option Addr) (n c : Nat) (S : List Ent) (w : World) (h : RowE w a n S) (hz : a = none → c = 0) :
    Calls Try.prog 21 #[.slice a n c] w (NewBk w 75 (firstM S)) := by
  have hb0 := (Below.refl w.heap.size w).alloc (Nat.le_refl _) (.cells #[.int .i64 0, .int .i64 0, .int .i64 0, .slice none 0 0, .int .i64 0, .int .i64 0] 29)
  have hA := bkAt_new w 29 (.int .i64 0) (.int .i64 0) (.int .i64 0) (.slice none 0 0) (.int .i64 0) (.int .i64 0)
  obtain ⟨W1, hW1⟩ : ∃ W1, W1 = w.alloc (.cells #[.int .i64 0, .int .i64 0, .int .i64 0, .slice none 0 0, .int .i64 0, .int .i64 0] 29) := ⟨_, rfl⟩
  have HW1 := Lib.hid hW1
  rw [← hW1] at hb0 hA
  clear hW1
  have HA := Lib.hid (fun (W : World) (hb : Below W1.heap.size W1 W) => (⟨hA.below hb, hb0.trans (hb.mono hb0.size)⟩ : BkAt W w.heap.size (.int .i64 0) (.int .i64 0) (.int .i64 0) (.slice none 0 0) (.int .i64 0) (.int .i64 0) ∧ Below w.heap.size w W))
  have HS := Lib.hid (h.below hb0)
  clear h hb0 hA
  go_enter Try.func21, Try.ntmps21
  go_upto_region 1 with (fail)
  rw [← HW1.out]
  clear HW1
  go_wp2_with fail
  refine (storeValid_impl a n c S _ HS.out).mono ?_; rintro e w2 ⟨rfl, hb2⟩
  have HB2 := Lib.hid hb2
  cases hs : storeB S with
  | false =>
    have HE := Lib.hid (firstM_no hs)
    obtain ⟨hA2, hB2⟩ := HA.out w2 hb2
    have HF := Lib.hid (hA2.set6 (.int .i64 0) (.int .i64 0) (.int .i64 0) (.slice none 0 0) (.int .i64 0) (.int .i64 0))
    have HBF := Lib.hid (below_set6 hB2 (Nat.le_refl w.heap.size) (.int .i64 0) (.int .i64 0) (.int .i64 0) (.slice none 0 0) (.int .i64 0) (.int .i64 0))
    obtain ⟨c0, c1, c2, c3, c4, c5, f0, f1, f2, f3, f4, f5⟩ := hA2
    clear hs hb2 hB2
    go_wp2_with fail
    refine bodyPost_ret (results_blk Try.results21 _ (by rfl) HF.out) rfl ?_
    exact ⟨.slice none 0 0, by rw [HE.out]; rfl, by rw [HE.out]; exact newBk_zero _ _ _, by rw [HE.out]; exact fun x hx => (by cases hx), by rw [HE.out]; exact wfB_no, HBF.out⟩
  | true =>
    have HE : Hid (firstM S = blkRun ⟨0, 0, 0, [], 0, 0⟩ S) := Lib.hid (by unfold firstM; rw [if_pos hs]; rfl)
    have HS2 := Lib.hid (HS.out.below hb2)
    clear hs hb2
    go_wp2_with fail
    refine (blkRun_impl 0 0 0 0 0 none 0 0 [] a n c S _ (rowA_nil _) HS2.out hz).mono ?_; rintro e w3 ⟨rfl, hb3⟩
    obtain ⟨hA3, hB3⟩ := HA.out w3 (HB2.out.trans (hb3.mono HB2.out.size))
    have HW := Lib.hid (wfB_run (b := ⟨0, 0, 0, [], 0, 0⟩) S wfB_no)
    obtain ⟨x, hx⟩ : ∃ x, x = blkRun ⟨0, 0, 0, [], 0, 0⟩ S := ⟨_, rfl⟩
    have HX : Hid (x.bef = 0 ∧ x.hgt = 0 ∧ x.view = 0 ∧ x.acts = []) := Lib.hid (by rw [hx]; exact ⟨rfl, rfl, rfl, rfl⟩)
    rw [← hx] at HE HW ⊢
    clear hx
    have HF := Lib.hid (hA3.set6 (.int .i64 x.bef) (.int .i64 x.hgt) (.int .i64 x.view) (.slice none 0 0) (.int .i64 x.root) (.int .i64 x.effs))
    have HBF := Lib.hid (below_set6 hB3 (Nat.le_refl w.heap.size) (.int .i64 x.bef) (.int .i64 x.hgt) (.int .i64 x.view) (.slice none 0 0) (.int .i64 x.root) (.int .i64 x.effs))
    obtain ⟨c0, c1, c2, c3, c4, c5, f0, f1, f2, f3, f4, f5⟩ := hA3
    clear hb3 hB3
    go_wp2_with fail
    refine bodyPost_ret (results_blk Try.results21 _ (by rfl) HF.out) rfl ?_
    exact ⟨.slice none 0 0, by rw [HE.out], by rw [HE.out, HX.out.2.2.2]; exact World.ownsRow_nil _ _ _ _, by rw [HE.out, HX.out.2.2.2]; exact fun x hx => (by cases hx), by rw [HE.out]; exact HW.out, HBF.out⟩
set_option maxRecDepth 100000 in
set_option maxHeartbeats 4000000 in
theorem blockRight_impl (p q r t u : Int) (a : Option Addr) (n c : Nat) (L : List Acn) (a' : Option Addr) (m c' : Nat) (S : List Ent) (w : World) (h : RowA w a n L) (hS : RowE w a' m S) (hz : a' = none → c' = 0) :
    Calls Try.prog 33 #[.agg #[.int .i64 p, .int .i64 q, .int .i64 r, .slice a n c, .int .i64 t, .int .i64 u], .slice a' m c'] w (BoolB (rightB ⟨p, q, r, L, t, u⟩ S) w) := by
  have hA0 := bkAt_new w 29 (.int .i64 p) (.int .i64 q) (.int .i64 r) (.slice a n c) (.int .i64 t) (.int .i64 u)
  have hb0 := (Below.refl w.heap.size w).alloc (Nat.le_refl _) (.cells #[.int .i64 p, .int .i64 q, .int .i64 r, .slice a n c, .int .i64 t, .int .i64 u] 29)
  have H := Lib.hid (h.below hb0)
  have HS := Lib.hid (hS.below hb0)
  have HB := Lib.hid hb0
  have HA := Lib.hid hA0
  clear h hb0 hA0 hS
  go_enter Try.func33, Try.ntmps33
  go_wp2_with fail
  refine (blockValid_impl p q r t u a n c L _ H.out).mono ?_; rintro e w1 ⟨rfl, hb1⟩
  have HB1 := Lib.hid (HB.out.trans (hb1.mono HB.out.size))
  have HA1 := Lib.hid (HA.out.below hb1)
  have H1 := Lib.hid (H.out.below hb1)
  have HS1 := Lib.hid (HS.out.below hb1)
  clear hb1
  cases e0 : blkB ⟨p, q, r, L, t, u⟩ with
  | false =>
    have HE : Hid (rightB ⟨p, q, r, L, t, u⟩ S = false) := Lib.hid (by unfold rightB; rw [e0]; rfl)
    clear e0
    go_wp2
    go_ret
    exact ⟨by rw [HE.out]; rfl, HB1.out⟩
  | true =>
    have HV := Lib.hid e0
    clear e0
    go_wp2_with fail
    refine (storeValid_impl a' m c' S _ HS1.out).mono ?_; rintro e w2 ⟨rfl, hb2⟩
    have HB2 := Lib.hid (HB1.out.trans (hb2.mono HB1.out.size))
    have HA2 := Lib.hid (HA1.out.below hb2)
    have H2 := Lib.hid (H1.out.below hb2)
    have HS2 := Lib.hid (HS1.out.below hb2)
    clear hb2
    cases e1 : storeB S with
    | false =>
      have HE : Hid (rightB ⟨p, q, r, L, t, u⟩ S = false) := Lib.hid (by unfold rightB; rw [e1]; simp)
      clear e1
      go_wp2
      go_ret
      exact ⟨by rw [HE.out]; rfl, HB2.out⟩
    | true =>
      have HRT : Hid (rightB ⟨p, q, r, L, t, u⟩ S = (decide (rootM (serM S L).1 = t) && decide (effsSumM (serM S L).2 = u))) := Lib.hid (by unfold rightB; rw [HV.out, e1]; simp)
      clear e1
      obtain ⟨c0, c1, c2, c3, c4, c5, -⟩ := HA2.out
      go_wp2_with fail
      refine (blkRun_impl p q r t u a n c L a' m c' S _ H2.out HS2.out hz).mono ?_; rintro e w3 ⟨rfl, hb3⟩
      obtain ⟨rt, hrt⟩ : ∃ x, x = rootM (serM S L).1 := ⟨_, rfl⟩
      obtain ⟨ef, hef⟩ : ∃ x, x = effsSumM (serM S L).2 := ⟨_, rfl⟩
      have hblk : blkRun ⟨p, q, r, L, t, u⟩ S = ⟨p, q, r, L, rt, ef⟩ := by rw [hrt, hef]; rfl
      rw [hblk]
      rw [← hrt, ← hef] at HRT
      simp only
      clear hrt hef hblk c0 c1 c2 c3 c4 c5
      have HB3 := Lib.hid (HB2.out.trans (hb3.mono HB2.out.size))
      have HA3 := Lib.hid (HA2.out.below hb3)
      clear hb3
      go_upto_region 4 with (fail)
      generalize hw4 : World.alloc _ _ = w4
      have hb4 : Below w3.heap.size w3 w4 := by rw [← hw4]; exact (Below.refl _ _).alloc (Nat.le_refl _) _
      have hG4 : BkAt w4 w3.heap.size (.int .i64 p) (.int .i64 q) (.int .i64 r) (.slice a n c) (.int .i64 rt) (.int .i64 ef) := by rw [← hw4]; exact bkAt_new w3 _ _ _ _ _ _ _
      have HB4 := Lib.hid (HB3.out.trans (hb4.mono HB3.out.size))
      obtain ⟨-, -, -, -, c4, c5, -⟩ := HA3.out.below hb4
      obtain ⟨-, -, -, -, d4, d5, -⟩ := hG4
      clear hw4 hb4
      by_cases f1 : rt = t
      · have g1 : (rt == t) = true := by simpa using f1
        by_cases f2 : ef = u
        · have g2 : (ef == u) = true := by simpa using f2
          have HE : Hid ((decide (rt = t) && decide (ef = u)) = true) := Lib.hid (by simp [f1, f2])
          clear f1 f2
          go_wp2
          go_ret
          exact ⟨by rw [HRT.out, HE.out]; rfl, HB4.out⟩
        · have g2 : (ef == u) = false := by simpa using f2
          have HE : Hid ((decide (rt = t) && decide (ef = u)) = false) := Lib.hid (by simp [f2])
          clear f1 f2
          go_wp2
          go_ret
          exact ⟨by rw [HRT.out, HE.out]; rfl, HB4.out⟩
      · have g1 : (rt == t) = false := by simpa using f1
        have HE : Hid ((decide (rt = t) && decide (ef = u)) = false) := Lib.hid (by simp [f1])
        clear f1
        go_wp2
        go_ret
        exact ⟨by rw [HRT.out, HE.out]; rfl, HB4.out⟩
end Go.Proofs.Ytaaffpolmecicaa
