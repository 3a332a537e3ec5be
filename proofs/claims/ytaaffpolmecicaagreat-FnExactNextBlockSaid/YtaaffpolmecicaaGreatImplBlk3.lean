/- The contracts of the program's FirstBlock, canBeBefore, NextBlock and BlockRight. -/
import Derived.Test.YtaaffpolmecicaaGreatImplBlk2
import Derived.Test.YtaaffpolmecicaaGreatCloneA
namespace Go.Proofs.YtaaffpolmecicaaGreat
open Go.RowKit
set_option linter.unusedVariables false
set_option linter.unusedSimpArgs false
theorem rowA_nil (w : World) : RowA w none 0 [] := ⟨rfl, by unfold maxLen; omega, fun h => absurd h (by omega), fun x hx => by cases hx⟩
set_option maxHeartbeats 2000000 in
theorem canBeBefore_impl (p q r t u : Int) (a : Option Addr) (n c : Nat) (L : List Acn) (view : Int) (w : World) (h : RowA w a n L) (hv : (Lit.int .i64 view).wf = true) :
    Calls Tryz.prog 43 #[.agg #[.int .i64 p, .int .i64 q, .int .i64 r, .slice a n c, .int .i64 t, .int .i64 u], .int .i64 view] w (BoolB (befB ⟨p, q, r, L, t, u⟩ view) w) := by
  have hA0 := bkAt_new w 31 (.int .i64 p) (.int .i64 q) (.int .i64 r) (.slice a n c) (.int .i64 t) (.int .i64 u)
  have hb0 := (Below.refl w.heap.size w).alloc (Nat.le_refl _) (.cells #[.int .i64 p, .int .i64 q, .int .i64 r, .slice a n c, .int .i64 t, .int .i64 u] 31)
  have H := Lib.hid (h.below hb0)
  have HB := Lib.hid hb0
  have HA := Lib.hid hA0
  clear h hb0 hA0
  cases e0 : blkB ⟨p, q, r, L, t, u⟩ with
  | false =>
    have HE : Hid (befB ⟨p, q, r, L, t, u⟩ view = false) := Lib.hid (by unfold befB; rw [e0]; rfl)
    go_enter Tryz.func43, Tryz.ntmps43
    go_wp2_with fail
    refine (blockValid_impl p q r t u a n c L _ H.out).mono ?_; rintro e w1 ⟨rfl, hb1⟩
    have HB1 := Lib.hid (HB.out.trans (hb1.mono HB.out.size))
    clear hb1
    go_wp2_with fail
    go_ret
    exact ⟨by rw [HE.out]; rfl, HB1.out⟩
  | true =>
    obtain ⟨-, -, -, hq, hr, -⟩ := blkB_true e0
    simp only at hq hr
    have hqb : inB (q + 1) 0 100 = decide (q ≠ 100) := by
      by_cases hh : q = 100
      · rw [hh]; rfl
      · rw [inB_yes (by omega) (by omega)]; simp [hh]
    go_enter Tryz.func43, Tryz.ntmps43
    go_wp2_with fail
    refine (blockValid_impl p q r t u a n c L _ H.out).mono ?_; rintro e w1 ⟨rfl, hb1⟩
    have HB1 := Lib.hid (HB.out.trans (hb1.mono HB.out.size))
    obtain ⟨c0, c1, c2, c3, c4, c5, -⟩ := HA.out.below hb1
    clear hb1
    by_cases h100 : q = 100
    · have hqf : inB (q + 1) 0 100 = false := by rw [hqb, h100]; rfl
      have HE : Hid (befB ⟨p, q, r, L, t, u⟩ view = false) := Lib.hid (by unfold befB; simp [h100])
      clear hqb h100
      go_wp2_with (first | (go_at_call 58; refine (isHeight_impl _ _).mono ?_; rintro e w' ⟨rfl, rfl⟩))
      go_ret
      exact ⟨by rw [HE.out]; rfl, HB1.out⟩
    · have hqf : inB (q + 1) 0 100 = true := by rw [hqb]; simp [h100]
      cases ev : inB view 0 1000 with
      | false =>
        have HE : Hid (befB ⟨p, q, r, L, t, u⟩ view = false) := Lib.hid (by
          have h3 := inB_false ev
          have : inB view (r + 1) 1000 = false := inB_no (by omega)
          unfold befB; simp [this])
        clear hqb h100
        go_wp2_with (first | (go_at_call 58; refine (isHeight_impl _ _).mono ?_; rintro e w' ⟨rfl, rfl⟩) | (go_at_call 59; refine (isView_impl _ _).mono ?_; rintro e w' ⟨rfl, rfl⟩))
        go_ret
        exact ⟨by rw [HE.out]; rfl, HB1.out⟩
      | true =>
        have h3 := inB_true ev
        by_cases hr2 : r < view
        · have hd : decide (r < view) = true := by simpa using hr2
          have HE : Hid (befB ⟨p, q, r, L, t, u⟩ view = true) := Lib.hid (by
            have : inB view (r + 1) 1000 = true := inB_yes (by omega) (by omega)
            unfold befB; simp [this, e0, h100])
          clear hqb h100 h3 hr2
          go_wp2_with (first | (go_at_call 58; refine (isHeight_impl _ _).mono ?_; rintro e w' ⟨rfl, rfl⟩) | (go_at_call 59; refine (isView_impl _ _).mono ?_; rintro e w' ⟨rfl, rfl⟩))
          go_ret
          exact ⟨by rw [HE.out]; rfl, HB1.out⟩
        · have hd : decide (r < view) = false := by simpa using hr2
          have HE : Hid (befB ⟨p, q, r, L, t, u⟩ view = false) := Lib.hid (by
            have : inB view (r + 1) 1000 = false := inB_no (by omega)
            unfold befB; simp [this])
          clear hqb h100 h3 hr2
          go_wp2_with (first | (go_at_call 58; refine (isHeight_impl _ _).mono ?_; rintro e w' ⟨rfl, rfl⟩) | (go_at_call 59; refine (isView_impl _ _).mono ?_; rintro e w' ⟨rfl, rfl⟩))
          go_ret
          exact ⟨by rw [HE.out]; rfl, HB1.out⟩
set_option maxRecDepth 100000 in
set_option maxHeartbeats 4000000 in
theorem blockRight_impl (p q r t u : Int) (a : Option Addr) (n c : Nat) (L : List Acn) (a' : Option Addr) (m c' : Nat) (S : List Ent) (w : World) (h : RowA w a n L) (hS : RowE w a' m S) (hz : a' = none → c' = 0) :
    Calls Tryz.prog 23 #[.agg #[.int .i64 p, .int .i64 q, .int .i64 r, .slice a n c, .int .i64 t, .int .i64 u], .slice a' m c'] w (BoolB (rightB ⟨p, q, r, L, t, u⟩ S) w) := by
  have hA0 := bkAt_new w 31 (.int .i64 p) (.int .i64 q) (.int .i64 r) (.slice a n c) (.int .i64 t) (.int .i64 u)
  have hb0 := (Below.refl w.heap.size w).alloc (Nat.le_refl _) (.cells #[.int .i64 p, .int .i64 q, .int .i64 r, .slice a n c, .int .i64 t, .int .i64 u] 31)
  have H := Lib.hid (h.below hb0)
  have HS := Lib.hid (hS.below hb0)
  have HB := Lib.hid hb0
  have HA := Lib.hid hA0
  clear h hb0 hA0 hS
  go_enter Tryz.func23, Tryz.ntmps23
  go_wp2_with fail
  refine (blockValid_impl p q r t u a n c L _ H.out).mono ?_; rintro e w1 ⟨rfl, hb1⟩
  have HB1 := Lib.hid (HB.out.trans (hb1.mono HB.out.size))
  have HA1 := Lib.hid (HA.out.below hb1)
  have H1 := Lib.hid (H.out.below hb1)
  have HS1 := Lib.hid (HS.out.below hb1)
  clear hb1
  cases e0 : blkB ⟨p, q, r, L, t, u⟩ with
  | false =>
    have HE : Hid (rightB ⟨p, q, r, L, t, u⟩ S = false) := Lib.hid (by unfold rightB; rw [e0]; rfl)
    clear e0
    go_wp2
    go_ret
    exact ⟨by rw [HE.out]; rfl, HB1.out⟩
  | true =>
    have HV := Lib.hid e0
    clear e0
    go_wp2_with fail
    refine (storeValid_impl a' m c' S _ HS1.out).mono ?_; rintro e w2 ⟨rfl, hb2⟩
    have HB2 := Lib.hid (HB1.out.trans (hb2.mono HB1.out.size))
    have HA2 := Lib.hid (HA1.out.below hb2)
    have H2 := Lib.hid (H1.out.below hb2)
    have HS2 := Lib.hid (HS1.out.below hb2)
    clear hb2
    cases e1 : storeB S with
    | false =>
      have HE : Hid (rightB ⟨p, q, r, L, t, u⟩ S = false) := Lib.hid (by unfold rightB; rw [e1]; simp)
      clear e1
      go_wp2
      go_ret
      exact ⟨by rw [HE.out]; rfl, HB2.out⟩
    | true =>
      have HRT : Hid (rightB ⟨p, q, r, L, t, u⟩ S = (decide (rootM (serM S L).1 = t) && decide (effsSumM (serM S L).2 = u))) := Lib.hid (by unfold rightB; rw [HV.out, e1]; simp)
      clear e1
      obtain ⟨c0, c1, c2, c3, c4, c5, -⟩ := HA2.out
      go_wp2_with fail
      refine (blkRun_impl p q r t u a n c L a' m c' S _ H2.out HS2.out hz).mono ?_; rintro e w3 ⟨rfl, hb3⟩
      obtain ⟨rt, hrt⟩ : ∃ x, x = rootM (serM S L).1 := ⟨_, rfl⟩
      obtain ⟨ef, hef⟩ : ∃ x, x = effsSumM (serM S L).2 := ⟨_, rfl⟩
      have hblk : blkRun ⟨p, q, r, L, t, u⟩ S = ⟨p, q, r, L, rt, ef⟩ := by rw [hrt, hef]; rfl
      rw [hblk]
      rw [← hrt, ← hef] at HRT
      simp only
      clear hrt hef hblk c0 c1 c2 c3 c4 c5
      have HB3 := Lib.hid (HB2.out.trans (hb3.mono HB2.out.size))
      have HA3 := Lib.hid (HA2.out.below hb3)
      clear hb3
      go_upto_region 4 with (fail)
      generalize hw4 : World.alloc _ _ = w4
      have hb4 : Below w3.heap.size w3 w4 := by rw [← hw4]; exact (Below.refl _ _).alloc (Nat.le_refl _) _
      have hG4 : BkAt w4 w3.heap.size (.int .i64 p) (.int .i64 q) (.int .i64 r) (.slice a n c) (.int .i64 rt) (.int .i64 ef) := by rw [← hw4]; exact bkAt_new w3 _ _ _ _ _ _ _
      have HB4 := Lib.hid (HB3.out.trans (hb4.mono HB3.out.size))
      obtain ⟨-, -, -, -, c4, c5, -⟩ := HA3.out.below hb4
      obtain ⟨-, -, -, -, d4, d5, -⟩ := hG4
      clear hw4 hb4
      by_cases f1 : rt = t
      · have g1 : (rt == t) = true := by simpa using f1
        by_cases f2 : ef = u
        · have g2 : (ef == u) = true := by simpa using f2
          have HE : Hid ((decide (rt = t) && decide (ef = u)) = true) := Lib.hid (by simp [f1, f2])
          clear f1 f2
          go_wp2
          go_ret
          exact ⟨by rw [HRT.out, HE.out]; rfl, HB4.out⟩
        · have g2 : (ef == u) = false := by simpa using f2
          have HE : Hid ((decide (rt = t) && decide (ef = u)) = false) := Lib.hid (by simp [f2])
          clear f1 f2
          go_wp2
          go_ret
          exact ⟨by rw [HRT.out, HE.out]; rfl, HB4.out⟩
      · have g1 : (rt == t) = false := by simpa using f1
        have HE : Hid ((decide (rt = t) && decide (ef = u)) = false) := Lib.hid (by simp [f1])
        clear f1
        go_wp2
        go_ret
        exact ⟨by rw [HRT.out, HE.out]; rfl, HB4.out⟩
end Go.Proofs.YtaaffpolmecicaaGreat
