/- The contracts of the model's RunAction and ApplyEffect. -/
import Derived.Test.YtpnahncmhldgdaaSpecEff
namespace Go.Proofs.Ytpnahncmhldgdaa
open Go.RowKit
set_option linter.unusedVariables false
theorem below_ce {B G o : Nat} {w w' : World} {v : Value} (hb : Below B w w') (hG : G < B) (hc : w.cell? ⟨G, o, none⟩ = some v) : w'.cell? ⟨G, o, none⟩ = some v := (hb.cell (p := ⟨G, o, none⟩) hG).trans hc
theorem set3_cell {w : World} {A Z o : Nat} {v p q r : Value} (hne : A ≠ Z) (hc : w.cell? ⟨A, o, none⟩ = some v) : (((w.setCell ⟨Z, 0, none⟩ p).setCell ⟨Z, 1, none⟩ q).setCell ⟨Z, 2, none⟩ r).cell? ⟨A, o, none⟩ = some v :=
  (set_grown _ Z 2 r).cell ((set_grown _ Z 1 q).cell ((set_grown w Z 0 p).cell hc (by simp; exact hne)) (by simp; exact hne)) (by simp; exact hne)
set_option maxRecDepth 100000 in
set_option maxHeartbeats 4000000 in
theorem runAction_spec (a : Option Addr) (n cap : Nat) (S : List Ent) (p s d m : Int) (w : World) (h : RowE w a n S) :
    Calls Try.prog 31 #[.slice a n cap, .agg #[.int .i64 p, .int .i64 s, .int .i64 d, .int .i64 m]] w (NewF w 70 (runM S ⟨p, s, d, m⟩)) := by
  have hA := actAt_new w 42 p s d m
  have hb0 := ((Below.refl w.heap.size w).alloc (Nat.le_refl _) (.cells #[.int .i64 p, .int .i64 s, .int .i64 d, .int .i64 m] 42)).alloc (by simp) (.cells #[.bool false, .slice none 0 0, .slice none 0 0] 39)
  have hZ := zAt_new (w.alloc (.cells #[.int .i64 p, .int .i64 s, .int .i64 d, .int .i64 m] 42)) 39
  have hsz : ((w.alloc (.cells #[.int .i64 p, .int .i64 s, .int .i64 d, .int .i64 m] 42)).alloc (.cells #[.bool false, .slice none 0 0, .slice none 0 0] 39)).heap.size = w.heap.size + 2 := by simp
  rw [World.size_alloc] at hZ
  replace hA := hA.grown (World.grownBy_alloc _ (.cells #[.bool false, .slice none 0 0, .slice none 0 0] 39) none) (by simp)
  go_enter Try.func31, Try.ntmps31
  go_wp2_with fail
  have hr0 := h.below hb0
  obtain ⟨w0, hw0⟩ : ∃ w0, w0 = (w.alloc (.cells #[.int .i64 p, .int .i64 s, .int .i64 d, .int .i64 m] 42)).alloc (.cells #[.bool false, .slice none 0 0, .slice none 0 0] 39) := ⟨_, rfl⟩
  rw [← hw0] at hA hZ hb0 hr0 hsz ⊢
  clear hw0 h
  refine (storeValid_spec a n cap S _ hr0).mono ?_; rintro e w1 ⟨rfl, hd1⟩
  have hb1 := hd1.below w0.heap.size
  have hA1 := hA.grown (Below.grownBy hb1 none) (by simp)
  have hZ1 := hZ.grown (Below.grownBy hb1 none) (by simp)
  have hr1 := hr0.below hb1
  have hb01 := hb0.trans (hb1.mono hb0.size)
  have hs1 : w.heap.size + 2 ≤ w1.heap.size := by have := hb1.size; omega
  clear hA hZ hr0 hb0 hsz hd1 hb1
  cases hS : storeB S with
  | false =>
    have HM : Hid (runM S ⟨p, s, d, m⟩ = noEff) := Lib.hid (runM_no (by rw [hS]; rfl))
    clear hS
    have h0 : EAt w1 (w.heap.size + 1) false (.slice none 0 0) (.slice none 0 0) := hZ1
    have HE := Lib.hid (((h0.set0 false).set1 (.slice none 0 0)).set2 (.slice none 0 0))
    have HB := Lib.hid (below_set3 hb01 (Z := w.heap.size + 1) (by omega) 0 1 2 (.bool false) (.slice none 0 0) (.slice none 0 0))
    obtain ⟨⟨z0, z1, z2⟩, ⟨y0, y1, y2⟩, hZl⟩ := hZ1
    clear h0 hb01 hA1 hr1
    go_wp2_with fail
    exact bodyPost_ret (results_eff Try.results31 _ (by rfl) HE.out) rfl ⟨_, rfl, by rw [HM.out]; exact ownF_zero _ _ _, HB.out⟩
  | true =>
    have HSS := Lib.hid hS
    clear hS
    obtain ⟨⟨q0, q1, q2, q3⟩, -⟩ := hA1
    go_wp2_with fail
    refine (actionValid_spec p s d m _).mono ?_; rintro e w2 ⟨rfl, hb2⟩
    have hZ2 := hZ1.grown (Below.grownBy hb2 none) (by simp)
    have c0 := below_ce hb2 (show w.heap.size < w1.heap.size by omega) q0
    have c1 := below_ce hb2 (show w.heap.size < w1.heap.size by omega) q1
    have c2 := below_ce hb2 (show w.heap.size < w1.heap.size by omega) q2
    have c3 := below_ce hb2 (show w.heap.size < w1.heap.size by omega) q3
    have hr2 := hr1.below hb2
    have hb02 := hb01.trans (hb2.mono hb01.size)
    have hs2 : w.heap.size + 2 ≤ w2.heap.size := by have := hb2.size; omega
    clear hZ1 hr1 hb01 hb2 q0 q1 q2 q3 hs1
    cases hv : actB ⟨p, s, d, m⟩ with
    | false =>
      have HM : Hid (runM S ⟨p, s, d, m⟩ = noEff) := Lib.hid (runM_no (by rw [hv]; simp))
      clear hv
      have h0 : EAt w2 (w.heap.size + 1) false (.slice none 0 0) (.slice none 0 0) := hZ2
      have HE := Lib.hid (((h0.set0 false).set1 (.slice none 0 0)).set2 (.slice none 0 0))
      have HB := Lib.hid (below_set3 hb02 (Z := w.heap.size + 1) (by omega) 0 1 2 (.bool false) (.slice none 0 0) (.slice none 0 0))
      obtain ⟨⟨z0, z1, z2⟩, ⟨y0, y1, y2⟩, hZl⟩ := hZ2
      clear h0 hb02 hr2
      go_wp2_with fail
      exact bodyPost_ret (results_eff Try.results31 _ (by rfl) HE.out) rfl ⟨_, rfl, by rw [HM.out]; exact ownF_zero _ _ _, HB.out⟩
    | true =>
      have HV := Lib.hid hv
      have HM : Hid (runM S ⟨p, s, d, m⟩ = effK p s d m (atM S s) (atM S d)) := Lib.hid (runM_yes HSS.out hv)
      have HF := Lib.hid (atM_bd ((storeB_ok S).1 HSS.out).2 s)
      have HT := Lib.hid (atM_bd ((storeB_ok S).1 HSS.out).2 d)
      have HLR := Lib.hid (show (effK p s d m (atM S s) (atM S d)).rds.length ≤ 4000000 from by have := runM_rlen S ⟨p, s, d, m⟩; rw [HM.out] at this; omega)
      have HLW := Lib.hid (show (effK p s d m (atM S s) (atM S d)).wrs.length ≤ 4000000 from by have := runM_wlen S ⟨p, s, d, m⟩; rw [HM.out] at this; omega)
      clear hv
      obtain ⟨Z, hZe⟩ : ∃ Z, Z = w.heap.size + 1 := ⟨_, rfl⟩
      obtain ⟨A, hAe⟩ : ∃ A, A = w.heap.size := ⟨_, rfl⟩
      rw [← hZe] at hZ2
      rw [← hAe] at c0 c1 c2 c3
      have hal : A < w2.heap.size := by omega
      have hAZ : A ≠ Z := by omega
      have HZw := Lib.hid (show w.heap.size ≤ Z by omega)
      have HZ2 := Lib.hid hZ2
      have hzz : Z < w2.heap.size := by omega
      obtain ⟨⟨z0, z1, z2⟩, ⟨y0, y1, y2⟩, hZl⟩ := hZ2
      go_wp2_with fail
      rw [← hZe, ← hAe]
      clear hZe hAe
      go_region_held3 (fun w' => w'.cell? ⟨A, 0, none⟩ = some (.int .i64 p) ∧ w'.cell? ⟨A, 1, none⟩ = some (.int .i64 s) ∧ w'.cell? ⟨A, 2, none⟩ = some (.int .i64 d) ∧ w'.cell? ⟨A, 3, none⟩ = some (.int .i64 m)) (first | exact ⟨c0, c1, c2, c3⟩ | exact ⟨d0, d1, d2, d3⟩ | exact ⟨set3_cell hAZ d0, set3_cell hAZ d1, set3_cell hAZ d2, set3_cell hAZ d3⟩ | go_keep)
        (first | (go_at_call 73; refine (l2At_spec a n cap S _ _ (by exact hr2)).mono ?_; rintro e w' ⟨rfl, rfl⟩) | (go_at_call 72; refine (l6Run_spec p s d m _ _ _ HV.out HF.out HT.out).mono ?_; rintro e w6 ⟨v6, rfl, hF6, hb6'⟩; have hb6 : Below w2.heap.size w2 w6 := (by first | exact hb6' | exact (Below.refl _ w2).drew.trans hb6' | exact (Below.refl _ w2).drew.drew.trans hb6'); obtain ⟨va, ca, vb, cb, rfl, -⟩ := hF6.rows HLR.out HLW.out; have d0 := below_ce hb6 hal c0; have d1 := below_ce hb6 hal c1; have d2 := below_ce hb6 hal c2; have d3 := below_ce hb6 hal c3; have hZ6 := HZ2.out.grown (Below.grownBy hb6 none) (by simp); have x0 := hZ6.1.1; have x1 := hZ6.1.2.1; have x2 := hZ6.1.2.2; have v0 := hZ6.2.1.1; have v1 := hZ6.2.1.2.1; have v2 := hZ6.2.1.2.2))
      all_goals
        obtain ⟨X, hX⟩ : ∃ X, X = effK p s d m (atM S s) (atM S d) := ⟨_, rfl⟩
        rw [← hX] at hF6 HM ⊢
        have h0 : EAt w6 Z false (.slice none 0 0) (.slice none 0 0) := hZ6
        have HE := Lib.hid (((h0.set0 X.done).set1 (.slice va X.rds.length ca)).set2 (.slice vb X.wrs.length cb))
        have HFF := Lib.hid ((ownF_set3 hF6 (Z := Z) (hF6.apart hzz) 0 1 2 (.bool X.done) (.slice va X.rds.length ca) (.slice vb X.wrs.length cb)).mono (show w.heap.size ≤ _ from by first | exact hb02.size | exact hb02.drew.size))
        have HB := Lib.hid (below_set3 (hb02.trans (hb6.mono hb02.size)) (Z := Z) HZw.out 0 1 2 (.bool X.done) (.slice va X.rds.length ca) (.slice vb X.wrs.length cb))
        clear hX hF6 h0 hb02 hb6 hb6' hZ6 d0 d1 d2 d3 c0 c1 c2 c3 x0 x1 x2 v0 v1 v2 z0 z1 z2 y0 y1 y2
        go_wp2
        exact bodyPost_ret (results_eff Try.results31 _ (by rfl) HE.out) rfl ⟨_, rfl, by rw [HM.out]; exact HFF.out, HB.out⟩
end Go.Proofs.Ytpnahncmhldgdaa
