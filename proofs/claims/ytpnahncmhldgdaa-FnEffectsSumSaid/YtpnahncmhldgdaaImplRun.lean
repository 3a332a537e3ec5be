/- The contracts of the program's RunAction. -/
import Derived.Test.YtpnahncmhldgdaaRuns
namespace Go.Proofs.Ytpnahncmhldgdaa
open Go.RowKit Go.Maps
set_option linter.unusedVariables false
theorem below_cell {B G o : Nat} {w w' : World} {v : Value} (hb : Below B w w') (hG : G < B) (hc : w.cell? ⟨G, o, none⟩ = some v) : w'.cell? ⟨G, o, none⟩ = some v := (hb.cell (p := ⟨G, o, none⟩) hG).trans hc
/-- A deed or none, and whether the action is valid. -/
def DeedSome (b : Bool) (w : World) (e : Ending) (w' : World) : Prop := ∃ v, e = .returned (.tuple #[v, .bool b]) ∧ Below w.heap.size w w'
theorem validDeed_any (k s d m : Int) (w : World) :
    Calls Try.prog 64 #[.agg #[.int .i64 k, .int .i64 s, .int .i64 d, .int .i64 m]] w (DeedSome (actB ⟨k, s, d, m⟩) w) := by
  rcases kind_cases k with rfl | rfl | rfl | rfl | rfl | rfl | hk
  · cases hv : actB ⟨1, s, d, m⟩ with
    | false => exact (validDeed_put_no s d m w hv).mono fun e w' h => ⟨_, h.1, h.2⟩
    | true => exact (validDeed_put_yes s d m w hv).mono fun e w' h => ⟨_, h.1, h.2⟩
  · cases hv : actB ⟨2, s, d, m⟩ with
    | false => exact (validDeed_move_no s d m w hv).mono fun e w' h => ⟨_, h.1, h.2⟩
    | true => exact (validDeed_move_yes s d m w hv).mono fun e w' h => ⟨_, h.1, h.2⟩
  · cases hv : actB ⟨3, s, d, m⟩ with
    | false => exact (validDeed_copy_no s d m w hv).mono fun e w' h => ⟨_, h.1, h.2⟩
    | true => exact (validDeed_copy_yes s d m w hv).mono fun e w' h => ⟨_, h.1, h.2⟩
  · cases hv : actB ⟨4, s, d, m⟩ with
    | false => exact (validDeed_swap_no s d m w hv).mono fun e w' h => ⟨_, h.1, h.2⟩
    | true => exact (validDeed_swap_yes s d m w hv).mono fun e w' h => ⟨_, h.1, h.2⟩
  · cases hv : actB ⟨5, s, d, m⟩ with
    | false => exact (validDeed_add_no s d m w hv).mono fun e w' h => ⟨_, h.1, h.2⟩
    | true => exact (validDeed_add_yes s d m w hv).mono fun e w' h => ⟨_, h.1, h.2⟩
  · cases hv : actB ⟨6, s, d, m⟩ with
    | false => exact (validDeed_take_no s d m w hv).mono fun e w' h => ⟨_, h.1, h.2⟩
    | true => exact (validDeed_take_yes s d m w hv).mono fun e w' h => ⟨_, h.1, h.2⟩
  · rw [actB_kind hk]; exact (validDeed_none k s d m w hk).mono fun e w' h => ⟨_, h.1, h.2⟩
set_option maxHeartbeats 4000000 in
theorem runAction_no (a : Option Addr) (n cap : Nat) (S : List Ent) (k s d m : Int) (w : World) (h : RowE w a n S) (hno : (storeB S && actB ⟨k, s, d, m⟩) = false) :
    Calls Try.prog 26 #[.slice a n cap, .agg #[.int .i64 k, .int .i64 s, .int .i64 d, .int .i64 m]] w (NewF w 70 noEff) := by
  have c1 : ((w.alloc (.cells #[.int .i64 k, .int .i64 s, .int .i64 d, .int .i64 m] 42)).alloc (.cells #[.bool false, .slice none 0 0, .slice none 0 0] 39)).cell? ⟨w.heap.size, 0, none⟩ = some (.int .i64 k) := by simp [go_sem]
  have c2 : ((w.alloc (.cells #[.int .i64 k, .int .i64 s, .int .i64 d, .int .i64 m] 42)).alloc (.cells #[.bool false, .slice none 0 0, .slice none 0 0] 39)).cell? ⟨w.heap.size, 1, none⟩ = some (.int .i64 s) := by simp [go_sem]
  have c3 : ((w.alloc (.cells #[.int .i64 k, .int .i64 s, .int .i64 d, .int .i64 m] 42)).alloc (.cells #[.bool false, .slice none 0 0, .slice none 0 0] 39)).cell? ⟨w.heap.size, 2, none⟩ = some (.int .i64 d) := by simp [go_sem]
  have c4 : ((w.alloc (.cells #[.int .i64 k, .int .i64 s, .int .i64 d, .int .i64 m] 42)).alloc (.cells #[.bool false, .slice none 0 0, .slice none 0 0] 39)).cell? ⟨w.heap.size, 3, none⟩ = some (.int .i64 m) := by simp [go_sem]
  have hz := zAt_new (w.alloc (.cells #[.int .i64 k, .int .i64 s, .int .i64 d, .int .i64 m] 42)) 39
  have hsz : ((w.alloc (.cells #[.int .i64 k, .int .i64 s, .int .i64 d, .int .i64 m] 42)).alloc (.cells #[.bool false, .slice none 0 0, .slice none 0 0] 39)).heap.size = w.heap.size + 2 := by simp
  rw [World.size_alloc] at hz
  have hb0 := ((Below.refl w.heap.size w).alloc (Nat.le_refl _) (.cells #[.int .i64 k, .int .i64 s, .int .i64 d, .int .i64 m] 42)).alloc (by simp) (.cells #[.bool false, .slice none 0 0, .slice none 0 0] 39)
  go_enter Try.func26, Try.ntmps26
  go_wp2_with fail
  have hr0 := h.below hb0
  obtain ⟨w0, hw0⟩ : ∃ w0, w0 = (w.alloc (.cells #[.int .i64 k, .int .i64 s, .int .i64 d, .int .i64 m] 42)).alloc (.cells #[.bool false, .slice none 0 0, .slice none 0 0] 39) := ⟨_, rfl⟩
  rw [← hw0] at c1 c2 c3 c4 hz hb0 hr0 hsz ⊢
  have hs0 : w.heap.size + 2 ≤ w0.heap.size := by omega
  clear hw0 hsz
  refine (valuesOf_any a n cap S _ hr0).mono ?_; rintro e w1 ⟨rfl, hb1⟩
  have HL := Lib.hid (valsM_len S)
  obtain ⟨A, hA⟩ : ∃ A, A = valsM S := ⟨_, rfl⟩
  rw [← hA] at HL ⊢
  clear hA hr0 h
  have hA0 := Arr.new w1 79 zeros
  have hs1 := hb1.size
  replace c1 := below_cell hb1 (show w.heap.size < w0.heap.size by omega) c1
  replace c2 := below_cell hb1 (show w.heap.size < w0.heap.size by omega) c2
  replace c3 := below_cell hb1 (show w.heap.size < w0.heap.size by omega) c3
  replace c4 := below_cell hb1 (show w.heap.size < w0.heap.size by omega) c4
  go_wp2_with (first | (refine wpList_store_arr' rfl _ _ _ rfl _ A (by rfl) (by rfl) 79 _ hA0 (by rw [HL.out]; exact infoArr) (by rw [HL.out]; rfl) ?_; intro w2 hA2 hg2 hz2; have hb2 := below_new (Below.refl _ w1) hg2; have d1 := below_cell hb2 (show w.heap.size < w1.heap.size by omega) c1; have d2 := below_cell hb2 (show w.heap.size < w1.heap.size by omega) c2; have d3 := below_cell hb2 (show w.heap.size < w1.heap.size by omega) c3; have d4 := below_cell hb2 (show w.heap.size < w1.heap.size by omega) c4; clear hg2 hz2 c1 c2 c3 c4))
  have hs2 := hb2.size
  refine (validDeed_any k s d m _).mono ?_; rintro e w3 ⟨v, rfl, hb3⟩
  have hbb : Below w0.heap.size w0 w3 := (hb1.trans (hb2.mono hs1)).trans (hb3.mono (by omega))
  have hz3 := hz.below hbb (by omega)
  obtain ⟨⟨z0, z1, z2⟩, ⟨y0, y1, y2⟩, -⟩ := hz3
  have HB := Lib.hid (below_set3 (hb0.trans (hbb.mono hb0.size)) (Z := w.heap.size + 1) (by omega) 0 1 2 (.bool false) (.slice none 0 0) (.slice none 0 0))
  clear hbb hb1 hb2 hb3 hA0 hA2 hz d1 d2 d3 d4 hb0
  cases hS : storeB S with
  | false =>
    clear hno
    cases hv : actB ⟨k, s, d, m⟩ with
    | false =>
      clear hS hv
      go_wp2
      refine bodyPost_ret (v := .agg #[.bool false, .slice none 0 0, .slice none 0 0]) ?_ rfl ⟨_, rfl, ownF_zero _ _ _, HB.out⟩
      simp [results, Try.results26, go_sem, z0, z1, z2]
    | true =>
      clear hS hv
      go_wp2
      refine bodyPost_ret (v := .agg #[.bool false, .slice none 0 0, .slice none 0 0]) ?_ rfl ⟨_, rfl, ownF_zero _ _ _, HB.out⟩
      simp [results, Try.results26, go_sem, z0, z1, z2]
  | true =>
    have hv : actB ⟨k, s, d, m⟩ = false := by rw [hS] at hno; simpa using hno
    clear hno hS
    rw [hv]
    clear hv
    go_wp2
    refine bodyPost_ret (v := .agg #[.bool false, .slice none 0 0, .slice none 0 0]) ?_ rfl ⟨_, rfl, ownF_zero _ _ _, HB.out⟩
    simp [results, Try.results26, go_sem, z0, z1, z2]
set_option maxHeartbeats 4000000 in
theorem runAction_put (a : Option Addr) (n cap : Nat) (S : List Ent) (i j : Nat) (m : Int) (w : World) (h : RowE w a n S) (hS : storeB S = true) (hv : actB ⟨1, i, j, m⟩ = true) (hi : i < 32) (hj : j < 32) :
    Calls Try.prog 26 #[.slice a n cap, .agg #[.int .i64 1, .int .i64 i, .int .i64 j, .int .i64 m]] w (NewF w 70 (effK 1 i j m (atM S i) (atM S j))) := by
  have HMB : Hid (0 ≤ m ∧ m ≤ 1000000) := Lib.hid (actB_bd hv).2.2
  have HBA := Lib.hid (bdA_arrOf ((storeB_ok S).1 hS).2)
  have HF := Lib.hid (arrOf_get S i hi)
  have HT := Lib.hid (arrOf_get S j hj)
  have HL := Lib.hid (arrOf_len S)
  have HVV := Lib.hid hv
  have HSS := Lib.hid hS
  clear hv hS
  have hm : ∀ (q : Nat) (w : World), (method (q + 1) 120 (.agg #[.int .i64 1, .int .i64 i, .int .i64 j, .int .i64 m]) "loop.example/blockexecutor/impl.run").run Try.prog w = .ok (117, .agg #[.int .i64 1, .int .i64 i, .int .i64 j, .int .i64 m]) w := fun _ _ => by kernel_rfl
  have c1 : ((w.alloc (.cells #[.int .i64 1, .int .i64 i, .int .i64 j, .int .i64 m] 42)).alloc (.cells #[.bool false, .slice none 0 0, .slice none 0 0] 39)).cell? ⟨w.heap.size, 0, none⟩ = some (.int .i64 1) := by simp [go_sem]
  have c2 : ((w.alloc (.cells #[.int .i64 1, .int .i64 i, .int .i64 j, .int .i64 m] 42)).alloc (.cells #[.bool false, .slice none 0 0, .slice none 0 0] 39)).cell? ⟨w.heap.size, 1, none⟩ = some (.int .i64 i) := by simp [go_sem]
  have c3 : ((w.alloc (.cells #[.int .i64 1, .int .i64 i, .int .i64 j, .int .i64 m] 42)).alloc (.cells #[.bool false, .slice none 0 0, .slice none 0 0] 39)).cell? ⟨w.heap.size, 2, none⟩ = some (.int .i64 j) := by simp [go_sem]
  have c4 : ((w.alloc (.cells #[.int .i64 1, .int .i64 i, .int .i64 j, .int .i64 m] 42)).alloc (.cells #[.bool false, .slice none 0 0, .slice none 0 0] 39)).cell? ⟨w.heap.size, 3, none⟩ = some (.int .i64 m) := by simp [go_sem]
  have hz := zAt_new (w.alloc (.cells #[.int .i64 1, .int .i64 i, .int .i64 j, .int .i64 m] 42)) 39
  have hsz : ((w.alloc (.cells #[.int .i64 1, .int .i64 i, .int .i64 j, .int .i64 m] 42)).alloc (.cells #[.bool false, .slice none 0 0, .slice none 0 0] 39)).heap.size = w.heap.size + 2 := by simp
  rw [World.size_alloc] at hz
  have hb0 := ((Below.refl w.heap.size w).alloc (Nat.le_refl _) (.cells #[.int .i64 1, .int .i64 i, .int .i64 j, .int .i64 m] 42)).alloc (by simp) (.cells #[.bool false, .slice none 0 0, .slice none 0 0] 39)
  go_enter Try.func26, Try.ntmps26
  go_wp2_with fail
  have hr0 := h.below hb0
  obtain ⟨w0, hw0⟩ : ∃ w0, w0 = (w.alloc (.cells #[.int .i64 1, .int .i64 i, .int .i64 j, .int .i64 m] 42)).alloc (.cells #[.bool false, .slice none 0 0, .slice none 0 0] 39) := ⟨_, rfl⟩
  rw [← hw0] at c1 c2 c3 c4 hz hb0 hr0 hsz ⊢
  have hs0 : w.heap.size + 2 ≤ w0.heap.size := by omega
  clear hw0 hsz
  refine (valuesOf_yes a n cap S _ hr0 HSS.out).mono ?_; rintro e w1 ⟨rfl, hb1⟩
  obtain ⟨A, hA⟩ : ∃ A, A = arrOf S := ⟨_, rfl⟩
  rw [← hA] at HL HF HT HBA ⊢
  clear hA hr0 h
  have hA0 := Arr.new w1 79 zeros
  have hs1 := hb1.size
  replace c1 := below_cell hb1 (show w.heap.size < w0.heap.size by omega) c1
  replace c2 := below_cell hb1 (show w.heap.size < w0.heap.size by omega) c2
  replace c3 := below_cell hb1 (show w.heap.size < w0.heap.size by omega) c3
  replace c4 := below_cell hb1 (show w.heap.size < w0.heap.size by omega) c4
  go_wp2_with (first | (refine wpList_store_arr' rfl _ _ _ rfl _ A (by rfl) (by rfl) 79 _ hA0 (by rw [HL.out]; exact infoArr) (by rw [HL.out]; rfl) ?_; intro w2 hA2 hg2 hz2; have hb2 := below_new (Below.refl _ w1) hg2; have d1 := below_cell hb2 (show w.heap.size < w1.heap.size by omega) c1; have d2 := below_cell hb2 (show w.heap.size < w1.heap.size by omega) c2; have d3 := below_cell hb2 (show w.heap.size < w1.heap.size by omega) c3; have d4 := below_cell hb2 (show w.heap.size < w1.heap.size by omega) c4; clear hg2 hz2 c1 c2 c3 c4))
  have hs2 := hb2.size
  refine (validDeed_put_yes i j m _ HVV.out).mono ?_; rintro e w3 ⟨rfl, hb3⟩
  have hA3 := hA2.after hb3
  have hs3 := hb3.size
  have hbb : Below w0.heap.size w0 w3 := (hb1.trans (hb2.mono hs1)).trans (hb3.mono (by omega))
  have hz3 := hz.below hbb (by omega)
  have hb30 := hb0.trans (hbb.mono hb0.size)
  clear hb1 hb2 hb3 hA0 hA2 hz d1 d2 d3 d4 hb0 hbb
  go_wp2_with (first | (refine wpList_load_arr rfl _ _ rfl _ (by rfl) 79 A hA3 _ _ Try.underlying79 (by rw [HL.out]; exact infoArr) ?_))
  refine (viewOf_any A _ HL.out).mono ?_; rintro e w4 ⟨G, rfl, hV4, hb4⟩
  have hs4 := hb4.size
  have hz4 := hz3.below hb4 (by omega)
  have hb40 := hb30.trans (hb4.mono (by omega))
  obtain ⟨B, hB⟩ : ∃ B, B = w3.heap.size := ⟨_, rfl⟩
  rw [← hB] at hV4 hs4
  have HBw := Lib.hid hB
  have hBz : w.heap.size + 1 < B := by omega
  clear hA3 hz3 hb30 hb4 hB
  go_wp2_with (first | (go_at_call 117; refine (run_put B G _ i A 1 j m (atM S i) (atM S j) _ (by first | exact hV4 | exact hV4.drew) (by exact hs4) hi HMB.out.1 HMB.out.2 HBA.out).mono ?_; rintro e w5 ⟨rfl, ⟨D5, K5, g5, hV5, hbd5, hwr5⟩, hs5, hb5⟩))
  have hz5 := hz4.below hb5 (by omega)
  have hb50 := hb40.trans (hb5.mono (by omega))
  have hs5' : w4.heap.size ≤ w5.heap.size := hs5
  obtain ⟨b5, hb5e⟩ : ∃ b5, b5 = doneK 1 i j m (atM S i) (atM S j) := ⟨_, rfl⟩
  rw [← hb5e]
  have HB5 := Lib.hid hb5e
  have hrl : (rdsK 1 i j (atM S i) (atM S j)).length ≤ 100 := by
    have := readsM_len ⟨1, i, j, m⟩
    rw [readsM, if_pos HVV.out] at this
    unfold rdsK; rw [List.length_map]; simp only at this; omega
  clear hb5e hz4 hb40 hs5
  go_wp2_with fail
  refine (effect_any B G D5 K5 A _ g5 b5 _ hV5 (by omega) hbd5 hrl).mono ?_; rintro e w6 ⟨v6, rfl, hF6, hb6⟩
  have hz6 := hz5.below hb6 (by omega)
  have hb60 := hb50.trans (hb6.mono (by omega))
  rw [hwr5] at hF6
  have hE : (⟨b5, rdsK 1 i j (atM S i) (atM S j), (effK 1 i j m (atM S i) (atM S j)).wrs⟩ : Eff) = effK 1 i j m (atM S i) (atM S j) := by rw [HB5.out]; rfl
  rw [hE] at hF6
  obtain ⟨X, hX⟩ : ∃ X, X = effK 1 i j m (atM S i) (atM S j) := ⟨_, rfl⟩
  rw [← hX] at hF6 hwr5 hE
  have HX := Lib.hid hX
  have hxl : X.rds.length ≤ 4000000 ∧ X.wrs.length ≤ 4000000 := by
    rw [hX]; exact ⟨Nat.le_trans hrl (by omega), by rw [hX] at hwr5; rw [← hwr5]; exact Nat.le_trans (wrOf_len g5 32) (by omega)⟩
  have hF7 := (hF6.mono (show w.heap.size + 2 ≤ B by omega))
  obtain ⟨va, ca, vb, cb, rfl, -⟩ := hF7.rows hxl.1 hxl.2
  have HF7 := Lib.hid (ownF_set3 hF7 (Z := w.heap.size + 1) (hF7.apart (by omega)) 0 1 2 (.bool X.done) (.slice va X.rds.length ca) (.slice vb X.wrs.length cb))
  have HB7 := Lib.hid (below_set3 hb60 (Z := w.heap.size + 1) (by omega) 0 1 2 (.bool X.done) (.slice va X.rds.length ca) (.slice vb X.wrs.length cb))
  obtain ⟨⟨z0, z1, z2⟩, ⟨y0, y1, y2⟩, -⟩ := hz6
  clear hX hE hF6 hF7 hwr5 hxl hb60 hb6 hz5 hV5 hb50 hrl hbd5 hb5
  go_wp2
  refine bodyPost_ret (v := .agg #[.bool X.done, .slice va X.rds.length ca, .slice vb X.wrs.length cb]) ?_ rfl ⟨_, rfl, by rw [← HX.out]; exact HF7.out.mono (show w.heap.size ≤ w.heap.size + 2 by omega), HB7.out⟩
  simp [results, Try.results26, go_sem, z0, z1, z2]
set_option maxHeartbeats 4000000 in
theorem runAction_move (a : Option Addr) (n cap : Nat) (S : List Ent) (i j : Nat) (m : Int) (w : World) (h : RowE w a n S) (hS : storeB S = true) (hv : actB ⟨2, i, j, m⟩ = true) (hi : i < 32) (hj : j < 32) :
    Calls Try.prog 26 #[.slice a n cap, .agg #[.int .i64 2, .int .i64 i, .int .i64 j, .int .i64 m]] w (NewF w 70 (effK 2 i j m (atM S i) (atM S j))) := by
  have HMB : Hid (0 ≤ m ∧ m ≤ 1000000) := Lib.hid (actB_bd hv).2.2
  have HBA := Lib.hid (bdA_arrOf ((storeB_ok S).1 hS).2)
  have HF := Lib.hid (arrOf_get S i hi)
  have HT := Lib.hid (arrOf_get S j hj)
  have HL := Lib.hid (arrOf_len S)
  have HVV := Lib.hid hv
  have HSS := Lib.hid hS
  clear hv hS
  have hm : ∀ (q : Nat) (w : World), (method (q + 1) 121 (.agg #[.int .i64 2, .int .i64 i, .int .i64 j, .int .i64 m]) "loop.example/blockexecutor/impl.run").run Try.prog w = .ok (122, .agg #[.int .i64 2, .int .i64 i, .int .i64 j, .int .i64 m]) w := fun _ _ => by kernel_rfl
  have c1 : ((w.alloc (.cells #[.int .i64 2, .int .i64 i, .int .i64 j, .int .i64 m] 42)).alloc (.cells #[.bool false, .slice none 0 0, .slice none 0 0] 39)).cell? ⟨w.heap.size, 0, none⟩ = some (.int .i64 2) := by simp [go_sem]
  have c2 : ((w.alloc (.cells #[.int .i64 2, .int .i64 i, .int .i64 j, .int .i64 m] 42)).alloc (.cells #[.bool false, .slice none 0 0, .slice none 0 0] 39)).cell? ⟨w.heap.size, 1, none⟩ = some (.int .i64 i) := by simp [go_sem]
  have c3 : ((w.alloc (.cells #[.int .i64 2, .int .i64 i, .int .i64 j, .int .i64 m] 42)).alloc (.cells #[.bool false, .slice none 0 0, .slice none 0 0] 39)).cell? ⟨w.heap.size, 2, none⟩ = some (.int .i64 j) := by simp [go_sem]
  have c4 : ((w.alloc (.cells #[.int .i64 2, .int .i64 i, .int .i64 j, .int .i64 m] 42)).alloc (.cells #[.bool false, .slice none 0 0, .slice none 0 0] 39)).cell? ⟨w.heap.size, 3, none⟩ = some (.int .i64 m) := by simp [go_sem]
  have hz := zAt_new (w.alloc (.cells #[.int .i64 2, .int .i64 i, .int .i64 j, .int .i64 m] 42)) 39
  have hsz : ((w.alloc (.cells #[.int .i64 2, .int .i64 i, .int .i64 j, .int .i64 m] 42)).alloc (.cells #[.bool false, .slice none 0 0, .slice none 0 0] 39)).heap.size = w.heap.size + 2 := by simp
  rw [World.size_alloc] at hz
  have hb0 := ((Below.refl w.heap.size w).alloc (Nat.le_refl _) (.cells #[.int .i64 2, .int .i64 i, .int .i64 j, .int .i64 m] 42)).alloc (by simp) (.cells #[.bool false, .slice none 0 0, .slice none 0 0] 39)
  go_enter Try.func26, Try.ntmps26
  go_wp2_with fail
  have hr0 := h.below hb0
  obtain ⟨w0, hw0⟩ : ∃ w0, w0 = (w.alloc (.cells #[.int .i64 2, .int .i64 i, .int .i64 j, .int .i64 m] 42)).alloc (.cells #[.bool false, .slice none 0 0, .slice none 0 0] 39) := ⟨_, rfl⟩
  rw [← hw0] at c1 c2 c3 c4 hz hb0 hr0 hsz ⊢
  have hs0 : w.heap.size + 2 ≤ w0.heap.size := by omega
  clear hw0 hsz
  refine (valuesOf_yes a n cap S _ hr0 HSS.out).mono ?_; rintro e w1 ⟨rfl, hb1⟩
  obtain ⟨A, hA⟩ : ∃ A, A = arrOf S := ⟨_, rfl⟩
  rw [← hA] at HL HF HT HBA ⊢
  clear hA hr0 h
  have hA0 := Arr.new w1 79 zeros
  have hs1 := hb1.size
  replace c1 := below_cell hb1 (show w.heap.size < w0.heap.size by omega) c1
  replace c2 := below_cell hb1 (show w.heap.size < w0.heap.size by omega) c2
  replace c3 := below_cell hb1 (show w.heap.size < w0.heap.size by omega) c3
  replace c4 := below_cell hb1 (show w.heap.size < w0.heap.size by omega) c4
  go_wp2_with (first | (refine wpList_store_arr' rfl _ _ _ rfl _ A (by rfl) (by rfl) 79 _ hA0 (by rw [HL.out]; exact infoArr) (by rw [HL.out]; rfl) ?_; intro w2 hA2 hg2 hz2; have hb2 := below_new (Below.refl _ w1) hg2; have d1 := below_cell hb2 (show w.heap.size < w1.heap.size by omega) c1; have d2 := below_cell hb2 (show w.heap.size < w1.heap.size by omega) c2; have d3 := below_cell hb2 (show w.heap.size < w1.heap.size by omega) c3; have d4 := below_cell hb2 (show w.heap.size < w1.heap.size by omega) c4; clear hg2 hz2 c1 c2 c3 c4))
  have hs2 := hb2.size
  refine (validDeed_move_yes i j m _ HVV.out).mono ?_; rintro e w3 ⟨rfl, hb3⟩
  have hA3 := hA2.after hb3
  have hs3 := hb3.size
  have hbb : Below w0.heap.size w0 w3 := (hb1.trans (hb2.mono hs1)).trans (hb3.mono (by omega))
  have hz3 := hz.below hbb (by omega)
  have hb30 := hb0.trans (hbb.mono hb0.size)
  clear hb1 hb2 hb3 hA0 hA2 hz d1 d2 d3 d4 hb0 hbb
  go_wp2_with (first | (refine wpList_load_arr rfl _ _ rfl _ (by rfl) 79 A hA3 _ _ Try.underlying79 (by rw [HL.out]; exact infoArr) ?_))
  refine (viewOf_any A _ HL.out).mono ?_; rintro e w4 ⟨G, rfl, hV4, hb4⟩
  have hs4 := hb4.size
  have hz4 := hz3.below hb4 (by omega)
  have hb40 := hb30.trans (hb4.mono (by omega))
  obtain ⟨B, hB⟩ : ∃ B, B = w3.heap.size := ⟨_, rfl⟩
  rw [← hB] at hV4 hs4
  have HBw := Lib.hid hB
  have hBz : w.heap.size + 1 < B := by omega
  clear hA3 hz3 hb30 hb4 hB
  go_wp2_with (first | (go_at_call 122; refine (run_move B G _ i j A 2 m (atM S i) (atM S j) _ (by first | exact hV4 | exact hV4.drew) (by exact hs4) hi hj HMB.out.1 HMB.out.2 HBA.out HF.out HT.out).mono ?_; rintro e w5 ⟨rfl, ⟨D5, K5, g5, hV5, hbd5, hwr5⟩, hs5, hb5⟩))
  have hz5 := hz4.below hb5 (by omega)
  have hb50 := hb40.trans (hb5.mono (by omega))
  have hs5' : w4.heap.size ≤ w5.heap.size := hs5
  obtain ⟨b5, hb5e⟩ : ∃ b5, b5 = doneK 2 i j m (atM S i) (atM S j) := ⟨_, rfl⟩
  rw [← hb5e]
  have HB5 := Lib.hid hb5e
  have hrl : (rdsK 2 i j (atM S i) (atM S j)).length ≤ 100 := by
    have := readsM_len ⟨2, i, j, m⟩
    rw [readsM, if_pos HVV.out] at this
    unfold rdsK; rw [List.length_map]; simp only at this; omega
  clear hb5e hz4 hb40 hs5
  go_wp2_with fail
  refine (effect_any B G D5 K5 A _ g5 b5 _ hV5 (by omega) hbd5 hrl).mono ?_; rintro e w6 ⟨v6, rfl, hF6, hb6⟩
  have hz6 := hz5.below hb6 (by omega)
  have hb60 := hb50.trans (hb6.mono (by omega))
  rw [hwr5] at hF6
  have hE : (⟨b5, rdsK 2 i j (atM S i) (atM S j), (effK 2 i j m (atM S i) (atM S j)).wrs⟩ : Eff) = effK 2 i j m (atM S i) (atM S j) := by rw [HB5.out]; rfl
  rw [hE] at hF6
  obtain ⟨X, hX⟩ : ∃ X, X = effK 2 i j m (atM S i) (atM S j) := ⟨_, rfl⟩
  rw [← hX] at hF6 hwr5 hE
  have HX := Lib.hid hX
  have hxl : X.rds.length ≤ 4000000 ∧ X.wrs.length ≤ 4000000 := by
    rw [hX]; exact ⟨Nat.le_trans hrl (by omega), by rw [hX] at hwr5; rw [← hwr5]; exact Nat.le_trans (wrOf_len g5 32) (by omega)⟩
  have hF7 := (hF6.mono (show w.heap.size + 2 ≤ B by omega))
  obtain ⟨va, ca, vb, cb, rfl, -⟩ := hF7.rows hxl.1 hxl.2
  have HF7 := Lib.hid (ownF_set3 hF7 (Z := w.heap.size + 1) (hF7.apart (by omega)) 0 1 2 (.bool X.done) (.slice va X.rds.length ca) (.slice vb X.wrs.length cb))
  have HB7 := Lib.hid (below_set3 hb60 (Z := w.heap.size + 1) (by omega) 0 1 2 (.bool X.done) (.slice va X.rds.length ca) (.slice vb X.wrs.length cb))
  obtain ⟨⟨z0, z1, z2⟩, ⟨y0, y1, y2⟩, -⟩ := hz6
  clear hX hE hF6 hF7 hwr5 hxl hb60 hb6 hz5 hV5 hb50 hrl hbd5 hb5
  go_wp2
  refine bodyPost_ret (v := .agg #[.bool X.done, .slice va X.rds.length ca, .slice vb X.wrs.length cb]) ?_ rfl ⟨_, rfl, by rw [← HX.out]; exact HF7.out.mono (show w.heap.size ≤ w.heap.size + 2 by omega), HB7.out⟩
  simp [results, Try.results26, go_sem, z0, z1, z2]
set_option maxHeartbeats 4000000 in
theorem runAction_copy (a : Option Addr) (n cap : Nat) (S : List Ent) (i j : Nat) (m : Int) (w : World) (h : RowE w a n S) (hS : storeB S = true) (hv : actB ⟨3, i, j, m⟩ = true) (hi : i < 32) (hj : j < 32) :
    Calls Try.prog 26 #[.slice a n cap, .agg #[.int .i64 3, .int .i64 i, .int .i64 j, .int .i64 m]] w (NewF w 70 (effK 3 i j m (atM S i) (atM S j))) := by
  have HMB : Hid (0 ≤ m ∧ m ≤ 1000000) := Lib.hid (actB_bd hv).2.2
  have HBA := Lib.hid (bdA_arrOf ((storeB_ok S).1 hS).2)
  have HF := Lib.hid (arrOf_get S i hi)
  have HT := Lib.hid (arrOf_get S j hj)
  have HL := Lib.hid (arrOf_len S)
  have HVV := Lib.hid hv
  have HSS := Lib.hid hS
  clear hv hS
  have hm : ∀ (q : Nat) (w : World), (method (q + 1) 122 (.agg #[.int .i64 3, .int .i64 i, .int .i64 j, .int .i64 m]) "loop.example/blockexecutor/impl.run").run Try.prog w = .ok (128, .agg #[.int .i64 3, .int .i64 i, .int .i64 j, .int .i64 m]) w := fun _ _ => by kernel_rfl
  have c1 : ((w.alloc (.cells #[.int .i64 3, .int .i64 i, .int .i64 j, .int .i64 m] 42)).alloc (.cells #[.bool false, .slice none 0 0, .slice none 0 0] 39)).cell? ⟨w.heap.size, 0, none⟩ = some (.int .i64 3) := by simp [go_sem]
  have c2 : ((w.alloc (.cells #[.int .i64 3, .int .i64 i, .int .i64 j, .int .i64 m] 42)).alloc (.cells #[.bool false, .slice none 0 0, .slice none 0 0] 39)).cell? ⟨w.heap.size, 1, none⟩ = some (.int .i64 i) := by simp [go_sem]
  have c3 : ((w.alloc (.cells #[.int .i64 3, .int .i64 i, .int .i64 j, .int .i64 m] 42)).alloc (.cells #[.bool false, .slice none 0 0, .slice none 0 0] 39)).cell? ⟨w.heap.size, 2, none⟩ = some (.int .i64 j) := by simp [go_sem]
  have c4 : ((w.alloc (.cells #[.int .i64 3, .int .i64 i, .int .i64 j, .int .i64 m] 42)).alloc (.cells #[.bool false, .slice none 0 0, .slice none 0 0] 39)).cell? ⟨w.heap.size, 3, none⟩ = some (.int .i64 m) := by simp [go_sem]
  have hz := zAt_new (w.alloc (.cells #[.int .i64 3, .int .i64 i, .int .i64 j, .int .i64 m] 42)) 39
  have hsz : ((w.alloc (.cells #[.int .i64 3, .int .i64 i, .int .i64 j, .int .i64 m] 42)).alloc (.cells #[.bool false, .slice none 0 0, .slice none 0 0] 39)).heap.size = w.heap.size + 2 := by simp
  rw [World.size_alloc] at hz
  have hb0 := ((Below.refl w.heap.size w).alloc (Nat.le_refl _) (.cells #[.int .i64 3, .int .i64 i, .int .i64 j, .int .i64 m] 42)).alloc (by simp) (.cells #[.bool false, .slice none 0 0, .slice none 0 0] 39)
  go_enter Try.func26, Try.ntmps26
  go_wp2_with fail
  have hr0 := h.below hb0
  obtain ⟨w0, hw0⟩ : ∃ w0, w0 = (w.alloc (.cells #[.int .i64 3, .int .i64 i, .int .i64 j, .int .i64 m] 42)).alloc (.cells #[.bool false, .slice none 0 0, .slice none 0 0] 39) := ⟨_, rfl⟩
  rw [← hw0] at c1 c2 c3 c4 hz hb0 hr0 hsz ⊢
  have hs0 : w.heap.size + 2 ≤ w0.heap.size := by omega
  clear hw0 hsz
  refine (valuesOf_yes a n cap S _ hr0 HSS.out).mono ?_; rintro e w1 ⟨rfl, hb1⟩
  obtain ⟨A, hA⟩ : ∃ A, A = arrOf S := ⟨_, rfl⟩
  rw [← hA] at HL HF HT HBA ⊢
  clear hA hr0 h
  have hA0 := Arr.new w1 79 zeros
  have hs1 := hb1.size
  replace c1 := below_cell hb1 (show w.heap.size < w0.heap.size by omega) c1
  replace c2 := below_cell hb1 (show w.heap.size < w0.heap.size by omega) c2
  replace c3 := below_cell hb1 (show w.heap.size < w0.heap.size by omega) c3
  replace c4 := below_cell hb1 (show w.heap.size < w0.heap.size by omega) c4
  go_wp2_with (first | (refine wpList_store_arr' rfl _ _ _ rfl _ A (by rfl) (by rfl) 79 _ hA0 (by rw [HL.out]; exact infoArr) (by rw [HL.out]; rfl) ?_; intro w2 hA2 hg2 hz2; have hb2 := below_new (Below.refl _ w1) hg2; have d1 := below_cell hb2 (show w.heap.size < w1.heap.size by omega) c1; have d2 := below_cell hb2 (show w.heap.size < w1.heap.size by omega) c2; have d3 := below_cell hb2 (show w.heap.size < w1.heap.size by omega) c3; have d4 := below_cell hb2 (show w.heap.size < w1.heap.size by omega) c4; clear hg2 hz2 c1 c2 c3 c4))
  have hs2 := hb2.size
  refine (validDeed_copy_yes i j m _ HVV.out).mono ?_; rintro e w3 ⟨rfl, hb3⟩
  have hA3 := hA2.after hb3
  have hs3 := hb3.size
  have hbb : Below w0.heap.size w0 w3 := (hb1.trans (hb2.mono hs1)).trans (hb3.mono (by omega))
  have hz3 := hz.below hbb (by omega)
  have hb30 := hb0.trans (hbb.mono hb0.size)
  clear hb1 hb2 hb3 hA0 hA2 hz d1 d2 d3 d4 hb0 hbb
  go_wp2_with (first | (refine wpList_load_arr rfl _ _ rfl _ (by rfl) 79 A hA3 _ _ Try.underlying79 (by rw [HL.out]; exact infoArr) ?_))
  refine (viewOf_any A _ HL.out).mono ?_; rintro e w4 ⟨G, rfl, hV4, hb4⟩
  have hs4 := hb4.size
  have hz4 := hz3.below hb4 (by omega)
  have hb40 := hb30.trans (hb4.mono (by omega))
  obtain ⟨B, hB⟩ : ∃ B, B = w3.heap.size := ⟨_, rfl⟩
  rw [← hB] at hV4 hs4
  have HBw := Lib.hid hB
  have hBz : w.heap.size + 1 < B := by omega
  clear hA3 hz3 hb30 hb4 hB
  go_wp2_with (first | (go_at_call 128; refine (run_copy B G _ i j A 3 m (atM S i) (atM S j) _ (by first | exact hV4 | exact hV4.drew) (by exact hs4) hi hj HMB.out.1 HMB.out.2 HBA.out HF.out HT.out).mono ?_; rintro e w5 ⟨rfl, ⟨D5, K5, g5, hV5, hbd5, hwr5⟩, hs5, hb5⟩))
  have hz5 := hz4.below hb5 (by omega)
  have hb50 := hb40.trans (hb5.mono (by omega))
  have hs5' : w4.heap.size ≤ w5.heap.size := hs5
  obtain ⟨b5, hb5e⟩ : ∃ b5, b5 = doneK 3 i j m (atM S i) (atM S j) := ⟨_, rfl⟩
  rw [← hb5e]
  have HB5 := Lib.hid hb5e
  have hrl : (rdsK 3 i j (atM S i) (atM S j)).length ≤ 100 := by
    have := readsM_len ⟨3, i, j, m⟩
    rw [readsM, if_pos HVV.out] at this
    unfold rdsK; rw [List.length_map]; simp only at this; omega
  clear hb5e hz4 hb40 hs5
  go_wp2_with fail
  refine (effect_any B G D5 K5 A _ g5 b5 _ hV5 (by omega) hbd5 hrl).mono ?_; rintro e w6 ⟨v6, rfl, hF6, hb6⟩
  have hz6 := hz5.below hb6 (by omega)
  have hb60 := hb50.trans (hb6.mono (by omega))
  rw [hwr5] at hF6
  have hE : (⟨b5, rdsK 3 i j (atM S i) (atM S j), (effK 3 i j m (atM S i) (atM S j)).wrs⟩ : Eff) = effK 3 i j m (atM S i) (atM S j) := by rw [HB5.out]; rfl
  rw [hE] at hF6
  obtain ⟨X, hX⟩ : ∃ X, X = effK 3 i j m (atM S i) (atM S j) := ⟨_, rfl⟩
  rw [← hX] at hF6 hwr5 hE
  have HX := Lib.hid hX
  have hxl : X.rds.length ≤ 4000000 ∧ X.wrs.length ≤ 4000000 := by
    rw [hX]; exact ⟨Nat.le_trans hrl (by omega), by rw [hX] at hwr5; rw [← hwr5]; exact Nat.le_trans (wrOf_len g5 32) (by omega)⟩
  have hF7 := (hF6.mono (show w.heap.size + 2 ≤ B by omega))
  obtain ⟨va, ca, vb, cb, rfl, -⟩ := hF7.rows hxl.1 hxl.2
  have HF7 := Lib.hid (ownF_set3 hF7 (Z := w.heap.size + 1) (hF7.apart (by omega)) 0 1 2 (.bool X.done) (.slice va X.rds.length ca) (.slice vb X.wrs.length cb))
  have HB7 := Lib.hid (below_set3 hb60 (Z := w.heap.size + 1) (by omega) 0 1 2 (.bool X.done) (.slice va X.rds.length ca) (.slice vb X.wrs.length cb))
  obtain ⟨⟨z0, z1, z2⟩, ⟨y0, y1, y2⟩, -⟩ := hz6
  clear hX hE hF6 hF7 hwr5 hxl hb60 hb6 hz5 hV5 hb50 hrl hbd5 hb5
  go_wp2
  refine bodyPost_ret (v := .agg #[.bool X.done, .slice va X.rds.length ca, .slice vb X.wrs.length cb]) ?_ rfl ⟨_, rfl, by rw [← HX.out]; exact HF7.out.mono (show w.heap.size ≤ w.heap.size + 2 by omega), HB7.out⟩
  simp [results, Try.results26, go_sem, z0, z1, z2]
set_option maxHeartbeats 4000000 in
theorem runAction_swap (a : Option Addr) (n cap : Nat) (S : List Ent) (i j : Nat) (m : Int) (w : World) (h : RowE w a n S) (hS : storeB S = true) (hv : actB ⟨4, i, j, m⟩ = true) (hi : i < 32) (hj : j < 32) :
    Calls Try.prog 26 #[.slice a n cap, .agg #[.int .i64 4, .int .i64 i, .int .i64 j, .int .i64 m]] w (NewF w 70 (effK 4 i j m (atM S i) (atM S j))) := by
  have HMB : Hid (0 ≤ m ∧ m ≤ 1000000) := Lib.hid (actB_bd hv).2.2
  have HBA := Lib.hid (bdA_arrOf ((storeB_ok S).1 hS).2)
  have HF := Lib.hid (arrOf_get S i hi)
  have HT := Lib.hid (arrOf_get S j hj)
  have HL := Lib.hid (arrOf_len S)
  have HVV := Lib.hid hv
  have HSS := Lib.hid hS
  clear hv hS
  have hm : ∀ (q : Nat) (w : World), (method (q + 1) 123 (.agg #[.int .i64 4, .int .i64 i, .int .i64 j, .int .i64 m]) "loop.example/blockexecutor/impl.run").run Try.prog w = .ok (132, .agg #[.int .i64 4, .int .i64 i, .int .i64 j, .int .i64 m]) w := fun _ _ => by kernel_rfl
  have c1 : ((w.alloc (.cells #[.int .i64 4, .int .i64 i, .int .i64 j, .int .i64 m] 42)).alloc (.cells #[.bool false, .slice none 0 0, .slice none 0 0] 39)).cell? ⟨w.heap.size, 0, none⟩ = some (.int .i64 4) := by simp [go_sem]
  have c2 : ((w.alloc (.cells #[.int .i64 4, .int .i64 i, .int .i64 j, .int .i64 m] 42)).alloc (.cells #[.bool false, .slice none 0 0, .slice none 0 0] 39)).cell? ⟨w.heap.size, 1, none⟩ = some (.int .i64 i) := by simp [go_sem]
  have c3 : ((w.alloc (.cells #[.int .i64 4, .int .i64 i, .int .i64 j, .int .i64 m] 42)).alloc (.cells #[.bool false, .slice none 0 0, .slice none 0 0] 39)).cell? ⟨w.heap.size, 2, none⟩ = some (.int .i64 j) := by simp [go_sem]
  have c4 : ((w.alloc (.cells #[.int .i64 4, .int .i64 i, .int .i64 j, .int .i64 m] 42)).alloc (.cells #[.bool false, .slice none 0 0, .slice none 0 0] 39)).cell? ⟨w.heap.size, 3, none⟩ = some (.int .i64 m) := by simp [go_sem]
  have hz := zAt_new (w.alloc (.cells #[.int .i64 4, .int .i64 i, .int .i64 j, .int .i64 m] 42)) 39
  have hsz : ((w.alloc (.cells #[.int .i64 4, .int .i64 i, .int .i64 j, .int .i64 m] 42)).alloc (.cells #[.bool false, .slice none 0 0, .slice none 0 0] 39)).heap.size = w.heap.size + 2 := by simp
  rw [World.size_alloc] at hz
  have hb0 := ((Below.refl w.heap.size w).alloc (Nat.le_refl _) (.cells #[.int .i64 4, .int .i64 i, .int .i64 j, .int .i64 m] 42)).alloc (by simp) (.cells #[.bool false, .slice none 0 0, .slice none 0 0] 39)
  go_enter Try.func26, Try.ntmps26
  go_wp2_with fail
  have hr0 := h.below hb0
  obtain ⟨w0, hw0⟩ : ∃ w0, w0 = (w.alloc (.cells #[.int .i64 4, .int .i64 i, .int .i64 j, .int .i64 m] 42)).alloc (.cells #[.bool false, .slice none 0 0, .slice none 0 0] 39) := ⟨_, rfl⟩
  rw [← hw0] at c1 c2 c3 c4 hz hb0 hr0 hsz ⊢
  have hs0 : w.heap.size + 2 ≤ w0.heap.size := by omega
  clear hw0 hsz
  refine (valuesOf_yes a n cap S _ hr0 HSS.out).mono ?_; rintro e w1 ⟨rfl, hb1⟩
  obtain ⟨A, hA⟩ : ∃ A, A = arrOf S := ⟨_, rfl⟩
  rw [← hA] at HL HF HT HBA ⊢
  clear hA hr0 h
  have hA0 := Arr.new w1 79 zeros
  have hs1 := hb1.size
  replace c1 := below_cell hb1 (show w.heap.size < w0.heap.size by omega) c1
  replace c2 := below_cell hb1 (show w.heap.size < w0.heap.size by omega) c2
  replace c3 := below_cell hb1 (show w.heap.size < w0.heap.size by omega) c3
  replace c4 := below_cell hb1 (show w.heap.size < w0.heap.size by omega) c4
  go_wp2_with (first | (refine wpList_store_arr' rfl _ _ _ rfl _ A (by rfl) (by rfl) 79 _ hA0 (by rw [HL.out]; exact infoArr) (by rw [HL.out]; rfl) ?_; intro w2 hA2 hg2 hz2; have hb2 := below_new (Below.refl _ w1) hg2; have d1 := below_cell hb2 (show w.heap.size < w1.heap.size by omega) c1; have d2 := below_cell hb2 (show w.heap.size < w1.heap.size by omega) c2; have d3 := below_cell hb2 (show w.heap.size < w1.heap.size by omega) c3; have d4 := below_cell hb2 (show w.heap.size < w1.heap.size by omega) c4; clear hg2 hz2 c1 c2 c3 c4))
  have hs2 := hb2.size
  refine (validDeed_swap_yes i j m _ HVV.out).mono ?_; rintro e w3 ⟨rfl, hb3⟩
  have hA3 := hA2.after hb3
  have hs3 := hb3.size
  have hbb : Below w0.heap.size w0 w3 := (hb1.trans (hb2.mono hs1)).trans (hb3.mono (by omega))
  have hz3 := hz.below hbb (by omega)
  have hb30 := hb0.trans (hbb.mono hb0.size)
  clear hb1 hb2 hb3 hA0 hA2 hz d1 d2 d3 d4 hb0 hbb
  go_wp2_with (first | (refine wpList_load_arr rfl _ _ rfl _ (by rfl) 79 A hA3 _ _ Try.underlying79 (by rw [HL.out]; exact infoArr) ?_))
  refine (viewOf_any A _ HL.out).mono ?_; rintro e w4 ⟨G, rfl, hV4, hb4⟩
  have hs4 := hb4.size
  have hz4 := hz3.below hb4 (by omega)
  have hb40 := hb30.trans (hb4.mono (by omega))
  obtain ⟨B, hB⟩ : ∃ B, B = w3.heap.size := ⟨_, rfl⟩
  rw [← hB] at hV4 hs4
  have HBw := Lib.hid hB
  have hBz : w.heap.size + 1 < B := by omega
  clear hA3 hz3 hb30 hb4 hB
  go_wp2_with (first | (go_at_call 132; refine (run_swap B G _ i j A 4 m (atM S i) (atM S j) _ (by first | exact hV4 | exact hV4.drew) (by exact hs4) hi hj HMB.out.1 HMB.out.2 HBA.out HF.out HT.out).mono ?_; rintro e w5 ⟨rfl, ⟨D5, K5, g5, hV5, hbd5, hwr5⟩, hs5, hb5⟩))
  have hz5 := hz4.below hb5 (by omega)
  have hb50 := hb40.trans (hb5.mono (by omega))
  have hs5' : w4.heap.size ≤ w5.heap.size := hs5
  obtain ⟨b5, hb5e⟩ : ∃ b5, b5 = doneK 4 i j m (atM S i) (atM S j) := ⟨_, rfl⟩
  rw [← hb5e]
  have HB5 := Lib.hid hb5e
  have hrl : (rdsK 4 i j (atM S i) (atM S j)).length ≤ 100 := by
    have := readsM_len ⟨4, i, j, m⟩
    rw [readsM, if_pos HVV.out] at this
    unfold rdsK; rw [List.length_map]; simp only at this; omega
  clear hb5e hz4 hb40 hs5
  go_wp2_with fail
  refine (effect_any B G D5 K5 A _ g5 b5 _ hV5 (by omega) hbd5 hrl).mono ?_; rintro e w6 ⟨v6, rfl, hF6, hb6⟩
  have hz6 := hz5.below hb6 (by omega)
  have hb60 := hb50.trans (hb6.mono (by omega))
  rw [hwr5] at hF6
  have hE : (⟨b5, rdsK 4 i j (atM S i) (atM S j), (effK 4 i j m (atM S i) (atM S j)).wrs⟩ : Eff) = effK 4 i j m (atM S i) (atM S j) := by rw [HB5.out]; rfl
  rw [hE] at hF6
  obtain ⟨X, hX⟩ : ∃ X, X = effK 4 i j m (atM S i) (atM S j) := ⟨_, rfl⟩
  rw [← hX] at hF6 hwr5 hE
  have HX := Lib.hid hX
  have hxl : X.rds.length ≤ 4000000 ∧ X.wrs.length ≤ 4000000 := by
    rw [hX]; exact ⟨Nat.le_trans hrl (by omega), by rw [hX] at hwr5; rw [← hwr5]; exact Nat.le_trans (wrOf_len g5 32) (by omega)⟩
  have hF7 := (hF6.mono (show w.heap.size + 2 ≤ B by omega))
  obtain ⟨va, ca, vb, cb, rfl, -⟩ := hF7.rows hxl.1 hxl.2
  have HF7 := Lib.hid (ownF_set3 hF7 (Z := w.heap.size + 1) (hF7.apart (by omega)) 0 1 2 (.bool X.done) (.slice va X.rds.length ca) (.slice vb X.wrs.length cb))
  have HB7 := Lib.hid (below_set3 hb60 (Z := w.heap.size + 1) (by omega) 0 1 2 (.bool X.done) (.slice va X.rds.length ca) (.slice vb X.wrs.length cb))
  obtain ⟨⟨z0, z1, z2⟩, ⟨y0, y1, y2⟩, -⟩ := hz6
  clear hX hE hF6 hF7 hwr5 hxl hb60 hb6 hz5 hV5 hb50 hrl hbd5 hb5
  go_wp2
  refine bodyPost_ret (v := .agg #[.bool X.done, .slice va X.rds.length ca, .slice vb X.wrs.length cb]) ?_ rfl ⟨_, rfl, by rw [← HX.out]; exact HF7.out.mono (show w.heap.size ≤ w.heap.size + 2 by omega), HB7.out⟩
  simp [results, Try.results26, go_sem, z0, z1, z2]
set_option maxHeartbeats 4000000 in
theorem runAction_add (a : Option Addr) (n cap : Nat) (S : List Ent) (i j : Nat) (m : Int) (w : World) (h : RowE w a n S) (hS : storeB S = true) (hv : actB ⟨5, i, j, m⟩ = true) (hi : i < 32) (hj : j < 32) :
    Calls Try.prog 26 #[.slice a n cap, .agg #[.int .i64 5, .int .i64 i, .int .i64 j, .int .i64 m]] w (NewF w 70 (effK 5 i j m (atM S i) (atM S j))) := by
  have HMB : Hid (0 ≤ m ∧ m ≤ 1000000) := Lib.hid (actB_bd hv).2.2
  have HBA := Lib.hid (bdA_arrOf ((storeB_ok S).1 hS).2)
  have HF := Lib.hid (arrOf_get S i hi)
  have HT := Lib.hid (arrOf_get S j hj)
  have HL := Lib.hid (arrOf_len S)
  have HVV := Lib.hid hv
  have HSS := Lib.hid hS
  clear hv hS
  have hm : ∀ (q : Nat) (w : World), (method (q + 1) 124 (.agg #[.int .i64 5, .int .i64 i, .int .i64 j, .int .i64 m]) "loop.example/blockexecutor/impl.run").run Try.prog w = .ok (136, .agg #[.int .i64 5, .int .i64 i, .int .i64 j, .int .i64 m]) w := fun _ _ => by kernel_rfl
  have c1 : ((w.alloc (.cells #[.int .i64 5, .int .i64 i, .int .i64 j, .int .i64 m] 42)).alloc (.cells #[.bool false, .slice none 0 0, .slice none 0 0] 39)).cell? ⟨w.heap.size, 0, none⟩ = some (.int .i64 5) := by simp [go_sem]
  have c2 : ((w.alloc (.cells #[.int .i64 5, .int .i64 i, .int .i64 j, .int .i64 m] 42)).alloc (.cells #[.bool false, .slice none 0 0, .slice none 0 0] 39)).cell? ⟨w.heap.size, 1, none⟩ = some (.int .i64 i) := by simp [go_sem]
  have c3 : ((w.alloc (.cells #[.int .i64 5, .int .i64 i, .int .i64 j, .int .i64 m] 42)).alloc (.cells #[.bool false, .slice none 0 0, .slice none 0 0] 39)).cell? ⟨w.heap.size, 2, none⟩ = some (.int .i64 j) := by simp [go_sem]
  have c4 : ((w.alloc (.cells #[.int .i64 5, .int .i64 i, .int .i64 j, .int .i64 m] 42)).alloc (.cells #[.bool false, .slice none 0 0, .slice none 0 0] 39)).cell? ⟨w.heap.size, 3, none⟩ = some (.int .i64 m) := by simp [go_sem]
  have hz := zAt_new (w.alloc (.cells #[.int .i64 5, .int .i64 i, .int .i64 j, .int .i64 m] 42)) 39
  have hsz : ((w.alloc (.cells #[.int .i64 5, .int .i64 i, .int .i64 j, .int .i64 m] 42)).alloc (.cells #[.bool false, .slice none 0 0, .slice none 0 0] 39)).heap.size = w.heap.size + 2 := by simp
  rw [World.size_alloc] at hz
  have hb0 := ((Below.refl w.heap.size w).alloc (Nat.le_refl _) (.cells #[.int .i64 5, .int .i64 i, .int .i64 j, .int .i64 m] 42)).alloc (by simp) (.cells #[.bool false, .slice none 0 0, .slice none 0 0] 39)
  go_enter Try.func26, Try.ntmps26
  go_wp2_with fail
  have hr0 := h.below hb0
  obtain ⟨w0, hw0⟩ : ∃ w0, w0 = (w.alloc (.cells #[.int .i64 5, .int .i64 i, .int .i64 j, .int .i64 m] 42)).alloc (.cells #[.bool false, .slice none 0 0, .slice none 0 0] 39) := ⟨_, rfl⟩
  rw [← hw0] at c1 c2 c3 c4 hz hb0 hr0 hsz ⊢
  have hs0 : w.heap.size + 2 ≤ w0.heap.size := by omega
  clear hw0 hsz
  refine (valuesOf_yes a n cap S _ hr0 HSS.out).mono ?_; rintro e w1 ⟨rfl, hb1⟩
  obtain ⟨A, hA⟩ : ∃ A, A = arrOf S := ⟨_, rfl⟩
  rw [← hA] at HL HF HT HBA ⊢
  clear hA hr0 h
  have hA0 := Arr.new w1 79 zeros
  have hs1 := hb1.size
  replace c1 := below_cell hb1 (show w.heap.size < w0.heap.size by omega) c1
  replace c2 := below_cell hb1 (show w.heap.size < w0.heap.size by omega) c2
  replace c3 := below_cell hb1 (show w.heap.size < w0.heap.size by omega) c3
  replace c4 := below_cell hb1 (show w.heap.size < w0.heap.size by omega) c4
  go_wp2_with (first | (refine wpList_store_arr' rfl _ _ _ rfl _ A (by rfl) (by rfl) 79 _ hA0 (by rw [HL.out]; exact infoArr) (by rw [HL.out]; rfl) ?_; intro w2 hA2 hg2 hz2; have hb2 := below_new (Below.refl _ w1) hg2; have d1 := below_cell hb2 (show w.heap.size < w1.heap.size by omega) c1; have d2 := below_cell hb2 (show w.heap.size < w1.heap.size by omega) c2; have d3 := below_cell hb2 (show w.heap.size < w1.heap.size by omega) c3; have d4 := below_cell hb2 (show w.heap.size < w1.heap.size by omega) c4; clear hg2 hz2 c1 c2 c3 c4))
  have hs2 := hb2.size
  refine (validDeed_add_yes i j m _ HVV.out).mono ?_; rintro e w3 ⟨rfl, hb3⟩
  have hA3 := hA2.after hb3
  have hs3 := hb3.size
  have hbb : Below w0.heap.size w0 w3 := (hb1.trans (hb2.mono hs1)).trans (hb3.mono (by omega))
  have hz3 := hz.below hbb (by omega)
  have hb30 := hb0.trans (hbb.mono hb0.size)
  clear hb1 hb2 hb3 hA0 hA2 hz d1 d2 d3 d4 hb0 hbb
  go_wp2_with (first | (refine wpList_load_arr rfl _ _ rfl _ (by rfl) 79 A hA3 _ _ Try.underlying79 (by rw [HL.out]; exact infoArr) ?_))
  refine (viewOf_any A _ HL.out).mono ?_; rintro e w4 ⟨G, rfl, hV4, hb4⟩
  have hs4 := hb4.size
  have hz4 := hz3.below hb4 (by omega)
  have hb40 := hb30.trans (hb4.mono (by omega))
  obtain ⟨B, hB⟩ : ∃ B, B = w3.heap.size := ⟨_, rfl⟩
  rw [← hB] at hV4 hs4
  have HBw := Lib.hid hB
  have hBz : w.heap.size + 1 < B := by omega
  clear hA3 hz3 hb30 hb4 hB
  go_wp2_with (first | (go_at_call 136; refine (run_add B G _ i j A 5 m (atM S i) (atM S j) _ (by first | exact hV4 | exact hV4.drew) (by exact hs4) hi hj HMB.out.1 HMB.out.2 HBA.out HF.out HT.out).mono ?_; rintro e w5 ⟨rfl, ⟨D5, K5, g5, hV5, hbd5, hwr5⟩, hs5, hb5⟩))
  have hz5 := hz4.below hb5 (by omega)
  have hb50 := hb40.trans (hb5.mono (by omega))
  have hs5' : w4.heap.size ≤ w5.heap.size := hs5
  obtain ⟨b5, hb5e⟩ : ∃ b5, b5 = doneK 5 i j m (atM S i) (atM S j) := ⟨_, rfl⟩
  rw [← hb5e]
  have HB5 := Lib.hid hb5e
  have hrl : (rdsK 5 i j (atM S i) (atM S j)).length ≤ 100 := by
    have := readsM_len ⟨5, i, j, m⟩
    rw [readsM, if_pos HVV.out] at this
    unfold rdsK; rw [List.length_map]; simp only at this; omega
  clear hb5e hz4 hb40 hs5
  go_wp2_with fail
  refine (effect_any B G D5 K5 A _ g5 b5 _ hV5 (by omega) hbd5 hrl).mono ?_; rintro e w6 ⟨v6, rfl, hF6, hb6⟩
  have hz6 := hz5.below hb6 (by omega)
  have hb60 := hb50.trans (hb6.mono (by omega))
  rw [hwr5] at hF6
  have hE : (⟨b5, rdsK 5 i j (atM S i) (atM S j), (effK 5 i j m (atM S i) (atM S j)).wrs⟩ : Eff) = effK 5 i j m (atM S i) (atM S j) := by rw [HB5.out]; rfl
  rw [hE] at hF6
  obtain ⟨X, hX⟩ : ∃ X, X = effK 5 i j m (atM S i) (atM S j) := ⟨_, rfl⟩
  rw [← hX] at hF6 hwr5 hE
  have HX := Lib.hid hX
  have hxl : X.rds.length ≤ 4000000 ∧ X.wrs.length ≤ 4000000 := by
    rw [hX]; exact ⟨Nat.le_trans hrl (by omega), by rw [hX] at hwr5; rw [← hwr5]; exact Nat.le_trans (wrOf_len g5 32) (by omega)⟩
  have hF7 := (hF6.mono (show w.heap.size + 2 ≤ B by omega))
  obtain ⟨va, ca, vb, cb, rfl, -⟩ := hF7.rows hxl.1 hxl.2
  have HF7 := Lib.hid (ownF_set3 hF7 (Z := w.heap.size + 1) (hF7.apart (by omega)) 0 1 2 (.bool X.done) (.slice va X.rds.length ca) (.slice vb X.wrs.length cb))
  have HB7 := Lib.hid (below_set3 hb60 (Z := w.heap.size + 1) (by omega) 0 1 2 (.bool X.done) (.slice va X.rds.length ca) (.slice vb X.wrs.length cb))
  obtain ⟨⟨z0, z1, z2⟩, ⟨y0, y1, y2⟩, -⟩ := hz6
  clear hX hE hF6 hF7 hwr5 hxl hb60 hb6 hz5 hV5 hb50 hrl hbd5 hb5
  go_wp2
  refine bodyPost_ret (v := .agg #[.bool X.done, .slice va X.rds.length ca, .slice vb X.wrs.length cb]) ?_ rfl ⟨_, rfl, by rw [← HX.out]; exact HF7.out.mono (show w.heap.size ≤ w.heap.size + 2 by omega), HB7.out⟩
  simp [results, Try.results26, go_sem, z0, z1, z2]
set_option maxHeartbeats 4000000 in
theorem runAction_take (a : Option Addr) (n cap : Nat) (S : List Ent) (i j : Nat) (m : Int) (w : World) (h : RowE w a n S) (hS : storeB S = true) (hv : actB ⟨6, i, j, m⟩ = true) (hi : i < 32) (hj : j < 32) :
    Calls Try.prog 26 #[.slice a n cap, .agg #[.int .i64 6, .int .i64 i, .int .i64 j, .int .i64 m]] w (NewF w 70 (effK 6 i j m (atM S i) (atM S j))) := by
  have HMB : Hid (0 ≤ m ∧ m ≤ 1000000) := Lib.hid (actB_bd hv).2.2
  have HBA := Lib.hid (bdA_arrOf ((storeB_ok S).1 hS).2)
  have HF := Lib.hid (arrOf_get S i hi)
  have HT := Lib.hid (arrOf_get S j hj)
  have HL := Lib.hid (arrOf_len S)
  have HVV := Lib.hid hv
  have HSS := Lib.hid hS
  clear hv hS
  have hm : ∀ (q : Nat) (w : World), (method (q + 1) 125 (.agg #[.int .i64 6, .int .i64 i, .int .i64 j, .int .i64 m]) "loop.example/blockexecutor/impl.run").run Try.prog w = .ok (140, .agg #[.int .i64 6, .int .i64 i, .int .i64 j, .int .i64 m]) w := fun _ _ => by kernel_rfl
  have c1 : ((w.alloc (.cells #[.int .i64 6, .int .i64 i, .int .i64 j, .int .i64 m] 42)).alloc (.cells #[.bool false, .slice none 0 0, .slice none 0 0] 39)).cell? ⟨w.heap.size, 0, none⟩ = some (.int .i64 6) := by simp [go_sem]
  have c2 : ((w.alloc (.cells #[.int .i64 6, .int .i64 i, .int .i64 j, .int .i64 m] 42)).alloc (.cells #[.bool false, .slice none 0 0, .slice none 0 0] 39)).cell? ⟨w.heap.size, 1, none⟩ = some (.int .i64 i) := by simp [go_sem]
  have c3 : ((w.alloc (.cells #[.int .i64 6, .int .i64 i, .int .i64 j, .int .i64 m] 42)).alloc (.cells #[.bool false, .slice none 0 0, .slice none 0 0] 39)).cell? ⟨w.heap.size, 2, none⟩ = some (.int .i64 j) := by simp [go_sem]
  have c4 : ((w.alloc (.cells #[.int .i64 6, .int .i64 i, .int .i64 j, .int .i64 m] 42)).alloc (.cells #[.bool false, .slice none 0 0, .slice none 0 0] 39)).cell? ⟨w.heap.size, 3, none⟩ = some (.int .i64 m) := by simp [go_sem]
  have hz := zAt_new (w.alloc (.cells #[.int .i64 6, .int .i64 i, .int .i64 j, .int .i64 m] 42)) 39
  have hsz : ((w.alloc (.cells #[.int .i64 6, .int .i64 i, .int .i64 j, .int .i64 m] 42)).alloc (.cells #[.bool false, .slice none 0 0, .slice none 0 0] 39)).heap.size = w.heap.size + 2 := by simp
  rw [World.size_alloc] at hz
  have hb0 := ((Below.refl w.heap.size w).alloc (Nat.le_refl _) (.cells #[.int .i64 6, .int .i64 i, .int .i64 j, .int .i64 m] 42)).alloc (by simp) (.cells #[.bool false, .slice none 0 0, .slice none 0 0] 39)
  go_enter Try.func26, Try.ntmps26
  go_wp2_with fail
  have hr0 := h.below hb0
  obtain ⟨w0, hw0⟩ : ∃ w0, w0 = (w.alloc (.cells #[.int .i64 6, .int .i64 i, .int .i64 j, .int .i64 m] 42)).alloc (.cells #[.bool false, .slice none 0 0, .slice none 0 0] 39) := ⟨_, rfl⟩
  rw [← hw0] at c1 c2 c3 c4 hz hb0 hr0 hsz ⊢
  have hs0 : w.heap.size + 2 ≤ w0.heap.size := by omega
  clear hw0 hsz
  refine (valuesOf_yes a n cap S _ hr0 HSS.out).mono ?_; rintro e w1 ⟨rfl, hb1⟩
  obtain ⟨A, hA⟩ : ∃ A, A = arrOf S := ⟨_, rfl⟩
  rw [← hA] at HL HF HT HBA ⊢
  clear hA hr0 h
  have hA0 := Arr.new w1 79 zeros
  have hs1 := hb1.size
  replace c1 := below_cell hb1 (show w.heap.size < w0.heap.size by omega) c1
  replace c2 := below_cell hb1 (show w.heap.size < w0.heap.size by omega) c2
  replace c3 := below_cell hb1 (show w.heap.size < w0.heap.size by omega) c3
  replace c4 := below_cell hb1 (show w.heap.size < w0.heap.size by omega) c4
  go_wp2_with (first | (refine wpList_store_arr' rfl _ _ _ rfl _ A (by rfl) (by rfl) 79 _ hA0 (by rw [HL.out]; exact infoArr) (by rw [HL.out]; rfl) ?_; intro w2 hA2 hg2 hz2; have hb2 := below_new (Below.refl _ w1) hg2; have d1 := below_cell hb2 (show w.heap.size < w1.heap.size by omega) c1; have d2 := below_cell hb2 (show w.heap.size < w1.heap.size by omega) c2; have d3 := below_cell hb2 (show w.heap.size < w1.heap.size by omega) c3; have d4 := below_cell hb2 (show w.heap.size < w1.heap.size by omega) c4; clear hg2 hz2 c1 c2 c3 c4))
  have hs2 := hb2.size
  refine (validDeed_take_yes i j m _ HVV.out).mono ?_; rintro e w3 ⟨rfl, hb3⟩
  have hA3 := hA2.after hb3
  have hs3 := hb3.size
  have hbb : Below w0.heap.size w0 w3 := (hb1.trans (hb2.mono hs1)).trans (hb3.mono (by omega))
  have hz3 := hz.below hbb (by omega)
  have hb30 := hb0.trans (hbb.mono hb0.size)
  clear hb1 hb2 hb3 hA0 hA2 hz d1 d2 d3 d4 hb0 hbb
  go_wp2_with (first | (refine wpList_load_arr rfl _ _ rfl _ (by rfl) 79 A hA3 _ _ Try.underlying79 (by rw [HL.out]; exact infoArr) ?_))
  refine (viewOf_any A _ HL.out).mono ?_; rintro e w4 ⟨G, rfl, hV4, hb4⟩
  have hs4 := hb4.size
  have hz4 := hz3.below hb4 (by omega)
  have hb40 := hb30.trans (hb4.mono (by omega))
  obtain ⟨B, hB⟩ : ∃ B, B = w3.heap.size := ⟨_, rfl⟩
  rw [← hB] at hV4 hs4
  have HBw := Lib.hid hB
  have hBz : w.heap.size + 1 < B := by omega
  clear hA3 hz3 hb30 hb4 hB
  go_wp2_with (first | (go_at_call 140; refine (run_take B G _ i j A 6 m (atM S i) (atM S j) _ (by first | exact hV4 | exact hV4.drew) (by exact hs4) hi hj HMB.out.1 HMB.out.2 HBA.out HF.out HT.out).mono ?_; rintro e w5 ⟨rfl, ⟨D5, K5, g5, hV5, hbd5, hwr5⟩, hs5, hb5⟩))
  have hz5 := hz4.below hb5 (by omega)
  have hb50 := hb40.trans (hb5.mono (by omega))
  have hs5' : w4.heap.size ≤ w5.heap.size := hs5
  obtain ⟨b5, hb5e⟩ : ∃ b5, b5 = doneK 6 i j m (atM S i) (atM S j) := ⟨_, rfl⟩
  rw [← hb5e]
  have HB5 := Lib.hid hb5e
  have hrl : (rdsK 6 i j (atM S i) (atM S j)).length ≤ 100 := by
    have := readsM_len ⟨6, i, j, m⟩
    rw [readsM, if_pos HVV.out] at this
    unfold rdsK; rw [List.length_map]; simp only at this; omega
  clear hb5e hz4 hb40 hs5
  go_wp2_with fail
  refine (effect_any B G D5 K5 A _ g5 b5 _ hV5 (by omega) hbd5 hrl).mono ?_; rintro e w6 ⟨v6, rfl, hF6, hb6⟩
  have hz6 := hz5.below hb6 (by omega)
  have hb60 := hb50.trans (hb6.mono (by omega))
  rw [hwr5] at hF6
  have hE : (⟨b5, rdsK 6 i j (atM S i) (atM S j), (effK 6 i j m (atM S i) (atM S j)).wrs⟩ : Eff) = effK 6 i j m (atM S i) (atM S j) := by rw [HB5.out]; rfl
  rw [hE] at hF6
  obtain ⟨X, hX⟩ : ∃ X, X = effK 6 i j m (atM S i) (atM S j) := ⟨_, rfl⟩
  rw [← hX] at hF6 hwr5 hE
  have HX := Lib.hid hX
  have hxl : X.rds.length ≤ 4000000 ∧ X.wrs.length ≤ 4000000 := by
    rw [hX]; exact ⟨Nat.le_trans hrl (by omega), by rw [hX] at hwr5; rw [← hwr5]; exact Nat.le_trans (wrOf_len g5 32) (by omega)⟩
  have hF7 := (hF6.mono (show w.heap.size + 2 ≤ B by omega))
  obtain ⟨va, ca, vb, cb, rfl, -⟩ := hF7.rows hxl.1 hxl.2
  have HF7 := Lib.hid (ownF_set3 hF7 (Z := w.heap.size + 1) (hF7.apart (by omega)) 0 1 2 (.bool X.done) (.slice va X.rds.length ca) (.slice vb X.wrs.length cb))
  have HB7 := Lib.hid (below_set3 hb60 (Z := w.heap.size + 1) (by omega) 0 1 2 (.bool X.done) (.slice va X.rds.length ca) (.slice vb X.wrs.length cb))
  obtain ⟨⟨z0, z1, z2⟩, ⟨y0, y1, y2⟩, -⟩ := hz6
  clear hX hE hF6 hF7 hwr5 hxl hb60 hb6 hz5 hV5 hb50 hrl hbd5 hb5
  go_wp2
  refine bodyPost_ret (v := .agg #[.bool X.done, .slice va X.rds.length ca, .slice vb X.wrs.length cb]) ?_ rfl ⟨_, rfl, by rw [← HX.out]; exact HF7.out.mono (show w.heap.size ≤ w.heap.size + 2 by omega), HB7.out⟩
  simp [results, Try.results26, go_sem, z0, z1, z2]
theorem runAction_impl (a : Option Addr) (n cap : Nat) (S : List Ent) (k s d m : Int) (w : World) (h : RowE w a n S) :
    Calls Try.prog 26 #[.slice a n cap, .agg #[.int .i64 k, .int .i64 s, .int .i64 d, .int .i64 m]] w (NewF w 70 (runM S ⟨k, s, d, m⟩)) := by
  cases hc : storeB S && actB ⟨k, s, d, m⟩ with
  | false => rw [runM_no hc]; exact runAction_no a n cap S k s d m w h hc
  | true =>
    rw [Bool.and_eq_true] at hc
    obtain ⟨hS, hv⟩ := hc
    rw [runM_yes hS hv]
    obtain ⟨⟨s0, s1⟩, ⟨d0, d1⟩, -⟩ := actB_bd hv
    simp only at s0 s1 d0 d1
    obtain ⟨i, rfl⟩ := Int.eq_ofNat_of_zero_le s0
    obtain ⟨j, rfl⟩ := Int.eq_ofNat_of_zero_le d0
    rcases (by have := kind_of hv; simp only at this; omega : k = 1 ∨ k = 2 ∨ k = 3 ∨ k = 4 ∨ k = 5 ∨ k = 6) with rfl | rfl | rfl | rfl | rfl | rfl
    · exact runAction_put a n cap S i j m w h hS hv (by omega) (by omega)
    · exact runAction_move a n cap S i j m w h hS hv (by omega) (by omega)
    · exact runAction_copy a n cap S i j m w h hS hv (by omega) (by omega)
    · exact runAction_swap a n cap S i j m w h hS hv (by omega) (by omega)
    · exact runAction_add a n cap S i j m w h hS hv (by omega) (by omega)
    · exact runAction_take a n cap S i j m w h hS hv (by omega) (by omega)
end Go.Proofs.Ytpnahncmhldgdaa
