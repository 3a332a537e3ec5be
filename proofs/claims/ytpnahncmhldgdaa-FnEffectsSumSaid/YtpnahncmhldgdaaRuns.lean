/- The contracts of the six deeds' run. -/
import Derived.Test.YtpnahncmhldgdaaViewOps
import Derived.Test.YtpnahncmhldgdaaFive
import Derived.BigQuiet
import Derived.Deep.RegionHeld3
namespace Go.Proofs.Ytpnahncmhldgdaa
open Go.RowKit Go.Maps
set_option linter.unusedVariables false
/-- What run answers: whether it is done; the view has what was read and what was written. -/
def RunP (w : World) (B G : Nat) (A : List Int) (k s d m f t : Int) (e : Ending) (w' : World) : Prop :=
  e = .returned (.bool (doneK k s d m f t)) ∧ (∃ D K g, View w' B G D A (rdsK k s d f t) K g ∧ BdF g ∧ wrOf g 32 = (effK k s d m f t).wrs) ∧ w.heap.size ≤ w'.heap.size ∧ Below B w w'
theorem updF_none_find (s x : Int) : updF (fun _ => none) s x = findM [(s, x)] := by
  funext k; unfold updF findM
  by_cases h : k = s
  · rw [if_pos h, if_pos h.symm]
  · rw [if_neg h, if_neg (fun e => h e.symm)]; rfl
theorem wrOf_one {s x : Int} (h0 : 0 ≤ s) (h1 : s ≤ 31) (h2 : 0 ≤ x) (h3 : x ≤ 1000000) : wrOf (updF (fun _ => none) s x) 32 = [(s, x)] := by
  rw [updF_none_find]; exact wrOf_find (wr_one h0 h1 h2 h3)
theorem wrOf_two {s x d y : Int} (h0 : 0 ≤ s) (h1 : s ≤ 31) (h2 : 0 ≤ x) (h3 : x ≤ 1000000) (g0 : 0 ≤ d) (g1 : d ≤ 31) (g2 : 0 ≤ y) (g3 : y ≤ 1000000) : wrOf (updF (updF (fun _ => none) s x) d y) 32 = pm d y [(s, x)] := by
  rw [updF_none_find]; exact wrOf_upd (wr_one h0 h1 h2 h3) g0 g1 g2 g3
theorem bdF_none : BdF (fun _ => none) := fun k v h => by cases h
theorem bdF_upd {f : Int → Option Int} (h : BdF f) {s x : Int} (h2 : 0 ≤ x) (h3 : x ≤ 1000000) : BdF (updF f s x) := fun k v hk => by
  unfold updF at hk; split at hk
  · cases hk; exact ⟨h2, h3⟩
  · exact h k v hk
/-- What is read of two keys. -/
theorem reads_both (i j f t : Int) (h : i = j → f = t) : addR (addR [] (i, f)) (j, t) = (onceM i j).map (fun key => (key, if key = i then f else t)) := by
  rw [← addR_two]
  by_cases e : j = i
  · rw [if_pos e, h e.symm]
  · rw [if_neg e]
theorem wrOf_zero : wrOf (fun _ => none) 32 = [] := by decide
set_option maxHeartbeats 1000000 in
theorem run_put (B G D i : Nat) (A : List Int) (k d m f t : Int) (w : World) (h : View w B G D A [] 0 (fun _ => none)) (hB : B ≤ w.heap.size) (hi : i < 32) (m0 : 0 ≤ m) (m1 : m ≤ 1000000) (hA : BdA A) :
    Calls Try.prog 117 #[.agg #[.int .i64 k, .int .i64 i, .int .i64 d, .int .i64 m], .pointer (some ⟨G, 0, none⟩)] w (RunP w B G A 1 i d m f t) := by
  have hb0 := (Below.refl w.heap.size w).alloc (Nat.le_refl _) (.cells #[.int .i64 k, .int .i64 i, .int .i64 d, .int .i64 m] 120)
  have HV := Lib.hid (h.fresh (.cells #[.int .i64 k, .int .i64 i, .int .i64 d, .int .i64 m] 120))
  have HB := Lib.hid (hb0.mono hB)
  have HS := Lib.hid hb0.size
  clear h hb0
  go_enter Try.func117, Try.ntmps117
  go_wp2_with (first | (go_at_call 119; refine (write_any B G _ 0 A [] _ i m _ HV.out (Nat.le_trans hB HS.out) (by omega) (WalkArith.wf_i64 (by omega)) (WalkArith.wf_i64 (by omega))).mono ?_; rintro e w2 ⟨rfl, hV2, hD2, hs2, hb2⟩))
  go_ret
  exact ⟨rfl, ⟨_, _, _, hV2, bdF_upd bdF_none m0 m1, wrOf_one (by omega) (by omega) m0 m1⟩, Nat.le_trans HS.out hs2, HB.out.trans hb2⟩
set_option maxRecDepth 100000 in
set_option maxHeartbeats 4000000 in
theorem run_move (B G D i j : Nat) (A : List Int) (k m f t : Int) (w : World) (h : View w B G D A [] 0 (fun _ => none)) (hB : B ≤ w.heap.size) (hi : i < 32) (hj : j < 32) (m0 : 0 ≤ m) (m1 : m ≤ 1000000) (hA : BdA A) (hf : A.getD i 0 = f) (ht : A.getD j 0 = t) :
    Calls Try.prog 122 #[.agg #[.int .i64 k, .int .i64 i, .int .i64 j, .int .i64 m], .pointer (some ⟨G, 0, none⟩)] w (RunP w B G A 2 i j m f t) := by
  have hb0 := (Below.refl w.heap.size w).alloc (Nat.le_refl _) (.cells #[.int .i64 k, .int .i64 i, .int .i64 j, .int .i64 m] 121)
  have hV := h.fresh (.cells #[.int .i64 k, .int .i64 i, .int .i64 j, .int .i64 m] 121)
  have c1 : (w.alloc (.cells #[.int .i64 k, .int .i64 i, .int .i64 j, .int .i64 m] 121)).cell? ⟨w.heap.size, 1, none⟩ = some (.int .i64 i) := by simp [go_sem]
  have c2 : (w.alloc (.cells #[.int .i64 k, .int .i64 i, .int .i64 j, .int .i64 m] 121)).cell? ⟨w.heap.size, 2, none⟩ = some (.int .i64 j) := by simp [go_sem]
  have c3 : (w.alloc (.cells #[.int .i64 k, .int .i64 i, .int .i64 j, .int .i64 m] 121)).cell? ⟨w.heap.size, 3, none⟩ = some (.int .i64 m) := by simp [go_sem]
  have HB := Lib.hid (hb0.mono hB)
  have HS := Lib.hid hb0.size
  have bf := hA i hi
  have bt := hA j hj
  rw [hf] at bf
  rw [ht] at bt
  have HA := Lib.hid hA
  have HF := Lib.hid hf
  have HT := Lib.hid ht
  have HRD := Lib.hid (reads_both i j f t (fun e => by rw [← hf, ← ht, show i = j by omega]))
  have hwi : (Lit.int .i64 (i : Int)).wf = true := WalkArith.wf_i64 (by omega)
  have hwj : (Lit.int .i64 (j : Int)).wf = true := WalkArith.wf_i64 (by omega)
  have HWI := Lib.hid hwi; have HWJ := Lib.hid hwj
  clear h hb0 hA hf ht hwi hwj
  go_enter Try.func122, Try.ntmps122
  go_wp2_with fail
  have HSZ := Lib.hid (Nat.le_trans hB HS.out)
  obtain ⟨w1, hw1⟩ : ∃ w1, w1 = w.alloc (.cells #[.int .i64 k, .int .i64 i, .int .i64 j, .int .i64 m] 121) := ⟨_, rfl⟩
  rw [← hw1] at hV c1 c2 c3 HB HS HSZ ⊢
  clear hw1
  obtain ⟨E, hE⟩ : ∃ E, E = w.heap.size := ⟨_, rfl⟩
  rw [← hE] at hV c1 c2 c3 HS ⊢
  have HE := Lib.hid hE
  clear hE
  go_region_held3 (fun w' => w'.cell? ⟨E, 1, none⟩ = some (.int .i64 i) ∧ w'.cell? ⟨E, 2, none⟩ = some (.int .i64 j)) (first | exact ⟨c1, c2⟩ | exact ⟨d1, d2⟩ | go_keep)
    ((go_at_call 114; refine (read_any B G E 0 A _ _ _ _ _ (by first | exact hV2 | exact hV2.drew | exact hV | exact hV.drew) (by first | exact HF.out | exact HT.out) (by first | exact HSZ2 | exact HSZ.out) (by first | exact hi | exact hj) HA.out (by first | exact (by simp : ([] : List Ent).length ≤ 100) | exact Nat.le_trans (addR_len _ _) (by simp))).mono ?_; rintro e w2 ⟨rfl, hV2, hD2, hs2, hb2⟩; have d1 : w2.cell? ⟨E, 1, none⟩ = some (.int .i64 i) := (World.cell?_of_block hD2).trans (by first | exact d1 | exact c1); have d2 : w2.cell? ⟨E, 2, none⟩ = some (.int .i64 j) := (World.cell?_of_block hD2).trans (by first | exact d2 | exact c2); have d3 : w2.cell? ⟨E, 3, none⟩ = some (.int .i64 m) := (World.cell?_of_block hD2).trans (by first | exact d3 | exact c3); have HBB : Below B w w2 := (by first | exact HBB.trans hb2 | exact HBB.drew.trans hb2 | exact HB.out.trans hb2 | exact HB.out.drew.trans hb2); have HSZ2 : B ≤ w2.heap.size := (by first | exact Nat.le_trans HSZ2 hs2 | exact Nat.le_trans HSZ.out hs2); have HSE : E ≤ w2.heap.size := (by first | exact Nat.le_trans HSE hs2 | exact Nat.le_trans HS.out hs2)))
  have HV := Lib.hid hV2
  have HBS := Lib.hid HBB
  have HZ := Lib.hid HSZ2
  have HEE := Lib.hid HSE
  clear c1 c2 c3 hV hV2 hD2 hs2 hb2 HBB HSZ2 HSE
  have HR : Hid (addR (addR [] ((i : Int), f)) ((j : Int), t) = rdsK 2 i j f t) := Lib.hid (by rw [HRD.out]; rfl)
  by_cases hfm : f < m
  · have HD : Hid (doneK 2 i j m f t = false) := Lib.hid (by simp [doneK, show ¬ m ≤ f by omega])
    have HW : Hid ((effK 2 i j m f t).wrs = []) := Lib.hid (by unfold effK; rw [HD.out]; rfl)
    have hb : decide (f < m) = true := by simpa using hfm
    by_cases hij : (i : Int) = j
    · have hib : ((i : Int) == j) = true := by simpa using hij
      clear hij hfm
      go_wp2_with (first | (go_at_call 57; refine (isValue_impl _ _).mono ?_; rintro e w' ⟨rfl, rfl⟩))
      go_ret
      exact ⟨by rw [HD.out]; rfl, ⟨E, 0, _, by rw [← HR.out]; exact HV.out, bdF_none, by rw [HW.out]; exact wrOf_zero⟩, by rw [← HE.out]; exact HEE.out, HBS.out⟩
    · have hib : ((i : Int) == j) = false := by simpa using hij
      clear hij hfm
      go_wp2_with (first | (go_at_call 57; refine (isValue_impl _ _).mono ?_; rintro e w' ⟨rfl, rfl⟩))
      go_ret
      exact ⟨by rw [HD.out]; rfl, ⟨E, 0, _, by rw [← HR.out]; exact HV.out, bdF_none, by rw [HW.out]; exact wrOf_zero⟩, by rw [← HE.out]; exact HEE.out, HBS.out⟩
  · have hb : decide (f < m) = false := by simpa using hfm
    by_cases hij : (i : Int) = j
    · have hib : ((i : Int) == j) = true := by simpa using hij
      obtain rfl : t = f := by rw [← HF.out, ← HT.out, show i = j by omega]
      have hv : inB t 0 1000000 = true := inB_yes (by omega) (by omega)
      have HD : Hid (doneK 2 i j m t t = true) := Lib.hid (by simp [doneK, hij, show m ≤ t by omega])
      have HW : Hid ((effK 2 i j m t t).wrs = wrOf (updF (updF (fun _ => none) i (t - m)) j t) 32) := Lib.hid (by
        rw [wrOf_two (by omega) (by omega) (by omega) (by omega) (by omega) (by omega) (by omega) (by omega)]
        unfold effK; rw [HD.out]
        simp [outsK, hij, pm])
      have HBD : Hid (BdF (updF (updF (fun _ => none) i (t - m)) j t)) := Lib.hid (bdF_upd (bdF_upd bdF_none (by omega) (by omega)) (by omega) (by omega))
      clear hij
      go_wp2_with (first | (go_at_call 57; refine (isValue_impl _ _).mono ?_; rintro e w' ⟨rfl, rfl⟩))
      refine (write_any B G E 0 A _ _ i (t - m) _ (by first | exact HV.out | exact HV.out.drew) (by exact HZ.out) (by omega) HWI.out (WalkArith.wf_i64 (by omega))).mono ?_; rintro e w3 ⟨rfl, hV3, hD3, hs3, hb3⟩
      have d1 : w3.cell? ⟨E, 1, none⟩ = some (.int .i64 i) := (World.cell?_of_block hD3).trans d1
      have d2 : w3.cell? ⟨E, 2, none⟩ = some (.int .i64 j) := (World.cell?_of_block hD3).trans d2
      have d3 : w3.cell? ⟨E, 3, none⟩ = some (.int .i64 m) := (World.cell?_of_block hD3).trans d3
      go_wp2_with fail
      refine (write_any B G E 1 A _ _ j t _ (by first | exact hV3 | exact hV3.drew) (by exact (Nat.le_trans HZ.out hs3)) (by omega) HWJ.out (WalkArith.wf_i64 (by omega))).mono ?_; rintro e w4 ⟨rfl, hV4, hD4, hs4, hb4⟩
      go_wp2
      go_ret
      exact ⟨by rw [HD.out]; rfl, ⟨E, _, _, by rw [← HR.out]; exact hV4, HBD.out, HW.out.symm⟩, by rw [← HE.out]; exact Nat.le_trans HEE.out (Nat.le_trans hs3 hs4), HBS.out.trans (hb3.trans hb4)⟩
    · have hib : ((i : Int) == j) = false := by simpa using hij
      by_cases hv1 : t + m ≤ 1000000
      · have hv : inB (t + m) 0 1000000 = true := inB_yes (by omega) (by omega)
        have HD : Hid (doneK 2 i j m f t = true) := Lib.hid (by simp [doneK, hv1, show m ≤ f by omega])
        have HW : Hid ((effK 2 i j m f t).wrs = wrOf (updF (updF (fun _ => none) i (f - m)) j (t + m)) 32) := Lib.hid (by
          rw [wrOf_two (by omega) (by omega) (by omega) (by omega) (by omega) (by omega) (by omega) (by omega)]
          unfold effK; rw [HD.out]
          show (if true = true then outsK 2 (i : Int) j m f t else []) = _
          rw [if_pos rfl, outsK, if_neg (by omega), if_neg (by omega), if_neg (by omega), if_neg (by omega), if_neg (by omega), if_neg hij])
        have HBD : Hid (BdF (updF (updF (fun _ => none) i (f - m)) j (t + m))) := Lib.hid (bdF_upd (bdF_upd bdF_none (by omega) (by omega)) (by omega) (by omega))
        clear hij
        go_wp2_with (first | (go_at_call 57; refine (isValue_impl _ _).mono ?_; rintro e w' ⟨rfl, rfl⟩))
        refine (write_any B G E 0 A _ _ i (f - m) _ (by first | exact HV.out | exact HV.out.drew) (by exact HZ.out) (by omega) HWI.out (WalkArith.wf_i64 (by omega))).mono ?_; rintro e w3 ⟨rfl, hV3, hD3, hs3, hb3⟩
        have d1 : w3.cell? ⟨E, 1, none⟩ = some (.int .i64 i) := (World.cell?_of_block hD3).trans d1
        have d2 : w3.cell? ⟨E, 2, none⟩ = some (.int .i64 j) := (World.cell?_of_block hD3).trans d2
        have d3 : w3.cell? ⟨E, 3, none⟩ = some (.int .i64 m) := (World.cell?_of_block hD3).trans d3
        go_wp2_with fail
        refine (write_any B G E 1 A _ _ j (t + m) _ (by first | exact hV3 | exact hV3.drew) (by exact (Nat.le_trans HZ.out hs3)) (by omega) HWJ.out (WalkArith.wf_i64 (by omega))).mono ?_; rintro e w4 ⟨rfl, hV4, hD4, hs4, hb4⟩
        go_wp2
        go_ret
        exact ⟨by rw [HD.out]; rfl, ⟨E, _, _, by rw [← HR.out]; exact hV4, HBD.out, HW.out.symm⟩, by rw [← HE.out]; exact Nat.le_trans HEE.out (Nat.le_trans hs3 hs4), HBS.out.trans (hb3.trans hb4)⟩
      · have hv : inB (t + m) 0 1000000 = false := inB_no (by omega)
        have HD : Hid (doneK 2 i j m f t = false) := Lib.hid (by simp [doneK, hij, hv1])
        have HW : Hid ((effK 2 i j m f t).wrs = []) := Lib.hid (by unfold effK; rw [HD.out]; rfl)
        clear hij hv1
        go_wp2_with (first | (go_at_call 57; refine (isValue_impl _ _).mono ?_; rintro e w' ⟨rfl, rfl⟩))
        go_ret
        exact ⟨by rw [HD.out]; rfl, ⟨E, 0, _, by rw [← HR.out]; exact HV.out, bdF_none, by rw [HW.out]; exact wrOf_zero⟩, by rw [← HE.out]; exact HEE.out, HBS.out⟩
set_option maxRecDepth 100000 in
set_option maxHeartbeats 4000000 in
theorem run_swap (B G D i j : Nat) (A : List Int) (k m f t : Int) (w : World) (h : View w B G D A [] 0 (fun _ => none)) (hB : B ≤ w.heap.size) (hi : i < 32) (hj : j < 32) (m0 : 0 ≤ m) (m1 : m ≤ 1000000) (hA : BdA A) (hf : A.getD i 0 = f) (ht : A.getD j 0 = t) :
    Calls Try.prog 132 #[.agg #[.int .i64 k, .int .i64 i, .int .i64 j, .int .i64 m], .pointer (some ⟨G, 0, none⟩)] w (RunP w B G A 4 i j m f t) := by
  have hb0 := (Below.refl w.heap.size w).alloc (Nat.le_refl _) (.cells #[.int .i64 k, .int .i64 i, .int .i64 j, .int .i64 m] 123)
  have hV := h.fresh (.cells #[.int .i64 k, .int .i64 i, .int .i64 j, .int .i64 m] 123)
  have c1 : (w.alloc (.cells #[.int .i64 k, .int .i64 i, .int .i64 j, .int .i64 m] 123)).cell? ⟨w.heap.size, 1, none⟩ = some (.int .i64 i) := by simp [go_sem]
  have c2 : (w.alloc (.cells #[.int .i64 k, .int .i64 i, .int .i64 j, .int .i64 m] 123)).cell? ⟨w.heap.size, 2, none⟩ = some (.int .i64 j) := by simp [go_sem]
  have c3 : (w.alloc (.cells #[.int .i64 k, .int .i64 i, .int .i64 j, .int .i64 m] 123)).cell? ⟨w.heap.size, 3, none⟩ = some (.int .i64 m) := by simp [go_sem]
  have HB := Lib.hid (hb0.mono hB)
  have HS := Lib.hid hb0.size
  have bf := hA i hi
  have bt := hA j hj
  rw [hf] at bf
  rw [ht] at bt
  have HA := Lib.hid hA
  have HF := Lib.hid hf
  have HT := Lib.hid ht
  have HRD := Lib.hid (reads_both i j f t (fun e => by rw [← hf, ← ht, show i = j by omega]))
  have hwi : (Lit.int .i64 (i : Int)).wf = true := WalkArith.wf_i64 (by omega)
  have hwj : (Lit.int .i64 (j : Int)).wf = true := WalkArith.wf_i64 (by omega)
  have HWI := Lib.hid hwi; have HWJ := Lib.hid hwj
  clear h hb0 hA hf ht hwi hwj
  go_enter Try.func132, Try.ntmps132
  go_wp2_with fail
  have HSZ := Lib.hid (Nat.le_trans hB HS.out)
  obtain ⟨w1, hw1⟩ : ∃ w1, w1 = w.alloc (.cells #[.int .i64 k, .int .i64 i, .int .i64 j, .int .i64 m] 123) := ⟨_, rfl⟩
  rw [← hw1] at hV c1 c2 c3 HB HS HSZ ⊢
  clear hw1
  obtain ⟨E, hE⟩ : ∃ E, E = w.heap.size := ⟨_, rfl⟩
  rw [← hE] at hV c1 c2 c3 HS ⊢
  have HE := Lib.hid hE
  clear hE
  go_region_held3 (fun w' => w'.cell? ⟨E, 1, none⟩ = some (.int .i64 i) ∧ w'.cell? ⟨E, 2, none⟩ = some (.int .i64 j)) (first | exact ⟨c1, c2⟩ | exact ⟨d1, d2⟩ | go_keep)
    ((go_at_call 114; refine (read_any B G E 0 A _ _ _ _ _ (by first | exact hV2 | exact hV2.drew | exact hV | exact hV.drew) (by first | exact HF.out | exact HT.out) (by first | exact HSZ2 | exact HSZ.out) (by first | exact hi | exact hj) HA.out (by first | exact (by simp : ([] : List Ent).length ≤ 100) | exact Nat.le_trans (addR_len _ _) (by simp))).mono ?_; rintro e w2 ⟨rfl, hV2, hD2, hs2, hb2⟩; have d1 : w2.cell? ⟨E, 1, none⟩ = some (.int .i64 i) := (World.cell?_of_block hD2).trans (by first | exact d1 | exact c1); have d2 : w2.cell? ⟨E, 2, none⟩ = some (.int .i64 j) := (World.cell?_of_block hD2).trans (by first | exact d2 | exact c2); have d3 : w2.cell? ⟨E, 3, none⟩ = some (.int .i64 m) := (World.cell?_of_block hD2).trans (by first | exact d3 | exact c3); have HBB : Below B w w2 := (by first | exact HBB.trans hb2 | exact HBB.drew.trans hb2 | exact HB.out.trans hb2 | exact HB.out.drew.trans hb2); have HSZ2 : B ≤ w2.heap.size := (by first | exact Nat.le_trans HSZ2 hs2 | exact Nat.le_trans HSZ.out hs2); have HSE : E ≤ w2.heap.size := (by first | exact Nat.le_trans HSE hs2 | exact Nat.le_trans HS.out hs2)))
  have HV := Lib.hid hV2
  have HBS := Lib.hid HBB
  have HZ := Lib.hid HSZ2
  have HEE := Lib.hid HSE
  clear c1 c2 c3 hV hV2 hD2 hs2 hb2 HBB HSZ2 HSE
  have HR : Hid (addR (addR [] ((i : Int), f)) ((j : Int), t) = rdsK 4 i j f t) := Lib.hid (by rw [HRD.out]; rfl)
  have HW : Hid ((effK 4 i j m f t).wrs = wrOf (updF (updF (fun _ => none) i t) j f) 32) := Lib.hid (by
    rw [wrOf_two (by omega) (by omega) (by omega) (by omega) (by omega) (by omega) (by omega) (by omega)]
    rfl)
  have HBD : Hid (BdF (updF (updF (fun _ => none) i t) j f)) := Lib.hid (bdF_upd (bdF_upd bdF_none (by omega) (by omega)) (by omega) (by omega))
  go_wp2_with fail
  refine (write_any B G E 0 A _ _ i t _ (by first | exact HV.out | exact HV.out.drew) (by exact HZ.out) (by omega) HWI.out (WalkArith.wf_i64 (by omega))).mono ?_; rintro e w3 ⟨rfl, hV3, hD3, hs3, hb3⟩
  have d1 : w3.cell? ⟨E, 1, none⟩ = some (.int .i64 i) := (World.cell?_of_block hD3).trans d1
  have d2 : w3.cell? ⟨E, 2, none⟩ = some (.int .i64 j) := (World.cell?_of_block hD3).trans d2
  have d3 : w3.cell? ⟨E, 3, none⟩ = some (.int .i64 m) := (World.cell?_of_block hD3).trans d3
  go_wp2_with fail
  refine (write_any B G E 1 A _ _ j f _ (by first | exact hV3 | exact hV3.drew) (by exact (Nat.le_trans HZ.out hs3)) (by omega) HWJ.out (WalkArith.wf_i64 (by omega))).mono ?_; rintro e w4 ⟨rfl, hV4, hD4, hs4, hb4⟩
  go_wp2
  go_ret
  exact ⟨rfl, ⟨E, _, _, by rw [← HR.out]; exact hV4, HBD.out, HW.out.symm⟩, by rw [← HE.out]; exact Nat.le_trans HEE.out (Nat.le_trans hs3 hs4), HBS.out.trans (hb3.trans hb4)⟩
set_option maxRecDepth 100000 in
set_option maxHeartbeats 4000000 in
theorem run_add (B G D i j : Nat) (A : List Int) (k m f t : Int) (w : World) (h : View w B G D A [] 0 (fun _ => none)) (hB : B ≤ w.heap.size) (hi : i < 32) (hj : j < 32) (m0 : 0 ≤ m) (m1 : m ≤ 1000000) (hA : BdA A) (hf : A.getD i 0 = f) (ht : A.getD j 0 = t) :
    Calls Try.prog 136 #[.agg #[.int .i64 k, .int .i64 i, .int .i64 j, .int .i64 m], .pointer (some ⟨G, 0, none⟩)] w (RunP w B G A 5 i j m f t) := by
  have hb0 := (Below.refl w.heap.size w).alloc (Nat.le_refl _) (.cells #[.int .i64 k, .int .i64 i, .int .i64 j, .int .i64 m] 124)
  have hV := h.fresh (.cells #[.int .i64 k, .int .i64 i, .int .i64 j, .int .i64 m] 124)
  have c1 : (w.alloc (.cells #[.int .i64 k, .int .i64 i, .int .i64 j, .int .i64 m] 124)).cell? ⟨w.heap.size, 1, none⟩ = some (.int .i64 i) := by simp [go_sem]
  have c2 : (w.alloc (.cells #[.int .i64 k, .int .i64 i, .int .i64 j, .int .i64 m] 124)).cell? ⟨w.heap.size, 2, none⟩ = some (.int .i64 j) := by simp [go_sem]
  have c3 : (w.alloc (.cells #[.int .i64 k, .int .i64 i, .int .i64 j, .int .i64 m] 124)).cell? ⟨w.heap.size, 3, none⟩ = some (.int .i64 m) := by simp [go_sem]
  have HB := Lib.hid (hb0.mono hB)
  have HS := Lib.hid hb0.size
  have bf := hA i hi
  have bt := hA j hj
  rw [hf] at bf
  rw [ht] at bt
  have HA := Lib.hid hA
  have HF := Lib.hid hf
  have HT := Lib.hid ht
  have HRD := Lib.hid (reads_both i j f t (fun e => by rw [← hf, ← ht, show i = j by omega]))
  have hwi : (Lit.int .i64 (i : Int)).wf = true := WalkArith.wf_i64 (by omega)
  have hwj : (Lit.int .i64 (j : Int)).wf = true := WalkArith.wf_i64 (by omega)
  have HWI := Lib.hid hwi; have HWJ := Lib.hid hwj
  clear h hb0 hA hf ht hwi hwj
  go_enter Try.func136, Try.ntmps136
  go_wp2_with fail
  have HSZ := Lib.hid (Nat.le_trans hB HS.out)
  obtain ⟨w1, hw1⟩ : ∃ w1, w1 = w.alloc (.cells #[.int .i64 k, .int .i64 i, .int .i64 j, .int .i64 m] 124) := ⟨_, rfl⟩
  rw [← hw1] at hV c1 c2 c3 HB HS HSZ ⊢
  clear hw1
  obtain ⟨E, hE⟩ : ∃ E, E = w.heap.size := ⟨_, rfl⟩
  rw [← hE] at hV c1 c2 c3 HS ⊢
  have HE := Lib.hid hE
  clear hE
  go_region_held3 (fun w' => w'.cell? ⟨E, 1, none⟩ = some (.int .i64 i) ∧ w'.cell? ⟨E, 2, none⟩ = some (.int .i64 j)) (first | exact ⟨c1, c2⟩ | exact ⟨d1, d2⟩ | go_keep)
    ((go_at_call 114; refine (read_any B G E 0 A _ _ _ _ _ (by first | exact hV2 | exact hV2.drew | exact hV | exact hV.drew) (by first | exact HF.out | exact HT.out) (by first | exact HSZ2 | exact HSZ.out) (by first | exact hi | exact hj) HA.out (by first | exact (by simp : ([] : List Ent).length ≤ 100) | exact Nat.le_trans (addR_len _ _) (by simp))).mono ?_; rintro e w2 ⟨rfl, hV2, hD2, hs2, hb2⟩; have d1 : w2.cell? ⟨E, 1, none⟩ = some (.int .i64 i) := (World.cell?_of_block hD2).trans (by first | exact d1 | exact c1); have d2 : w2.cell? ⟨E, 2, none⟩ = some (.int .i64 j) := (World.cell?_of_block hD2).trans (by first | exact d2 | exact c2); have d3 : w2.cell? ⟨E, 3, none⟩ = some (.int .i64 m) := (World.cell?_of_block hD2).trans (by first | exact d3 | exact c3); have HBB : Below B w w2 := (by first | exact HBB.trans hb2 | exact HBB.drew.trans hb2 | exact HB.out.trans hb2 | exact HB.out.drew.trans hb2); have HSZ2 : B ≤ w2.heap.size := (by first | exact Nat.le_trans HSZ2 hs2 | exact Nat.le_trans HSZ.out hs2); have HSE : E ≤ w2.heap.size := (by first | exact Nat.le_trans HSE hs2 | exact Nat.le_trans HS.out hs2)))
  have HV := Lib.hid hV2
  have HBS := Lib.hid HBB
  have HZ := Lib.hid HSZ2
  have HEE := Lib.hid HSE
  clear c1 c2 c3 hV hV2 hD2 hs2 hb2 HBB HSZ2 HSE
  have HR : Hid (addR (addR [] ((i : Int), f)) ((j : Int), t) = rdsK 5 i j f t) := Lib.hid (by rw [HRD.out]; rfl)
  by_cases hv1 : f + t ≤ 1000000
  · have hv : inB (f + t) 0 1000000 = true := inB_yes (by omega) (by omega)
    have HD : Hid (doneK 5 i j m f t = true) := Lib.hid (by simp [doneK, hv1])
    have HW : Hid ((effK 5 i j m f t).wrs = wrOf (updF (fun _ => none) j (f + t)) 32) := Lib.hid (by
      rw [wrOf_one (by omega) (by omega) (by omega) (by omega)]
      unfold effK; rw [HD.out]; rfl)
    have HBD : Hid (BdF (updF (fun _ => none) j (f + t))) := Lib.hid (bdF_upd bdF_none (by omega) (by omega))
    go_wp2_with (first | (go_at_call 57; refine (isValue_impl _ _).mono ?_; rintro e w' ⟨rfl, rfl⟩))
    refine (write_any B G E 0 A _ _ j (f + t) _ (by first | exact HV.out | exact HV.out.drew) (by exact HZ.out) (by omega) HWJ.out (WalkArith.wf_i64 (by omega))).mono ?_; rintro e w3 ⟨rfl, hV3, hD3, hs3, hb3⟩
    go_wp2
    go_ret
    exact ⟨by rw [HD.out]; rfl, ⟨E, _, _, by rw [← HR.out]; exact hV3, HBD.out, HW.out.symm⟩, by rw [← HE.out]; exact Nat.le_trans HEE.out hs3, HBS.out.trans hb3⟩
  · have hv : inB (f + t) 0 1000000 = false := inB_no (by omega)
    have HD : Hid (doneK 5 i j m f t = false) := Lib.hid (by simp [doneK, hv1])
    have HW : Hid ((effK 5 i j m f t).wrs = []) := Lib.hid (by unfold effK; rw [HD.out]; rfl)
    clear hv1
    go_wp2_with (first | (go_at_call 57; refine (isValue_impl _ _).mono ?_; rintro e w' ⟨rfl, rfl⟩))
    go_ret
    exact ⟨by rw [HD.out]; rfl, ⟨E, 0, _, by rw [← HR.out]; exact HV.out, bdF_none, by rw [HW.out]; exact wrOf_zero⟩, by rw [← HE.out]; exact HEE.out, HBS.out⟩
set_option maxRecDepth 100000 in
set_option maxHeartbeats 4000000 in
theorem run_copy (B G D i j : Nat) (A : List Int) (k m f t : Int) (w : World) (h : View w B G D A [] 0 (fun _ => none)) (hB : B ≤ w.heap.size) (hi : i < 32) (hj : j < 32) (m0 : 0 ≤ m) (m1 : m ≤ 1000000) (hA : BdA A) (hf : A.getD i 0 = f) (ht : A.getD j 0 = t) :
    Calls Try.prog 128 #[.agg #[.int .i64 k, .int .i64 i, .int .i64 j, .int .i64 m], .pointer (some ⟨G, 0, none⟩)] w (RunP w B G A 3 i j m f t) := by
  have hb0 := (Below.refl w.heap.size w).alloc (Nat.le_refl _) (.cells #[.int .i64 k, .int .i64 i, .int .i64 j, .int .i64 m] 122)
  have hV := h.fresh (.cells #[.int .i64 k, .int .i64 i, .int .i64 j, .int .i64 m] 122)
  have c1 : (w.alloc (.cells #[.int .i64 k, .int .i64 i, .int .i64 j, .int .i64 m] 122)).cell? ⟨w.heap.size, 1, none⟩ = some (.int .i64 i) := by simp [go_sem]
  have c2 : (w.alloc (.cells #[.int .i64 k, .int .i64 i, .int .i64 j, .int .i64 m] 122)).cell? ⟨w.heap.size, 2, none⟩ = some (.int .i64 j) := by simp [go_sem]
  have c3 : (w.alloc (.cells #[.int .i64 k, .int .i64 i, .int .i64 j, .int .i64 m] 122)).cell? ⟨w.heap.size, 3, none⟩ = some (.int .i64 m) := by simp [go_sem]
  have HB := Lib.hid (hb0.mono hB)
  have HS := Lib.hid hb0.size
  have bf := hA i hi
  have bt := hA j hj
  rw [hf] at bf
  rw [ht] at bt
  have HA := Lib.hid hA
  have HF := Lib.hid hf
  have HT := Lib.hid ht
  have HRD := Lib.hid (reads_both i j f t (fun e => by rw [← hf, ← ht, show i = j by omega]))
  have hwi : (Lit.int .i64 (i : Int)).wf = true := WalkArith.wf_i64 (by omega)
  have hwj : (Lit.int .i64 (j : Int)).wf = true := WalkArith.wf_i64 (by omega)
  have HWI := Lib.hid hwi; have HWJ := Lib.hid hwj
  clear h hb0 hA hf ht hwi hwj
  go_enter Try.func128, Try.ntmps128
  go_wp2_with fail
  have HSZ := Lib.hid (Nat.le_trans hB HS.out)
  obtain ⟨w1, hw1⟩ : ∃ w1, w1 = w.alloc (.cells #[.int .i64 k, .int .i64 i, .int .i64 j, .int .i64 m] 122) := ⟨_, rfl⟩
  rw [← hw1] at hV c1 c2 c3 HB HS HSZ ⊢
  clear hw1
  obtain ⟨E, hE⟩ : ∃ E, E = w.heap.size := ⟨_, rfl⟩
  rw [← hE] at hV c1 c2 c3 HS ⊢
  have HE := Lib.hid hE
  clear hE
  have HR : Hid (addR [] ((i : Int), f) = rdsK 3 i j f t) := Lib.hid (by simp [addR, rdsK, readsK])
  have HW : Hid ((effK 3 i j m f t).wrs = wrOf (updF (fun _ => none) j f) 32) := Lib.hid (by
    rw [wrOf_one (by omega) (by omega) (by omega) (by omega)]; rfl)
  have HBD : Hid (BdF (updF (fun _ => none) j f)) := Lib.hid (bdF_upd bdF_none (by omega) (by omega))
  have HWV : Hid ((Lit.int .i64 f).wf = true) := Lib.hid (WalkArith.wf_i64 (by omega))
  go_region_held3 (fun w' => w'.cell? ⟨E, 1, none⟩ = some (.int .i64 i) ∧ w'.cell? ⟨E, 2, none⟩ = some (.int .i64 j)) (first | exact ⟨c1, c2⟩ | exact ⟨d1, d2⟩ | exact ⟨e1, e2⟩ | go_keep)
    (first | (go_at_call 114; refine (read_any B G E 0 A _ _ _ _ _ (by first | exact hV2 | exact hV2.drew | exact hV | exact hV.drew) (by first | exact HF.out | exact HT.out) (by first | exact HSZ2 | exact HSZ.out) (by first | exact hi | exact hj) HA.out (by first | exact (by simp : ([] : List Ent).length ≤ 100) | exact Nat.le_trans (addR_len _ _) (by simp))).mono ?_; rintro e w2 ⟨rfl, hV2, hD2, hs2, hb2⟩; have d1 : w2.cell? ⟨E, 1, none⟩ = some (.int .i64 i) := (World.cell?_of_block hD2).trans (by first | exact d1 | exact c1); have d2 : w2.cell? ⟨E, 2, none⟩ = some (.int .i64 j) := (World.cell?_of_block hD2).trans (by first | exact d2 | exact c2); have d3 : w2.cell? ⟨E, 3, none⟩ = some (.int .i64 m) := (World.cell?_of_block hD2).trans (by first | exact d3 | exact c3); have HBB : Below B w w2 := (by first | exact HBB.trans hb2 | exact HBB.drew.trans hb2 | exact HB.out.trans hb2 | exact HB.out.drew.trans hb2); have HSZ2 : B ≤ w2.heap.size := (by first | exact Nat.le_trans HSZ2 hs2 | exact Nat.le_trans HSZ.out hs2); have HSE : E ≤ w2.heap.size := (by first | exact Nat.le_trans HSE hs2 | exact Nat.le_trans HS.out hs2)) | (go_at_call 119; refine (write_any B G E 0 A _ _ _ _ _ (by first | exact hV2 | exact hV2.drew) (by exact HSZ2) (by omega) (by first | exact HWI.out | exact HWJ.out) (by exact HWV.out)).mono ?_; rintro e w3 ⟨rfl, hV3, hD3, hs3, hb3⟩; have e1 : w3.cell? ⟨E, 1, none⟩ = some (.int .i64 i) := (World.cell?_of_block hD3).trans d1; have e2 : w3.cell? ⟨E, 2, none⟩ = some (.int .i64 j) := (World.cell?_of_block hD3).trans d2; have e3 : w3.cell? ⟨E, 3, none⟩ = some (.int .i64 m) := (World.cell?_of_block hD3).trans d3; have HB3 : Below B w w3 := (by first | exact HBB.trans hb3 | exact HBB.drew.trans hb3); have HE3 : E ≤ w3.heap.size := Nat.le_trans HSE hs3))
  go_wp2
  go_ret
  exact ⟨rfl, ⟨E, _, _, by rw [← HR.out]; exact hV3, HBD.out, HW.out.symm⟩, by rw [← HE.out]; exact HE3, HB3⟩
set_option maxRecDepth 100000 in
set_option maxHeartbeats 4000000 in
theorem run_take (B G D i j : Nat) (A : List Int) (k m f t : Int) (w : World) (h : View w B G D A [] 0 (fun _ => none)) (hB : B ≤ w.heap.size) (hi : i < 32) (hj : j < 32) (m0 : 0 ≤ m) (m1 : m ≤ 1000000) (hA : BdA A) (hf : A.getD i 0 = f) (ht : A.getD j 0 = t) :
    Calls Try.prog 140 #[.agg #[.int .i64 k, .int .i64 i, .int .i64 j, .int .i64 m], .pointer (some ⟨G, 0, none⟩)] w (RunP w B G A 6 i j m f t) := by
  have hb0 := (Below.refl w.heap.size w).alloc (Nat.le_refl _) (.cells #[.int .i64 k, .int .i64 i, .int .i64 j, .int .i64 m] 125)
  have hV := h.fresh (.cells #[.int .i64 k, .int .i64 i, .int .i64 j, .int .i64 m] 125)
  have c1 : (w.alloc (.cells #[.int .i64 k, .int .i64 i, .int .i64 j, .int .i64 m] 125)).cell? ⟨w.heap.size, 1, none⟩ = some (.int .i64 i) := by simp [go_sem]
  have c2 : (w.alloc (.cells #[.int .i64 k, .int .i64 i, .int .i64 j, .int .i64 m] 125)).cell? ⟨w.heap.size, 2, none⟩ = some (.int .i64 j) := by simp [go_sem]
  have c3 : (w.alloc (.cells #[.int .i64 k, .int .i64 i, .int .i64 j, .int .i64 m] 125)).cell? ⟨w.heap.size, 3, none⟩ = some (.int .i64 m) := by simp [go_sem]
  have HB := Lib.hid (hb0.mono hB)
  have HS := Lib.hid hb0.size
  have bf := hA i hi
  have bt := hA j hj
  rw [hf] at bf
  rw [ht] at bt
  have HA := Lib.hid hA
  have HF := Lib.hid hf
  have HT := Lib.hid ht
  have HRD := Lib.hid (reads_both i j f t (fun e => by rw [← hf, ← ht, show i = j by omega]))
  have hwi : (Lit.int .i64 (i : Int)).wf = true := WalkArith.wf_i64 (by omega)
  have hwj : (Lit.int .i64 (j : Int)).wf = true := WalkArith.wf_i64 (by omega)
  have HWI := Lib.hid hwi; have HWJ := Lib.hid hwj
  clear h hb0 hA hf ht hwi hwj
  go_enter Try.func140, Try.ntmps140
  go_wp2_with fail
  have HSZ := Lib.hid (Nat.le_trans hB HS.out)
  obtain ⟨w1, hw1⟩ : ∃ w1, w1 = w.alloc (.cells #[.int .i64 k, .int .i64 i, .int .i64 j, .int .i64 m] 125) := ⟨_, rfl⟩
  rw [← hw1] at hV c1 c2 c3 HB HS HSZ ⊢
  clear hw1
  obtain ⟨E, hE⟩ : ∃ E, E = w.heap.size := ⟨_, rfl⟩
  rw [← hE] at hV c1 c2 c3 HS ⊢
  have HE := Lib.hid hE
  clear hE
  have HR : Hid (addR [] ((i : Int), f) = rdsK 6 i j f t) := Lib.hid (by simp [addR, rdsK, readsK])
  by_cases hmf : m < f
  · have HW : Hid ((effK 6 i j m f t).wrs = wrOf (updF (fun _ => none) i (f - m)) 32) := Lib.hid (by
      rw [wrOf_one (by omega) (by omega) (by omega) (by omega)]
      show [((i : Int), max 0 (f - m))] = _
      rw [show max 0 (f - m) = (f - m) by omega])
    have HBD : Hid (BdF (updF (fun _ => none) i (f - m))) := Lib.hid (bdF_upd bdF_none (by omega) (by omega))
    have HWV : Hid ((Lit.int .i64 (f - m)).wf = true) := Lib.hid (WalkArith.wf_i64 (by omega))
    have hw : IntKind.i64.wrap (f - m) = f - m := IntWalk.i64_in _ (by omega)
    go_region_held3 (fun w' => w'.cell? ⟨E, 1, none⟩ = some (.int .i64 i) ∧ w'.cell? ⟨E, 3, none⟩ = some (.int .i64 m)) (first | exact ⟨c1, c3⟩ | exact ⟨d1, d3⟩ | exact ⟨e1, e3⟩ | go_keep)
      (first | (go_at_call 114; refine (read_any B G E 0 A _ _ _ _ _ (by first | exact hV2 | exact hV2.drew | exact hV | exact hV.drew) (by first | exact HF.out | exact HT.out) (by first | exact HSZ2 | exact HSZ.out) (by first | exact hi | exact hj) HA.out (by first | exact (by simp : ([] : List Ent).length ≤ 100) | exact Nat.le_trans (addR_len _ _) (by simp))).mono ?_; rintro e w2 ⟨rfl, hV2, hD2, hs2, hb2⟩; have d1 : w2.cell? ⟨E, 1, none⟩ = some (.int .i64 i) := (World.cell?_of_block hD2).trans (by first | exact d1 | exact c1); have d2 : w2.cell? ⟨E, 2, none⟩ = some (.int .i64 j) := (World.cell?_of_block hD2).trans (by first | exact d2 | exact c2); have d3 : w2.cell? ⟨E, 3, none⟩ = some (.int .i64 m) := (World.cell?_of_block hD2).trans (by first | exact d3 | exact c3); have HBB : Below B w w2 := (by first | exact HBB.trans hb2 | exact HBB.drew.trans hb2 | exact HB.out.trans hb2 | exact HB.out.drew.trans hb2); have HSZ2 : B ≤ w2.heap.size := (by first | exact Nat.le_trans HSZ2 hs2 | exact Nat.le_trans HSZ.out hs2); have HSE : E ≤ w2.heap.size := (by first | exact Nat.le_trans HSE hs2 | exact Nat.le_trans HS.out hs2)) | (go_at_call 119; refine (write_any B G E 0 A _ _ _ _ _ (by first | exact hV2 | exact hV2.drew) (by exact HSZ2) (by omega) (by first | exact HWI.out | exact HWJ.out) (by exact HWV.out)).mono ?_; rintro e w3 ⟨rfl, hV3, hD3, hs3, hb3⟩; have e1 : w3.cell? ⟨E, 1, none⟩ = some (.int .i64 i) := (World.cell?_of_block hD3).trans d1; have e2 : w3.cell? ⟨E, 2, none⟩ = some (.int .i64 j) := (World.cell?_of_block hD3).trans d2; have e3 : w3.cell? ⟨E, 3, none⟩ = some (.int .i64 m) := (World.cell?_of_block hD3).trans d3; have HB3 : Below B w w3 := (by first | exact HBB.trans hb3 | exact HBB.drew.trans hb3); have HE3 : E ≤ w3.heap.size := Nat.le_trans HSE hs3))
    all_goals
      go_wp2
      go_ret
      exact ⟨rfl, ⟨E, _, _, by rw [← HR.out]; exact hV3, HBD.out, HW.out.symm⟩, by rw [← HE.out]; exact HE3, HB3⟩
  · have HW : Hid ((effK 6 i j m f t).wrs = wrOf (updF (fun _ => none) i 0) 32) := Lib.hid (by
      rw [wrOf_one (by omega) (by omega) (by omega) (by omega)]
      show [((i : Int), max 0 (f - m))] = _
      rw [show max 0 (f - m) = 0 by omega])
    have HBD : Hid (BdF (updF (fun _ => none) i 0)) := Lib.hid (bdF_upd bdF_none (by omega) (by omega))
    have HWV : Hid ((Lit.int .i64 0).wf = true) := Lib.hid (WalkArith.wf_i64 (by omega))
    have hw : IntKind.i64.wrap (f - m) = f - m := IntWalk.i64_in _ (by omega)
    have hq : (m < f) = False := eq_false hmf
    clear hmf
    go_region_held3 (fun w' => w'.cell? ⟨E, 1, none⟩ = some (.int .i64 i) ∧ w'.cell? ⟨E, 3, none⟩ = some (.int .i64 m)) (first | exact ⟨c1, c3⟩ | exact ⟨d1, d3⟩ | exact ⟨e1, e3⟩ | go_keep)
      (first | (go_at_call 114; refine (read_any B G E 0 A _ _ _ _ _ (by first | exact hV2 | exact hV2.drew | exact hV | exact hV.drew) (by first | exact HF.out | exact HT.out) (by first | exact HSZ2 | exact HSZ.out) (by first | exact hi | exact hj) HA.out (by first | exact (by simp : ([] : List Ent).length ≤ 100) | exact Nat.le_trans (addR_len _ _) (by simp))).mono ?_; rintro e w2 ⟨rfl, hV2, hD2, hs2, hb2⟩; have d1 : w2.cell? ⟨E, 1, none⟩ = some (.int .i64 i) := (World.cell?_of_block hD2).trans (by first | exact d1 | exact c1); have d2 : w2.cell? ⟨E, 2, none⟩ = some (.int .i64 j) := (World.cell?_of_block hD2).trans (by first | exact d2 | exact c2); have d3 : w2.cell? ⟨E, 3, none⟩ = some (.int .i64 m) := (World.cell?_of_block hD2).trans (by first | exact d3 | exact c3); have HBB : Below B w w2 := (by first | exact HBB.trans hb2 | exact HBB.drew.trans hb2 | exact HB.out.trans hb2 | exact HB.out.drew.trans hb2); have HSZ2 : B ≤ w2.heap.size := (by first | exact Nat.le_trans HSZ2 hs2 | exact Nat.le_trans HSZ.out hs2); have HSE : E ≤ w2.heap.size := (by first | exact Nat.le_trans HSE hs2 | exact Nat.le_trans HS.out hs2)) | (go_at_call 119; refine (write_any B G E 0 A _ _ _ _ _ (by first | exact hV2 | exact hV2.drew) (by exact HSZ2) (by omega) (by first | exact HWI.out | exact HWJ.out) (by exact HWV.out)).mono ?_; rintro e w3 ⟨rfl, hV3, hD3, hs3, hb3⟩; have e1 : w3.cell? ⟨E, 1, none⟩ = some (.int .i64 i) := (World.cell?_of_block hD3).trans d1; have e2 : w3.cell? ⟨E, 2, none⟩ = some (.int .i64 j) := (World.cell?_of_block hD3).trans d2; have e3 : w3.cell? ⟨E, 3, none⟩ = some (.int .i64 m) := (World.cell?_of_block hD3).trans d3; have HB3 : Below B w w3 := (by first | exact HBB.trans hb3 | exact HBB.drew.trans hb3); have HE3 : E ≤ w3.heap.size := Nat.le_trans HSE hs3))
    all_goals
      go_wp2
      go_ret
      exact ⟨rfl, ⟨E, _, _, by rw [← HR.out]; exact hV3, HBD.out, HW.out.symm⟩, by rw [← HE.out]; exact HE3, HB3⟩
end Go.Proofs.Ytpnahncmhldgdaa
