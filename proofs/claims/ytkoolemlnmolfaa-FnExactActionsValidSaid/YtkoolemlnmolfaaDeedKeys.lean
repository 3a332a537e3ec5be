/- The contracts of the program's keys of actions. -/
import Derived.Test.YtkoolemlnmolfaaDeed
namespace Go.Proofs.Ytkoolemlnmolfaa
open Go.RowKit
set_option linter.unusedVariables false
theorem wf_key {a : Int} (h : 0 ≤ a ∧ a ≤ 31) : (Lit.int .i64 a).wf = true := WalkArith.wf_i64 (by omega)
/-- A literal of ints is new. -/
theorem newLN_lit {w w0 : World} (l : List Int) (hb : Below w.heap.size w w0) (hl : l.length ≤ 1000) (hw : ∀ x ∈ l, (Lit.int .i64 x).wf = true) :
    NewLN w l (.returned (.slice (some ⟨w0.heap.size, 0, none⟩) l.length l.length)) (w0.alloc (.cells (l.map (Value.int .i64)).toArray 3)) :=
  ⟨_, rfl, (own_lit (w := w0) 3 1 (l.map (Value.int .i64)).toArray l.length hb.size (by unfold maxLen; omega) (by simp)).1, hw, hb.alloc hb.size _⟩
theorem NewLN.after {w w0 : World} {l : List Int} {e : Ending} {w' : World} (h : NewLN w0 l e w') (hb : Below w.heap.size w w0) : NewLN w l e w' := by
  obtain ⟨v, h1, h2, h3, h4⟩ := h
  exact ⟨v, h1, owns_mono h2 hb.size, h3, hb.trans (h4.mono hb.size)⟩
theorem newLN_nil {w w' : World} (hb : Below w.heap.size w w') : NewLN w [] (.returned (.slice none 0 0)) w' :=
  ⟨_, rfl, World.ownsRow_nil _ _ _ _, fun x hx => (by cases hx), hb⟩
theorem eachOnce_any (a b : Int) (w : World) (ha : 0 ≤ a ∧ a ≤ 31) (hb : 0 ≤ b ∧ b ≤ 31) :
    Calls Try.prog 66 #[.int .i64 a, .int .i64 b] w (NewLN w (onceM a b)) := by
  have HA := Lib.hid ha; have HB := Lib.hid hb; clear ha hb
  by_cases h : a = b
  · subst h
    have e : onceM a a = [a] := by simp [onceM]
    rw [e]; clear e
    go_enter Try.func66, Try.ntmps66
    go_wp2
    go_ret
    exact newLN_lit [a] (Below.refl _ _) (by simp) (fun x hx => by simp at hx; subst hx; exact wf_key HA.out)
  · have e : onceM a b = [a, b] := by simp [onceM, h]
    rw [e]; clear e
    have h2 : (a == b) = false := by simpa using h
    go_enter Try.func66, Try.ntmps66
    go_wp2
    go_ret
    exact newLN_lit [a, b] (Below.refl _ _) (by simp) (fun x hx => by simp at hx; rcases hx with rfl | rfl; exact wf_key HA.out; exact wf_key HB.out)
theorem ascending_any (a b : Int) (w : World) (ha : 0 ≤ a ∧ a ≤ 31) (hb : 0 ≤ b ∧ b ≤ 31) :
    Calls Try.prog 67 #[.int .i64 a, .int .i64 b] w (NewLN w (ascM a b)) := by
  have HA := Lib.hid ha; have HB := Lib.hid hb; clear ha hb
  by_cases h : b < a
  · have h2 : a ≥ b := by omega
    have e : ascM a b = onceM b a := by unfold ascM; rw [show min a b = b by omega, show max a b = a by omega]
    rw [e]; clear e h2
    go_enter Try.func67, Try.ntmps67
    go_wp2_with (first | (go_at_call 66; refine (eachOnce_any _ _ _ HB.out HA.out).mono ?_; rintro e w1 ⟨v, rfl, hn⟩))
    go_ret
    exact ⟨_, rfl, hn⟩
  · have e : ascM a b = onceM a b := by unfold ascM; rw [show min a b = a by omega, show max a b = b by omega]
    rw [e]; clear e
    by_cases h3 : a < b
    · go_enter Try.func67, Try.ntmps67
      go_wp2_with (first | (go_at_call 66; refine (eachOnce_any _ _ _ HA.out HB.out).mono ?_; rintro e w1 ⟨v, rfl, hn⟩))
      go_ret
      exact ⟨_, rfl, hn⟩
    · obtain rfl : a = b := by omega
      clear h h3
      go_enter Try.func67, Try.ntmps67
      go_wp2_with (first | (go_at_call 66; refine (eachOnce_any _ _ _ HA.out HB.out).mono ?_; rintro e w1 ⟨v, rfl, hn⟩))
      go_ret
      exact ⟨_, rfl, hn⟩
theorem reads_put (k s d m : Int) (w : World) (hs : 0 ≤ s ∧ s ≤ 31) (hd : 0 ≤ d ∧ d ≤ 31) :
    Calls Try.prog 60 #[.agg #[.int .i64 k, .int .i64 s, .int .i64 d, .int .i64 m]] w (NewLN w ([])) := by
  have HA := Lib.hid hs; have HB := Lib.hid hd; clear hs hd
  go_enter Try.func60, Try.ntmps60
  go_wp2
  go_ret
  exact newLN_nil ((Below.refl _ _).alloc (Nat.le_refl _) _)
theorem reads_move (k s d m : Int) (w : World) (hs : 0 ≤ s ∧ s ≤ 31) (hd : 0 ≤ d ∧ d ≤ 31) :
    Calls Try.prog 63 #[.agg #[.int .i64 k, .int .i64 s, .int .i64 d, .int .i64 m]] w (NewLN w (onceM s d)) := by
  have HA := Lib.hid hs; have HB := Lib.hid hd; clear hs hd
  go_enter Try.func63, Try.ntmps63
  go_wp2_with (first | (go_at_call 66; refine (eachOnce_any _ _ _ HA.out HB.out).mono ?_; rintro e w1 ⟨v, rfl, hn⟩))
  go_ret
  exact NewLN.after ⟨_, rfl, hn⟩ ((Below.refl _ _).alloc (Nat.le_refl _) _)
theorem reads_copy (k s d m : Int) (w : World) (hs : 0 ≤ s ∧ s ≤ 31) (hd : 0 ≤ d ∧ d ≤ 31) :
    Calls Try.prog 68 #[.agg #[.int .i64 k, .int .i64 s, .int .i64 d, .int .i64 m]] w (NewLN w ([s])) := by
  have HA := Lib.hid hs; have HB := Lib.hid hd; clear hs hd
  go_enter Try.func68, Try.ntmps68
  go_wp2
  go_ret
  have h := newLN_lit (w := w) (w0 := w.alloc (.cells #[.int .i64 k, .int .i64 s, .int .i64 d, .int .i64 m] 65)) [s] ((Below.refl _ _).alloc (Nat.le_refl _) _) (by simp) (fun x hx => by simp at hx; subst hx; exact wf_key HA.out)
  simpa using h
theorem reads_swap (k s d m : Int) (w : World) (hs : 0 ≤ s ∧ s ≤ 31) (hd : 0 ≤ d ∧ d ≤ 31) :
    Calls Try.prog 71 #[.agg #[.int .i64 k, .int .i64 s, .int .i64 d, .int .i64 m]] w (NewLN w (onceM s d)) := by
  have HA := Lib.hid hs; have HB := Lib.hid hd; clear hs hd
  go_enter Try.func71, Try.ntmps71
  go_wp2_with (first | (go_at_call 66; refine (eachOnce_any _ _ _ HA.out HB.out).mono ?_; rintro e w1 ⟨v, rfl, hn⟩))
  go_ret
  exact NewLN.after ⟨_, rfl, hn⟩ ((Below.refl _ _).alloc (Nat.le_refl _) _)
theorem reads_add (k s d m : Int) (w : World) (hs : 0 ≤ s ∧ s ≤ 31) (hd : 0 ≤ d ∧ d ≤ 31) :
    Calls Try.prog 74 #[.agg #[.int .i64 k, .int .i64 s, .int .i64 d, .int .i64 m]] w (NewLN w (onceM s d)) := by
  have HA := Lib.hid hs; have HB := Lib.hid hd; clear hs hd
  go_enter Try.func74, Try.ntmps74
  go_wp2_with (first | (go_at_call 66; refine (eachOnce_any _ _ _ HA.out HB.out).mono ?_; rintro e w1 ⟨v, rfl, hn⟩))
  go_ret
  exact NewLN.after ⟨_, rfl, hn⟩ ((Below.refl _ _).alloc (Nat.le_refl _) _)
theorem reads_take (k s d m : Int) (w : World) (hs : 0 ≤ s ∧ s ≤ 31) (hd : 0 ≤ d ∧ d ≤ 31) :
    Calls Try.prog 77 #[.agg #[.int .i64 k, .int .i64 s, .int .i64 d, .int .i64 m]] w (NewLN w ([s])) := by
  have HA := Lib.hid hs; have HB := Lib.hid hd; clear hs hd
  go_enter Try.func77, Try.ntmps77
  go_wp2
  go_ret
  have h := newLN_lit (w := w) (w0 := w.alloc (.cells #[.int .i64 k, .int .i64 s, .int .i64 d, .int .i64 m] 68)) [s] ((Below.refl _ _).alloc (Nat.le_refl _) _) (by simp) (fun x hx => by simp at hx; subst hx; exact wf_key HA.out)
  simpa using h
theorem writes_put (k s d m : Int) (w : World) (hs : 0 ≤ s ∧ s ≤ 31) (hd : 0 ≤ d ∧ d ≤ 31) :
    Calls Try.prog 62 #[.agg #[.int .i64 k, .int .i64 s, .int .i64 d, .int .i64 m]] w (NewLN w ([s])) := by
  have HA := Lib.hid hs; have HB := Lib.hid hd; clear hs hd
  go_enter Try.func62, Try.ntmps62
  go_wp2
  go_ret
  have h := newLN_lit (w := w) (w0 := w.alloc (.cells #[.int .i64 k, .int .i64 s, .int .i64 d, .int .i64 m] 63)) [s] ((Below.refl _ _).alloc (Nat.le_refl _) _) (by simp) (fun x hx => by simp at hx; subst hx; exact wf_key HA.out)
  simpa using h
theorem writes_move (k s d m : Int) (w : World) (hs : 0 ≤ s ∧ s ≤ 31) (hd : 0 ≤ d ∧ d ≤ 31) :
    Calls Try.prog 65 #[.agg #[.int .i64 k, .int .i64 s, .int .i64 d, .int .i64 m]] w (NewLN w (ascM s d)) := by
  have HA := Lib.hid hs; have HB := Lib.hid hd; clear hs hd
  go_enter Try.func65, Try.ntmps65
  go_wp2_with (first | (go_at_call 67; refine (ascending_any _ _ _ HA.out HB.out).mono ?_; rintro e w1 ⟨v, rfl, hn⟩))
  go_ret
  exact NewLN.after ⟨_, rfl, hn⟩ ((Below.refl _ _).alloc (Nat.le_refl _) _)
theorem writes_copy (k s d m : Int) (w : World) (hs : 0 ≤ s ∧ s ≤ 31) (hd : 0 ≤ d ∧ d ≤ 31) :
    Calls Try.prog 70 #[.agg #[.int .i64 k, .int .i64 s, .int .i64 d, .int .i64 m]] w (NewLN w ([d])) := by
  have HA := Lib.hid hs; have HB := Lib.hid hd; clear hs hd
  go_enter Try.func70, Try.ntmps70
  go_wp2
  go_ret
  have h := newLN_lit (w := w) (w0 := w.alloc (.cells #[.int .i64 k, .int .i64 s, .int .i64 d, .int .i64 m] 65)) [d] ((Below.refl _ _).alloc (Nat.le_refl _) _) (by simp) (fun x hx => by simp at hx; subst hx; exact wf_key HB.out)
  simpa using h
theorem writes_swap (k s d m : Int) (w : World) (hs : 0 ≤ s ∧ s ≤ 31) (hd : 0 ≤ d ∧ d ≤ 31) :
    Calls Try.prog 73 #[.agg #[.int .i64 k, .int .i64 s, .int .i64 d, .int .i64 m]] w (NewLN w (ascM s d)) := by
  have HA := Lib.hid hs; have HB := Lib.hid hd; clear hs hd
  go_enter Try.func73, Try.ntmps73
  go_wp2_with (first | (go_at_call 67; refine (ascending_any _ _ _ HA.out HB.out).mono ?_; rintro e w1 ⟨v, rfl, hn⟩))
  go_ret
  exact NewLN.after ⟨_, rfl, hn⟩ ((Below.refl _ _).alloc (Nat.le_refl _) _)
theorem writes_add (k s d m : Int) (w : World) (hs : 0 ≤ s ∧ s ≤ 31) (hd : 0 ≤ d ∧ d ≤ 31) :
    Calls Try.prog 76 #[.agg #[.int .i64 k, .int .i64 s, .int .i64 d, .int .i64 m]] w (NewLN w ([d])) := by
  have HA := Lib.hid hs; have HB := Lib.hid hd; clear hs hd
  go_enter Try.func76, Try.ntmps76
  go_wp2
  go_ret
  have h := newLN_lit (w := w) (w0 := w.alloc (.cells #[.int .i64 k, .int .i64 s, .int .i64 d, .int .i64 m] 67)) [d] ((Below.refl _ _).alloc (Nat.le_refl _) _) (by simp) (fun x hx => by simp at hx; subst hx; exact wf_key HB.out)
  simpa using h
theorem writes_take (k s d m : Int) (w : World) (hs : 0 ≤ s ∧ s ≤ 31) (hd : 0 ≤ d ∧ d ≤ 31) :
    Calls Try.prog 79 #[.agg #[.int .i64 k, .int .i64 s, .int .i64 d, .int .i64 m]] w (NewLN w ([s])) := by
  have HA := Lib.hid hs; have HB := Lib.hid hd; clear hs hd
  go_enter Try.func79, Try.ntmps79
  go_wp2
  go_ret
  have h := newLN_lit (w := w) (w0 := w.alloc (.cells #[.int .i64 k, .int .i64 s, .int .i64 d, .int .i64 m] 68)) [s] ((Below.refl _ _).alloc (Nat.le_refl _) _) (by simp) (fun x hx => by simp at hx; subst hx; exact wf_key HA.out)
  simpa using h
theorem readsM_no {x : Acn} (h : actB x = false) : readsM x = [] := by simp [readsM, h]
set_option maxHeartbeats 4000000 in
theorem actionReads_impl (k s d m : Int) (w : World) :
    Calls Try.prog 21 #[.agg #[.int .i64 k, .int .i64 s, .int .i64 d, .int .i64 m]] w (NewLN w (readsM ⟨k, s, d, m⟩)) := by
  rcases kind_cases k with rfl | rfl | rfl | rfl | rfl | rfl | hk
  · cases hv : actB ⟨1, s, d, m⟩ with
    | false =>
      rw [readsM_no hv]
      go_enter Try.func21, Try.ntmps21
      go_wp2_with (first | (go_at_call 29; refine (validDeed_put_no _ _ _ _ hv).mono ?_; rintro e w1 ⟨rfl, hb1⟩))
      go_ret
      exact newLN_nil (((Below.refl _ _).alloc (Nat.le_refl _) _).trans (hb1.mono (by simp)))
    | true =>
      have hbd := actB_bd hv
      have e : readsM ⟨1, s, d, m⟩ = [] := by simp [readsM, hv, readsK]
      rw [e]; clear e
      have hm : ∀ (q : Nat) (w : World), (method (q + 1) 63 (.agg #[.int .i64 1, .int .i64 s, .int .i64 d, .int .i64 m]) "loop.example/blockexecutor/impl.reads").run Try.prog w = .ok (60, .agg #[.int .i64 1, .int .i64 s, .int .i64 d, .int .i64 m]) w := fun _ _ => by kernel_rfl
      have HBD := Lib.hid hbd; clear hbd
      have HV := Lib.hid hv; clear hv
      go_enter Try.func21, Try.ntmps21
      go_wp2_with (first | (go_at_call 29; refine (validDeed_put_yes _ _ _ _ HV.out).mono ?_; rintro e w1 ⟨rfl, hb1⟩) | (go_at_call 60; refine (reads_put _ _ _ _ _ HBD.out.1 HBD.out.2.1).mono ?_; rintro e w2 ⟨v, rfl, hn⟩))
      go_ret
      exact NewLN.after ⟨_, rfl, hn⟩ (((Below.refl _ _).alloc (Nat.le_refl _) _).trans (hb1.mono (by simp)))
  · cases hv : actB ⟨2, s, d, m⟩ with
    | false =>
      rw [readsM_no hv]
      go_enter Try.func21, Try.ntmps21
      go_wp2_with (first | (go_at_call 29; refine (validDeed_move_no _ _ _ _ hv).mono ?_; rintro e w1 ⟨rfl, hb1⟩))
      go_ret
      exact newLN_nil (((Below.refl _ _).alloc (Nat.le_refl _) _).trans (hb1.mono (by simp)))
    | true =>
      have hbd := actB_bd hv
      have e : readsM ⟨2, s, d, m⟩ = onceM s d := by simp [readsM, hv, readsK]
      rw [e]; clear e
      have hm : ∀ (q : Nat) (w : World), (method (q + 1) 64 (.agg #[.int .i64 2, .int .i64 s, .int .i64 d, .int .i64 m]) "loop.example/blockexecutor/impl.reads").run Try.prog w = .ok (63, .agg #[.int .i64 2, .int .i64 s, .int .i64 d, .int .i64 m]) w := fun _ _ => by kernel_rfl
      have HBD := Lib.hid hbd; clear hbd
      have HV := Lib.hid hv; clear hv
      go_enter Try.func21, Try.ntmps21
      go_wp2_with (first | (go_at_call 29; refine (validDeed_move_yes _ _ _ _ HV.out).mono ?_; rintro e w1 ⟨rfl, hb1⟩) | (go_at_call 63; refine (reads_move _ _ _ _ _ HBD.out.1 HBD.out.2.1).mono ?_; rintro e w2 ⟨v, rfl, hn⟩))
      go_ret
      exact NewLN.after ⟨_, rfl, hn⟩ (((Below.refl _ _).alloc (Nat.le_refl _) _).trans (hb1.mono (by simp)))
  · cases hv : actB ⟨3, s, d, m⟩ with
    | false =>
      rw [readsM_no hv]
      go_enter Try.func21, Try.ntmps21
      go_wp2_with (first | (go_at_call 29; refine (validDeed_copy_no _ _ _ _ hv).mono ?_; rintro e w1 ⟨rfl, hb1⟩))
      go_ret
      exact newLN_nil (((Below.refl _ _).alloc (Nat.le_refl _) _).trans (hb1.mono (by simp)))
    | true =>
      have hbd := actB_bd hv
      have e : readsM ⟨3, s, d, m⟩ = [s] := by simp [readsM, hv, readsK]
      rw [e]; clear e
      have hm : ∀ (q : Nat) (w : World), (method (q + 1) 65 (.agg #[.int .i64 3, .int .i64 s, .int .i64 d, .int .i64 m]) "loop.example/blockexecutor/impl.reads").run Try.prog w = .ok (68, .agg #[.int .i64 3, .int .i64 s, .int .i64 d, .int .i64 m]) w := fun _ _ => by kernel_rfl
      have HBD := Lib.hid hbd; clear hbd
      have HV := Lib.hid hv; clear hv
      go_enter Try.func21, Try.ntmps21
      go_wp2_with (first | (go_at_call 29; refine (validDeed_copy_yes _ _ _ _ HV.out).mono ?_; rintro e w1 ⟨rfl, hb1⟩) | (go_at_call 68; refine (reads_copy _ _ _ _ _ HBD.out.1 HBD.out.2.1).mono ?_; rintro e w2 ⟨v, rfl, hn⟩))
      go_ret
      exact NewLN.after ⟨_, rfl, hn⟩ (((Below.refl _ _).alloc (Nat.le_refl _) _).trans (hb1.mono (by simp)))
  · cases hv : actB ⟨4, s, d, m⟩ with
    | false =>
      rw [readsM_no hv]
      go_enter Try.func21, Try.ntmps21
      go_wp2_with (first | (go_at_call 29; refine (validDeed_swap_no _ _ _ _ hv).mono ?_; rintro e w1 ⟨rfl, hb1⟩))
      go_ret
      exact newLN_nil (((Below.refl _ _).alloc (Nat.le_refl _) _).trans (hb1.mono (by simp)))
    | true =>
      have hbd := actB_bd hv
      have e : readsM ⟨4, s, d, m⟩ = onceM s d := by simp [readsM, hv, readsK]
      rw [e]; clear e
      have hm : ∀ (q : Nat) (w : World), (method (q + 1) 66 (.agg #[.int .i64 4, .int .i64 s, .int .i64 d, .int .i64 m]) "loop.example/blockexecutor/impl.reads").run Try.prog w = .ok (71, .agg #[.int .i64 4, .int .i64 s, .int .i64 d, .int .i64 m]) w := fun _ _ => by kernel_rfl
      have HBD := Lib.hid hbd; clear hbd
      have HV := Lib.hid hv; clear hv
      go_enter Try.func21, Try.ntmps21
      go_wp2_with (first | (go_at_call 29; refine (validDeed_swap_yes _ _ _ _ HV.out).mono ?_; rintro e w1 ⟨rfl, hb1⟩) | (go_at_call 71; refine (reads_swap _ _ _ _ _ HBD.out.1 HBD.out.2.1).mono ?_; rintro e w2 ⟨v, rfl, hn⟩))
      go_ret
      exact NewLN.after ⟨_, rfl, hn⟩ (((Below.refl _ _).alloc (Nat.le_refl _) _).trans (hb1.mono (by simp)))
  · cases hv : actB ⟨5, s, d, m⟩ with
    | false =>
      rw [readsM_no hv]
      go_enter Try.func21, Try.ntmps21
      go_wp2_with (first | (go_at_call 29; refine (validDeed_add_no _ _ _ _ hv).mono ?_; rintro e w1 ⟨rfl, hb1⟩))
      go_ret
      exact newLN_nil (((Below.refl _ _).alloc (Nat.le_refl _) _).trans (hb1.mono (by simp)))
    | true =>
      have hbd := actB_bd hv
      have e : readsM ⟨5, s, d, m⟩ = onceM s d := by simp [readsM, hv, readsK]
      rw [e]; clear e
      have hm : ∀ (q : Nat) (w : World), (method (q + 1) 67 (.agg #[.int .i64 5, .int .i64 s, .int .i64 d, .int .i64 m]) "loop.example/blockexecutor/impl.reads").run Try.prog w = .ok (74, .agg #[.int .i64 5, .int .i64 s, .int .i64 d, .int .i64 m]) w := fun _ _ => by kernel_rfl
      have HBD := Lib.hid hbd; clear hbd
      have HV := Lib.hid hv; clear hv
      go_enter Try.func21, Try.ntmps21
      go_wp2_with (first | (go_at_call 29; refine (validDeed_add_yes _ _ _ _ HV.out).mono ?_; rintro e w1 ⟨rfl, hb1⟩) | (go_at_call 74; refine (reads_add _ _ _ _ _ HBD.out.1 HBD.out.2.1).mono ?_; rintro e w2 ⟨v, rfl, hn⟩))
      go_ret
      exact NewLN.after ⟨_, rfl, hn⟩ (((Below.refl _ _).alloc (Nat.le_refl _) _).trans (hb1.mono (by simp)))
  · cases hv : actB ⟨6, s, d, m⟩ with
    | false =>
      rw [readsM_no hv]
      go_enter Try.func21, Try.ntmps21
      go_wp2_with (first | (go_at_call 29; refine (validDeed_take_no _ _ _ _ hv).mono ?_; rintro e w1 ⟨rfl, hb1⟩))
      go_ret
      exact newLN_nil (((Below.refl _ _).alloc (Nat.le_refl _) _).trans (hb1.mono (by simp)))
    | true =>
      have hbd := actB_bd hv
      have e : readsM ⟨6, s, d, m⟩ = [s] := by simp [readsM, hv, readsK]
      rw [e]; clear e
      have hm : ∀ (q : Nat) (w : World), (method (q + 1) 68 (.agg #[.int .i64 6, .int .i64 s, .int .i64 d, .int .i64 m]) "loop.example/blockexecutor/impl.reads").run Try.prog w = .ok (77, .agg #[.int .i64 6, .int .i64 s, .int .i64 d, .int .i64 m]) w := fun _ _ => by kernel_rfl
      have HBD := Lib.hid hbd; clear hbd
      have HV := Lib.hid hv; clear hv
      go_enter Try.func21, Try.ntmps21
      go_wp2_with (first | (go_at_call 29; refine (validDeed_take_yes _ _ _ _ HV.out).mono ?_; rintro e w1 ⟨rfl, hb1⟩) | (go_at_call 77; refine (reads_take _ _ _ _ _ HBD.out.1 HBD.out.2.1).mono ?_; rintro e w2 ⟨v, rfl, hn⟩))
      go_ret
      exact NewLN.after ⟨_, rfl, hn⟩ (((Below.refl _ _).alloc (Nat.le_refl _) _).trans (hb1.mono (by simp)))
  · rw [readsM_no (actB_kind hk)]
    have HK := Lib.hid hk; clear hk
    go_enter Try.func21, Try.ntmps21
    go_wp2_with (first | (go_at_call 29; refine (validDeed_none _ _ _ _ _ HK.out).mono ?_; rintro e w1 ⟨rfl, hb1⟩))
    go_ret
    exact newLN_nil (((Below.refl _ _).alloc (Nat.le_refl _) _).trans (hb1.mono (by simp)))
theorem writesM_no {x : Acn} (h : actB x = false) : writesM x = [] := by simp [writesM, h]
set_option maxHeartbeats 4000000 in
theorem actionWrites_impl (k s d m : Int) (w : World) :
    Calls Try.prog 26 #[.agg #[.int .i64 k, .int .i64 s, .int .i64 d, .int .i64 m]] w (NewLN w (writesM ⟨k, s, d, m⟩)) := by
  rcases kind_cases k with rfl | rfl | rfl | rfl | rfl | rfl | hk
  · cases hv : actB ⟨1, s, d, m⟩ with
    | false =>
      rw [writesM_no hv]
      go_enter Try.func26, Try.ntmps26
      go_wp2_with (first | (go_at_call 29; refine (validDeed_put_no _ _ _ _ hv).mono ?_; rintro e w1 ⟨rfl, hb1⟩))
      go_ret
      exact newLN_nil (((Below.refl _ _).alloc (Nat.le_refl _) _).trans (hb1.mono (by simp)))
    | true =>
      have hbd := actB_bd hv
      have e : writesM ⟨1, s, d, m⟩ = [s] := by simp [writesM, hv, writesK]
      rw [e]; clear e
      have hm : ∀ (q : Nat) (w : World), (method (q + 1) 63 (.agg #[.int .i64 1, .int .i64 s, .int .i64 d, .int .i64 m]) "loop.example/blockexecutor/impl.writes").run Try.prog w = .ok (62, .agg #[.int .i64 1, .int .i64 s, .int .i64 d, .int .i64 m]) w := fun _ _ => by kernel_rfl
      have HBD := Lib.hid hbd; clear hbd
      have HV := Lib.hid hv; clear hv
      go_enter Try.func26, Try.ntmps26
      go_wp2_with (first | (go_at_call 29; refine (validDeed_put_yes _ _ _ _ HV.out).mono ?_; rintro e w1 ⟨rfl, hb1⟩) | (go_at_call 62; refine (writes_put _ _ _ _ _ HBD.out.1 HBD.out.2.1).mono ?_; rintro e w2 ⟨v, rfl, hn⟩))
      go_ret
      exact NewLN.after ⟨_, rfl, hn⟩ (((Below.refl _ _).alloc (Nat.le_refl _) _).trans (hb1.mono (by simp)))
  · cases hv : actB ⟨2, s, d, m⟩ with
    | false =>
      rw [writesM_no hv]
      go_enter Try.func26, Try.ntmps26
      go_wp2_with (first | (go_at_call 29; refine (validDeed_move_no _ _ _ _ hv).mono ?_; rintro e w1 ⟨rfl, hb1⟩))
      go_ret
      exact newLN_nil (((Below.refl _ _).alloc (Nat.le_refl _) _).trans (hb1.mono (by simp)))
    | true =>
      have hbd := actB_bd hv
      have e : writesM ⟨2, s, d, m⟩ = ascM s d := by simp [writesM, hv, writesK]
      rw [e]; clear e
      have hm : ∀ (q : Nat) (w : World), (method (q + 1) 64 (.agg #[.int .i64 2, .int .i64 s, .int .i64 d, .int .i64 m]) "loop.example/blockexecutor/impl.writes").run Try.prog w = .ok (65, .agg #[.int .i64 2, .int .i64 s, .int .i64 d, .int .i64 m]) w := fun _ _ => by kernel_rfl
      have HBD := Lib.hid hbd; clear hbd
      have HV := Lib.hid hv; clear hv
      go_enter Try.func26, Try.ntmps26
      go_wp2_with (first | (go_at_call 29; refine (validDeed_move_yes _ _ _ _ HV.out).mono ?_; rintro e w1 ⟨rfl, hb1⟩) | (go_at_call 65; refine (writes_move _ _ _ _ _ HBD.out.1 HBD.out.2.1).mono ?_; rintro e w2 ⟨v, rfl, hn⟩))
      go_ret
      exact NewLN.after ⟨_, rfl, hn⟩ (((Below.refl _ _).alloc (Nat.le_refl _) _).trans (hb1.mono (by simp)))
  · cases hv : actB ⟨3, s, d, m⟩ with
    | false =>
      rw [writesM_no hv]
      go_enter Try.func26, Try.ntmps26
      go_wp2_with (first | (go_at_call 29; refine (validDeed_copy_no _ _ _ _ hv).mono ?_; rintro e w1 ⟨rfl, hb1⟩))
      go_ret
      exact newLN_nil (((Below.refl _ _).alloc (Nat.le_refl _) _).trans (hb1.mono (by simp)))
    | true =>
      have hbd := actB_bd hv
      have e : writesM ⟨3, s, d, m⟩ = [d] := by simp [writesM, hv, writesK]
      rw [e]; clear e
      have hm : ∀ (q : Nat) (w : World), (method (q + 1) 65 (.agg #[.int .i64 3, .int .i64 s, .int .i64 d, .int .i64 m]) "loop.example/blockexecutor/impl.writes").run Try.prog w = .ok (70, .agg #[.int .i64 3, .int .i64 s, .int .i64 d, .int .i64 m]) w := fun _ _ => by kernel_rfl
      have HBD := Lib.hid hbd; clear hbd
      have HV := Lib.hid hv; clear hv
      go_enter Try.func26, Try.ntmps26
      go_wp2_with (first | (go_at_call 29; refine (validDeed_copy_yes _ _ _ _ HV.out).mono ?_; rintro e w1 ⟨rfl, hb1⟩) | (go_at_call 70; refine (writes_copy _ _ _ _ _ HBD.out.1 HBD.out.2.1).mono ?_; rintro e w2 ⟨v, rfl, hn⟩))
      go_ret
      exact NewLN.after ⟨_, rfl, hn⟩ (((Below.refl _ _).alloc (Nat.le_refl _) _).trans (hb1.mono (by simp)))
  · cases hv : actB ⟨4, s, d, m⟩ with
    | false =>
      rw [writesM_no hv]
      go_enter Try.func26, Try.ntmps26
      go_wp2_with (first | (go_at_call 29; refine (validDeed_swap_no _ _ _ _ hv).mono ?_; rintro e w1 ⟨rfl, hb1⟩))
      go_ret
      exact newLN_nil (((Below.refl _ _).alloc (Nat.le_refl _) _).trans (hb1.mono (by simp)))
    | true =>
      have hbd := actB_bd hv
      have e : writesM ⟨4, s, d, m⟩ = ascM s d := by simp [writesM, hv, writesK]
      rw [e]; clear e
      have hm : ∀ (q : Nat) (w : World), (method (q + 1) 66 (.agg #[.int .i64 4, .int .i64 s, .int .i64 d, .int .i64 m]) "loop.example/blockexecutor/impl.writes").run Try.prog w = .ok (73, .agg #[.int .i64 4, .int .i64 s, .int .i64 d, .int .i64 m]) w := fun _ _ => by kernel_rfl
      have HBD := Lib.hid hbd; clear hbd
      have HV := Lib.hid hv; clear hv
      go_enter Try.func26, Try.ntmps26
      go_wp2_with (first | (go_at_call 29; refine (validDeed_swap_yes _ _ _ _ HV.out).mono ?_; rintro e w1 ⟨rfl, hb1⟩) | (go_at_call 73; refine (writes_swap _ _ _ _ _ HBD.out.1 HBD.out.2.1).mono ?_; rintro e w2 ⟨v, rfl, hn⟩))
      go_ret
      exact NewLN.after ⟨_, rfl, hn⟩ (((Below.refl _ _).alloc (Nat.le_refl _) _).trans (hb1.mono (by simp)))
  · cases hv : actB ⟨5, s, d, m⟩ with
    | false =>
      rw [writesM_no hv]
      go_enter Try.func26, Try.ntmps26
      go_wp2_with (first | (go_at_call 29; refine (validDeed_add_no _ _ _ _ hv).mono ?_; rintro e w1 ⟨rfl, hb1⟩))
      go_ret
      exact newLN_nil (((Below.refl _ _).alloc (Nat.le_refl _) _).trans (hb1.mono (by simp)))
    | true =>
      have hbd := actB_bd hv
      have e : writesM ⟨5, s, d, m⟩ = [d] := by simp [writesM, hv, writesK]
      rw [e]; clear e
      have hm : ∀ (q : Nat) (w : World), (method (q + 1) 67 (.agg #[.int .i64 5, .int .i64 s, .int .i64 d, .int .i64 m]) "loop.example/blockexecutor/impl.writes").run Try.prog w = .ok (76, .agg #[.int .i64 5, .int .i64 s, .int .i64 d, .int .i64 m]) w := fun _ _ => by kernel_rfl
      have HBD := Lib.hid hbd; clear hbd
      have HV := Lib.hid hv; clear hv
      go_enter Try.func26, Try.ntmps26
      go_wp2_with (first | (go_at_call 29; refine (validDeed_add_yes _ _ _ _ HV.out).mono ?_; rintro e w1 ⟨rfl, hb1⟩) | (go_at_call 76; refine (writes_add _ _ _ _ _ HBD.out.1 HBD.out.2.1).mono ?_; rintro e w2 ⟨v, rfl, hn⟩))
      go_ret
      exact NewLN.after ⟨_, rfl, hn⟩ (((Below.refl _ _).alloc (Nat.le_refl _) _).trans (hb1.mono (by simp)))
  · cases hv : actB ⟨6, s, d, m⟩ with
    | false =>
      rw [writesM_no hv]
      go_enter Try.func26, Try.ntmps26
      go_wp2_with (first | (go_at_call 29; refine (validDeed_take_no _ _ _ _ hv).mono ?_; rintro e w1 ⟨rfl, hb1⟩))
      go_ret
      exact newLN_nil (((Below.refl _ _).alloc (Nat.le_refl _) _).trans (hb1.mono (by simp)))
    | true =>
      have hbd := actB_bd hv
      have e : writesM ⟨6, s, d, m⟩ = [s] := by simp [writesM, hv, writesK]
      rw [e]; clear e
      have hm : ∀ (q : Nat) (w : World), (method (q + 1) 68 (.agg #[.int .i64 6, .int .i64 s, .int .i64 d, .int .i64 m]) "loop.example/blockexecutor/impl.writes").run Try.prog w = .ok (79, .agg #[.int .i64 6, .int .i64 s, .int .i64 d, .int .i64 m]) w := fun _ _ => by kernel_rfl
      have HBD := Lib.hid hbd; clear hbd
      have HV := Lib.hid hv; clear hv
      go_enter Try.func26, Try.ntmps26
      go_wp2_with (first | (go_at_call 29; refine (validDeed_take_yes _ _ _ _ HV.out).mono ?_; rintro e w1 ⟨rfl, hb1⟩) | (go_at_call 79; refine (writes_take _ _ _ _ _ HBD.out.1 HBD.out.2.1).mono ?_; rintro e w2 ⟨v, rfl, hn⟩))
      go_ret
      exact NewLN.after ⟨_, rfl, hn⟩ (((Below.refl _ _).alloc (Nat.le_refl _) _).trans (hb1.mono (by simp)))
  · rw [writesM_no (actB_kind hk)]
    have HK := Lib.hid hk; clear hk
    go_enter Try.func26, Try.ntmps26
    go_wp2_with (first | (go_at_call 29; refine (validDeed_none _ _ _ _ _ HK.out).mono ?_; rintro e w1 ⟨rfl, hb1⟩))
    go_ret
    exact newLN_nil (((Below.refl _ _).alloc (Nat.le_refl _) _).trans (hb1.mono (by simp)))
end Go.Proofs.Ytkoolemlnmolfaa
