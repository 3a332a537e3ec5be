/- Texts of ours that stand together: Deed, DeedKeys, ImplActs -/
import Derived.Test.YtakbkomgmajnfaaActs
import Derived.Test.YtakbkomgmajnfaaTwo
/- The contracts of the program's deeds: one kind after the other. -/
namespace Go.Proofs.Ytakbkomgmajnfaa
open Go.RowKit
set_option linter.unusedVariables false
/-- A deed and true; nil and false. -/
def DeedIs (v : Value) (b : Bool) (w : World) (e : Ending) (w' : World) : Prop := e = .returned (.tuple #[v, .bool b]) ∧ Below w.heap.size w w'
theorem deedOf_put (s d m : Int) (w : World) :
    Calls Try.prog 84 #[.agg #[.int .i64 1, .int .i64 s, .int .i64 d, .int .i64 m]] w (DeedIs (.iface 122 (.agg #[.int .i64 1, .int .i64 s, .int .i64 d, .int .i64 m])) true w) := by
  go_enter Try.func84, Try.ntmps84
  go_wp2
  go_ret2
  exact ⟨rfl, (Below.refl _ _).alloc (Nat.le_refl _) _⟩
theorem rest_put (k s d m : Int) (w : World) :
    Calls Try.prog 114 #[.agg #[.int .i64 k, .int .i64 s, .int .i64 d, .int .i64 m]] w (BoolB (decide (d = 0)) w) := by
  by_cases h : d = 0
  · subst h
    go_enter Try.func114, Try.ntmps114
    go_wp2
    go_ret
    exact ⟨rfl, (Below.refl _ _).alloc (Nat.le_refl _) _⟩
  · have e : decide (d = 0) = false := by simpa using h
    have e2 : (d == 0) = false := by simpa using h
    have HE := Lib.hid e
    clear h e
    go_enter Try.func114, Try.ntmps114
    go_wp2
    go_ret
    exact ⟨by rw [HE.out]; rfl, (Below.refl _ _).alloc (Nat.le_refl _) _⟩
theorem deedOf_move (s d m : Int) (w : World) :
    Calls Try.prog 84 #[.agg #[.int .i64 2, .int .i64 s, .int .i64 d, .int .i64 m]] w (DeedIs (.iface 123 (.agg #[.int .i64 2, .int .i64 s, .int .i64 d, .int .i64 m])) true w) := by
  go_enter Try.func84, Try.ntmps84
  go_wp2
  go_ret2
  exact ⟨rfl, (Below.refl _ _).alloc (Nat.le_refl _) _⟩
theorem rest_move (k s d m : Int) (w : World) :
    Calls Try.prog 119 #[.agg #[.int .i64 k, .int .i64 s, .int .i64 d, .int .i64 m]] w (BoolB true w) := by
  go_enter Try.func119, Try.ntmps119
  go_wp2
  go_ret
  exact ⟨rfl, (Below.refl _ _).alloc (Nat.le_refl _) _⟩
theorem deedOf_copy (s d m : Int) (w : World) :
    Calls Try.prog 84 #[.agg #[.int .i64 3, .int .i64 s, .int .i64 d, .int .i64 m]] w (DeedIs (.iface 124 (.agg #[.int .i64 3, .int .i64 s, .int .i64 d, .int .i64 m])) true w) := by
  go_enter Try.func84, Try.ntmps84
  go_wp2
  go_ret2
  exact ⟨rfl, (Below.refl _ _).alloc (Nat.le_refl _) _⟩
theorem rest_copy (k s d m : Int) (w : World) :
    Calls Try.prog 127 #[.agg #[.int .i64 k, .int .i64 s, .int .i64 d, .int .i64 m]] w (BoolB (decide (m = 0)) w) := by
  by_cases h : m = 0
  · subst h
    go_enter Try.func127, Try.ntmps127
    go_wp2
    go_ret
    exact ⟨rfl, (Below.refl _ _).alloc (Nat.le_refl _) _⟩
  · have e : decide (m = 0) = false := by simpa using h
    have e2 : (m == 0) = false := by simpa using h
    have HE := Lib.hid e
    clear h e
    go_enter Try.func127, Try.ntmps127
    go_wp2
    go_ret
    exact ⟨by rw [HE.out]; rfl, (Below.refl _ _).alloc (Nat.le_refl _) _⟩
theorem deedOf_swap (s d m : Int) (w : World) :
    Calls Try.prog 84 #[.agg #[.int .i64 4, .int .i64 s, .int .i64 d, .int .i64 m]] w (DeedIs (.iface 125 (.agg #[.int .i64 4, .int .i64 s, .int .i64 d, .int .i64 m])) true w) := by
  go_enter Try.func84, Try.ntmps84
  go_wp2
  go_ret2
  exact ⟨rfl, (Below.refl _ _).alloc (Nat.le_refl _) _⟩
theorem rest_swap (k s d m : Int) (w : World) :
    Calls Try.prog 131 #[.agg #[.int .i64 k, .int .i64 s, .int .i64 d, .int .i64 m]] w (BoolB (decide (m = 0)) w) := by
  by_cases h : m = 0
  · subst h
    go_enter Try.func131, Try.ntmps131
    go_wp2
    go_ret
    exact ⟨rfl, (Below.refl _ _).alloc (Nat.le_refl _) _⟩
  · have e : decide (m = 0) = false := by simpa using h
    have e2 : (m == 0) = false := by simpa using h
    have HE := Lib.hid e
    clear h e
    go_enter Try.func131, Try.ntmps131
    go_wp2
    go_ret
    exact ⟨by rw [HE.out]; rfl, (Below.refl _ _).alloc (Nat.le_refl _) _⟩
theorem deedOf_add (s d m : Int) (w : World) :
    Calls Try.prog 84 #[.agg #[.int .i64 5, .int .i64 s, .int .i64 d, .int .i64 m]] w (DeedIs (.iface 126 (.agg #[.int .i64 5, .int .i64 s, .int .i64 d, .int .i64 m])) true w) := by
  go_enter Try.func84, Try.ntmps84
  go_wp2
  go_ret2
  exact ⟨rfl, (Below.refl _ _).alloc (Nat.le_refl _) _⟩
theorem rest_add (k s d m : Int) (w : World) :
    Calls Try.prog 135 #[.agg #[.int .i64 k, .int .i64 s, .int .i64 d, .int .i64 m]] w (BoolB (decide (m = 0)) w) := by
  by_cases h : m = 0
  · subst h
    go_enter Try.func135, Try.ntmps135
    go_wp2
    go_ret
    exact ⟨rfl, (Below.refl _ _).alloc (Nat.le_refl _) _⟩
  · have e : decide (m = 0) = false := by simpa using h
    have e2 : (m == 0) = false := by simpa using h
    have HE := Lib.hid e
    clear h e
    go_enter Try.func135, Try.ntmps135
    go_wp2
    go_ret
    exact ⟨by rw [HE.out]; rfl, (Below.refl _ _).alloc (Nat.le_refl _) _⟩
theorem deedOf_take (s d m : Int) (w : World) :
    Calls Try.prog 84 #[.agg #[.int .i64 6, .int .i64 s, .int .i64 d, .int .i64 m]] w (DeedIs (.iface 127 (.agg #[.int .i64 6, .int .i64 s, .int .i64 d, .int .i64 m])) true w) := by
  go_enter Try.func84, Try.ntmps84
  go_wp2
  go_ret2
  exact ⟨rfl, (Below.refl _ _).alloc (Nat.le_refl _) _⟩
theorem rest_take (k s d m : Int) (w : World) :
    Calls Try.prog 139 #[.agg #[.int .i64 k, .int .i64 s, .int .i64 d, .int .i64 m]] w (BoolB (decide (d = 0)) w) := by
  by_cases h : d = 0
  · subst h
    go_enter Try.func139, Try.ntmps139
    go_wp2
    go_ret
    exact ⟨rfl, (Below.refl _ _).alloc (Nat.le_refl _) _⟩
  · have e : decide (d = 0) = false := by simpa using h
    have e2 : (d == 0) = false := by simpa using h
    have HE := Lib.hid e
    clear h e
    go_enter Try.func139, Try.ntmps139
    go_wp2
    go_ret
    exact ⟨by rw [HE.out]; rfl, (Below.refl _ _).alloc (Nat.le_refl _) _⟩
theorem deedOf_none (k s d m : Int) (w : World) (h : k ≠ 1 ∧ k ≠ 2 ∧ k ≠ 3 ∧ k ≠ 4 ∧ k ≠ 5 ∧ k ≠ 6) :
    Calls Try.prog 84 #[.agg #[.int .i64 k, .int .i64 s, .int .i64 d, .int .i64 m]] w (DeedIs .nilIface false w) := by
  obtain ⟨h1, h2, h3, h4, h5, h6⟩ := h
  go_enter Try.func84, Try.ntmps84
  go_wp2
  go_ret2
  exact ⟨rfl, (Below.refl _ _).alloc (Nat.le_refl _) _⟩
theorem validDeed_put_no (s d m : Int) (w : World) (h : actB ⟨1, s, d, m⟩ = false) :
    Calls Try.prog 55 #[.agg #[.int .i64 1, .int .i64 s, .int .i64 d, .int .i64 m]] w (DeedIs .nilIface false w) := by
  have H := Lib.hid h; clear h
  have hm : ∀ (q : Nat) (w : World), (method (q + 1) 122 (.agg #[.int .i64 1, .int .i64 s, .int .i64 d, .int .i64 m]) "loop.example/blockexecutor/impl.restIsZero").run Try.prog w = .ok (114, .agg #[.int .i64 1, .int .i64 s, .int .i64 d, .int .i64 m]) w := fun _ _ => by kernel_rfl
  go_enter Try.func55, Try.ntmps55
  go_wp2_with fail
  refine (deedOf_put _ _ _ _).mono ?_; rintro e w1 ⟨rfl, hb1⟩
  obtain ⟨hc, hf⟩ := bcell hb1
  have hz := hb1.size
  cases e1 : inB s 0 31 with
  | false =>
    go_wp2_with (first | (go_at_call 59; refine (isKey_impl _ _).mono ?_; rintro e w' ⟨rfl, rfl⟩) | (go_at_call 60; refine (isValue_impl _ _).mono ?_; rintro e w' ⟨rfl, rfl⟩) | (go_at_call 114; refine (rest_put _ _ _ _ _).mono ?_; rintro e w2 ⟨rfl, hb2⟩))
    go_ret2
    exact ⟨rfl, ((Below.refl _ _).alloc (Nat.le_refl _) _).trans (hb1.mono (by simp))⟩
  | true =>
  cases e2 : inB d 0 31 with
  | false =>
    go_wp2_with (first | (go_at_call 59; refine (isKey_impl _ _).mono ?_; rintro e w' ⟨rfl, rfl⟩) | (go_at_call 60; refine (isValue_impl _ _).mono ?_; rintro e w' ⟨rfl, rfl⟩) | (go_at_call 114; refine (rest_put _ _ _ _ _).mono ?_; rintro e w2 ⟨rfl, hb2⟩))
    go_ret2
    exact ⟨rfl, ((Below.refl _ _).alloc (Nat.le_refl _) _).trans (hb1.mono (by simp))⟩
  | true =>
  cases e3 : inB m 0 1000000 with
  | false =>
    go_wp2_with (first | (go_at_call 59; refine (isKey_impl _ _).mono ?_; rintro e w' ⟨rfl, rfl⟩) | (go_at_call 60; refine (isValue_impl _ _).mono ?_; rintro e w' ⟨rfl, rfl⟩) | (go_at_call 114; refine (rest_put _ _ _ _ _).mono ?_; rintro e w2 ⟨rfl, hb2⟩))
    go_ret2
    exact ⟨rfl, ((Below.refl _ _).alloc (Nat.le_refl _) _).trans (hb1.mono (by simp))⟩
  | true =>
    have e4 : decide (d = 0) = false := by have := H.out; rw [actB_rest e1 e2 e3] at this; exact this
    have HE := Lib.hid e4; clear e4
    go_wp2_with (first | (go_at_call 59; refine (isKey_impl _ _).mono ?_; rintro e w' ⟨rfl, rfl⟩) | (go_at_call 60; refine (isValue_impl _ _).mono ?_; rintro e w' ⟨rfl, rfl⟩) | (go_at_call 114; refine (rest_put _ _ _ _ _).mono ?_; rintro e w2 ⟨rfl, hb2⟩; rw [HE.out]))
    go_ret2
    exact ⟨rfl, (((Below.refl _ _).alloc (Nat.le_refl _) _).trans (hb1.mono (by simp))).trans (hb2.mono (by simp at hz; omega))⟩
theorem validDeed_put_yes (s d m : Int) (w : World) (h : actB ⟨1, s, d, m⟩ = true) :
    Calls Try.prog 55 #[.agg #[.int .i64 1, .int .i64 s, .int .i64 d, .int .i64 m]] w (DeedIs (.iface 122 (.agg #[.int .i64 1, .int .i64 s, .int .i64 d, .int .i64 m])) true w) := by
  have h' := h
  unfold actB at h'
  simp only [Bool.and_eq_true] at h'
  obtain ⟨⟨⟨e1, e2⟩, e3⟩, e4⟩ := h'
  have e5 : decide (d = 0) = true := e4
  have HE := Lib.hid e5; clear h e4 e5
  have hm : ∀ (q : Nat) (w : World), (method (q + 1) 122 (.agg #[.int .i64 1, .int .i64 s, .int .i64 d, .int .i64 m]) "loop.example/blockexecutor/impl.restIsZero").run Try.prog w = .ok (114, .agg #[.int .i64 1, .int .i64 s, .int .i64 d, .int .i64 m]) w := fun _ _ => by kernel_rfl
  go_enter Try.func55, Try.ntmps55
  go_wp2_with fail
  refine (deedOf_put _ _ _ _).mono ?_; rintro e w1 ⟨rfl, hb1⟩
  obtain ⟨hc, hf⟩ := bcell hb1
  have hz := hb1.size
  go_wp2_with (first | (go_at_call 59; refine (isKey_impl _ _).mono ?_; rintro e w' ⟨rfl, rfl⟩) | (go_at_call 60; refine (isValue_impl _ _).mono ?_; rintro e w' ⟨rfl, rfl⟩) | (go_at_call 114; refine (rest_put _ _ _ _ _).mono ?_; rintro e w2 ⟨rfl, hb2⟩; rw [HE.out]))
  go_ret2
  exact ⟨rfl, (((Below.refl _ _).alloc (Nat.le_refl _) _).trans (hb1.mono (by simp))).trans (hb2.mono (by simp at hz; omega))⟩
theorem validDeed_move_no (s d m : Int) (w : World) (h : actB ⟨2, s, d, m⟩ = false) :
    Calls Try.prog 55 #[.agg #[.int .i64 2, .int .i64 s, .int .i64 d, .int .i64 m]] w (DeedIs .nilIface false w) := by
  have H := Lib.hid h; clear h
  have hm : ∀ (q : Nat) (w : World), (method (q + 1) 123 (.agg #[.int .i64 2, .int .i64 s, .int .i64 d, .int .i64 m]) "loop.example/blockexecutor/impl.restIsZero").run Try.prog w = .ok (119, .agg #[.int .i64 2, .int .i64 s, .int .i64 d, .int .i64 m]) w := fun _ _ => by kernel_rfl
  go_enter Try.func55, Try.ntmps55
  go_wp2_with fail
  refine (deedOf_move _ _ _ _).mono ?_; rintro e w1 ⟨rfl, hb1⟩
  obtain ⟨hc, hf⟩ := bcell hb1
  have hz := hb1.size
  cases e1 : inB s 0 31 with
  | false =>
    go_wp2_with (first | (go_at_call 59; refine (isKey_impl _ _).mono ?_; rintro e w' ⟨rfl, rfl⟩) | (go_at_call 60; refine (isValue_impl _ _).mono ?_; rintro e w' ⟨rfl, rfl⟩) | (go_at_call 119; refine (rest_move _ _ _ _ _).mono ?_; rintro e w2 ⟨rfl, hb2⟩))
    go_ret2
    exact ⟨rfl, ((Below.refl _ _).alloc (Nat.le_refl _) _).trans (hb1.mono (by simp))⟩
  | true =>
  cases e2 : inB d 0 31 with
  | false =>
    go_wp2_with (first | (go_at_call 59; refine (isKey_impl _ _).mono ?_; rintro e w' ⟨rfl, rfl⟩) | (go_at_call 60; refine (isValue_impl _ _).mono ?_; rintro e w' ⟨rfl, rfl⟩) | (go_at_call 119; refine (rest_move _ _ _ _ _).mono ?_; rintro e w2 ⟨rfl, hb2⟩))
    go_ret2
    exact ⟨rfl, ((Below.refl _ _).alloc (Nat.le_refl _) _).trans (hb1.mono (by simp))⟩
  | true =>
  cases e3 : inB m 0 1000000 with
  | false =>
    go_wp2_with (first | (go_at_call 59; refine (isKey_impl _ _).mono ?_; rintro e w' ⟨rfl, rfl⟩) | (go_at_call 60; refine (isValue_impl _ _).mono ?_; rintro e w' ⟨rfl, rfl⟩) | (go_at_call 119; refine (rest_move _ _ _ _ _).mono ?_; rintro e w2 ⟨rfl, hb2⟩))
    go_ret2
    exact ⟨rfl, ((Below.refl _ _).alloc (Nat.le_refl _) _).trans (hb1.mono (by simp))⟩
  | true =>
    have := H.out; rw [actB_rest e1 e2 e3] at this; exact absurd this (by simp [restB])
theorem validDeed_move_yes (s d m : Int) (w : World) (h : actB ⟨2, s, d, m⟩ = true) :
    Calls Try.prog 55 #[.agg #[.int .i64 2, .int .i64 s, .int .i64 d, .int .i64 m]] w (DeedIs (.iface 123 (.agg #[.int .i64 2, .int .i64 s, .int .i64 d, .int .i64 m])) true w) := by
  have h' := h
  unfold actB at h'
  simp only [Bool.and_eq_true] at h'
  obtain ⟨⟨⟨e1, e2⟩, e3⟩, e4⟩ := h'
  have e5 : true = true := e4
  have HE := Lib.hid e5; clear h e4 e5
  have hm : ∀ (q : Nat) (w : World), (method (q + 1) 123 (.agg #[.int .i64 2, .int .i64 s, .int .i64 d, .int .i64 m]) "loop.example/blockexecutor/impl.restIsZero").run Try.prog w = .ok (119, .agg #[.int .i64 2, .int .i64 s, .int .i64 d, .int .i64 m]) w := fun _ _ => by kernel_rfl
  go_enter Try.func55, Try.ntmps55
  go_wp2_with fail
  refine (deedOf_move _ _ _ _).mono ?_; rintro e w1 ⟨rfl, hb1⟩
  obtain ⟨hc, hf⟩ := bcell hb1
  have hz := hb1.size
  go_wp2_with (first | (go_at_call 59; refine (isKey_impl _ _).mono ?_; rintro e w' ⟨rfl, rfl⟩) | (go_at_call 60; refine (isValue_impl _ _).mono ?_; rintro e w' ⟨rfl, rfl⟩) | (go_at_call 119; refine (rest_move _ _ _ _ _).mono ?_; rintro e w2 ⟨rfl, hb2⟩))
  go_ret2
  exact ⟨rfl, (((Below.refl _ _).alloc (Nat.le_refl _) _).trans (hb1.mono (by simp))).trans (hb2.mono (by simp at hz; omega))⟩
theorem validDeed_copy_no (s d m : Int) (w : World) (h : actB ⟨3, s, d, m⟩ = false) :
    Calls Try.prog 55 #[.agg #[.int .i64 3, .int .i64 s, .int .i64 d, .int .i64 m]] w (DeedIs .nilIface false w) := by
  have H := Lib.hid h; clear h
  have hm : ∀ (q : Nat) (w : World), (method (q + 1) 124 (.agg #[.int .i64 3, .int .i64 s, .int .i64 d, .int .i64 m]) "loop.example/blockexecutor/impl.restIsZero").run Try.prog w = .ok (127, .agg #[.int .i64 3, .int .i64 s, .int .i64 d, .int .i64 m]) w := fun _ _ => by kernel_rfl
  go_enter Try.func55, Try.ntmps55
  go_wp2_with fail
  refine (deedOf_copy _ _ _ _).mono ?_; rintro e w1 ⟨rfl, hb1⟩
  obtain ⟨hc, hf⟩ := bcell hb1
  have hz := hb1.size
  cases e1 : inB s 0 31 with
  | false =>
    go_wp2_with (first | (go_at_call 59; refine (isKey_impl _ _).mono ?_; rintro e w' ⟨rfl, rfl⟩) | (go_at_call 60; refine (isValue_impl _ _).mono ?_; rintro e w' ⟨rfl, rfl⟩) | (go_at_call 127; refine (rest_copy _ _ _ _ _).mono ?_; rintro e w2 ⟨rfl, hb2⟩))
    go_ret2
    exact ⟨rfl, ((Below.refl _ _).alloc (Nat.le_refl _) _).trans (hb1.mono (by simp))⟩
  | true =>
  cases e2 : inB d 0 31 with
  | false =>
    go_wp2_with (first | (go_at_call 59; refine (isKey_impl _ _).mono ?_; rintro e w' ⟨rfl, rfl⟩) | (go_at_call 60; refine (isValue_impl _ _).mono ?_; rintro e w' ⟨rfl, rfl⟩) | (go_at_call 127; refine (rest_copy _ _ _ _ _).mono ?_; rintro e w2 ⟨rfl, hb2⟩))
    go_ret2
    exact ⟨rfl, ((Below.refl _ _).alloc (Nat.le_refl _) _).trans (hb1.mono (by simp))⟩
  | true =>
  cases e3 : inB m 0 1000000 with
  | false =>
    go_wp2_with (first | (go_at_call 59; refine (isKey_impl _ _).mono ?_; rintro e w' ⟨rfl, rfl⟩) | (go_at_call 60; refine (isValue_impl _ _).mono ?_; rintro e w' ⟨rfl, rfl⟩) | (go_at_call 127; refine (rest_copy _ _ _ _ _).mono ?_; rintro e w2 ⟨rfl, hb2⟩))
    go_ret2
    exact ⟨rfl, ((Below.refl _ _).alloc (Nat.le_refl _) _).trans (hb1.mono (by simp))⟩
  | true =>
    have e4 : decide (m = 0) = false := by have := H.out; rw [actB_rest e1 e2 e3] at this; exact this
    have HE := Lib.hid e4; clear e4
    go_wp2_with (first | (go_at_call 59; refine (isKey_impl _ _).mono ?_; rintro e w' ⟨rfl, rfl⟩) | (go_at_call 60; refine (isValue_impl _ _).mono ?_; rintro e w' ⟨rfl, rfl⟩) | (go_at_call 127; refine (rest_copy _ _ _ _ _).mono ?_; rintro e w2 ⟨rfl, hb2⟩; rw [HE.out]))
    go_ret2
    exact ⟨rfl, (((Below.refl _ _).alloc (Nat.le_refl _) _).trans (hb1.mono (by simp))).trans (hb2.mono (by simp at hz; omega))⟩
theorem validDeed_copy_yes (s d m : Int) (w : World) (h : actB ⟨3, s, d, m⟩ = true) :
    Calls Try.prog 55 #[.agg #[.int .i64 3, .int .i64 s, .int .i64 d, .int .i64 m]] w (DeedIs (.iface 124 (.agg #[.int .i64 3, .int .i64 s, .int .i64 d, .int .i64 m])) true w) := by
  have h' := h
  unfold actB at h'
  simp only [Bool.and_eq_true] at h'
  obtain ⟨⟨⟨e1, e2⟩, e3⟩, e4⟩ := h'
  have e5 : decide (m = 0) = true := e4
  have HE := Lib.hid e5; clear h e4 e5
  have hm : ∀ (q : Nat) (w : World), (method (q + 1) 124 (.agg #[.int .i64 3, .int .i64 s, .int .i64 d, .int .i64 m]) "loop.example/blockexecutor/impl.restIsZero").run Try.prog w = .ok (127, .agg #[.int .i64 3, .int .i64 s, .int .i64 d, .int .i64 m]) w := fun _ _ => by kernel_rfl
  go_enter Try.func55, Try.ntmps55
  go_wp2_with fail
  refine (deedOf_copy _ _ _ _).mono ?_; rintro e w1 ⟨rfl, hb1⟩
  obtain ⟨hc, hf⟩ := bcell hb1
  have hz := hb1.size
  go_wp2_with (first | (go_at_call 59; refine (isKey_impl _ _).mono ?_; rintro e w' ⟨rfl, rfl⟩) | (go_at_call 60; refine (isValue_impl _ _).mono ?_; rintro e w' ⟨rfl, rfl⟩) | (go_at_call 127; refine (rest_copy _ _ _ _ _).mono ?_; rintro e w2 ⟨rfl, hb2⟩; rw [HE.out]))
  go_ret2
  exact ⟨rfl, (((Below.refl _ _).alloc (Nat.le_refl _) _).trans (hb1.mono (by simp))).trans (hb2.mono (by simp at hz; omega))⟩
theorem validDeed_swap_no (s d m : Int) (w : World) (h : actB ⟨4, s, d, m⟩ = false) :
    Calls Try.prog 55 #[.agg #[.int .i64 4, .int .i64 s, .int .i64 d, .int .i64 m]] w (DeedIs .nilIface false w) := by
  have H := Lib.hid h; clear h
  have hm : ∀ (q : Nat) (w : World), (method (q + 1) 125 (.agg #[.int .i64 4, .int .i64 s, .int .i64 d, .int .i64 m]) "loop.example/blockexecutor/impl.restIsZero").run Try.prog w = .ok (131, .agg #[.int .i64 4, .int .i64 s, .int .i64 d, .int .i64 m]) w := fun _ _ => by kernel_rfl
  go_enter Try.func55, Try.ntmps55
  go_wp2_with fail
  refine (deedOf_swap _ _ _ _).mono ?_; rintro e w1 ⟨rfl, hb1⟩
  obtain ⟨hc, hf⟩ := bcell hb1
  have hz := hb1.size
  cases e1 : inB s 0 31 with
  | false =>
    go_wp2_with (first | (go_at_call 59; refine (isKey_impl _ _).mono ?_; rintro e w' ⟨rfl, rfl⟩) | (go_at_call 60; refine (isValue_impl _ _).mono ?_; rintro e w' ⟨rfl, rfl⟩) | (go_at_call 131; refine (rest_swap _ _ _ _ _).mono ?_; rintro e w2 ⟨rfl, hb2⟩))
    go_ret2
    exact ⟨rfl, ((Below.refl _ _).alloc (Nat.le_refl _) _).trans (hb1.mono (by simp))⟩
  | true =>
  cases e2 : inB d 0 31 with
  | false =>
    go_wp2_with (first | (go_at_call 59; refine (isKey_impl _ _).mono ?_; rintro e w' ⟨rfl, rfl⟩) | (go_at_call 60; refine (isValue_impl _ _).mono ?_; rintro e w' ⟨rfl, rfl⟩) | (go_at_call 131; refine (rest_swap _ _ _ _ _).mono ?_; rintro e w2 ⟨rfl, hb2⟩))
    go_ret2
    exact ⟨rfl, ((Below.refl _ _).alloc (Nat.le_refl _) _).trans (hb1.mono (by simp))⟩
  | true =>
  cases e3 : inB m 0 1000000 with
  | false =>
    go_wp2_with (first | (go_at_call 59; refine (isKey_impl _ _).mono ?_; rintro e w' ⟨rfl, rfl⟩) | (go_at_call 60; refine (isValue_impl _ _).mono ?_; rintro e w' ⟨rfl, rfl⟩) | (go_at_call 131; refine (rest_swap _ _ _ _ _).mono ?_; rintro e w2 ⟨rfl, hb2⟩))
    go_ret2
    exact ⟨rfl, ((Below.refl _ _).alloc (Nat.le_refl _) _).trans (hb1.mono (by simp))⟩
  | true =>
    have e4 : decide (m = 0) = false := by have := H.out; rw [actB_rest e1 e2 e3] at this; exact this
    have HE := Lib.hid e4; clear e4
    go_wp2_with (first | (go_at_call 59; refine (isKey_impl _ _).mono ?_; rintro e w' ⟨rfl, rfl⟩) | (go_at_call 60; refine (isValue_impl _ _).mono ?_; rintro e w' ⟨rfl, rfl⟩) | (go_at_call 131; refine (rest_swap _ _ _ _ _).mono ?_; rintro e w2 ⟨rfl, hb2⟩; rw [HE.out]))
    go_ret2
    exact ⟨rfl, (((Below.refl _ _).alloc (Nat.le_refl _) _).trans (hb1.mono (by simp))).trans (hb2.mono (by simp at hz; omega))⟩
theorem validDeed_swap_yes (s d m : Int) (w : World) (h : actB ⟨4, s, d, m⟩ = true) :
    Calls Try.prog 55 #[.agg #[.int .i64 4, .int .i64 s, .int .i64 d, .int .i64 m]] w (DeedIs (.iface 125 (.agg #[.int .i64 4, .int .i64 s, .int .i64 d, .int .i64 m])) true w) := by
  have h' := h
  unfold actB at h'
  simp only [Bool.and_eq_true] at h'
  obtain ⟨⟨⟨e1, e2⟩, e3⟩, e4⟩ := h'
  have e5 : decide (m = 0) = true := e4
  have HE := Lib.hid e5; clear h e4 e5
  have hm : ∀ (q : Nat) (w : World), (method (q + 1) 125 (.agg #[.int .i64 4, .int .i64 s, .int .i64 d, .int .i64 m]) "loop.example/blockexecutor/impl.restIsZero").run Try.prog w = .ok (131, .agg #[.int .i64 4, .int .i64 s, .int .i64 d, .int .i64 m]) w := fun _ _ => by kernel_rfl
  go_enter Try.func55, Try.ntmps55
  go_wp2_with fail
  refine (deedOf_swap _ _ _ _).mono ?_; rintro e w1 ⟨rfl, hb1⟩
  obtain ⟨hc, hf⟩ := bcell hb1
  have hz := hb1.size
  go_wp2_with (first | (go_at_call 59; refine (isKey_impl _ _).mono ?_; rintro e w' ⟨rfl, rfl⟩) | (go_at_call 60; refine (isValue_impl _ _).mono ?_; rintro e w' ⟨rfl, rfl⟩) | (go_at_call 131; refine (rest_swap _ _ _ _ _).mono ?_; rintro e w2 ⟨rfl, hb2⟩; rw [HE.out]))
  go_ret2
  exact ⟨rfl, (((Below.refl _ _).alloc (Nat.le_refl _) _).trans (hb1.mono (by simp))).trans (hb2.mono (by simp at hz; omega))⟩
theorem validDeed_add_no (s d m : Int) (w : World) (h : actB ⟨5, s, d, m⟩ = false) :
    Calls Try.prog 55 #[.agg #[.int .i64 5, .int .i64 s, .int .i64 d, .int .i64 m]] w (DeedIs .nilIface false w) := by
  have H := Lib.hid h; clear h
  have hm : ∀ (q : Nat) (w : World), (method (q + 1) 126 (.agg #[.int .i64 5, .int .i64 s, .int .i64 d, .int .i64 m]) "loop.example/blockexecutor/impl.restIsZero").run Try.prog w = .ok (135, .agg #[.int .i64 5, .int .i64 s, .int .i64 d, .int .i64 m]) w := fun _ _ => by kernel_rfl
  go_enter Try.func55, Try.ntmps55
  go_wp2_with fail
  refine (deedOf_add _ _ _ _).mono ?_; rintro e w1 ⟨rfl, hb1⟩
  obtain ⟨hc, hf⟩ := bcell hb1
  have hz := hb1.size
  cases e1 : inB s 0 31 with
  | false =>
    go_wp2_with (first | (go_at_call 59; refine (isKey_impl _ _).mono ?_; rintro e w' ⟨rfl, rfl⟩) | (go_at_call 60; refine (isValue_impl _ _).mono ?_; rintro e w' ⟨rfl, rfl⟩) | (go_at_call 135; refine (rest_add _ _ _ _ _).mono ?_; rintro e w2 ⟨rfl, hb2⟩))
    go_ret2
    exact ⟨rfl, ((Below.refl _ _).alloc (Nat.le_refl _) _).trans (hb1.mono (by simp))⟩
  | true =>
  cases e2 : inB d 0 31 with
  | false =>
    go_wp2_with (first | (go_at_call 59; refine (isKey_impl _ _).mono ?_; rintro e w' ⟨rfl, rfl⟩) | (go_at_call 60; refine (isValue_impl _ _).mono ?_; rintro e w' ⟨rfl, rfl⟩) | (go_at_call 135; refine (rest_add _ _ _ _ _).mono ?_; rintro e w2 ⟨rfl, hb2⟩))
    go_ret2
    exact ⟨rfl, ((Below.refl _ _).alloc (Nat.le_refl _) _).trans (hb1.mono (by simp))⟩
  | true =>
  cases e3 : inB m 0 1000000 with
  | false =>
    go_wp2_with (first | (go_at_call 59; refine (isKey_impl _ _).mono ?_; rintro e w' ⟨rfl, rfl⟩) | (go_at_call 60; refine (isValue_impl _ _).mono ?_; rintro e w' ⟨rfl, rfl⟩) | (go_at_call 135; refine (rest_add _ _ _ _ _).mono ?_; rintro e w2 ⟨rfl, hb2⟩))
    go_ret2
    exact ⟨rfl, ((Below.refl _ _).alloc (Nat.le_refl _) _).trans (hb1.mono (by simp))⟩
  | true =>
    have e4 : decide (m = 0) = false := by have := H.out; rw [actB_rest e1 e2 e3] at this; exact this
    have HE := Lib.hid e4; clear e4
    go_wp2_with (first | (go_at_call 59; refine (isKey_impl _ _).mono ?_; rintro e w' ⟨rfl, rfl⟩) | (go_at_call 60; refine (isValue_impl _ _).mono ?_; rintro e w' ⟨rfl, rfl⟩) | (go_at_call 135; refine (rest_add _ _ _ _ _).mono ?_; rintro e w2 ⟨rfl, hb2⟩; rw [HE.out]))
    go_ret2
    exact ⟨rfl, (((Below.refl _ _).alloc (Nat.le_refl _) _).trans (hb1.mono (by simp))).trans (hb2.mono (by simp at hz; omega))⟩
theorem validDeed_add_yes (s d m : Int) (w : World) (h : actB ⟨5, s, d, m⟩ = true) :
    Calls Try.prog 55 #[.agg #[.int .i64 5, .int .i64 s, .int .i64 d, .int .i64 m]] w (DeedIs (.iface 126 (.agg #[.int .i64 5, .int .i64 s, .int .i64 d, .int .i64 m])) true w) := by
  have h' := h
  unfold actB at h'
  simp only [Bool.and_eq_true] at h'
  obtain ⟨⟨⟨e1, e2⟩, e3⟩, e4⟩ := h'
  have e5 : decide (m = 0) = true := e4
  have HE := Lib.hid e5; clear h e4 e5
  have hm : ∀ (q : Nat) (w : World), (method (q + 1) 126 (.agg #[.int .i64 5, .int .i64 s, .int .i64 d, .int .i64 m]) "loop.example/blockexecutor/impl.restIsZero").run Try.prog w = .ok (135, .agg #[.int .i64 5, .int .i64 s, .int .i64 d, .int .i64 m]) w := fun _ _ => by kernel_rfl
  go_enter Try.func55, Try.ntmps55
  go_wp2_with fail
  refine (deedOf_add _ _ _ _).mono ?_; rintro e w1 ⟨rfl, hb1⟩
  obtain ⟨hc, hf⟩ := bcell hb1
  have hz := hb1.size
  go_wp2_with (first | (go_at_call 59; refine (isKey_impl _ _).mono ?_; rintro e w' ⟨rfl, rfl⟩) | (go_at_call 60; refine (isValue_impl _ _).mono ?_; rintro e w' ⟨rfl, rfl⟩) | (go_at_call 135; refine (rest_add _ _ _ _ _).mono ?_; rintro e w2 ⟨rfl, hb2⟩; rw [HE.out]))
  go_ret2
  exact ⟨rfl, (((Below.refl _ _).alloc (Nat.le_refl _) _).trans (hb1.mono (by simp))).trans (hb2.mono (by simp at hz; omega))⟩
theorem validDeed_take_no (s d m : Int) (w : World) (h : actB ⟨6, s, d, m⟩ = false) :
    Calls Try.prog 55 #[.agg #[.int .i64 6, .int .i64 s, .int .i64 d, .int .i64 m]] w (DeedIs .nilIface false w) := by
  have H := Lib.hid h; clear h
  have hm : ∀ (q : Nat) (w : World), (method (q + 1) 127 (.agg #[.int .i64 6, .int .i64 s, .int .i64 d, .int .i64 m]) "loop.example/blockexecutor/impl.restIsZero").run Try.prog w = .ok (139, .agg #[.int .i64 6, .int .i64 s, .int .i64 d, .int .i64 m]) w := fun _ _ => by kernel_rfl
  go_enter Try.func55, Try.ntmps55
  go_wp2_with fail
  refine (deedOf_take _ _ _ _).mono ?_; rintro e w1 ⟨rfl, hb1⟩
  obtain ⟨hc, hf⟩ := bcell hb1
  have hz := hb1.size
  cases e1 : inB s 0 31 with
  | false =>
    go_wp2_with (first | (go_at_call 59; refine (isKey_impl _ _).mono ?_; rintro e w' ⟨rfl, rfl⟩) | (go_at_call 60; refine (isValue_impl _ _).mono ?_; rintro e w' ⟨rfl, rfl⟩) | (go_at_call 139; refine (rest_take _ _ _ _ _).mono ?_; rintro e w2 ⟨rfl, hb2⟩))
    go_ret2
    exact ⟨rfl, ((Below.refl _ _).alloc (Nat.le_refl _) _).trans (hb1.mono (by simp))⟩
  | true =>
  cases e2 : inB d 0 31 with
  | false =>
    go_wp2_with (first | (go_at_call 59; refine (isKey_impl _ _).mono ?_; rintro e w' ⟨rfl, rfl⟩) | (go_at_call 60; refine (isValue_impl _ _).mono ?_; rintro e w' ⟨rfl, rfl⟩) | (go_at_call 139; refine (rest_take _ _ _ _ _).mono ?_; rintro e w2 ⟨rfl, hb2⟩))
    go_ret2
    exact ⟨rfl, ((Below.refl _ _).alloc (Nat.le_refl _) _).trans (hb1.mono (by simp))⟩
  | true =>
  cases e3 : inB m 0 1000000 with
  | false =>
    go_wp2_with (first | (go_at_call 59; refine (isKey_impl _ _).mono ?_; rintro e w' ⟨rfl, rfl⟩) | (go_at_call 60; refine (isValue_impl _ _).mono ?_; rintro e w' ⟨rfl, rfl⟩) | (go_at_call 139; refine (rest_take _ _ _ _ _).mono ?_; rintro e w2 ⟨rfl, hb2⟩))
    go_ret2
    exact ⟨rfl, ((Below.refl _ _).alloc (Nat.le_refl _) _).trans (hb1.mono (by simp))⟩
  | true =>
    have e4 : decide (d = 0) = false := by have := H.out; rw [actB_rest e1 e2 e3] at this; exact this
    have HE := Lib.hid e4; clear e4
    go_wp2_with (first | (go_at_call 59; refine (isKey_impl _ _).mono ?_; rintro e w' ⟨rfl, rfl⟩) | (go_at_call 60; refine (isValue_impl _ _).mono ?_; rintro e w' ⟨rfl, rfl⟩) | (go_at_call 139; refine (rest_take _ _ _ _ _).mono ?_; rintro e w2 ⟨rfl, hb2⟩; rw [HE.out]))
    go_ret2
    exact ⟨rfl, (((Below.refl _ _).alloc (Nat.le_refl _) _).trans (hb1.mono (by simp))).trans (hb2.mono (by simp at hz; omega))⟩
theorem validDeed_take_yes (s d m : Int) (w : World) (h : actB ⟨6, s, d, m⟩ = true) :
    Calls Try.prog 55 #[.agg #[.int .i64 6, .int .i64 s, .int .i64 d, .int .i64 m]] w (DeedIs (.iface 127 (.agg #[.int .i64 6, .int .i64 s, .int .i64 d, .int .i64 m])) true w) := by
  have h' := h
  unfold actB at h'
  simp only [Bool.and_eq_true] at h'
  obtain ⟨⟨⟨e1, e2⟩, e3⟩, e4⟩ := h'
  have e5 : decide (d = 0) = true := e4
  have HE := Lib.hid e5; clear h e4 e5
  have hm : ∀ (q : Nat) (w : World), (method (q + 1) 127 (.agg #[.int .i64 6, .int .i64 s, .int .i64 d, .int .i64 m]) "loop.example/blockexecutor/impl.restIsZero").run Try.prog w = .ok (139, .agg #[.int .i64 6, .int .i64 s, .int .i64 d, .int .i64 m]) w := fun _ _ => by kernel_rfl
  go_enter Try.func55, Try.ntmps55
  go_wp2_with fail
  refine (deedOf_take _ _ _ _).mono ?_; rintro e w1 ⟨rfl, hb1⟩
  obtain ⟨hc, hf⟩ := bcell hb1
  have hz := hb1.size
  go_wp2_with (first | (go_at_call 59; refine (isKey_impl _ _).mono ?_; rintro e w' ⟨rfl, rfl⟩) | (go_at_call 60; refine (isValue_impl _ _).mono ?_; rintro e w' ⟨rfl, rfl⟩) | (go_at_call 139; refine (rest_take _ _ _ _ _).mono ?_; rintro e w2 ⟨rfl, hb2⟩; rw [HE.out]))
  go_ret2
  exact ⟨rfl, (((Below.refl _ _).alloc (Nat.le_refl _) _).trans (hb1.mono (by simp))).trans (hb2.mono (by simp at hz; omega))⟩
theorem validDeed_none (k s d m : Int) (w : World) (h : k ≠ 1 ∧ k ≠ 2 ∧ k ≠ 3 ∧ k ≠ 4 ∧ k ≠ 5 ∧ k ≠ 6) :
    Calls Try.prog 55 #[.agg #[.int .i64 k, .int .i64 s, .int .i64 d, .int .i64 m]] w (DeedIs .nilIface false w) := by
  go_enter Try.func55, Try.ntmps55
  go_wp2_with fail
  refine (deedOf_none _ _ _ _ _ h).mono ?_; rintro e w1 ⟨rfl, hb1⟩
  clear h
  go_wp2
  go_ret2
  exact ⟨rfl, ((Below.refl _ _).alloc (Nat.le_refl _) _).trans (hb1.mono (by simp))⟩
end Go.Proofs.Ytakbkomgmajnfaa
/- The contracts of the program's keys of actions. -/
namespace Go.Proofs.Ytakbkomgmajnfaa
open Go.RowKit
set_option linter.unusedVariables false
theorem wf_key {a : Int} (h : 0 ≤ a ∧ a ≤ 31) : (Lit.int .i64 a).wf = true := WalkArith.wf_i64 (by omega)
/-- A literal of ints is new. -/
theorem newLN_lit {w w0 : World} (l : List Int) (hb : Below w.heap.size w w0) (hl : l.length ≤ 1000) (hw : ∀ x ∈ l, (Lit.int .i64 x).wf = true) :
    NewLN w l (.returned (.slice (some ⟨w0.heap.size, 0, none⟩) l.length l.length)) (w0.alloc (.cells (l.map (Value.int .i64)).toArray 3)) :=
  ⟨_, rfl, (own_lit (w := w0) 3 1 (l.map (Value.int .i64)).toArray l.length hb.size (by unfold maxLen; omega) (by simp)).1, hw, hb.alloc hb.size _⟩
theorem NewLN.after {w w0 : World} {l : List Int} {e : Ending} {w' : World} (h : NewLN w0 l e w') (hb : Below w.heap.size w w0) : NewLN w l e w' := by
  obtain ⟨v, h1, h2, h3, h4⟩ := h
  exact ⟨v, h1, owns_mono h2 hb.size, h3, hb.trans (h4.mono hb.size)⟩
theorem newLN_nil {w w' : World} (hb : Below w.heap.size w w') : NewLN w [] (.returned (.slice none 0 0)) w' :=
  ⟨_, rfl, World.ownsRow_nil _ _ _ _, fun x hx => (by cases hx), hb⟩
theorem eachOnce_any (a b : Int) (w : World) (ha : 0 ≤ a ∧ a ≤ 31) (hb : 0 ≤ b ∧ b ≤ 31) :
    Calls Try.prog 122 #[.int .i64 a, .int .i64 b] w (NewLN w (onceM a b)) := by
  have HA := Lib.hid ha; have HB := Lib.hid hb; clear ha hb
  by_cases h : a = b
  · subst h
    have e : onceM a a = [a] := by simp [onceM]
    rw [e]; clear e
    go_enter Try.func122, Try.ntmps122
    go_wp2
    go_ret
    exact newLN_lit [a] (Below.refl _ _) (by simp) (fun x hx => by simp at hx; subst hx; exact wf_key HA.out)
  · have e : onceM a b = [a, b] := by simp [onceM, h]
    rw [e]; clear e
    have h2 : (a == b) = false := by simpa using h
    go_enter Try.func122, Try.ntmps122
    go_wp2
    go_ret
    exact newLN_lit [a, b] (Below.refl _ _) (by simp) (fun x hx => by simp at hx; rcases hx with rfl | rfl; exact wf_key HA.out; exact wf_key HB.out)
theorem ascending_any (a b : Int) (w : World) (ha : 0 ≤ a ∧ a ≤ 31) (hb : 0 ≤ b ∧ b ≤ 31) :
    Calls Try.prog 124 #[.int .i64 a, .int .i64 b] w (NewLN w (ascM a b)) := by
  have HA := Lib.hid ha; have HB := Lib.hid hb; clear ha hb
  by_cases h : b < a
  · have h2 : a ≥ b := by omega
    have e : ascM a b = onceM b a := by unfold ascM; rw [show min a b = b by omega, show max a b = a by omega]
    rw [e]; clear e h2
    go_enter Try.func124, Try.ntmps124
    go_wp2_with (first | (go_at_call 122; refine (eachOnce_any _ _ _ HB.out HA.out).mono ?_; rintro e w1 ⟨v, rfl, hn⟩))
    go_ret
    exact ⟨_, rfl, hn⟩
  · have e : ascM a b = onceM a b := by unfold ascM; rw [show min a b = a by omega, show max a b = b by omega]
    rw [e]; clear e
    by_cases h3 : a < b
    · go_enter Try.func124, Try.ntmps124
      go_wp2_with (first | (go_at_call 122; refine (eachOnce_any _ _ _ HA.out HB.out).mono ?_; rintro e w1 ⟨v, rfl, hn⟩))
      go_ret
      exact ⟨_, rfl, hn⟩
    · obtain rfl : a = b := by omega
      clear h h3
      go_enter Try.func124, Try.ntmps124
      go_wp2_with (first | (go_at_call 122; refine (eachOnce_any _ _ _ HA.out HB.out).mono ?_; rintro e w1 ⟨v, rfl, hn⟩))
      go_ret
      exact ⟨_, rfl, hn⟩
theorem reads_put (k s d m : Int) (w : World) (hs : 0 ≤ s ∧ s ≤ 31) (hd : 0 ≤ d ∧ d ≤ 31) :
    Calls Try.prog 113 #[.agg #[.int .i64 k, .int .i64 s, .int .i64 d, .int .i64 m]] w (NewLN w ([])) := by
  have HA := Lib.hid hs; have HB := Lib.hid hd; clear hs hd
  go_enter Try.func113, Try.ntmps113
  go_wp2
  go_ret
  exact newLN_nil ((Below.refl _ _).alloc (Nat.le_refl _) _)
theorem reads_move (k s d m : Int) (w : World) (hs : 0 ≤ s ∧ s ≤ 31) (hd : 0 ≤ d ∧ d ≤ 31) :
    Calls Try.prog 118 #[.agg #[.int .i64 k, .int .i64 s, .int .i64 d, .int .i64 m]] w (NewLN w (onceM s d)) := by
  have HA := Lib.hid hs; have HB := Lib.hid hd; clear hs hd
  go_enter Try.func118, Try.ntmps118
  go_wp2_with (first | (go_at_call 122; refine (eachOnce_any _ _ _ HA.out HB.out).mono ?_; rintro e w1 ⟨v, rfl, hn⟩))
  go_ret
  exact NewLN.after ⟨_, rfl, hn⟩ ((Below.refl _ _).alloc (Nat.le_refl _) _)
theorem reads_copy (k s d m : Int) (w : World) (hs : 0 ≤ s ∧ s ≤ 31) (hd : 0 ≤ d ∧ d ≤ 31) :
    Calls Try.prog 126 #[.agg #[.int .i64 k, .int .i64 s, .int .i64 d, .int .i64 m]] w (NewLN w ([s])) := by
  have HA := Lib.hid hs; have HB := Lib.hid hd; clear hs hd
  go_enter Try.func126, Try.ntmps126
  go_wp2
  go_ret
  have h := newLN_lit (w := w) (w0 := w.alloc (.cells #[.int .i64 k, .int .i64 s, .int .i64 d, .int .i64 m] 124)) [s] ((Below.refl _ _).alloc (Nat.le_refl _) _) (by simp) (fun x hx => by simp at hx; subst hx; exact wf_key HA.out)
  simpa using h
theorem reads_swap (k s d m : Int) (w : World) (hs : 0 ≤ s ∧ s ≤ 31) (hd : 0 ≤ d ∧ d ≤ 31) :
    Calls Try.prog 130 #[.agg #[.int .i64 k, .int .i64 s, .int .i64 d, .int .i64 m]] w (NewLN w (onceM s d)) := by
  have HA := Lib.hid hs; have HB := Lib.hid hd; clear hs hd
  go_enter Try.func130, Try.ntmps130
  go_wp2_with (first | (go_at_call 122; refine (eachOnce_any _ _ _ HA.out HB.out).mono ?_; rintro e w1 ⟨v, rfl, hn⟩))
  go_ret
  exact NewLN.after ⟨_, rfl, hn⟩ ((Below.refl _ _).alloc (Nat.le_refl _) _)
theorem reads_add (k s d m : Int) (w : World) (hs : 0 ≤ s ∧ s ≤ 31) (hd : 0 ≤ d ∧ d ≤ 31) :
    Calls Try.prog 134 #[.agg #[.int .i64 k, .int .i64 s, .int .i64 d, .int .i64 m]] w (NewLN w (onceM s d)) := by
  have HA := Lib.hid hs; have HB := Lib.hid hd; clear hs hd
  go_enter Try.func134, Try.ntmps134
  go_wp2_with (first | (go_at_call 122; refine (eachOnce_any _ _ _ HA.out HB.out).mono ?_; rintro e w1 ⟨v, rfl, hn⟩))
  go_ret
  exact NewLN.after ⟨_, rfl, hn⟩ ((Below.refl _ _).alloc (Nat.le_refl _) _)
theorem reads_take (k s d m : Int) (w : World) (hs : 0 ≤ s ∧ s ≤ 31) (hd : 0 ≤ d ∧ d ≤ 31) :
    Calls Try.prog 138 #[.agg #[.int .i64 k, .int .i64 s, .int .i64 d, .int .i64 m]] w (NewLN w ([s])) := by
  have HA := Lib.hid hs; have HB := Lib.hid hd; clear hs hd
  go_enter Try.func138, Try.ntmps138
  go_wp2
  go_ret
  have h := newLN_lit (w := w) (w0 := w.alloc (.cells #[.int .i64 k, .int .i64 s, .int .i64 d, .int .i64 m] 127)) [s] ((Below.refl _ _).alloc (Nat.le_refl _) _) (by simp) (fun x hx => by simp at hx; subst hx; exact wf_key HA.out)
  simpa using h
theorem writes_put (k s d m : Int) (w : World) (hs : 0 ≤ s ∧ s ≤ 31) (hd : 0 ≤ d ∧ d ≤ 31) :
    Calls Try.prog 116 #[.agg #[.int .i64 k, .int .i64 s, .int .i64 d, .int .i64 m]] w (NewLN w ([s])) := by
  have HA := Lib.hid hs; have HB := Lib.hid hd; clear hs hd
  go_enter Try.func116, Try.ntmps116
  go_wp2
  go_ret
  have h := newLN_lit (w := w) (w0 := w.alloc (.cells #[.int .i64 k, .int .i64 s, .int .i64 d, .int .i64 m] 122)) [s] ((Below.refl _ _).alloc (Nat.le_refl _) _) (by simp) (fun x hx => by simp at hx; subst hx; exact wf_key HA.out)
  simpa using h
theorem writes_move (k s d m : Int) (w : World) (hs : 0 ≤ s ∧ s ≤ 31) (hd : 0 ≤ d ∧ d ≤ 31) :
    Calls Try.prog 121 #[.agg #[.int .i64 k, .int .i64 s, .int .i64 d, .int .i64 m]] w (NewLN w (ascM s d)) := by
  have HA := Lib.hid hs; have HB := Lib.hid hd; clear hs hd
  go_enter Try.func121, Try.ntmps121
  go_wp2_with (first | (go_at_call 124; refine (ascending_any _ _ _ HA.out HB.out).mono ?_; rintro e w1 ⟨v, rfl, hn⟩))
  go_ret
  exact NewLN.after ⟨_, rfl, hn⟩ ((Below.refl _ _).alloc (Nat.le_refl _) _)
theorem writes_copy (k s d m : Int) (w : World) (hs : 0 ≤ s ∧ s ≤ 31) (hd : 0 ≤ d ∧ d ≤ 31) :
    Calls Try.prog 129 #[.agg #[.int .i64 k, .int .i64 s, .int .i64 d, .int .i64 m]] w (NewLN w ([d])) := by
  have HA := Lib.hid hs; have HB := Lib.hid hd; clear hs hd
  go_enter Try.func129, Try.ntmps129
  go_wp2
  go_ret
  have h := newLN_lit (w := w) (w0 := w.alloc (.cells #[.int .i64 k, .int .i64 s, .int .i64 d, .int .i64 m] 124)) [d] ((Below.refl _ _).alloc (Nat.le_refl _) _) (by simp) (fun x hx => by simp at hx; subst hx; exact wf_key HB.out)
  simpa using h
theorem writes_swap (k s d m : Int) (w : World) (hs : 0 ≤ s ∧ s ≤ 31) (hd : 0 ≤ d ∧ d ≤ 31) :
    Calls Try.prog 133 #[.agg #[.int .i64 k, .int .i64 s, .int .i64 d, .int .i64 m]] w (NewLN w (ascM s d)) := by
  have HA := Lib.hid hs; have HB := Lib.hid hd; clear hs hd
  go_enter Try.func133, Try.ntmps133
  go_wp2_with (first | (go_at_call 124; refine (ascending_any _ _ _ HA.out HB.out).mono ?_; rintro e w1 ⟨v, rfl, hn⟩))
  go_ret
  exact NewLN.after ⟨_, rfl, hn⟩ ((Below.refl _ _).alloc (Nat.le_refl _) _)
theorem writes_add (k s d m : Int) (w : World) (hs : 0 ≤ s ∧ s ≤ 31) (hd : 0 ≤ d ∧ d ≤ 31) :
    Calls Try.prog 137 #[.agg #[.int .i64 k, .int .i64 s, .int .i64 d, .int .i64 m]] w (NewLN w ([d])) := by
  have HA := Lib.hid hs; have HB := Lib.hid hd; clear hs hd
  go_enter Try.func137, Try.ntmps137
  go_wp2
  go_ret
  have h := newLN_lit (w := w) (w0 := w.alloc (.cells #[.int .i64 k, .int .i64 s, .int .i64 d, .int .i64 m] 126)) [d] ((Below.refl _ _).alloc (Nat.le_refl _) _) (by simp) (fun x hx => by simp at hx; subst hx; exact wf_key HB.out)
  simpa using h
theorem writes_take (k s d m : Int) (w : World) (hs : 0 ≤ s ∧ s ≤ 31) (hd : 0 ≤ d ∧ d ≤ 31) :
    Calls Try.prog 141 #[.agg #[.int .i64 k, .int .i64 s, .int .i64 d, .int .i64 m]] w (NewLN w ([s])) := by
  have HA := Lib.hid hs; have HB := Lib.hid hd; clear hs hd
  go_enter Try.func141, Try.ntmps141
  go_wp2
  go_ret
  have h := newLN_lit (w := w) (w0 := w.alloc (.cells #[.int .i64 k, .int .i64 s, .int .i64 d, .int .i64 m] 127)) [s] ((Below.refl _ _).alloc (Nat.le_refl _) _) (by simp) (fun x hx => by simp at hx; subst hx; exact wf_key HA.out)
  simpa using h
theorem readsM_no {x : Acn} (h : actB x = false) : readsM x = [] := by simp [readsM, h]
set_option maxHeartbeats 4000000 in
theorem actionReads_impl (k s d m : Int) (w : World) :
    Calls Try.prog 13 #[.agg #[.int .i64 k, .int .i64 s, .int .i64 d, .int .i64 m]] w (NewLN w (readsM ⟨k, s, d, m⟩)) := by
  rcases kind_cases k with rfl | rfl | rfl | rfl | rfl | rfl | hk
  · cases hv : actB ⟨1, s, d, m⟩ with
    | false =>
      rw [readsM_no hv]
      go_enter Try.func13, Try.ntmps13
      go_wp2_with (first | (go_at_call 55; refine (validDeed_put_no _ _ _ _ hv).mono ?_; rintro e w1 ⟨rfl, hb1⟩))
      go_ret
      exact newLN_nil (((Below.refl _ _).alloc (Nat.le_refl _) _).trans (hb1.mono (by simp)))
    | true =>
      have hbd := actB_bd hv
      have e : readsM ⟨1, s, d, m⟩ = [] := by simp [readsM, hv, readsK]
      rw [e]; clear e
      have hm : ∀ (q : Nat) (w : World), (method (q + 1) 122 (.agg #[.int .i64 1, .int .i64 s, .int .i64 d, .int .i64 m]) "loop.example/blockexecutor/impl.reads").run Try.prog w = .ok (113, .agg #[.int .i64 1, .int .i64 s, .int .i64 d, .int .i64 m]) w := fun _ _ => by kernel_rfl
      have HBD := Lib.hid hbd; clear hbd
      have HV := Lib.hid hv; clear hv
      go_enter Try.func13, Try.ntmps13
      go_wp2_with (first | (go_at_call 55; refine (validDeed_put_yes _ _ _ _ HV.out).mono ?_; rintro e w1 ⟨rfl, hb1⟩) | (go_at_call 113; refine (reads_put _ _ _ _ _ HBD.out.1 HBD.out.2.1).mono ?_; rintro e w2 ⟨v, rfl, hn⟩))
      go_ret
      exact NewLN.after ⟨_, rfl, hn⟩ (((Below.refl _ _).alloc (Nat.le_refl _) _).trans (hb1.mono (by simp)))
  · cases hv : actB ⟨2, s, d, m⟩ with
    | false =>
      rw [readsM_no hv]
      go_enter Try.func13, Try.ntmps13
      go_wp2_with (first | (go_at_call 55; refine (validDeed_move_no _ _ _ _ hv).mono ?_; rintro e w1 ⟨rfl, hb1⟩))
      go_ret
      exact newLN_nil (((Below.refl _ _).alloc (Nat.le_refl _) _).trans (hb1.mono (by simp)))
    | true =>
      have hbd := actB_bd hv
      have e : readsM ⟨2, s, d, m⟩ = onceM s d := by simp [readsM, hv, readsK]
      rw [e]; clear e
      have hm : ∀ (q : Nat) (w : World), (method (q + 1) 123 (.agg #[.int .i64 2, .int .i64 s, .int .i64 d, .int .i64 m]) "loop.example/blockexecutor/impl.reads").run Try.prog w = .ok (118, .agg #[.int .i64 2, .int .i64 s, .int .i64 d, .int .i64 m]) w := fun _ _ => by kernel_rfl
      have HBD := Lib.hid hbd; clear hbd
      have HV := Lib.hid hv; clear hv
      go_enter Try.func13, Try.ntmps13
      go_wp2_with (first | (go_at_call 55; refine (validDeed_move_yes _ _ _ _ HV.out).mono ?_; rintro e w1 ⟨rfl, hb1⟩) | (go_at_call 118; refine (reads_move _ _ _ _ _ HBD.out.1 HBD.out.2.1).mono ?_; rintro e w2 ⟨v, rfl, hn⟩))
      go_ret
      exact NewLN.after ⟨_, rfl, hn⟩ (((Below.refl _ _).alloc (Nat.le_refl _) _).trans (hb1.mono (by simp)))
  · cases hv : actB ⟨3, s, d, m⟩ with
    | false =>
      rw [readsM_no hv]
      go_enter Try.func13, Try.ntmps13
      go_wp2_with (first | (go_at_call 55; refine (validDeed_copy_no _ _ _ _ hv).mono ?_; rintro e w1 ⟨rfl, hb1⟩))
      go_ret
      exact newLN_nil (((Below.refl _ _).alloc (Nat.le_refl _) _).trans (hb1.mono (by simp)))
    | true =>
      have hbd := actB_bd hv
      have e : readsM ⟨3, s, d, m⟩ = [s] := by simp [readsM, hv, readsK]
      rw [e]; clear e
      have hm : ∀ (q : Nat) (w : World), (method (q + 1) 124 (.agg #[.int .i64 3, .int .i64 s, .int .i64 d, .int .i64 m]) "loop.example/blockexecutor/impl.reads").run Try.prog w = .ok (126, .agg #[.int .i64 3, .int .i64 s, .int .i64 d, .int .i64 m]) w := fun _ _ => by kernel_rfl
      have HBD := Lib.hid hbd; clear hbd
      have HV := Lib.hid hv; clear hv
      go_enter Try.func13, Try.ntmps13
      go_wp2_with (first | (go_at_call 55; refine (validDeed_copy_yes _ _ _ _ HV.out).mono ?_; rintro e w1 ⟨rfl, hb1⟩) | (go_at_call 126; refine (reads_copy _ _ _ _ _ HBD.out.1 HBD.out.2.1).mono ?_; rintro e w2 ⟨v, rfl, hn⟩))
      go_ret
      exact NewLN.after ⟨_, rfl, hn⟩ (((Below.refl _ _).alloc (Nat.le_refl _) _).trans (hb1.mono (by simp)))
  · cases hv : actB ⟨4, s, d, m⟩ with
    | false =>
      rw [readsM_no hv]
      go_enter Try.func13, Try.ntmps13
      go_wp2_with (first | (go_at_call 55; refine (validDeed_swap_no _ _ _ _ hv).mono ?_; rintro e w1 ⟨rfl, hb1⟩))
      go_ret
      exact newLN_nil (((Below.refl _ _).alloc (Nat.le_refl _) _).trans (hb1.mono (by simp)))
    | true =>
      have hbd := actB_bd hv
      have e : readsM ⟨4, s, d, m⟩ = onceM s d := by simp [readsM, hv, readsK]
      rw [e]; clear e
      have hm : ∀ (q : Nat) (w : World), (method (q + 1) 125 (.agg #[.int .i64 4, .int .i64 s, .int .i64 d, .int .i64 m]) "loop.example/blockexecutor/impl.reads").run Try.prog w = .ok (130, .agg #[.int .i64 4, .int .i64 s, .int .i64 d, .int .i64 m]) w := fun _ _ => by kernel_rfl
      have HBD := Lib.hid hbd; clear hbd
      have HV := Lib.hid hv; clear hv
      go_enter Try.func13, Try.ntmps13
      go_wp2_with (first | (go_at_call 55; refine (validDeed_swap_yes _ _ _ _ HV.out).mono ?_; rintro e w1 ⟨rfl, hb1⟩) | (go_at_call 130; refine (reads_swap _ _ _ _ _ HBD.out.1 HBD.out.2.1).mono ?_; rintro e w2 ⟨v, rfl, hn⟩))
      go_ret
      exact NewLN.after ⟨_, rfl, hn⟩ (((Below.refl _ _).alloc (Nat.le_refl _) _).trans (hb1.mono (by simp)))
  · cases hv : actB ⟨5, s, d, m⟩ with
    | false =>
      rw [readsM_no hv]
      go_enter Try.func13, Try.ntmps13
      go_wp2_with (first | (go_at_call 55; refine (validDeed_add_no _ _ _ _ hv).mono ?_; rintro e w1 ⟨rfl, hb1⟩))
      go_ret
      exact newLN_nil (((Below.refl _ _).alloc (Nat.le_refl _) _).trans (hb1.mono (by simp)))
    | true =>
      have hbd := actB_bd hv
      have e : readsM ⟨5, s, d, m⟩ = onceM s d := by simp [readsM, hv, readsK]
      rw [e]; clear e
      have hm : ∀ (q : Nat) (w : World), (method (q + 1) 126 (.agg #[.int .i64 5, .int .i64 s, .int .i64 d, .int .i64 m]) "loop.example/blockexecutor/impl.reads").run Try.prog w = .ok (134, .agg #[.int .i64 5, .int .i64 s, .int .i64 d, .int .i64 m]) w := fun _ _ => by kernel_rfl
      have HBD := Lib.hid hbd; clear hbd
      have HV := Lib.hid hv; clear hv
      go_enter Try.func13, Try.ntmps13
      go_wp2_with (first | (go_at_call 55; refine (validDeed_add_yes _ _ _ _ HV.out).mono ?_; rintro e w1 ⟨rfl, hb1⟩) | (go_at_call 134; refine (reads_add _ _ _ _ _ HBD.out.1 HBD.out.2.1).mono ?_; rintro e w2 ⟨v, rfl, hn⟩))
      go_ret
      exact NewLN.after ⟨_, rfl, hn⟩ (((Below.refl _ _).alloc (Nat.le_refl _) _).trans (hb1.mono (by simp)))
  · cases hv : actB ⟨6, s, d, m⟩ with
    | false =>
      rw [readsM_no hv]
      go_enter Try.func13, Try.ntmps13
      go_wp2_with (first | (go_at_call 55; refine (validDeed_take_no _ _ _ _ hv).mono ?_; rintro e w1 ⟨rfl, hb1⟩))
      go_ret
      exact newLN_nil (((Below.refl _ _).alloc (Nat.le_refl _) _).trans (hb1.mono (by simp)))
    | true =>
      have hbd := actB_bd hv
      have e : readsM ⟨6, s, d, m⟩ = [s] := by simp [readsM, hv, readsK]
      rw [e]; clear e
      have hm : ∀ (q : Nat) (w : World), (method (q + 1) 127 (.agg #[.int .i64 6, .int .i64 s, .int .i64 d, .int .i64 m]) "loop.example/blockexecutor/impl.reads").run Try.prog w = .ok (138, .agg #[.int .i64 6, .int .i64 s, .int .i64 d, .int .i64 m]) w := fun _ _ => by kernel_rfl
      have HBD := Lib.hid hbd; clear hbd
      have HV := Lib.hid hv; clear hv
      go_enter Try.func13, Try.ntmps13
      go_wp2_with (first | (go_at_call 55; refine (validDeed_take_yes _ _ _ _ HV.out).mono ?_; rintro e w1 ⟨rfl, hb1⟩) | (go_at_call 138; refine (reads_take _ _ _ _ _ HBD.out.1 HBD.out.2.1).mono ?_; rintro e w2 ⟨v, rfl, hn⟩))
      go_ret
      exact NewLN.after ⟨_, rfl, hn⟩ (((Below.refl _ _).alloc (Nat.le_refl _) _).trans (hb1.mono (by simp)))
  · rw [readsM_no (actB_kind hk)]
    have HK := Lib.hid hk; clear hk
    go_enter Try.func13, Try.ntmps13
    go_wp2_with (first | (go_at_call 55; refine (validDeed_none _ _ _ _ _ HK.out).mono ?_; rintro e w1 ⟨rfl, hb1⟩))
    go_ret
    exact newLN_nil (((Below.refl _ _).alloc (Nat.le_refl _) _).trans (hb1.mono (by simp)))
theorem writesM_no {x : Acn} (h : actB x = false) : writesM x = [] := by simp [writesM, h]
set_option maxHeartbeats 4000000 in
theorem actionWrites_impl (k s d m : Int) (w : World) :
    Calls Try.prog 23 #[.agg #[.int .i64 k, .int .i64 s, .int .i64 d, .int .i64 m]] w (NewLN w (writesM ⟨k, s, d, m⟩)) := by
  rcases kind_cases k with rfl | rfl | rfl | rfl | rfl | rfl | hk
  · cases hv : actB ⟨1, s, d, m⟩ with
    | false =>
      rw [writesM_no hv]
      go_enter Try.func23, Try.ntmps23
      go_wp2_with (first | (go_at_call 55; refine (validDeed_put_no _ _ _ _ hv).mono ?_; rintro e w1 ⟨rfl, hb1⟩))
      go_ret
      exact newLN_nil (((Below.refl _ _).alloc (Nat.le_refl _) _).trans (hb1.mono (by simp)))
    | true =>
      have hbd := actB_bd hv
      have e : writesM ⟨1, s, d, m⟩ = [s] := by simp [writesM, hv, writesK]
      rw [e]; clear e
      have hm : ∀ (q : Nat) (w : World), (method (q + 1) 122 (.agg #[.int .i64 1, .int .i64 s, .int .i64 d, .int .i64 m]) "loop.example/blockexecutor/impl.writes").run Try.prog w = .ok (116, .agg #[.int .i64 1, .int .i64 s, .int .i64 d, .int .i64 m]) w := fun _ _ => by kernel_rfl
      have HBD := Lib.hid hbd; clear hbd
      have HV := Lib.hid hv; clear hv
      go_enter Try.func23, Try.ntmps23
      go_wp2_with (first | (go_at_call 55; refine (validDeed_put_yes _ _ _ _ HV.out).mono ?_; rintro e w1 ⟨rfl, hb1⟩) | (go_at_call 116; refine (writes_put _ _ _ _ _ HBD.out.1 HBD.out.2.1).mono ?_; rintro e w2 ⟨v, rfl, hn⟩))
      go_ret
      exact NewLN.after ⟨_, rfl, hn⟩ (((Below.refl _ _).alloc (Nat.le_refl _) _).trans (hb1.mono (by simp)))
  · cases hv : actB ⟨2, s, d, m⟩ with
    | false =>
      rw [writesM_no hv]
      go_enter Try.func23, Try.ntmps23
      go_wp2_with (first | (go_at_call 55; refine (validDeed_move_no _ _ _ _ hv).mono ?_; rintro e w1 ⟨rfl, hb1⟩))
      go_ret
      exact newLN_nil (((Below.refl _ _).alloc (Nat.le_refl _) _).trans (hb1.mono (by simp)))
    | true =>
      have hbd := actB_bd hv
      have e : writesM ⟨2, s, d, m⟩ = ascM s d := by simp [writesM, hv, writesK]
      rw [e]; clear e
      have hm : ∀ (q : Nat) (w : World), (method (q + 1) 123 (.agg #[.int .i64 2, .int .i64 s, .int .i64 d, .int .i64 m]) "loop.example/blockexecutor/impl.writes").run Try.prog w = .ok (121, .agg #[.int .i64 2, .int .i64 s, .int .i64 d, .int .i64 m]) w := fun _ _ => by kernel_rfl
      have HBD := Lib.hid hbd; clear hbd
      have HV := Lib.hid hv; clear hv
      go_enter Try.func23, Try.ntmps23
      go_wp2_with (first | (go_at_call 55; refine (validDeed_move_yes _ _ _ _ HV.out).mono ?_; rintro e w1 ⟨rfl, hb1⟩) | (go_at_call 121; refine (writes_move _ _ _ _ _ HBD.out.1 HBD.out.2.1).mono ?_; rintro e w2 ⟨v, rfl, hn⟩))
      go_ret
      exact NewLN.after ⟨_, rfl, hn⟩ (((Below.refl _ _).alloc (Nat.le_refl _) _).trans (hb1.mono (by simp)))
  · cases hv : actB ⟨3, s, d, m⟩ with
    | false =>
      rw [writesM_no hv]
      go_enter Try.func23, Try.ntmps23
      go_wp2_with (first | (go_at_call 55; refine (validDeed_copy_no _ _ _ _ hv).mono ?_; rintro e w1 ⟨rfl, hb1⟩))
      go_ret
      exact newLN_nil (((Below.refl _ _).alloc (Nat.le_refl _) _).trans (hb1.mono (by simp)))
    | true =>
      have hbd := actB_bd hv
      have e : writesM ⟨3, s, d, m⟩ = [d] := by simp [writesM, hv, writesK]
      rw [e]; clear e
      have hm : ∀ (q : Nat) (w : World), (method (q + 1) 124 (.agg #[.int .i64 3, .int .i64 s, .int .i64 d, .int .i64 m]) "loop.example/blockexecutor/impl.writes").run Try.prog w = .ok (129, .agg #[.int .i64 3, .int .i64 s, .int .i64 d, .int .i64 m]) w := fun _ _ => by kernel_rfl
      have HBD := Lib.hid hbd; clear hbd
      have HV := Lib.hid hv; clear hv
      go_enter Try.func23, Try.ntmps23
      go_wp2_with (first | (go_at_call 55; refine (validDeed_copy_yes _ _ _ _ HV.out).mono ?_; rintro e w1 ⟨rfl, hb1⟩) | (go_at_call 129; refine (writes_copy _ _ _ _ _ HBD.out.1 HBD.out.2.1).mono ?_; rintro e w2 ⟨v, rfl, hn⟩))
      go_ret
      exact NewLN.after ⟨_, rfl, hn⟩ (((Below.refl _ _).alloc (Nat.le_refl _) _).trans (hb1.mono (by simp)))
  · cases hv : actB ⟨4, s, d, m⟩ with
    | false =>
      rw [writesM_no hv]
      go_enter Try.func23, Try.ntmps23
      go_wp2_with (first | (go_at_call 55; refine (validDeed_swap_no _ _ _ _ hv).mono ?_; rintro e w1 ⟨rfl, hb1⟩))
      go_ret
      exact newLN_nil (((Below.refl _ _).alloc (Nat.le_refl _) _).trans (hb1.mono (by simp)))
    | true =>
      have hbd := actB_bd hv
      have e : writesM ⟨4, s, d, m⟩ = ascM s d := by simp [writesM, hv, writesK]
      rw [e]; clear e
      have hm : ∀ (q : Nat) (w : World), (method (q + 1) 125 (.agg #[.int .i64 4, .int .i64 s, .int .i64 d, .int .i64 m]) "loop.example/blockexecutor/impl.writes").run Try.prog w = .ok (133, .agg #[.int .i64 4, .int .i64 s, .int .i64 d, .int .i64 m]) w := fun _ _ => by kernel_rfl
      have HBD := Lib.hid hbd; clear hbd
      have HV := Lib.hid hv; clear hv
      go_enter Try.func23, Try.ntmps23
      go_wp2_with (first | (go_at_call 55; refine (validDeed_swap_yes _ _ _ _ HV.out).mono ?_; rintro e w1 ⟨rfl, hb1⟩) | (go_at_call 133; refine (writes_swap _ _ _ _ _ HBD.out.1 HBD.out.2.1).mono ?_; rintro e w2 ⟨v, rfl, hn⟩))
      go_ret
      exact NewLN.after ⟨_, rfl, hn⟩ (((Below.refl _ _).alloc (Nat.le_refl _) _).trans (hb1.mono (by simp)))
  · cases hv : actB ⟨5, s, d, m⟩ with
    | false =>
      rw [writesM_no hv]
      go_enter Try.func23, Try.ntmps23
      go_wp2_with (first | (go_at_call 55; refine (validDeed_add_no _ _ _ _ hv).mono ?_; rintro e w1 ⟨rfl, hb1⟩))
      go_ret
      exact newLN_nil (((Below.refl _ _).alloc (Nat.le_refl _) _).trans (hb1.mono (by simp)))
    | true =>
      have hbd := actB_bd hv
      have e : writesM ⟨5, s, d, m⟩ = [d] := by simp [writesM, hv, writesK]
      rw [e]; clear e
      have hm : ∀ (q : Nat) (w : World), (method (q + 1) 126 (.agg #[.int .i64 5, .int .i64 s, .int .i64 d, .int .i64 m]) "loop.example/blockexecutor/impl.writes").run Try.prog w = .ok (137, .agg #[.int .i64 5, .int .i64 s, .int .i64 d, .int .i64 m]) w := fun _ _ => by kernel_rfl
      have HBD := Lib.hid hbd; clear hbd
      have HV := Lib.hid hv; clear hv
      go_enter Try.func23, Try.ntmps23
      go_wp2_with (first | (go_at_call 55; refine (validDeed_add_yes _ _ _ _ HV.out).mono ?_; rintro e w1 ⟨rfl, hb1⟩) | (go_at_call 137; refine (writes_add _ _ _ _ _ HBD.out.1 HBD.out.2.1).mono ?_; rintro e w2 ⟨v, rfl, hn⟩))
      go_ret
      exact NewLN.after ⟨_, rfl, hn⟩ (((Below.refl _ _).alloc (Nat.le_refl _) _).trans (hb1.mono (by simp)))
  · cases hv : actB ⟨6, s, d, m⟩ with
    | false =>
      rw [writesM_no hv]
      go_enter Try.func23, Try.ntmps23
      go_wp2_with (first | (go_at_call 55; refine (validDeed_take_no _ _ _ _ hv).mono ?_; rintro e w1 ⟨rfl, hb1⟩))
      go_ret
      exact newLN_nil (((Below.refl _ _).alloc (Nat.le_refl _) _).trans (hb1.mono (by simp)))
    | true =>
      have hbd := actB_bd hv
      have e : writesM ⟨6, s, d, m⟩ = [s] := by simp [writesM, hv, writesK]
      rw [e]; clear e
      have hm : ∀ (q : Nat) (w : World), (method (q + 1) 127 (.agg #[.int .i64 6, .int .i64 s, .int .i64 d, .int .i64 m]) "loop.example/blockexecutor/impl.writes").run Try.prog w = .ok (141, .agg #[.int .i64 6, .int .i64 s, .int .i64 d, .int .i64 m]) w := fun _ _ => by kernel_rfl
      have HBD := Lib.hid hbd; clear hbd
      have HV := Lib.hid hv; clear hv
      go_enter Try.func23, Try.ntmps23
      go_wp2_with (first | (go_at_call 55; refine (validDeed_take_yes _ _ _ _ HV.out).mono ?_; rintro e w1 ⟨rfl, hb1⟩) | (go_at_call 141; refine (writes_take _ _ _ _ _ HBD.out.1 HBD.out.2.1).mono ?_; rintro e w2 ⟨v, rfl, hn⟩))
      go_ret
      exact NewLN.after ⟨_, rfl, hn⟩ (((Below.refl _ _).alloc (Nat.le_refl _) _).trans (hb1.mono (by simp)))
  · rw [writesM_no (actB_kind hk)]
    have HK := Lib.hid hk; clear hk
    go_enter Try.func23, Try.ntmps23
    go_wp2_with (first | (go_at_call 55; refine (validDeed_none _ _ _ _ _ HK.out).mono ?_; rintro e w1 ⟨rfl, hb1⟩))
    go_ret
    exact newLN_nil (((Below.refl _ _).alloc (Nat.le_refl _) _).trans (hb1.mono (by simp)))
end Go.Proofs.Ytakbkomgmajnfaa
/- The contract of the program's ActionsValid. -/
namespace Go.Proofs.Ytakbkomgmajnfaa
open Go.RowKit
set_option linter.unusedVariables false
end Go.Proofs.Ytakbkomgmajnfaa
