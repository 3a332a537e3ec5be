/- The contracts of the program's deeds: one kind after the other. -/
import Derived.Test.YtkoolemlnmolfaaActMath
import Derived.Test.YtkoolemlnmolfaaTwo
namespace Go.Proofs.Ytkoolemlnmolfaa
open Go.RowKit
set_option linter.unusedVariables false
/-- A deed and true; nil and false. -/
def DeedIs (v : Value) (b : Bool) (w : World) (e : Ending) (w' : World) : Prop := e = .returned (.tuple #[v, .bool b]) ∧ Below w.heap.size w w'
theorem deedOf_put (s d m : Int) (w : World) :
    Calls Try.prog 38 #[.agg #[.int .i64 1, .int .i64 s, .int .i64 d, .int .i64 m]] w (DeedIs (.iface 63 (.agg #[.int .i64 1, .int .i64 s, .int .i64 d, .int .i64 m])) true w) := by
  go_enter Try.func38, Try.ntmps38
  go_wp2
  go_ret2
  exact ⟨rfl, (Below.refl _ _).alloc (Nat.le_refl _) _⟩
theorem rest_put (k s d m : Int) (w : World) :
    Calls Try.prog 61 #[.agg #[.int .i64 k, .int .i64 s, .int .i64 d, .int .i64 m]] w (BoolB (decide (d = 0)) w) := by
  by_cases h : d = 0
  · subst h
    go_enter Try.func61, Try.ntmps61
    go_wp2
    go_ret
    exact ⟨rfl, (Below.refl _ _).alloc (Nat.le_refl _) _⟩
  · have e : decide (d = 0) = false := by simpa using h
    have e2 : (d == 0) = false := by simpa using h
    have HE := Lib.hid e
    clear h e
    go_enter Try.func61, Try.ntmps61
    go_wp2
    go_ret
    exact ⟨by rw [HE.out]; rfl, (Below.refl _ _).alloc (Nat.le_refl _) _⟩
theorem deedOf_move (s d m : Int) (w : World) :
    Calls Try.prog 38 #[.agg #[.int .i64 2, .int .i64 s, .int .i64 d, .int .i64 m]] w (DeedIs (.iface 64 (.agg #[.int .i64 2, .int .i64 s, .int .i64 d, .int .i64 m])) true w) := by
  go_enter Try.func38, Try.ntmps38
  go_wp2
  go_ret2
  exact ⟨rfl, (Below.refl _ _).alloc (Nat.le_refl _) _⟩
theorem rest_move (k s d m : Int) (w : World) :
    Calls Try.prog 64 #[.agg #[.int .i64 k, .int .i64 s, .int .i64 d, .int .i64 m]] w (BoolB true w) := by
  go_enter Try.func64, Try.ntmps64
  go_wp2
  go_ret
  exact ⟨rfl, (Below.refl _ _).alloc (Nat.le_refl _) _⟩
theorem deedOf_copy (s d m : Int) (w : World) :
    Calls Try.prog 38 #[.agg #[.int .i64 3, .int .i64 s, .int .i64 d, .int .i64 m]] w (DeedIs (.iface 65 (.agg #[.int .i64 3, .int .i64 s, .int .i64 d, .int .i64 m])) true w) := by
  go_enter Try.func38, Try.ntmps38
  go_wp2
  go_ret2
  exact ⟨rfl, (Below.refl _ _).alloc (Nat.le_refl _) _⟩
theorem rest_copy (k s d m : Int) (w : World) :
    Calls Try.prog 69 #[.agg #[.int .i64 k, .int .i64 s, .int .i64 d, .int .i64 m]] w (BoolB (decide (m = 0)) w) := by
  by_cases h : m = 0
  · subst h
    go_enter Try.func69, Try.ntmps69
    go_wp2
    go_ret
    exact ⟨rfl, (Below.refl _ _).alloc (Nat.le_refl _) _⟩
  · have e : decide (m = 0) = false := by simpa using h
    have e2 : (m == 0) = false := by simpa using h
    have HE := Lib.hid e
    clear h e
    go_enter Try.func69, Try.ntmps69
    go_wp2
    go_ret
    exact ⟨by rw [HE.out]; rfl, (Below.refl _ _).alloc (Nat.le_refl _) _⟩
theorem deedOf_swap (s d m : Int) (w : World) :
    Calls Try.prog 38 #[.agg #[.int .i64 4, .int .i64 s, .int .i64 d, .int .i64 m]] w (DeedIs (.iface 66 (.agg #[.int .i64 4, .int .i64 s, .int .i64 d, .int .i64 m])) true w) := by
  go_enter Try.func38, Try.ntmps38
  go_wp2
  go_ret2
  exact ⟨rfl, (Below.refl _ _).alloc (Nat.le_refl _) _⟩
theorem rest_swap (k s d m : Int) (w : World) :
    Calls Try.prog 72 #[.agg #[.int .i64 k, .int .i64 s, .int .i64 d, .int .i64 m]] w (BoolB (decide (m = 0)) w) := by
  by_cases h : m = 0
  · subst h
    go_enter Try.func72, Try.ntmps72
    go_wp2
    go_ret
    exact ⟨rfl, (Below.refl _ _).alloc (Nat.le_refl _) _⟩
  · have e : decide (m = 0) = false := by simpa using h
    have e2 : (m == 0) = false := by simpa using h
    have HE := Lib.hid e
    clear h e
    go_enter Try.func72, Try.ntmps72
    go_wp2
    go_ret
    exact ⟨by rw [HE.out]; rfl, (Below.refl _ _).alloc (Nat.le_refl _) _⟩
theorem deedOf_add (s d m : Int) (w : World) :
    Calls Try.prog 38 #[.agg #[.int .i64 5, .int .i64 s, .int .i64 d, .int .i64 m]] w (DeedIs (.iface 67 (.agg #[.int .i64 5, .int .i64 s, .int .i64 d, .int .i64 m])) true w) := by
  go_enter Try.func38, Try.ntmps38
  go_wp2
  go_ret2
  exact ⟨rfl, (Below.refl _ _).alloc (Nat.le_refl _) _⟩
theorem rest_add (k s d m : Int) (w : World) :
    Calls Try.prog 75 #[.agg #[.int .i64 k, .int .i64 s, .int .i64 d, .int .i64 m]] w (BoolB (decide (m = 0)) w) := by
  by_cases h : m = 0
  · subst h
    go_enter Try.func75, Try.ntmps75
    go_wp2
    go_ret
    exact ⟨rfl, (Below.refl _ _).alloc (Nat.le_refl _) _⟩
  · have e : decide (m = 0) = false := by simpa using h
    have e2 : (m == 0) = false := by simpa using h
    have HE := Lib.hid e
    clear h e
    go_enter Try.func75, Try.ntmps75
    go_wp2
    go_ret
    exact ⟨by rw [HE.out]; rfl, (Below.refl _ _).alloc (Nat.le_refl _) _⟩
theorem deedOf_take (s d m : Int) (w : World) :
    Calls Try.prog 38 #[.agg #[.int .i64 6, .int .i64 s, .int .i64 d, .int .i64 m]] w (DeedIs (.iface 68 (.agg #[.int .i64 6, .int .i64 s, .int .i64 d, .int .i64 m])) true w) := by
  go_enter Try.func38, Try.ntmps38
  go_wp2
  go_ret2
  exact ⟨rfl, (Below.refl _ _).alloc (Nat.le_refl _) _⟩
theorem rest_take (k s d m : Int) (w : World) :
    Calls Try.prog 78 #[.agg #[.int .i64 k, .int .i64 s, .int .i64 d, .int .i64 m]] w (BoolB (decide (d = 0)) w) := by
  by_cases h : d = 0
  · subst h
    go_enter Try.func78, Try.ntmps78
    go_wp2
    go_ret
    exact ⟨rfl, (Below.refl _ _).alloc (Nat.le_refl _) _⟩
  · have e : decide (d = 0) = false := by simpa using h
    have e2 : (d == 0) = false := by simpa using h
    have HE := Lib.hid e
    clear h e
    go_enter Try.func78, Try.ntmps78
    go_wp2
    go_ret
    exact ⟨by rw [HE.out]; rfl, (Below.refl _ _).alloc (Nat.le_refl _) _⟩
theorem deedOf_none (k s d m : Int) (w : World) (h : k ≠ 1 ∧ k ≠ 2 ∧ k ≠ 3 ∧ k ≠ 4 ∧ k ≠ 5 ∧ k ≠ 6) :
    Calls Try.prog 38 #[.agg #[.int .i64 k, .int .i64 s, .int .i64 d, .int .i64 m]] w (DeedIs .nilIface false w) := by
  obtain ⟨h1, h2, h3, h4, h5, h6⟩ := h
  go_enter Try.func38, Try.ntmps38
  go_wp2
  go_ret2
  exact ⟨rfl, (Below.refl _ _).alloc (Nat.le_refl _) _⟩
theorem validDeed_put_no (s d m : Int) (w : World) (h : actB ⟨1, s, d, m⟩ = false) :
    Calls Try.prog 29 #[.agg #[.int .i64 1, .int .i64 s, .int .i64 d, .int .i64 m]] w (DeedIs .nilIface false w) := by
  have H := Lib.hid h; clear h
  have hm : ∀ (q : Nat) (w : World), (method (q + 1) 63 (.agg #[.int .i64 1, .int .i64 s, .int .i64 d, .int .i64 m]) "loop.example/blockexecutor/impl.restIsZero").run Try.prog w = .ok (61, .agg #[.int .i64 1, .int .i64 s, .int .i64 d, .int .i64 m]) w := fun _ _ => by kernel_rfl
  go_enter Try.func29, Try.ntmps29
  go_wp2_with fail
  refine (deedOf_put _ _ _ _).mono ?_; rintro e w1 ⟨rfl, hb1⟩
  obtain ⟨hc, hf⟩ := bcell hb1
  have hz := hb1.size
  cases e1 : inB s 0 31 with
  | false =>
    go_wp2_with (first | (go_at_call 39; refine (isKey_impl _ _).mono ?_; rintro e w' ⟨rfl, rfl⟩) | (go_at_call 40; refine (isValue_impl _ _).mono ?_; rintro e w' ⟨rfl, rfl⟩) | (go_at_call 61; refine (rest_put _ _ _ _ _).mono ?_; rintro e w2 ⟨rfl, hb2⟩))
    go_ret2
    exact ⟨rfl, ((Below.refl _ _).alloc (Nat.le_refl _) _).trans (hb1.mono (by simp))⟩
  | true =>
  cases e2 : inB d 0 31 with
  | false =>
    go_wp2_with (first | (go_at_call 39; refine (isKey_impl _ _).mono ?_; rintro e w' ⟨rfl, rfl⟩) | (go_at_call 40; refine (isValue_impl _ _).mono ?_; rintro e w' ⟨rfl, rfl⟩) | (go_at_call 61; refine (rest_put _ _ _ _ _).mono ?_; rintro e w2 ⟨rfl, hb2⟩))
    go_ret2
    exact ⟨rfl, ((Below.refl _ _).alloc (Nat.le_refl _) _).trans (hb1.mono (by simp))⟩
  | true =>
  cases e3 : inB m 0 1000000 with
  | false =>
    go_wp2_with (first | (go_at_call 39; refine (isKey_impl _ _).mono ?_; rintro e w' ⟨rfl, rfl⟩) | (go_at_call 40; refine (isValue_impl _ _).mono ?_; rintro e w' ⟨rfl, rfl⟩) | (go_at_call 61; refine (rest_put _ _ _ _ _).mono ?_; rintro e w2 ⟨rfl, hb2⟩))
    go_ret2
    exact ⟨rfl, ((Below.refl _ _).alloc (Nat.le_refl _) _).trans (hb1.mono (by simp))⟩
  | true =>
    have e4 : decide (d = 0) = false := by have := H.out; rw [actB_rest e1 e2 e3] at this; exact this
    have HE := Lib.hid e4; clear e4
    go_wp2_with (first | (go_at_call 39; refine (isKey_impl _ _).mono ?_; rintro e w' ⟨rfl, rfl⟩) | (go_at_call 40; refine (isValue_impl _ _).mono ?_; rintro e w' ⟨rfl, rfl⟩) | (go_at_call 61; refine (rest_put _ _ _ _ _).mono ?_; rintro e w2 ⟨rfl, hb2⟩; rw [HE.out]))
    go_ret2
    exact ⟨rfl, (((Below.refl _ _).alloc (Nat.le_refl _) _).trans (hb1.mono (by simp))).trans (hb2.mono (by simp at hz; omega))⟩
theorem validDeed_put_yes (s d m : Int) (w : World) (h : actB ⟨1, s, d, m⟩ = true) :
    Calls Try.prog 29 #[.agg #[.int .i64 1, .int .i64 s, .int .i64 d, .int .i64 m]] w (DeedIs (.iface 63 (.agg #[.int .i64 1, .int .i64 s, .int .i64 d, .int .i64 m])) true w) := by
  have h' := h
  unfold actB at h'
  simp only [Bool.and_eq_true] at h'
  obtain ⟨⟨⟨e1, e2⟩, e3⟩, e4⟩ := h'
  have e5 : decide (d = 0) = true := e4
  have HE := Lib.hid e5; clear h e4 e5
  have hm : ∀ (q : Nat) (w : World), (method (q + 1) 63 (.agg #[.int .i64 1, .int .i64 s, .int .i64 d, .int .i64 m]) "loop.example/blockexecutor/impl.restIsZero").run Try.prog w = .ok (61, .agg #[.int .i64 1, .int .i64 s, .int .i64 d, .int .i64 m]) w := fun _ _ => by kernel_rfl
  go_enter Try.func29, Try.ntmps29
  go_wp2_with fail
  refine (deedOf_put _ _ _ _).mono ?_; rintro e w1 ⟨rfl, hb1⟩
  obtain ⟨hc, hf⟩ := bcell hb1
  have hz := hb1.size
  go_wp2_with (first | (go_at_call 39; refine (isKey_impl _ _).mono ?_; rintro e w' ⟨rfl, rfl⟩) | (go_at_call 40; refine (isValue_impl _ _).mono ?_; rintro e w' ⟨rfl, rfl⟩) | (go_at_call 61; refine (rest_put _ _ _ _ _).mono ?_; rintro e w2 ⟨rfl, hb2⟩; rw [HE.out]))
  go_ret2
  exact ⟨rfl, (((Below.refl _ _).alloc (Nat.le_refl _) _).trans (hb1.mono (by simp))).trans (hb2.mono (by simp at hz; omega))⟩
theorem validDeed_move_no (s d m : Int) (w : World) (h : actB ⟨2, s, d, m⟩ = false) :
    Calls Try.prog 29 #[.agg #[.int .i64 2, .int .i64 s, .int .i64 d, .int .i64 m]] w (DeedIs .nilIface false w) := by
  have H := Lib.hid h; clear h
  have hm : ∀ (q : Nat) (w : World), (method (q + 1) 64 (.agg #[.int .i64 2, .int .i64 s, .int .i64 d, .int .i64 m]) "loop.example/blockexecutor/impl.restIsZero").run Try.prog w = .ok (64, .agg #[.int .i64 2, .int .i64 s, .int .i64 d, .int .i64 m]) w := fun _ _ => by kernel_rfl
  go_enter Try.func29, Try.ntmps29
  go_wp2_with fail
  refine (deedOf_move _ _ _ _).mono ?_; rintro e w1 ⟨rfl, hb1⟩
  obtain ⟨hc, hf⟩ := bcell hb1
  have hz := hb1.size
  cases e1 : inB s 0 31 with
  | false =>
    go_wp2_with (first | (go_at_call 39; refine (isKey_impl _ _).mono ?_; rintro e w' ⟨rfl, rfl⟩) | (go_at_call 40; refine (isValue_impl _ _).mono ?_; rintro e w' ⟨rfl, rfl⟩) | (go_at_call 64; refine (rest_move _ _ _ _ _).mono ?_; rintro e w2 ⟨rfl, hb2⟩))
    go_ret2
    exact ⟨rfl, ((Below.refl _ _).alloc (Nat.le_refl _) _).trans (hb1.mono (by simp))⟩
  | true =>
  cases e2 : inB d 0 31 with
  | false =>
    go_wp2_with (first | (go_at_call 39; refine (isKey_impl _ _).mono ?_; rintro e w' ⟨rfl, rfl⟩) | (go_at_call 40; refine (isValue_impl _ _).mono ?_; rintro e w' ⟨rfl, rfl⟩) | (go_at_call 64; refine (rest_move _ _ _ _ _).mono ?_; rintro e w2 ⟨rfl, hb2⟩))
    go_ret2
    exact ⟨rfl, ((Below.refl _ _).alloc (Nat.le_refl _) _).trans (hb1.mono (by simp))⟩
  | true =>
  cases e3 : inB m 0 1000000 with
  | false =>
    go_wp2_with (first | (go_at_call 39; refine (isKey_impl _ _).mono ?_; rintro e w' ⟨rfl, rfl⟩) | (go_at_call 40; refine (isValue_impl _ _).mono ?_; rintro e w' ⟨rfl, rfl⟩) | (go_at_call 64; refine (rest_move _ _ _ _ _).mono ?_; rintro e w2 ⟨rfl, hb2⟩))
    go_ret2
    exact ⟨rfl, ((Below.refl _ _).alloc (Nat.le_refl _) _).trans (hb1.mono (by simp))⟩
  | true =>
    have := H.out; rw [actB_rest e1 e2 e3] at this; exact absurd this (by simp [restB])
theorem validDeed_move_yes (s d m : Int) (w : World) (h : actB ⟨2, s, d, m⟩ = true) :
    Calls Try.prog 29 #[.agg #[.int .i64 2, .int .i64 s, .int .i64 d, .int .i64 m]] w (DeedIs (.iface 64 (.agg #[.int .i64 2, .int .i64 s, .int .i64 d, .int .i64 m])) true w) := by
  have h' := h
  unfold actB at h'
  simp only [Bool.and_eq_true] at h'
  obtain ⟨⟨⟨e1, e2⟩, e3⟩, e4⟩ := h'
  have e5 : true = true := e4
  have HE := Lib.hid e5; clear h e4 e5
  have hm : ∀ (q : Nat) (w : World), (method (q + 1) 64 (.agg #[.int .i64 2, .int .i64 s, .int .i64 d, .int .i64 m]) "loop.example/blockexecutor/impl.restIsZero").run Try.prog w = .ok (64, .agg #[.int .i64 2, .int .i64 s, .int .i64 d, .int .i64 m]) w := fun _ _ => by kernel_rfl
  go_enter Try.func29, Try.ntmps29
  go_wp2_with fail
  refine (deedOf_move _ _ _ _).mono ?_; rintro e w1 ⟨rfl, hb1⟩
  obtain ⟨hc, hf⟩ := bcell hb1
  have hz := hb1.size
  go_wp2_with (first | (go_at_call 39; refine (isKey_impl _ _).mono ?_; rintro e w' ⟨rfl, rfl⟩) | (go_at_call 40; refine (isValue_impl _ _).mono ?_; rintro e w' ⟨rfl, rfl⟩) | (go_at_call 64; refine (rest_move _ _ _ _ _).mono ?_; rintro e w2 ⟨rfl, hb2⟩))
  go_ret2
  exact ⟨rfl, (((Below.refl _ _).alloc (Nat.le_refl _) _).trans (hb1.mono (by simp))).trans (hb2.mono (by simp at hz; omega))⟩
theorem validDeed_copy_no (s d m : Int) (w : World) (h : actB ⟨3, s, d, m⟩ = false) :
    Calls Try.prog 29 #[.agg #[.int .i64 3, .int .i64 s, .int .i64 d, .int .i64 m]] w (DeedIs .nilIface false w) := by
  have H := Lib.hid h; clear h
  have hm : ∀ (q : Nat) (w : World), (method (q + 1) 65 (.agg #[.int .i64 3, .int .i64 s, .int .i64 d, .int .i64 m]) "loop.example/blockexecutor/impl.restIsZero").run Try.prog w = .ok (69, .agg #[.int .i64 3, .int .i64 s, .int .i64 d, .int .i64 m]) w := fun _ _ => by kernel_rfl
  go_enter Try.func29, Try.ntmps29
  go_wp2_with fail
  refine (deedOf_copy _ _ _ _).mono ?_; rintro e w1 ⟨rfl, hb1⟩
  obtain ⟨hc, hf⟩ := bcell hb1
  have hz := hb1.size
  cases e1 : inB s 0 31 with
  | false =>
    go_wp2_with (first | (go_at_call 39; refine (isKey_impl _ _).mono ?_; rintro e w' ⟨rfl, rfl⟩) | (go_at_call 40; refine (isValue_impl _ _).mono ?_; rintro e w' ⟨rfl, rfl⟩) | (go_at_call 69; refine (rest_copy _ _ _ _ _).mono ?_; rintro e w2 ⟨rfl, hb2⟩))
    go_ret2
    exact ⟨rfl, ((Below.refl _ _).alloc (Nat.le_refl _) _).trans (hb1.mono (by simp))⟩
  | true =>
  cases e2 : inB d 0 31 with
  | false =>
    go_wp2_with (first | (go_at_call 39; refine (isKey_impl _ _).mono ?_; rintro e w' ⟨rfl, rfl⟩) | (go_at_call 40; refine (isValue_impl _ _).mono ?_; rintro e w' ⟨rfl, rfl⟩) | (go_at_call 69; refine (rest_copy _ _ _ _ _).mono ?_; rintro e w2 ⟨rfl, hb2⟩))
    go_ret2
    exact ⟨rfl, ((Below.refl _ _).alloc (Nat.le_refl _) _).trans (hb1.mono (by simp))⟩
  | true =>
  cases e3 : inB m 0 1000000 with
  | false =>
    go_wp2_with (first | (go_at_call 39; refine (isKey_impl _ _).mono ?_; rintro e w' ⟨rfl, rfl⟩) | (go_at_call 40; refine (isValue_impl _ _).mono ?_; rintro e w' ⟨rfl, rfl⟩) | (go_at_call 69; refine (rest_copy _ _ _ _ _).mono ?_; rintro e w2 ⟨rfl, hb2⟩))
    go_ret2
    exact ⟨rfl, ((Below.refl _ _).alloc (Nat.le_refl _) _).trans (hb1.mono (by simp))⟩
  | true =>
    have e4 : decide (m = 0) = false := by have := H.out; rw [actB_rest e1 e2 e3] at this; exact this
    have HE := Lib.hid e4; clear e4
    go_wp2_with (first | (go_at_call 39; refine (isKey_impl _ _).mono ?_; rintro e w' ⟨rfl, rfl⟩) | (go_at_call 40; refine (isValue_impl _ _).mono ?_; rintro e w' ⟨rfl, rfl⟩) | (go_at_call 69; refine (rest_copy _ _ _ _ _).mono ?_; rintro e w2 ⟨rfl, hb2⟩; rw [HE.out]))
    go_ret2
    exact ⟨rfl, (((Below.refl _ _).alloc (Nat.le_refl _) _).trans (hb1.mono (by simp))).trans (hb2.mono (by simp at hz; omega))⟩
theorem validDeed_copy_yes (s d m : Int) (w : World) (h : actB ⟨3, s, d, m⟩ = true) :
    Calls Try.prog 29 #[.agg #[.int .i64 3, .int .i64 s, .int .i64 d, .int .i64 m]] w (DeedIs (.iface 65 (.agg #[.int .i64 3, .int .i64 s, .int .i64 d, .int .i64 m])) true w) := by
  have h' := h
  unfold actB at h'
  simp only [Bool.and_eq_true] at h'
  obtain ⟨⟨⟨e1, e2⟩, e3⟩, e4⟩ := h'
  have e5 : decide (m = 0) = true := e4
  have HE := Lib.hid e5; clear h e4 e5
  have hm : ∀ (q : Nat) (w : World), (method (q + 1) 65 (.agg #[.int .i64 3, .int .i64 s, .int .i64 d, .int .i64 m]) "loop.example/blockexecutor/impl.restIsZero").run Try.prog w = .ok (69, .agg #[.int .i64 3, .int .i64 s, .int .i64 d, .int .i64 m]) w := fun _ _ => by kernel_rfl
  go_enter Try.func29, Try.ntmps29
  go_wp2_with fail
  refine (deedOf_copy _ _ _ _).mono ?_; rintro e w1 ⟨rfl, hb1⟩
  obtain ⟨hc, hf⟩ := bcell hb1
  have hz := hb1.size
  go_wp2_with (first | (go_at_call 39; refine (isKey_impl _ _).mono ?_; rintro e w' ⟨rfl, rfl⟩) | (go_at_call 40; refine (isValue_impl _ _).mono ?_; rintro e w' ⟨rfl, rfl⟩) | (go_at_call 69; refine (rest_copy _ _ _ _ _).mono ?_; rintro e w2 ⟨rfl, hb2⟩; rw [HE.out]))
  go_ret2
  exact ⟨rfl, (((Below.refl _ _).alloc (Nat.le_refl _) _).trans (hb1.mono (by simp))).trans (hb2.mono (by simp at hz; omega))⟩
theorem validDeed_swap_no (s d m : Int) (w : World) (h : actB ⟨4, s, d, m⟩ = false) :
    Calls Try.prog 29 #[.agg #[.int .i64 4, .int .i64 s, .int .i64 d, .int .i64 m]] w (DeedIs .nilIface false w) := by
  have H := Lib.hid h; clear h
  have hm : ∀ (q : Nat) (w : World), (method (q + 1) 66 (.agg #[.int .i64 4, .int .i64 s, .int .i64 d, .int .i64 m]) "loop.example/blockexecutor/impl.restIsZero").run Try.prog w = .ok (72, .agg #[.int .i64 4, .int .i64 s, .int .i64 d, .int .i64 m]) w := fun _ _ => by kernel_rfl
  go_enter Try.func29, Try.ntmps29
  go_wp2_with fail
  refine (deedOf_swap _ _ _ _).mono ?_; rintro e w1 ⟨rfl, hb1⟩
  obtain ⟨hc, hf⟩ := bcell hb1
  have hz := hb1.size
  cases e1 : inB s 0 31 with
  | false =>
    go_wp2_with (first | (go_at_call 39; refine (isKey_impl _ _).mono ?_; rintro e w' ⟨rfl, rfl⟩) | (go_at_call 40; refine (isValue_impl _ _).mono ?_; rintro e w' ⟨rfl, rfl⟩) | (go_at_call 72; refine (rest_swap _ _ _ _ _).mono ?_; rintro e w2 ⟨rfl, hb2⟩))
    go_ret2
    exact ⟨rfl, ((Below.refl _ _).alloc (Nat.le_refl _) _).trans (hb1.mono (by simp))⟩
  | true =>
  cases e2 : inB d 0 31 with
  | false =>
    go_wp2_with (first | (go_at_call 39; refine (isKey_impl _ _).mono ?_; rintro e w' ⟨rfl, rfl⟩) | (go_at_call 40; refine (isValue_impl _ _).mono ?_; rintro e w' ⟨rfl, rfl⟩) | (go_at_call 72; refine (rest_swap _ _ _ _ _).mono ?_; rintro e w2 ⟨rfl, hb2⟩))
    go_ret2
    exact ⟨rfl, ((Below.refl _ _).alloc (Nat.le_refl _) _).trans (hb1.mono (by simp))⟩
  | true =>
  cases e3 : inB m 0 1000000 with
  | false =>
    go_wp2_with (first | (go_at_call 39; refine (isKey_impl _ _).mono ?_; rintro e w' ⟨rfl, rfl⟩) | (go_at_call 40; refine (isValue_impl _ _).mono ?_; rintro e w' ⟨rfl, rfl⟩) | (go_at_call 72; refine (rest_swap _ _ _ _ _).mono ?_; rintro e w2 ⟨rfl, hb2⟩))
    go_ret2
    exact ⟨rfl, ((Below.refl _ _).alloc (Nat.le_refl _) _).trans (hb1.mono (by simp))⟩
  | true =>
    have e4 : decide (m = 0) = false := by have := H.out; rw [actB_rest e1 e2 e3] at this; exact this
    have HE := Lib.hid e4; clear e4
    go_wp2_with (first | (go_at_call 39; refine (isKey_impl _ _).mono ?_; rintro e w' ⟨rfl, rfl⟩) | (go_at_call 40; refine (isValue_impl _ _).mono ?_; rintro e w' ⟨rfl, rfl⟩) | (go_at_call 72; refine (rest_swap _ _ _ _ _).mono ?_; rintro e w2 ⟨rfl, hb2⟩; rw [HE.out]))
    go_ret2
    exact ⟨rfl, (((Below.refl _ _).alloc (Nat.le_refl _) _).trans (hb1.mono (by simp))).trans (hb2.mono (by simp at hz; omega))⟩
theorem validDeed_swap_yes (s d m : Int) (w : World) (h : actB ⟨4, s, d, m⟩ = true) :
    Calls Try.prog 29 #[.agg #[.int .i64 4, .int .i64 s, .int .i64 d, .int .i64 m]] w (DeedIs (.iface 66 (.agg #[.int .i64 4, .int .i64 s, .int .i64 d, .int .i64 m])) true w) := by
  have h' := h
  unfold actB at h'
  simp only [Bool.and_eq_true] at h'
  obtain ⟨⟨⟨e1, e2⟩, e3⟩, e4⟩ := h'
  have e5 : decide (m = 0) = true := e4
  have HE := Lib.hid e5; clear h e4 e5
  have hm : ∀ (q : Nat) (w : World), (method (q + 1) 66 (.agg #[.int .i64 4, .int .i64 s, .int .i64 d, .int .i64 m]) "loop.example/blockexecutor/impl.restIsZero").run Try.prog w = .ok (72, .agg #[.int .i64 4, .int .i64 s, .int .i64 d, .int .i64 m]) w := fun _ _ => by kernel_rfl
  go_enter Try.func29, Try.ntmps29
  go_wp2_with fail
  refine (deedOf_swap _ _ _ _).mono ?_; rintro e w1 ⟨rfl, hb1⟩
  obtain ⟨hc, hf⟩ := bcell hb1
  have hz := hb1.size
  go_wp2_with (first | (go_at_call 39; refine (isKey_impl _ _).mono ?_; rintro e w' ⟨rfl, rfl⟩) | (go_at_call 40; refine (isValue_impl _ _).mono ?_; rintro e w' ⟨rfl, rfl⟩) | (go_at_call 72; refine (rest_swap _ _ _ _ _).mono ?_; rintro e w2 ⟨rfl, hb2⟩; rw [HE.out]))
  go_ret2
  exact ⟨rfl, (((Below.refl _ _).alloc (Nat.le_refl _) _).trans (hb1.mono (by simp))).trans (hb2.mono (by simp at hz; omega))⟩
theorem validDeed_add_no (s d m : Int) (w : World) (h : actB ⟨5, s, d, m⟩ = false) :
    Calls Try.prog 29 #[.agg #[.int .i64 5, .int .i64 s, .int .i64 d, .int .i64 m]] w (DeedIs .nilIface false w) := by
  have H := Lib.hid h; clear h
  have hm : ∀ (q : Nat) (w : World), (method (q + 1) 67 (.agg #[.int .i64 5, .int .i64 s, .int .i64 d, .int .i64 m]) "loop.example/blockexecutor/impl.restIsZero").run Try.prog w = .ok (75, .agg #[.int .i64 5, .int .i64 s, .int .i64 d, .int .i64 m]) w := fun _ _ => by kernel_rfl
  go_enter Try.func29, Try.ntmps29
  go_wp2_with fail
  refine (deedOf_add _ _ _ _).mono ?_; rintro e w1 ⟨rfl, hb1⟩
  obtain ⟨hc, hf⟩ := bcell hb1
  have hz := hb1.size
  cases e1 : inB s 0 31 with
  | false =>
    go_wp2_with (first | (go_at_call 39; refine (isKey_impl _ _).mono ?_; rintro e w' ⟨rfl, rfl⟩) | (go_at_call 40; refine (isValue_impl _ _).mono ?_; rintro e w' ⟨rfl, rfl⟩) | (go_at_call 75; refine (rest_add _ _ _ _ _).mono ?_; rintro e w2 ⟨rfl, hb2⟩))
    go_ret2
    exact ⟨rfl, ((Below.refl _ _).alloc (Nat.le_refl _) _).trans (hb1.mono (by simp))⟩
  | true =>
  cases e2 : inB d 0 31 with
  | false =>
    go_wp2_with (first | (go_at_call 39; refine (isKey_impl _ _).mono ?_; rintro e w' ⟨rfl, rfl⟩) | (go_at_call 40; refine (isValue_impl _ _).mono ?_; rintro e w' ⟨rfl, rfl⟩) | (go_at_call 75; refine (rest_add _ _ _ _ _).mono ?_; rintro e w2 ⟨rfl, hb2⟩))
    go_ret2
    exact ⟨rfl, ((Below.refl _ _).alloc (Nat.le_refl _) _).trans (hb1.mono (by simp))⟩
  | true =>
  cases e3 : inB m 0 1000000 with
  | false =>
    go_wp2_with (first | (go_at_call 39; refine (isKey_impl _ _).mono ?_; rintro e w' ⟨rfl, rfl⟩) | (go_at_call 40; refine (isValue_impl _ _).mono ?_; rintro e w' ⟨rfl, rfl⟩) | (go_at_call 75; refine (rest_add _ _ _ _ _).mono ?_; rintro e w2 ⟨rfl, hb2⟩))
    go_ret2
    exact ⟨rfl, ((Below.refl _ _).alloc (Nat.le_refl _) _).trans (hb1.mono (by simp))⟩
  | true =>
    have e4 : decide (m = 0) = false := by have := H.out; rw [actB_rest e1 e2 e3] at this; exact this
    have HE := Lib.hid e4; clear e4
    go_wp2_with (first | (go_at_call 39; refine (isKey_impl _ _).mono ?_; rintro e w' ⟨rfl, rfl⟩) | (go_at_call 40; refine (isValue_impl _ _).mono ?_; rintro e w' ⟨rfl, rfl⟩) | (go_at_call 75; refine (rest_add _ _ _ _ _).mono ?_; rintro e w2 ⟨rfl, hb2⟩; rw [HE.out]))
    go_ret2
    exact ⟨rfl, (((Below.refl _ _).alloc (Nat.le_refl _) _).trans (hb1.mono (by simp))).trans (hb2.mono (by simp at hz; omega))⟩
theorem validDeed_add_yes (s d m : Int) (w : World) (h : actB ⟨5, s, d, m⟩ = true) :
    Calls Try.prog 29 #[.agg #[.int .i64 5, .int .i64 s, .int .i64 d, .int .i64 m]] w (DeedIs (.iface 67 (.agg #[.int .i64 5, .int .i64 s, .int .i64 d, .int .i64 m])) true w) := by
  have h' := h
  unfold actB at h'
  simp only [Bool.and_eq_true] at h'
  obtain ⟨⟨⟨e1, e2⟩, e3⟩, e4⟩ := h'
  have e5 : decide (m = 0) = true := e4
  have HE := Lib.hid e5; clear h e4 e5
  have hm : ∀ (q : Nat) (w : World), (method (q + 1) 67 (.agg #[.int .i64 5, .int .i64 s, .int .i64 d, .int .i64 m]) "loop.example/blockexecutor/impl.restIsZero").run Try.prog w = .ok (75, .agg #[.int .i64 5, .int .i64 s, .int .i64 d, .int .i64 m]) w := fun _ _ => by kernel_rfl
  go_enter Try.func29, Try.ntmps29
  go_wp2_with fail
  refine (deedOf_add _ _ _ _).mono ?_; rintro e w1 ⟨rfl, hb1⟩
  obtain ⟨hc, hf⟩ := bcell hb1
  have hz := hb1.size
  go_wp2_with (first | (go_at_call 39; refine (isKey_impl _ _).mono ?_; rintro e w' ⟨rfl, rfl⟩) | (go_at_call 40; refine (isValue_impl _ _).mono ?_; rintro e w' ⟨rfl, rfl⟩) | (go_at_call 75; refine (rest_add _ _ _ _ _).mono ?_; rintro e w2 ⟨rfl, hb2⟩; rw [HE.out]))
  go_ret2
  exact ⟨rfl, (((Below.refl _ _).alloc (Nat.le_refl _) _).trans (hb1.mono (by simp))).trans (hb2.mono (by simp at hz; omega))⟩
theorem validDeed_take_no (s d m : Int) (w : World) (h : actB ⟨6, s, d, m⟩ = false) :
    Calls Try.prog 29 #[.agg #[.int .i64 6, .int .i64 s, .int .i64 d, .int .i64 m]] w (DeedIs .nilIface false w) := by
  have H := Lib.hid h; clear h
  have hm : ∀ (q : Nat) (w : World), (method (q + 1) 68 (.agg #[.int .i64 6, .int .i64 s, .int .i64 d, .int .i64 m]) "loop.example/blockexecutor/impl.restIsZero").run Try.prog w = .ok (78, .agg #[.int .i64 6, .int .i64 s, .int .i64 d, .int .i64 m]) w := fun _ _ => by kernel_rfl
  go_enter Try.func29, Try.ntmps29
  go_wp2_with fail
  refine (deedOf_take _ _ _ _).mono ?_; rintro e w1 ⟨rfl, hb1⟩
  obtain ⟨hc, hf⟩ := bcell hb1
  have hz := hb1.size
  cases e1 : inB s 0 31 with
  | false =>
    go_wp2_with (first | (go_at_call 39; refine (isKey_impl _ _).mono ?_; rintro e w' ⟨rfl, rfl⟩) | (go_at_call 40; refine (isValue_impl _ _).mono ?_; rintro e w' ⟨rfl, rfl⟩) | (go_at_call 78; refine (rest_take _ _ _ _ _).mono ?_; rintro e w2 ⟨rfl, hb2⟩))
    go_ret2
    exact ⟨rfl, ((Below.refl _ _).alloc (Nat.le_refl _) _).trans (hb1.mono (by simp))⟩
  | true =>
  cases e2 : inB d 0 31 with
  | false =>
    go_wp2_with (first | (go_at_call 39; refine (isKey_impl _ _).mono ?_; rintro e w' ⟨rfl, rfl⟩) | (go_at_call 40; refine (isValue_impl _ _).mono ?_; rintro e w' ⟨rfl, rfl⟩) | (go_at_call 78; refine (rest_take _ _ _ _ _).mono ?_; rintro e w2 ⟨rfl, hb2⟩))
    go_ret2
    exact ⟨rfl, ((Below.refl _ _).alloc (Nat.le_refl _) _).trans (hb1.mono (by simp))⟩
  | true =>
  cases e3 : inB m 0 1000000 with
  | false =>
    go_wp2_with (first | (go_at_call 39; refine (isKey_impl _ _).mono ?_; rintro e w' ⟨rfl, rfl⟩) | (go_at_call 40; refine (isValue_impl _ _).mono ?_; rintro e w' ⟨rfl, rfl⟩) | (go_at_call 78; refine (rest_take _ _ _ _ _).mono ?_; rintro e w2 ⟨rfl, hb2⟩))
    go_ret2
    exact ⟨rfl, ((Below.refl _ _).alloc (Nat.le_refl _) _).trans (hb1.mono (by simp))⟩
  | true =>
    have e4 : decide (d = 0) = false := by have := H.out; rw [actB_rest e1 e2 e3] at this; exact this
    have HE := Lib.hid e4; clear e4
    go_wp2_with (first | (go_at_call 39; refine (isKey_impl _ _).mono ?_; rintro e w' ⟨rfl, rfl⟩) | (go_at_call 40; refine (isValue_impl _ _).mono ?_; rintro e w' ⟨rfl, rfl⟩) | (go_at_call 78; refine (rest_take _ _ _ _ _).mono ?_; rintro e w2 ⟨rfl, hb2⟩; rw [HE.out]))
    go_ret2
    exact ⟨rfl, (((Below.refl _ _).alloc (Nat.le_refl _) _).trans (hb1.mono (by simp))).trans (hb2.mono (by simp at hz; omega))⟩
theorem validDeed_take_yes (s d m : Int) (w : World) (h : actB ⟨6, s, d, m⟩ = true) :
    Calls Try.prog 29 #[.agg #[.int .i64 6, .int .i64 s, .int .i64 d, .int .i64 m]] w (DeedIs (.iface 68 (.agg #[.int .i64 6, .int .i64 s, .int .i64 d, .int .i64 m])) true w) := by
  have h' := h
  unfold actB at h'
  simp only [Bool.and_eq_true] at h'
  obtain ⟨⟨⟨e1, e2⟩, e3⟩, e4⟩ := h'
  have e5 : decide (d = 0) = true := e4
  have HE := Lib.hid e5; clear h e4 e5
  have hm : ∀ (q : Nat) (w : World), (method (q + 1) 68 (.agg #[.int .i64 6, .int .i64 s, .int .i64 d, .int .i64 m]) "loop.example/blockexecutor/impl.restIsZero").run Try.prog w = .ok (78, .agg #[.int .i64 6, .int .i64 s, .int .i64 d, .int .i64 m]) w := fun _ _ => by kernel_rfl
  go_enter Try.func29, Try.ntmps29
  go_wp2_with fail
  refine (deedOf_take _ _ _ _).mono ?_; rintro e w1 ⟨rfl, hb1⟩
  obtain ⟨hc, hf⟩ := bcell hb1
  have hz := hb1.size
  go_wp2_with (first | (go_at_call 39; refine (isKey_impl _ _).mono ?_; rintro e w' ⟨rfl, rfl⟩) | (go_at_call 40; refine (isValue_impl _ _).mono ?_; rintro e w' ⟨rfl, rfl⟩) | (go_at_call 78; refine (rest_take _ _ _ _ _).mono ?_; rintro e w2 ⟨rfl, hb2⟩; rw [HE.out]))
  go_ret2
  exact ⟨rfl, (((Below.refl _ _).alloc (Nat.le_refl _) _).trans (hb1.mono (by simp))).trans (hb2.mono (by simp at hz; omega))⟩
theorem validDeed_none (k s d m : Int) (w : World) (h : k ≠ 1 ∧ k ≠ 2 ∧ k ≠ 3 ∧ k ≠ 4 ∧ k ≠ 5 ∧ k ≠ 6) :
    Calls Try.prog 29 #[.agg #[.int .i64 k, .int .i64 s, .int .i64 d, .int .i64 m]] w (DeedIs .nilIface false w) := by
  go_enter Try.func29, Try.ntmps29
  go_wp2_with fail
  refine (deedOf_none _ _ _ _ _ h).mono ?_; rintro e w1 ⟨rfl, hb1⟩
  clear h
  go_wp2
  go_ret2
  exact ⟨rfl, ((Below.refl _ _).alloc (Nat.le_refl _) _).trans (hb1.mono (by simp))⟩
set_option maxHeartbeats 4000000 in
theorem actionValid_impl (k s d m : Int) (w : World) :
    Calls Try.prog 10 #[.agg #[.int .i64 k, .int .i64 s, .int .i64 d, .int .i64 m]] w (BoolB (actB ⟨k, s, d, m⟩) w) := by
  rcases kind_cases k with rfl | rfl | rfl | rfl | rfl | rfl | hk
  · cases hv : actB ⟨1, s, d, m⟩ with
    | false =>
      go_enter Try.func10, Try.ntmps10
      go_wp2_with (first | (go_at_call 29; refine (validDeed_put_no _ _ _ _ hv).mono ?_; rintro e w1 ⟨rfl, hb1⟩))
      go_ret
      exact ⟨rfl, ((Below.refl _ _).alloc (Nat.le_refl _) _).trans (hb1.mono (by simp))⟩
    | true =>
      go_enter Try.func10, Try.ntmps10
      go_wp2_with (first | (go_at_call 29; refine (validDeed_put_yes _ _ _ _ hv).mono ?_; rintro e w1 ⟨rfl, hb1⟩))
      go_ret
      exact ⟨rfl, ((Below.refl _ _).alloc (Nat.le_refl _) _).trans (hb1.mono (by simp))⟩
  · cases hv : actB ⟨2, s, d, m⟩ with
    | false =>
      go_enter Try.func10, Try.ntmps10
      go_wp2_with (first | (go_at_call 29; refine (validDeed_move_no _ _ _ _ hv).mono ?_; rintro e w1 ⟨rfl, hb1⟩))
      go_ret
      exact ⟨rfl, ((Below.refl _ _).alloc (Nat.le_refl _) _).trans (hb1.mono (by simp))⟩
    | true =>
      go_enter Try.func10, Try.ntmps10
      go_wp2_with (first | (go_at_call 29; refine (validDeed_move_yes _ _ _ _ hv).mono ?_; rintro e w1 ⟨rfl, hb1⟩))
      go_ret
      exact ⟨rfl, ((Below.refl _ _).alloc (Nat.le_refl _) _).trans (hb1.mono (by simp))⟩
  · cases hv : actB ⟨3, s, d, m⟩ with
    | false =>
      go_enter Try.func10, Try.ntmps10
      go_wp2_with (first | (go_at_call 29; refine (validDeed_copy_no _ _ _ _ hv).mono ?_; rintro e w1 ⟨rfl, hb1⟩))
      go_ret
      exact ⟨rfl, ((Below.refl _ _).alloc (Nat.le_refl _) _).trans (hb1.mono (by simp))⟩
    | true =>
      go_enter Try.func10, Try.ntmps10
      go_wp2_with (first | (go_at_call 29; refine (validDeed_copy_yes _ _ _ _ hv).mono ?_; rintro e w1 ⟨rfl, hb1⟩))
      go_ret
      exact ⟨rfl, ((Below.refl _ _).alloc (Nat.le_refl _) _).trans (hb1.mono (by simp))⟩
  · cases hv : actB ⟨4, s, d, m⟩ with
    | false =>
      go_enter Try.func10, Try.ntmps10
      go_wp2_with (first | (go_at_call 29; refine (validDeed_swap_no _ _ _ _ hv).mono ?_; rintro e w1 ⟨rfl, hb1⟩))
      go_ret
      exact ⟨rfl, ((Below.refl _ _).alloc (Nat.le_refl _) _).trans (hb1.mono (by simp))⟩
    | true =>
      go_enter Try.func10, Try.ntmps10
      go_wp2_with (first | (go_at_call 29; refine (validDeed_swap_yes _ _ _ _ hv).mono ?_; rintro e w1 ⟨rfl, hb1⟩))
      go_ret
      exact ⟨rfl, ((Below.refl _ _).alloc (Nat.le_refl _) _).trans (hb1.mono (by simp))⟩
  · cases hv : actB ⟨5, s, d, m⟩ with
    | false =>
      go_enter Try.func10, Try.ntmps10
      go_wp2_with (first | (go_at_call 29; refine (validDeed_add_no _ _ _ _ hv).mono ?_; rintro e w1 ⟨rfl, hb1⟩))
      go_ret
      exact ⟨rfl, ((Below.refl _ _).alloc (Nat.le_refl _) _).trans (hb1.mono (by simp))⟩
    | true =>
      go_enter Try.func10, Try.ntmps10
      go_wp2_with (first | (go_at_call 29; refine (validDeed_add_yes _ _ _ _ hv).mono ?_; rintro e w1 ⟨rfl, hb1⟩))
      go_ret
      exact ⟨rfl, ((Below.refl _ _).alloc (Nat.le_refl _) _).trans (hb1.mono (by simp))⟩
  · cases hv : actB ⟨6, s, d, m⟩ with
    | false =>
      go_enter Try.func10, Try.ntmps10
      go_wp2_with (first | (go_at_call 29; refine (validDeed_take_no _ _ _ _ hv).mono ?_; rintro e w1 ⟨rfl, hb1⟩))
      go_ret
      exact ⟨rfl, ((Below.refl _ _).alloc (Nat.le_refl _) _).trans (hb1.mono (by simp))⟩
    | true =>
      go_enter Try.func10, Try.ntmps10
      go_wp2_with (first | (go_at_call 29; refine (validDeed_take_yes _ _ _ _ hv).mono ?_; rintro e w1 ⟨rfl, hb1⟩))
      go_ret
      exact ⟨rfl, ((Below.refl _ _).alloc (Nat.le_refl _) _).trans (hb1.mono (by simp))⟩
  · rw [actB_kind hk]
    go_enter Try.func10, Try.ntmps10
    go_wp2_with (first | (go_at_call 29; refine (validDeed_none _ _ _ _ _ hk).mono ?_; rintro e w1 ⟨rfl, hb1⟩; clear hk))
    go_ret
    exact ⟨rfl, ((Below.refl _ _).alloc (Nat.le_refl _) _).trans (hb1.mono (by simp))⟩
end Go.Proofs.Ytkoolemlnmolfaa
