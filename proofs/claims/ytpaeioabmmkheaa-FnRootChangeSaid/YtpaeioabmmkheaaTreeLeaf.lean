/- The contracts of LeafSum and of the sum of two, the program's and the model's. -/
import Derived.Test.YtpaeioabmmkheaaTreeMath
import Derived.Test.YtpaeioabmmkheaaImplStore
import Derived.Test.YtpaeioabmmkheaaImplSum
import Derived.Test.YtpaeioabmmkheaaSpecSum
namespace Go.Proofs.Ytpaeioabmmkheaa
open Go.RowKit
theorem rowI_lit2 (w : World) (T : TypeId) (a b : Int) (ha : -9223372036854775808 ≤ a ∧ a ≤ 9223372036854775807) (hb : -9223372036854775808 ≤ b ∧ b ≤ 9223372036854775807) :
    RowI (w.alloc (.cells #[.int .i64 a, .int .i64 b] T)) (some ⟨w.heap.size, 0, none⟩) 2 [a, b] := by
  refine ⟨rfl, by unfold maxLen; omega, fun _ => ⟨w.heap.size, 0, rfl, fun i hi => ?_⟩, ?_⟩
  · rcases (by omega : i = 0 ∨ i = 1) with rfl | rfl <;> simp [go_sem]
  · intro n hn
    simp only [List.mem_cons, List.not_mem_nil, or_false] at hn
    rcases hn with rfl | rfl
    · exact WalkArith.wf_i64 ha
    · exact WalkArith.wf_i64 hb
theorem all_two {a b : Int} (h0 : 0 ≤ a) (h1 : a ≤ 2000000) (h2 : 0 ≤ b) (h3 : b ≤ 2000000) : [a, b].all okSummed = true := by
  simp only [List.all_cons, List.all_nil, okSummed, Bool.and_true, Bool.and_eq_true, decide_eq_true_eq]; omega
theorem leafSum_impl (k v : Int) (w : World) :
    Calls Try.prog 15 #[.int .i64 k, .int .i64 v] w (IntB (leafM k v) w) := by
  cases e1 : inB k 0 31 with
  | false =>
    have HF := Lib.hid (leafM_no (k := k) (v := v) (by have := inB_false e1; omega))
    go_enter Try.func15, Try.ntmps15
    go_wp2_with (first | (go_at_call 44; refine (isKey_impl _ _).mono ?_; rintro e w' ⟨rfl, rfl⟩))
    go_ret
    exact ⟨ret_int HF.out.symm, Below.refl _ _⟩
  | true =>
    cases e2 : inB v 0 1000000 with
    | false =>
      have HF := Lib.hid (leafM_no (k := k) (v := v) (by have := inB_false e2; omega))
      go_enter Try.func15, Try.ntmps15
      go_wp2_with (first | (go_at_call 44; refine (isKey_impl _ _).mono ?_; rintro e w' ⟨rfl, rfl⟩) | (go_at_call 45; refine (isValue_impl _ _).mono ?_; rintro e w' ⟨rfl, rfl⟩))
      go_ret
      exact ⟨ret_int HF.out.symm, Below.refl _ _⟩
    | true =>
      have h1 := inB_true e1
      have h2 := inB_true e2
      have HF := Lib.hid (leafM_in h1.1 h1.2 h2.1 h2.2)
      have HS := Lib.hid (sumOfM_yes 1 [k, v] (by omega) (by omega) (all_two h1.1 (by omega) h2.1 (by omega)))
      go_enter Try.func15, Try.ntmps15
      go_wp2_with (first | (go_at_call 44; refine (isKey_impl _ _).mono ?_; rintro e w' ⟨rfl, rfl⟩) | (go_at_call 45; refine (isValue_impl _ _).mono ?_; rintro e w' ⟨rfl, rfl⟩) | (go_at_call 18; refine (sumOf_impl 1 _ 2 2 [k, v] _ (rowI_lit2 _ _ _ _ (by omega) (by omega))).mono ?_; rintro e w' ⟨rfl, rfl⟩))
      go_ret
      exact ⟨ret_int (by rw [HF.out, HS.out]; rfl), (Below.refl _ _).alloc (Nat.le_refl _) _⟩
theorem pairSum_impl (a b : Int) (w : World) (h0 : 0 ≤ a) (h1 : a ≤ 1000002) (h2 : 0 ≤ b) (h3 : b ≤ 1000002) :
    Calls Try.prog 60 #[.int .i64 a, .int .i64 b] w (IntB (pairM a b) w) := by
  have HS := Lib.hid (sumOfM_yes 2 [a, b] (by omega) (by omega) (all_two h0 (by omega) h2 (by omega)))
  go_enter Try.func60, Try.ntmps60
  go_wp2_with (first | (go_at_call 18; refine (sumOf_impl 2 _ 2 2 [a, b] _ (rowI_lit2 _ _ _ _ (by omega) (by omega))).mono ?_; rintro e w' ⟨rfl, rfl⟩))
  go_ret
  exact ⟨ret_int (by rw [HS.out]; rfl), (Below.refl _ _).alloc (Nat.le_refl _) _⟩
theorem leafSum_spec (k v : Int) (w : World) :
    Calls Try.prog 16 #[.int .i64 k, .int .i64 v] w (IntB (leafM k v) w) := by
  cases e1 : inB k 0 31 with
  | false =>
    have HF := Lib.hid (leafM_no (k := k) (v := v) (by have := inB_false e1; omega))
    go_enter Try.func16, Try.ntmps16
    go_wp2_with (first | (go_at_call 46; refine (l1In_spec _ _ _ _).mono ?_; rintro e w' ⟨rfl, rfl⟩))
    go_ret
    exact ⟨ret_int HF.out.symm, Below.refl _ _⟩
  | true =>
    cases e2 : inB v 0 1000000 with
    | false =>
      have HF := Lib.hid (leafM_no (k := k) (v := v) (by have := inB_false e2; omega))
      go_enter Try.func16, Try.ntmps16
      go_wp2_with (first | (go_at_call 46; refine (l1In_spec _ _ _ _).mono ?_; rintro e w' ⟨rfl, rfl⟩))
      go_ret
      exact ⟨ret_int HF.out.symm, Below.refl _ _⟩
    | true =>
      have h1 := inB_true e1
      have h2 := inB_true e2
      have HF := Lib.hid (leafM_in h1.1 h1.2 h2.1 h2.2)
      have HA := Lib.hid (all_two h1.1 (by omega) h2.1 (by omega))
      go_enter Try.func16, Try.ntmps16
      go_wp2_with (first | (go_at_call 46; refine (l1In_spec _ _ _ _).mono ?_; rintro e w' ⟨rfl, rfl⟩) | (go_at_call 47; refine (l1Sum_any 1 _ 2 2 [k, v] _ (rowI_lit2 _ _ _ _ (by omega) (by omega)) (by omega) (by omega) HA.out).mono ?_; rintro e w' ⟨rfl, rfl⟩))
      go_ret
      exact ⟨ret_int (by rw [HF.out]), (Below.refl _ _).alloc (Nat.le_refl _) _⟩
theorem l3Node_spec (a b : Int) (w : World) (h0 : 0 ≤ a) (h1 : a ≤ 1000002) (h2 : 0 ≤ b) (h3 : b ≤ 1000002) :
    Calls Try.prog 62 #[.int .i64 a, .int .i64 b] w (IntB (pairM a b) w) := by
  have HA := Lib.hid (all_two h0 (by omega) h2 (by omega))
  go_enter Try.func62, Try.ntmps62
  go_wp2_with (first | (go_at_call 47; refine (l1Sum_any 2 _ 2 2 [a, b] _ (rowI_lit2 _ _ _ _ (by omega) (by omega)) (by omega) (by omega) HA.out).mono ?_; rintro e w' ⟨rfl, rfl⟩))
  go_ret
  exact ⟨ret_int (by rfl), (Below.refl _ _).alloc (Nat.le_refl _) _⟩
end Go.Proofs.Ytpaeioabmmkheaa
