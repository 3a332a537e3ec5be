/- The walks of the laws FnLeafSum, FnProofRoot and FnProofRight. -/
import Derived.Test.YtpaeioabmmkheaaDrawTrees
import Derived.Test.YtpaeioabmmkheaaTreeProofS
import Derived.Test.YtpaeioabmmkheaaAlive
namespace Go.Proofs.Ytpaeioabmmkheaa
open Go.RowKit
set_option linter.unusedVariables false
theorem xor_ne (x : Int) (h0 : 0 ≤ x) (h1 : x ≤ 1000000000) : bits .xor .i64 x 1 ≠ x := by
  have := xor_one_i64 x h0 h1
  omega
set_option maxHeartbeats 4000000 in
theorem lawLeafSum (a : Option Addr) (len cap : Nat) (z : List Int) (w : World) (h : RowB w a len z) (hc : a = none → cap = 0) (hlc : len ≤ cap) :
    Calls Try.prog 3 #[.slice a len cap] w (LawTrue w) := by
  by_cases hs : len ≤ 1048576
  · have hs' : ¬ (1048576 : Int) < (len : Int) := by omega
    go_enter Try.func3, Try.ntmps3
    go_wp2_with fail
    refine (drawLeafSum_any a len cap z w h hlc).mono ?_; rintro e w1 ⟨k, v, rfl, hk0, hk1, hv0, hv1, hb1⟩
    clear h hs hs' hlc hc
    go_wp2_with fail
    refine (leafSum_impl k v _).mono ?_; rintro e w2 ⟨rfl, hb2'⟩
    have hb2 := hb1.trans (hb2'.mono hb1.size)
    obtain ⟨N, hN⟩ : ∃ N, N = leafM k v := ⟨_, rfl⟩
    have HN := Lib.hid hN
    rw [← hN]
    clear hN hb1 hb2'
    have hNN : (N != N) = false := by simp
    go_wp2_with fail
    refine (leafSum_spec k v _).mono ?_; rintro e w3 ⟨rfl, hb3'⟩
    have hb3 := hb2.trans (hb3'.mono hb2.size)
    rw [← HN.out]
    clear hb2 hb3'
    by_cases hin : 0 ≤ k ∧ k ≤ 31 ∧ 0 ≤ v ∧ v ≤ 1000000
    · obtain ⟨a0, a1, a2, a3⟩ := hin
      have hN0 : 0 ≤ N := by rw [HN.out]; exact leafM_ok a0 a1 a2 a3
      have hneg : decide (N < 0) = false := by simp; omega
      have HS : Hid (sumOfM 1 [k, v] = N) := Lib.hid (by rw [HN.out, leafM_in a0 a1 a2 a3, sumOfM_yes 1 [k, v] (by omega) (by omega) (all_two a0 (by omega) a2 (by omega))]; rfl)
      have hx1 := xor_ne v a2 (by omega)
      have hx2 := xor_ne k a0 (by omega)
      have HX1 := Lib.hid (leafM_val a0 a1 a2 a3 hx1)
      have HX2 := Lib.hid (leafM_key a0 a1 a2 a3 hx2)
      clear hx1 hx2
      go_wp2_with fail
      refine (sumOf_impl 1 _ 2 2 [k, v] _ (rowI_lit2 _ _ _ _ (by omega) (by omega))).mono ?_; rintro e w' ⟨rfl, rfl⟩
      rw [HS.out]
      have hNe : (N == N) = true := by simp
      go_wp2_with fail
      refine (leafSum_impl k _ _).mono ?_; rintro e w4 ⟨rfl, hb4'⟩
      rw [← HN.out] at HX1 HX2
      obtain ⟨M, hM⟩ : ∃ M, M = leafM k (bits .xor .i64 v 1) := ⟨_, rfl⟩
      have hMN : (M != N) = true := by rw [hM]; simpa using HX1.out
      rw [← hM]
      clear hM HX1
      go_wp2_with fail
      refine (leafSum_impl _ v _).mono ?_; rintro e w5 ⟨rfl, hb5'⟩
      obtain ⟨M2, hM2⟩ : ∃ M, M = leafM (bits .xor .i64 k 1) v := ⟨_, rfl⟩
      have hMN2 : (M2 != N) = true := by rw [hM2]; simpa using HX2.out
      rw [← hM2]
      clear hM2 HX2
      have hb4 := (hb3.alloc hb3.size _).trans (hb4'.mono (by have := hb3.size; simp; omega))
      have hb5 := hb4.trans (hb5'.mono hb4.size)
      go_wp2
      go_ret
      exact ⟨rfl, hb5⟩
    · have hN1 : N = -1 := by rw [HN.out]; exact leafM_no hin
      clear hin
      subst hN1
      go_wp2_with fail
      refine (alive_any _).mono ?_; rintro e w7 ⟨rfl, hb7⟩
      go_wp2
      go_ret
      exact ⟨rfl, hb3.trans (hb7.mono hb3.size)⟩
  · have hs' : (1048576 : Int) < (len : Int) := by omega
    clear h hlc
    go_enter Try.func3, Try.ntmps3
    go_wp2
    go_ret
    exact ⟨rfl, Below.refl _ _⟩
set_option maxHeartbeats 4000000 in
theorem lawProofRoot (a : Option Addr) (len cap : Nat) (z : List Int) (w : World) (h : RowB w a len z) (hc : a = none → cap = 0) (hlc : len ≤ cap) :
    Calls Try.prog 6 #[.slice a len cap] w (LawTrue w) := by
  by_cases hs : len ≤ 1048576
  · have hs' : ¬ (1048576 : Int) < (len : Int) := by omega
    go_enter Try.func6, Try.ntmps6
    go_wp2_with fail
    refine (drawProofRoot_any a len cap z w h hlc).mono ?_; rintro e w1 ⟨k, v, g, o, n, c, p, rfl, hk0, hk1, hv0, hv1, hn5, hr1, hb1⟩
    clear h hs hs' hlc hc
    go_wp2_with fail
    refine (proofRoot_impl k v _ _ c p _ hr1).mono ?_; rintro e w2 ⟨rfl, hb2'⟩
    have hb2 := hb1.trans (hb2'.mono hb1.size)
    have hr2 := hr1.below hb2'
    obtain ⟨N, hN⟩ : ∃ N, N = proofRootM k v p := ⟨_, rfl⟩
    have HN := Lib.hid hN
    rw [← hN]
    clear hN hb1 hb2' hr1
    have hNN : (N != N) = false := by simp
    go_wp2_with fail
    refine (proofRoot_spec k v _ _ c p _ hr2).mono ?_; rintro e w3 ⟨rfl, hb3'⟩
    have hb3 := hb2.trans (hb3'.mono hb2.size)
    have hr3 := hr2.below hb3'
    rw [← HN.out]
    clear hb2 hb3' hr2
    have hbd := proofRoot_bd k v p
    by_cases hN0 : 0 ≤ N
    · have hneg : decide (N < 0) = false := by simp; omega
      have hlt : decide (N < 1000003) = true := by simp; rw [HN.out]; omega
      have hnn := proofRoot_nn (by rw [← HN.out]; exact hN0)
      have HX := Lib.hid (proofRoot_val (val' := bits .xor .i64 v 1) (by rw [← HN.out]; exact hN0) (xor_ne v hnn.2.2.1 (by omega)))
      clear hN0 hnn hbd
      go_wp2_with fail
      refine (proofRoot_impl k _ _ _ c p _ hr3).mono ?_; rintro e w4 ⟨rfl, hb4'⟩
      rw [← HN.out] at HX
      obtain ⟨M, hM⟩ : ∃ M, M = proofRootM k (bits .xor .i64 v 1) p := ⟨_, rfl⟩
      have hMN : (M != N) = true := by rw [hM]; simpa using HX.out
      rw [← hM]
      clear hM HX
      go_wp2
      go_ret
      exact ⟨rfl, hb3.trans (hb4'.mono hb3.size)⟩
    · have hN1 : N = -1 := by rw [HN.out] at hN0 ⊢; omega
      clear hN0 hbd
      subst hN1
      go_wp2_with fail
      refine (alive_any _).mono ?_; rintro e w7 ⟨rfl, hb7⟩
      go_wp2
      go_ret
      exact ⟨rfl, hb3.trans (hb7.mono hb3.size)⟩
  · have hs' : (1048576 : Int) < (len : Int) := by omega
    clear h hlc
    go_enter Try.func6, Try.ntmps6
    go_wp2
    go_ret
    exact ⟨rfl, Below.refl _ _⟩
set_option maxHeartbeats 4000000 in
theorem lawProofRight (a : Option Addr) (len cap : Nat) (z : List Int) (w : World) (h : RowB w a len z) (hc : a = none → cap = 0) (hlc : len ≤ cap) :
    Calls Try.prog 7 #[.slice a len cap] w (LawTrue w) := by
  by_cases hs : len ≤ 1048576
  · have hs' : ¬ (1048576 : Int) < (len : Int) := by omega
    go_enter Try.func7, Try.ntmps7
    go_wp2_with fail
    refine (drawProofRight_any a len cap z w h hlc).mono ?_; rintro e w1 ⟨rt, k, v, g, o, n, c, p, rfl, hr0, hr1', hk0, hk1, hv0, hv1, hn5, hr1, hb1⟩
    clear h hs hs' hlc hc
    go_wp2_with fail
    refine (proofRight_impl rt k v _ _ c p _ hr1).mono ?_; rintro e w2 ⟨rfl, hb2'⟩
    have hb2 := hb1.trans (hb2'.mono hb1.size)
    have hr2 := hr1.below hb2'
    obtain ⟨N, hN⟩ : ∃ N, N = proofRightM rt k v p := ⟨_, rfl⟩
    have HN := Lib.hid hN
    rw [← hN]
    clear hN hb1 hb2' hr1
    have hNN : (N != N) = false := by simp
    go_wp2_with fail
    refine (proofRight_spec rt k v _ _ c p _ hr2).mono ?_; rintro e w3 ⟨rfl, hb3'⟩
    have hb3 := hb2.trans (hb3'.mono hb2.size)
    have hr3 := hr2.below hb3'
    rw [← HN.out]
    clear hb2 hb3' hr2
    cases N with
    | true =>
      have hN := HN.out.symm
      simp only [proofRightM, Bool.and_eq_true, decide_eq_true_eq] at hN
      obtain ⟨h0, hroot⟩ := hN
      have hnn := proofRoot_nn (by rw [hroot]; exact h0)
      have hne := proofRoot_val (val' := bits .xor .i64 v 1) (by rw [hroot]; exact h0) (xor_ne v hnn.2.2.1 (by omega))
      have HX : Hid (proofRightM rt k (bits .xor .i64 v 1) p = false) := Lib.hid (by
        simp only [proofRightM, Bool.and_eq_false_iff, decide_eq_false_iff_not]
        exact .inr (by rw [← hroot]; exact hne))
      have HRT := Lib.hid hroot
      clear hnn hne hroot h0
      go_wp2_with fail
      refine (proofRight_impl rt k _ _ _ c p _ hr3).mono ?_; rintro e w4 ⟨rfl, hb4'⟩
      rw [HX.out]
      have hr4 := hr3.below hb4'
      have hb4 := hb3.trans (hb4'.mono hb3.size)
      clear hr3 hb4' hb3
      go_wp2_with fail
      refine (proofRoot_impl k v _ _ c p _ hr4).mono ?_; rintro e w5 ⟨rfl, hb5'⟩
      rw [HRT.out]
      have hb5 := hb4.trans (hb5'.mono hb4.size)
      have hee : (rt == rt) = true := by simp
      go_wp2_with fail
      refine (alive_any _).mono ?_; rintro e w7 ⟨rfl, hb7⟩
      go_wp2
      go_ret
      exact ⟨rfl, hb5.trans (hb7.mono hb5.size)⟩
    | false =>
      go_wp2_with fail
      refine (alive_any _).mono ?_; rintro e w7 ⟨rfl, hb7⟩
      go_wp2
      go_ret
      exact ⟨rfl, hb3.trans (hb7.mono hb3.size)⟩
  · have hs' : (1048576 : Int) < (len : Int) := by omega
    clear h hlc
    go_enter Try.func7, Try.ntmps7
    go_wp2
    go_ret
    exact ⟨rfl, Below.refl _ _⟩
end Go.Proofs.Ytpaeioabmmkheaa
