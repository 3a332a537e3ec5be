/- The walks of the exact laws of chapter 3 that answer a number or a bool. -/
import Derived.Test.YtpaeioabmmkheaaTreeSpec2
import Derived.Test.YtpaeioabmmkheaaTreeProofS
import Derived.Test.YtpaeioabmmkheaaConvE
namespace Go.Proofs.Ytpaeioabmmkheaa
open Go.RowKit
set_option linter.unusedVariables false
theorem lawExactLeafSum (k v : Int) (w : World) (hk : (Lit.int .i64 k).wf = true) (hv : (Lit.int .i64 v).wf = true) :
    Calls Try.prog 9 #[.int .i64 k, .int .i64 v] w (LawTrue w) := by
  go_enter Try.func9, Try.ntmps9
  go_wp2_with fail
  refine (leafSum_spec k v _).mono ?_; rintro e w1 ⟨rfl, hb1⟩
  obtain ⟨N, hN⟩ : ∃ N, N = leafM k v := ⟨_, rfl⟩
  have HN := Lib.hid hN
  rw [← hN]
  clear hN
  have hNN : (N != N) = false := by simp
  go_wp2_with fail
  refine (leafSum_impl k v _).mono ?_; rintro e w2 ⟨rfl, hb2⟩
  rw [← HN.out]
  go_wp2
  go_ret
  exact ⟨rfl, hb1.trans (hb2.mono hb1.size)⟩
set_option maxHeartbeats 1000000 in
theorem lawExactRootOf (a : Option Addr) (n cap : Nat) (l : List Ent) (w : World) (h : RowE w a n l) (hc : a = none → cap = 0) (hlc : n ≤ cap) :
    Calls Try.prog 10 #[.slice a n cap] w (LawTrue w) := by
  have hm := h.2.1
  go_enter Try.func10, Try.ntmps10
  go_wp2_with fail
  refine (szEntryS_any a n cap 1048576 _ (by omega) (by omega) hm).mono ?_; rintro e w' ⟨rfl, rfl⟩
  by_cases hs : (n : Int) ≤ 1048576
  · rw [if_pos hs]
    have hsz : n ≤ 1048576 := by omega
    obtain rfl := h.1
    go_wp2_with fail
    refine (toEntryS_any a _ cap l _ h hsz).mono ?_; rintro e w1 ⟨v1, rfl, ho1, hw1, hb1⟩
    obtain ⟨g1, c1, rfl, -, hr1⟩ := rowE_of_own ho1 (by omega) hw1
    clear ho1
    go_wp2_with fail
    refine (rootOf_spec _ _ c1 l _ hr1).mono ?_; rintro e w2 ⟨rfl, hd2⟩
    have hb2 := hb1.trans (hd2.mono hb1.size)
    go_wp2_with fail
    refine (toEntryS_any a _ cap l _ (h.below hb2) hsz).mono ?_; rintro e w3 ⟨v3, rfl, ho3, hw3, hb3'⟩
    have hb3 := hb2.trans (hb3'.mono hb2.size)
    obtain ⟨g3, c3, rfl, -, hr3⟩ := rowE_of_own ho3 (by omega) hw3
    clear ho3
    go_wp2_with fail
    refine (rootOf_impl _ _ c3 l _ hr3).mono ?_; rintro e w4 ⟨rfl, hd4⟩
    have hb4 := hb3.trans (hd4.mono hb3.size)
    have hr4 := hr3.below hd4
    obtain ⟨sb, hsb⟩ : ∃ sb, sb = rootM l := ⟨_, rfl⟩
    rw [← hsb]
    clear hsb hr3 hr1 hd2 hd4
    have hne : (sb != sb) = false := by simp
    go_wp2_with fail
    refine (toEntryS_any a _ cap l _ (h.below hb4) hsz).mono ?_; rintro e w5 ⟨v5, rfl, ho5, hw5, hb5'⟩
    obtain ⟨g5, c5, rfl, -, hr5⟩ := rowE_of_own ho5 (by omega) hw5
    have hb5 := hb4.trans (hb5'.mono hb4.size)
    clear ho5
    go_wp2_with fail
    refine (eqEntryS_same _ _ _ c3 c5 l _ (hr4.below hb5') hr5).mono ?_; rintro e w6 ⟨rfl, hb6'⟩
    have hb6 := hb5.trans (hb6'.mono hb5.size)
    go_wp2
    go_ret
    exact ⟨rfl, hb6⟩
  · rw [if_neg hs]
    go_wp2
    go_ret
    exact ⟨rfl, Below.refl _ _⟩
set_option maxHeartbeats 1000000 in
theorem lawExactProofRoot (k v : Int) (a : Option Addr) (len cap : Nat) (l : List Int) (w : World) (hk : (Lit.int .i64 k).wf = true) (hv : (Lit.int .i64 v).wf = true) (h : RowI w a len l) (hc : a = none → cap = 0) (hlc : len ≤ cap) :
    Calls Try.prog 12 #[.int .i64 k, .int .i64 v, .slice a len cap] w (LawTrue w) := by
  by_cases hs : len ≤ 1048576
  · have hs' : ¬ (1048576 : Int) < (len : Int) := by omega
    obtain rfl := h.1
    have HR := Lib.hid h
    clear hc hlc
    go_enter Try.func12, Try.ntmps12
    go_wp2_with fail
    refine (toIntS_any a _ cap l _ HR.out hs).mono ?_; rintro e w1 ⟨a1, c1, rfl, hr1, hb1⟩
    go_wp2_with fail
    refine (proofRoot_spec k v _ _ c1 l _ hr1).mono ?_; rintro e w2 ⟨rfl, hd2⟩
    have hb2 := hb1.trans (hd2.mono hb1.size)
    obtain ⟨N, hN⟩ : ∃ N, N = proofRootM k v l := ⟨_, rfl⟩
    have HN := Lib.hid hN
    rw [← hN]
    clear hN
    have hNN : (N != N) = false := by simp
    go_wp2_with fail
    refine (toIntS_any a _ cap l _ (HR.out.below hb2) hs).mono ?_; rintro e w3 ⟨a3, c3, rfl, hr3, hb3'⟩
    have hb3 := hb2.trans (hb3'.mono hb2.size)
    go_wp2_with fail
    refine (proofRoot_impl k v _ _ c3 l _ hr3).mono ?_; rintro e w4 ⟨rfl, hd4⟩
    rw [← HN.out]
    have hb4 := hb3.trans (hd4.mono hb3.size)
    have hr4 := hr3.below hd4
    clear hr3 hr1 hd2 hd4 hb3' HN
    go_wp2_with fail
    refine (toIntS_any a _ cap l _ (HR.out.below hb4) hs).mono ?_; rintro e w5 ⟨a5, c5, rfl, hr5, hb5'⟩
    have hb5 := hb4.trans (hb5'.mono hb4.size)
    go_wp2_with fail
    refine (eqIntS_same _ _ _ c3 c5 l _ (hr4.below hb5') hr5).mono ?_; rintro e w6 ⟨rfl, hb6'⟩
    go_wp2
    go_ret
    exact ⟨rfl, hb5.trans (hb6'.mono hb5.size)⟩
  · have hs' : (1048576 : Int) < (len : Int) := by omega
    clear h
    go_enter Try.func12, Try.ntmps12
    go_wp2
    go_ret
    exact ⟨rfl, Below.refl _ _⟩
set_option maxHeartbeats 1000000 in
theorem lawExactProofRight (root k v : Int) (a : Option Addr) (len cap : Nat) (l : List Int) (w : World) (hrt : (Lit.int .i64 root).wf = true) (hk : (Lit.int .i64 k).wf = true) (hv : (Lit.int .i64 v).wf = true) (h : RowI w a len l) (hc : a = none → cap = 0) (hlc : len ≤ cap) :
    Calls Try.prog 13 #[.int .i64 root, .int .i64 k, .int .i64 v, .slice a len cap] w (LawTrue w) := by
  by_cases hs : len ≤ 1048576
  · have hs' : ¬ (1048576 : Int) < (len : Int) := by omega
    obtain rfl := h.1
    have HR := Lib.hid h
    clear hc hlc
    go_enter Try.func13, Try.ntmps13
    go_wp2_with fail
    refine (toIntS_any a _ cap l _ HR.out hs).mono ?_; rintro e w1 ⟨a1, c1, rfl, hr1, hb1⟩
    go_wp2_with fail
    refine (proofRight_spec root k v _ _ c1 l _ hr1).mono ?_; rintro e w2 ⟨rfl, hd2⟩
    have hb2 := hb1.trans (hd2.mono hb1.size)
    obtain ⟨N, hN⟩ : ∃ N, N = proofRightM root k v l := ⟨_, rfl⟩
    have HN := Lib.hid hN
    rw [← hN]
    clear hN
    have hNN : (N != N) = false := by simp
    go_wp2_with fail
    refine (toIntS_any a _ cap l _ (HR.out.below hb2) hs).mono ?_; rintro e w3 ⟨a3, c3, rfl, hr3, hb3'⟩
    have hb3 := hb2.trans (hb3'.mono hb2.size)
    go_wp2_with fail
    refine (proofRight_impl root k v _ _ c3 l _ hr3).mono ?_; rintro e w4 ⟨rfl, hd4⟩
    rw [← HN.out]
    have hb4 := hb3.trans (hd4.mono hb3.size)
    have hr4 := hr3.below hd4
    clear hr3 hr1 hd2 hd4 hb3' HN
    go_wp2_with fail
    refine (toIntS_any a _ cap l _ (HR.out.below hb4) hs).mono ?_; rintro e w5 ⟨a5, c5, rfl, hr5, hb5'⟩
    have hb5 := hb4.trans (hb5'.mono hb4.size)
    go_wp2_with fail
    refine (eqIntS_same _ _ _ c3 c5 l _ (hr4.below hb5') hr5).mono ?_; rintro e w6 ⟨rfl, hb6'⟩
    go_wp2
    go_ret
    exact ⟨rfl, hb5.trans (hb6'.mono hb5.size)⟩
  · have hs' : (1048576 : Int) < (len : Int) := by omega
    clear h
    go_enter Try.func13, Try.ntmps13
    go_wp2
    go_ret
    exact ⟨rfl, Below.refl _ _⟩
end Go.Proofs.Ytpaeioabmmkheaa
