/- The walk of the law FnDoneCount. -/
import Derived.Test.YtpnahncmhldgdaaLawActR
import Derived.Test.YtpnahncmhldgdaaImplSer
import Derived.Test.YtpnahncmhldgdaaDrawFs
namespace Go.Proofs.Ytpnahncmhldgdaa
open Go.RowKit
set_option linter.unusedVariables false
set_option warningAsError false in
set_option maxRecDepth 100000 in
set_option maxHeartbeats 2000000 in
theorem lawDoneCount (a : Option Addr) (len cap : Nat) (z : List Int) (w : World) (h : RowB w a len z) (hc : a = none → cap = 0) (hlc : len ≤ cap) :
    Calls Try.prog 4 #[.slice a len cap] w (LawTrue w) := by
  by_cases hs : len ≤ 1048576
  · have hs' : ¬ (1048576 : Int) < (len : Int) := by omega
    go_enter Try.func4, Try.ntmps4
    go_wp2_with fail
    refine (drawDoneCount_any a len cap z w h hlc).mono ?_; rintro e w1 ⟨av, cv, L, rfl, hr1, hz1, hlc1, hl11, -, hb1⟩
    clear h hs hs' hc hlc
    have hnl := doneN_le L
    obtain ⟨n, hn⟩ : ∃ n, n = doneN L := ⟨_, rfl⟩
    have HN := Lib.hid hn
    rw [← hn] at hnl
    clear hn
    obtain ⟨m, hm⟩ : ∃ m, m = L.length := ⟨_, rfl⟩
    rw [← hm] at hr1 hlc1 hl11 hnl ⊢
    clear hm
    go_wp2_with fail
    refine (doneCount_impl _ _ cv L _ hr1).mono ?_; rintro e w2 ⟨rfl, hb2'⟩
    rw [← HN.out]
    have hr2 := hr1.below hb2'
    have hb2 := hb1.trans (hb2'.mono hb1.size)
    clear hr1 hb1 hb2'
    go_wp2_with fail
    refine (doneCount_spec _ _ cv L _ hr2).mono ?_; rintro e w3 ⟨rfl, rfl⟩
    rw [← HN.out]
    have hnn : ((n : Int) != (n : Int)) = false := by simp
    have p1 : decide ((0 : Int) ≤ (n : Int)) = true := by simp
    have p2 : decide ((n : Int) ≤ (m : Int)) = true := by simp; omega
    have p3 : (n : Int) ≤ (m : Int) := by omega
    obtain ⟨k, hk⟩ : ∃ k, k = m / 2 := ⟨_, rfl⟩
    have hkm : k ≤ m := by omega
    have hkc : k ≤ cv := by omega
    have hkd : (m : Int) / 2 = (k : Int) := by omega
    have hpt := doneN_parts L k
    obtain ⟨d1, hd1⟩ : ∃ d1, d1 = doneN (L.take k) := ⟨_, rfl⟩
    obtain ⟨d2, hd2⟩ : ∃ d2, d2 = doneN (L.drop k) := ⟨_, rfl⟩
    have HD1 := Lib.hid hd1
    have HD2 := Lib.hid hd2
    rw [← hd1, ← hd2, ← HN.out] at hpt
    have hw : IntKind.i64.wrap ((d1 : Int) + (d2 : Int)) = (n : Int) := by rw [IntWalk.i64_in _ (by omega)]; omega
    have hnn2 : ((n : Int) == (n : Int)) = true := by simp
    have hT := hr2.take k hkm
    clear hd1 hd2
    by_cases h0 : 0 < m
    · obtain ⟨b, off, rfl, -⟩ := hr2.2.2 h0
      have hD := hr2.drop k hkm
      have hkn : ¬ cv = k := by omega
      have hk2 : k < cv := by omega
      clear hk hz1
      go_upto_region 8 with (fail)
      clear hkd hnn
      have HB : Below w2.heap.size w2 w2 := Below.refl _ _
      have ht := hT
      have hd := hD
      first | (go_region_held3 (fun w' => w'.heap.size = w'.heap.size) (first | rfl | go_keep)
        (first | (go_at_call 21; refine (doneCount_impl _ _ _ (L.take k) _ (by exact ht)).mono ?_; rintro e w13 ⟨rfl, hb13'⟩; rw [← HD1.out]; have HB : Below w2.heap.size w2 w13 := (by first | exact HB.trans (hb13'.mono HB.size) | exact HB.trans (((Below.refl _ _).drew.trans hb13').mono HB.size) | exact HB.trans (((Below.refl _ _).drew.drew.trans hb13').mono HB.size)); have hd := hD.below HB; clear ht) | (go_at_call 21; refine (doneCount_impl _ _ _ (L.drop k) _ (by exact hd)).mono ?_; rintro e w13 ⟨rfl, hb13'⟩; rw [← HD2.out]; have HB : Below w2.heap.size w2 w13 := (by first | exact HB.trans (hb13'.mono HB.size) | exact HB.trans (((Below.refl _ _).drew.trans hb13').mono HB.size) | exact HB.trans (((Below.refl _ _).drew.drew.trans hb13').mono HB.size))) | (go_at_call 18; refine (alive_any _).mono ?_; rintro e w13 ⟨rfl, hb13'⟩; have HB : Below w2.heap.size w2 w13 := (by first | exact HB.trans (hb13'.mono HB.size) | exact HB.trans (((Below.refl _ _).drew.trans hb13').mono HB.size))))) | fail
      all_goals
        have HBE := Lib.hid (hb2.trans (HB.mono hb2.size))
        clear HB
        go_wp2
        go_ret
        exact ⟨rfl, HBE.out⟩
    · obtain rfl : m = 0 := by omega
      obtain rfl : k = 0 := by omega
      have hL : L = [] := List.eq_nil_of_length_eq_zero hr2.1
      have HE : Hid (∀ W A, RowFs W A 0 (L.take 0)) := Lib.hid (fun W A => by rw [hL]; exact rowFs_empty _ _)
      have e1 : d1 = 0 := by rw [HD1.out, hL]; rfl
      have e2 : d2 = 0 := by rw [HD2.out, hL]; rfl
      have HD0 : Hid (((doneN (L.take 0) : Nat) : Int) = 0) := Lib.hid (by rw [hL]; rfl)
      obtain rfl : n = 0 := by omega
      clear hk hkd hT hL e1 e2 hw HN p1 p2 p3 hnn2 hnn HD1 HD2 hnl hpt hkc hkm
      have HB : Below w2.heap.size w2 w2 := Below.refl _ _
      cases av with
      | none =>
        obtain rfl := hz1 rfl
        clear hz1 hr2
        go_upto_region 8 with (fail)
        first | (go_region_held3 (fun w' => w'.heap.size = w'.heap.size) (first | rfl | go_keep)
          (first | (go_at_call 21; refine (doneCount_impl _ _ _ (L.take 0) _ (HE.out _ _)).mono ?_; rintro e w13 ⟨rfl, hb13'⟩; rw [HD0.out]; have HB : Below w2.heap.size w2 w13 := (by first | exact HB.trans (hb13'.mono HB.size) | exact HB.trans (((Below.refl _ _).drew.trans hb13').mono HB.size) | exact HB.trans (((Below.refl _ _).drew.drew.trans hb13').mono HB.size))) | (go_at_call 18; refine (alive_any _).mono ?_; rintro e w13 ⟨rfl, hb13'⟩; have HB : Below w2.heap.size w2 w13 := (by first | exact HB.trans (hb13'.mono HB.size) | exact HB.trans (((Below.refl _ _).drew.trans hb13').mono HB.size))))) | fail
        all_goals
          have HBE := Lib.hid (hb2.trans (HB.mono hb2.size))
          clear HB
          go_wp2
          go_ret
          exact ⟨rfl, HBE.out⟩
      | some ad =>
        obtain ⟨b, off, sp⟩ := ad
        clear hz1 hr2
        by_cases hcv : cv = 0
        · subst hcv
          go_upto_region 8 with (fail)
          first | (go_region_held3 (fun w' => w'.heap.size = w'.heap.size) (first | rfl | go_keep)
            (first | (go_at_call 21; refine (doneCount_impl _ _ _ (L.take 0) _ (HE.out _ _)).mono ?_; rintro e w13 ⟨rfl, hb13'⟩; rw [HD0.out]; have HB : Below w2.heap.size w2 w13 := (by first | exact HB.trans (hb13'.mono HB.size) | exact HB.trans (((Below.refl _ _).drew.trans hb13').mono HB.size) | exact HB.trans (((Below.refl _ _).drew.drew.trans hb13').mono HB.size))) | (go_at_call 18; refine (alive_any _).mono ?_; rintro e w13 ⟨rfl, hb13'⟩; have HB : Below w2.heap.size w2 w13 := (by first | exact HB.trans (hb13'.mono HB.size) | exact HB.trans (((Below.refl _ _).drew.trans hb13').mono HB.size))))) | fail
          all_goals
            have HBE := Lib.hid (hb2.trans (HB.mono hb2.size))
            clear HB
            go_wp2
            go_ret
            exact ⟨rfl, HBE.out⟩
        · have hcv2 : 0 < cv := by omega
          go_upto_region 8 with (fail)
          first | (go_region_held3 (fun w' => w'.heap.size = w'.heap.size) (first | rfl | go_keep)
            (first | (go_at_call 21; refine (doneCount_impl _ _ _ (L.take 0) _ (HE.out _ _)).mono ?_; rintro e w13 ⟨rfl, hb13'⟩; rw [HD0.out]; have HB : Below w2.heap.size w2 w13 := (by first | exact HB.trans (hb13'.mono HB.size) | exact HB.trans (((Below.refl _ _).drew.trans hb13').mono HB.size) | exact HB.trans (((Below.refl _ _).drew.drew.trans hb13').mono HB.size))) | (go_at_call 18; refine (alive_any _).mono ?_; rintro e w13 ⟨rfl, hb13'⟩; have HB : Below w2.heap.size w2 w13 := (by first | exact HB.trans (hb13'.mono HB.size) | exact HB.trans (((Below.refl _ _).drew.trans hb13').mono HB.size))))) | fail
          all_goals
            have HBE := Lib.hid (hb2.trans (HB.mono hb2.size))
            clear HB
            go_wp2
            go_ret
            exact ⟨rfl, HBE.out⟩
  · have hs' : (1048576 : Int) < (len : Int) := by omega
    clear h hlc
    go_enter Try.func4, Try.ntmps4
    go_wp2
    go_ret
    exact ⟨rfl, Below.refl _ _⟩
end Go.Proofs.Ytpnahncmhldgdaa
