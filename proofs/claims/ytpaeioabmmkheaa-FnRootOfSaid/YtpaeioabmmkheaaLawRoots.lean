/- The walks of the laws FnRootOf, FnProofOf and FnRootChange. -/
import Derived.Test.YtpaeioabmmkheaaLawTrees
import Derived.Test.YtpaeioabmmkheaaSameInts
import Derived.Test.YtpaeioabmmkheaaLawProofExact
namespace Go.Proofs.Ytpaeioabmmkheaa
open Go.RowKit
set_option linter.unusedVariables false
theorem valueM_in {l : List Ent} (h : storeB l = true) {k : Int} (h0 : 0 ≤ k) (h1 : k ≤ 31) : valueM l k = atM l k := by simp [valueM, h, inB_yes h0 h1]
theorem putM_in {l : List Ent} (h : storeB l = true) {k v : Int} (a : 0 ≤ k) (b : k ≤ 31) (c : 0 ≤ v) (d : v ≤ 1000000) : putM l k v = (putRaw k v l, true) := by
  rw [putM, if_pos h, inB_yes a b, inB_yes c d]; rfl
theorem proofRight_root {l : List Ent} (h : storeB l = true) {k : Int} (a : 0 ≤ k) (b : k ≤ 31) : proofRightM (rootM l) k (atM l k) (proofM l k) = true := by
  simp only [proofRightM, Bool.and_eq_true, decide_eq_true_eq]
  refine ⟨?_, proof_root h a b⟩
  rw [rootM, if_pos h]
  exact (nodeM_bd h 5 0 (fun e => by cases e)).1
theorem root_nn {l : List Ent} (h : storeB l = true) : 0 ≤ rootM l := by
  rw [rootM, if_pos h]; exact (nodeM_bd h 5 0 (fun e => by cases e)).1
set_option maxHeartbeats 4000000 in
theorem lawRootOf (a : Option Addr) (len cap : Nat) (z : List Int) (w : World) (h : RowB w a len z) (hc : a = none → cap = 0) (hlc : len ≤ cap) :
    Calls Try.prog 4 #[.slice a len cap] w (LawTrue w) := by
  by_cases hs : len ≤ 1048576
  · have hs' : ¬ (1048576 : Int) < (len : Int) := by omega
    go_enter Try.func4, Try.ntmps4
    go_wp2_with fail
    refine (drawRootOf_any a len cap z w h hlc).mono ?_; rintro e w1 ⟨v, l, rfl, hown, hwf, hlen, hb1⟩
    obtain ⟨g, c, rfl, hg, hr1⟩ := rowE_of_own hown (by omega) hwf
    clear h hs hs' hlc hc hown
    go_wp2_with fail
    refine (rootOf_impl _ _ c l _ hr1).mono ?_; rintro e w2 ⟨rfl, hb2'⟩
    have hb2 := hb1.trans (hb2'.mono hb1.size)
    have hr2 := hr1.below hb2'
    obtain ⟨N, hN⟩ : ∃ N, N = rootM l := ⟨_, rfl⟩
    have HN := Lib.hid hN
    rw [← hN]
    clear hN hb1 hb2' hr1
    have hNN : (N != N) = false := by simp
    go_wp2_with fail
    refine (rootOf_spec _ _ c l _ hr2).mono ?_; rintro e w3 ⟨rfl, hb3'⟩
    have hb3 := hb2.trans (hb3'.mono hb2.size)
    have hr3 := hr2.below hb3'
    rw [← HN.out]
    clear hb2 hb3' hr2
    cases hst : storeB l with
    | false =>
      have hN1 : N = -1 := by rw [HN.out]; simp [rootM, hst]
      subst hN1
      go_wp2_with fail
      refine (storeValid_spec _ _ c l _ hr3).mono ?_; rintro e w4 ⟨rfl, hd4⟩
      rw [hst]
      have hb4 := hb3.trans (hd4.below _)
      clear hd4 hst
      go_wp2_with fail
      refine (alive_any _).mono ?_; rintro e w7 ⟨rfl, hb7⟩
      go_wp2
      go_ret
      exact ⟨rfl, hb4.trans (hb7.mono hb4.size)⟩
    | true =>
      have HST := Lib.hid hst
      have hN0 : 0 ≤ N := by rw [HN.out]; exact root_nn hst
      have hN2 : N ≤ 1000002 := by rw [HN.out]; exact (rootM_bd l).2
      have hneg : decide (N < 0) = false := by simp; omega
      have hlt : decide (N < 1000003) = true := by simp; omega
      clear hst
      go_wp2_with fail
      go_loopw [5] (fun i wr => ∃ k : Nat, k ≤ 36 ∧ i = .int .i64 k ∧ Below w3.heap.size w3 wr) (fun i _ => 36 - (intOf i).toNat)
      case atStart => exact ⟨0, by omega, rfl, Below.refl _ _⟩
      case round =>
        obtain ⟨k, hk, rfl, hb⟩ := hrel
        by_cases hkk : k ≤ 31
        · have hkb : decide ((k : Int) ≤ 31) = true := by simp; omega
          have HV := Lib.hid (valueM_in HST.out (k := (k : Int)) (by omega) (by omega))
          have HP := Lib.hid (show proofRightM N (k : Int) (atM l (k : Int)) (proofM l (k : Int)) = true by rw [HN.out]; exact proofRight_root HST.out (by omega) (by omega))
          have hrr := hr3.below hb
          go_wp2_with fail
          refine (valueAt_impl _ _ c l k _ hrr).mono ?_; rintro e w4 ⟨rfl, hb4'⟩
          have hr4 := hrr.below hb4'
          have hb4 := hb.trans (hb4'.mono hb.size)
          rw [HV.out]
          go_wp2_with fail
          refine (proofOf_impl _ _ c l k _ hr4).mono ?_; rintro e w5 ⟨vp, rfl, hop, hwp, hb5'⟩
          have hb5 := hb4.trans (hb5'.mono hb4.size)
          obtain ⟨gp, cp, rfl, hrp⟩ := rowI_of_owns hop (by have := proofM_len l k; unfold maxLen; omega) hwp
          clear hop
          go_wp2_with fail
          refine (proofRight_impl N k _ _ _ cp _ _ hrp).mono ?_; rintro e w6 ⟨rfl, hb6'⟩
          rw [HP.out]
          have hb6 := hb5.trans (hb6'.mono hb5.size)
          clear hrr hr4 hrp hb hb4 hb5 hb4' hb5' hb6'
          go_wp2
          go_roundw
          case rel => exact ⟨k + 5, by omega, by go_num, hb6⟩
          case measure => simp [intOf]; omega
        · have hkb : decide ((k : Int) ≤ 31) = false := by simp; omega
          go_wp2
          go_ret
          exact ⟨rfl, hb3.trans (hb.mono hb3.size)⟩
  · have hs' : (1048576 : Int) < (len : Int) := by omega
    clear h hlc
    go_enter Try.func4, Try.ntmps4
    go_wp2
    go_ret
    exact ⟨rfl, Below.refl _ _⟩
set_option maxHeartbeats 4000000 in
theorem lawRootChange (a : Option Addr) (len cap : Nat) (z : List Int) (w : World) (h : RowB w a len z) (hc : a = none → cap = 0) (hlc : len ≤ cap) :
    Calls Try.prog 8 #[.slice a len cap] w (LawTrue w) := by
  by_cases hs : len ≤ 1048576
  · have hs' : ¬ (1048576 : Int) < (len : Int) := by omega
    go_enter Try.func8, Try.ntmps8
    go_wp2_with fail
    refine (drawRootOf_any a len cap z w h hlc).mono ?_; rintro e w1 ⟨v, l, rfl, hown, hwf, hlen, hb1⟩
    obtain ⟨g, c, rfl, hg, hr1⟩ := rowE_of_own hown (by omega) hwf
    clear h hs' hlc hc hown
    go_wp2_with fail
    refine (rootOf_impl _ _ c l _ hr1).mono ?_; rintro e w2 ⟨rfl, hb2'⟩
    have hb2 := hb1.trans (hb2'.mono hb1.size)
    have hr2 := hr1.below hb2'
    obtain ⟨N, hN⟩ : ∃ N, N = rootM l := ⟨_, rfl⟩
    have HN := Lib.hid hN
    rw [← hN]
    clear hN hb1 hb2' hr1
    have hNN : (N != N) = false := by simp
    go_wp2_with fail
    refine (rootOf_spec _ _ c l _ hr2).mono ?_; rintro e w3 ⟨rfl, hb3'⟩
    have hb3 := hb2.trans (hb3'.mono hb2.size)
    have hr3 := hr2.below hb3'
    rw [← HN.out]
    clear hb2 hb3' hr2
    cases hst : storeB l with
    | false =>
      have hN1 : N = -1 := by rw [HN.out]; simp [rootM, hst]
      subst hN1
      clear hst
      go_wp2_with fail
      refine (alive_any _).mono ?_; rintro e w7 ⟨rfl, hb7⟩
      go_wp2
      go_ret
      exact ⟨rfl, hb3.trans (hb7.mono hb3.size)⟩
    | true =>
      have hN0 : 0 ≤ N := by rw [HN.out]; exact root_nn hst
      have hneg : decide (N < 0) = false := by simp; omega
      obtain ⟨key, hkey⟩ : ∃ key : Int, key = ((len % 32 : Nat) : Int) := ⟨_, rfl⟩
      have hkb : 0 ≤ key ∧ key ≤ 31 := by omega
      have hkk : (len : Int) % 32 = key := by omega
      have HV := Lib.hid (valueM_in hst hkb.1 hkb.2)
      have hab := atM_bd ((storeB_ok l).1 hst).2 key
      have hx := xor_one_i64 (atM l key) hab.1 (by omega)
      have HRC := Lib.hid (fun val c d hne => root_change hst (key := key) (val := val) hkb.1 hkb.2 c d hne)
      have HPI := Lib.hid (fun val c d => putM_in hst (k := key) (v := val) hkb.1 hkb.2 c d)
      have HPO := Lib.hid (fun val (hv : ¬ (0 ≤ val ∧ val ≤ 1000000)) => (show (putM l key val).2 = false by rw [putM, if_pos hst, inB_no hv]; simp))
      clear hkey hst
      go_wp2_with fail
      refine (valueAt_impl _ _ c l key _ hr3).mono ?_; rintro e w4 ⟨rfl, hb4'⟩
      rw [HV.out]
      have hr4 := hr3.below hb4'
      have hb4 := hb3.trans (hb4'.mono hb3.size)
      clear hr3 hb4' hb3
      go_wp2_with fail
      obtain ⟨V, hV⟩ : ∃ V, V = bits .xor .i64 (atM l key) 1 := ⟨_, rfl⟩
      rw [← hV] at hx ⊢
      have hVne : V ≠ atM l key := by omega
      clear hV
      have hpl := putM_len l key V
      refine (putValue_impl _ _ c l key V _ hr4).mono ?_; rintro e w5 ⟨vx, rfl, hox, hwx, hb5'⟩
      obtain ⟨gx, cx, rfl, hrx, -⟩ := rowE_of_owns hox (by omega) hwx
      have hb5 := hb4.trans (hb5'.mono hb4.size)
      clear hr4 hox hb5' hb4
      by_cases hVin : 0 ≤ V ∧ V ≤ 1000000
      · have HP := Lib.hid (HPI.out V hVin.1 hVin.2)
        have HR := Lib.hid (HRC.out V hVin.1 hVin.2 hVne)
        rw [HP.out] at hrx
        rw [HP.out]
        simp only at hrx ⊢
        clear hVin hVne hx hpl hwx
        go_wp2_with fail
        refine (rootOf_impl _ _ cx _ _ hrx).mono ?_; rintro e w6 ⟨rfl, hb6'⟩
        rw [← HN.out] at HR
        obtain ⟨M, hM⟩ : ∃ M, M = rootM (putRaw key V l) := ⟨_, rfl⟩
        have hMN : (M != N) = true := by rw [hM]; simpa using HR.out
        rw [← hM]
        clear hM HR
        go_wp2
        go_ret
        exact ⟨rfl, hb5.trans (hb6'.mono hb5.size)⟩
      · have HP := Lib.hid (HPO.out V hVin)
        rw [HP.out]
        clear hVin hVne hx hpl hwx hrx
        go_wp2
        go_ret
        exact ⟨rfl, hb5⟩
  · have hs' : (1048576 : Int) < (len : Int) := by omega
    clear h hlc
    go_enter Try.func8, Try.ntmps8
    go_wp2
    go_ret
    exact ⟨rfl, Below.refl _ _⟩
set_option maxHeartbeats 4000000 in
theorem lawProofOf (a : Option Addr) (len cap : Nat) (z : List Int) (w : World) (h : RowB w a len z) (hc : a = none → cap = 0) (hlc : len ≤ cap) :
    Calls Try.prog 5 #[.slice a len cap] w (LawTrue w) := by
  by_cases hs : len ≤ 1048576
  · have hs' : ¬ (1048576 : Int) < (len : Int) := by omega
    go_enter Try.func5, Try.ntmps5
    go_wp2_with fail
    refine (drawProofOf_any a len cap z w h hlc).mono ?_; rintro e w1 ⟨v, l, key, rfl, hown, hwf, hlen, hk0, hk1, hb1⟩
    obtain ⟨g, c, rfl, hg, hr1⟩ := rowE_of_own hown (by omega) hwf
    clear h hs hs' hlc hc hown
    have hpl := proofM_len l key
    go_wp2_with fail
    refine (proofOf_impl _ _ c l key _ hr1).mono ?_; rintro e w2 ⟨vp, rfl, hop, hwp, hb2'⟩
    obtain ⟨gp, cp, rfl, hrp2⟩ := rowI_of_owns hop (by unfold maxLen; omega) hwp
    have hb2 := hb1.trans (hb2'.mono hb1.size)
    have hr2 := hr1.below hb2'
    obtain ⟨P, hP⟩ : ∃ P, P = proofM l key := ⟨_, rfl⟩
    have HP := Lib.hid hP
    rw [← hP] at hrp2 hpl ⊢
    clear hop hP hb1 hb2' hr1 hwp
    go_wp2_with fail
    refine (proofOf_spec _ _ c l key _ hr2).mono ?_; rintro e w3 ⟨vq, rfl, hoq, hwq, hb3'⟩
    rw [← HP.out] at hoq hwq
    obtain ⟨gq, cq, rfl, -, -, hrq3⟩ := rowI_of_own hoq (by omega) hwq
    have hb3 := hb2.trans (hb3'.mono hb2.size)
    have hr3 := hr2.below hb3'
    have hrp3 := hrp2.below hb3'
    clear hoq hb2 hb3' hr2 hrp2 hwq
    go_wp2_with fail
    refine (sameInts_same _ _ _ cp cq P _ hrp3 hrq3).mono ?_; rintro e w4 ⟨rfl, hb4'⟩
    have hb4 := hb3.trans (hb4'.mono hb3.size)
    have hr4 := hr3.below hb4'
    have hrp4 := hrp3.below hb4'
    clear hrq3 hb3 hb4' hr3 hrp3
    by_cases hin : storeB l = true ∧ 0 ≤ key ∧ key ≤ 31
    · obtain ⟨hst, k0, k1⟩ := hin
      have hPl : P.length = 5 := by rw [HP.out, proofM_yes hst k0 k1, proofTo_len]
      have HPUT := Lib.hid (putM_in hst (k := key) (v := 77) k0 k1 (by omega) (by omega))
      have HPP : Hid (proofM (putRaw key 77 l) key = P) := Lib.hid (by rw [HP.out]; exact proof_put hst k0 k1 (by omega) (by omega))
      have HPR : Hid (proofRootM key 77 P = rootM (putRaw key 77 l)) := Lib.hid (by rw [HP.out]; exact root_put hst k0 k1 (by omega) (by omega))
      have hput := putM_len l key 77
      rw [hPl] at hrp4 ⊢
      have HPL := Lib.hid hPl
      clear hst k0 k1 hpl hPl
      go_wp2_with fail
      refine (putValue_impl _ _ c l key 77 _ hr4).mono ?_; rintro e w5 ⟨vx, rfl, hox, hwx, hb5'⟩
      rw [HPUT.out] at hox hwx hput
      rw [HPUT.out]
      obtain ⟨gx, cx, rfl, hrx5, -⟩ := rowE_of_owns hox (by omega) hwx
      simp only at hrx5 ⊢
      obtain ⟨X, hX⟩ : ∃ X, X = putRaw key 77 l := ⟨_, rfl⟩
      rw [← hX] at hrx5 HPP HPR ⊢
      have hb5 := hb4.trans (hb5'.mono hb4.size)
      have hrp5 := hrp4.below hb5'
      clear hX hox hwx hput hr4 hrp4 hb4 hb5'
      go_wp2_with fail
      refine (proofOf_impl _ _ cx X key _ hrx5).mono ?_; rintro e w6 ⟨vy, rfl, hoy, hwy, hb6'⟩
      rw [HPP.out] at hoy hwy
      obtain ⟨gy, cy, rfl, hry6⟩ := rowI_of_owns hoy (by rw [HPL.out]; unfold maxLen; omega) hwy
      rw [HPL.out] at hry6 ⊢
      have hb6 := hb5.trans (hb6'.mono hb5.size)
      have hrp6 := hrp5.below hb6'
      have hrx6 := hrx5.below hb6'
      clear hoy hwy hb5 hb6' hrp5 hrx5
      go_wp2_with fail
      refine (sameInts_same _ _ _ cy cp P _ hry6 hrp6).mono ?_; rintro e w7 ⟨rfl, hb7'⟩
      have hb7 := hb6.trans (hb7'.mono hb6.size)
      have hrp7 := hrp6.below hb7'
      have hrx7 := hrx6.below hb7'
      clear hry6 hb6 hb7' hrp6 hrx6
      go_wp2_with fail
      refine (proofRoot_impl key 77 _ _ cp P _ hrp7).mono ?_; rintro e w8 ⟨rfl, hb8'⟩
      have hb8 := hb7.trans (hb8'.mono hb7.size)
      have hrx8 := hrx7.below hb8'
      rw [HPR.out]
      obtain ⟨M, hM⟩ : ∃ M, M = rootM X := ⟨_, rfl⟩
      have HM := Lib.hid hM
      rw [← hM]
      clear hM hrp7 hrx7 hb7 hb8'
      go_wp2_with fail
      refine (rootOf_impl _ _ cx X _ hrx8).mono ?_; rintro e w9 ⟨rfl, hb9'⟩
      rw [← HM.out]
      have hMM : (M == M) = true := by simp
      go_wp2
      go_ret
      exact ⟨rfl, hb8.trans (hb9'.mono hb8.size)⟩
    · have hPl : P = [] := by
        rw [HP.out]; unfold proofM
        rw [if_neg]
        intro hh
        simp only [Bool.and_eq_true] at hh
        have := inB_true hh.2
        exact hin ⟨hh.1, this⟩
      subst hPl
      clear hin
      simp only [List.length_nil]
      go_wp2_with fail
      refine (alive_any _).mono ?_; rintro e w7 ⟨rfl, hb7⟩
      go_wp2
      go_ret
      exact ⟨rfl, hb4.trans (hb7.mono hb4.size)⟩
  · have hs' : (1048576 : Int) < (len : Int) := by omega
    clear h hlc
    go_enter Try.func5, Try.ntmps5
    go_wp2
    go_ret
    exact ⟨rfl, Below.refl _ _⟩
end Go.Proofs.Ytpaeioabmmkheaa
