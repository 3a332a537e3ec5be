/- The walks of the laws FnValueAt and FnStoreTotal. -/
import Derived.Test.YtmblmmbcdmmpcaaDrawStores
import Derived.Test.YtmblmmbcdmmpcaaImplChanged
import Derived.Test.YtmblmmbcdmmpcaaStoreLaws
import Derived.Test.YtmblmmbcdmmpcaaConvE
import Derived.Test.YtmblmmbcdmmpcaaAlive
namespace Go.Proofs.Ytmblmmbcdmmpcaa
open Go.RowKit
set_option linter.unusedVariables false
set_option maxHeartbeats 4000000 in
theorem lawValueAt (a : Option Addr) (len cap : Nat) (z : List Int) (w : World) (h : RowB w a len z) (hc : a = none → cap = 0) (hlc : len ≤ cap) :
    Calls Try.prog 4 #[.slice a len cap] w (LawTrue w) := by
  by_cases hs : len ≤ 1048576
  · have hs' : ¬ (1048576 : Int) < (len : Int) := by omega
    go_enter Try.func4, Try.ntmps4
    go_wp2_with fail
    refine (drawValueAt_any a len cap z w h hlc).mono ?_; rintro e w1 ⟨v, l, key, rfl, hown, hwf, hlen, hk0, hk1, hb1⟩
    obtain ⟨g, c, rfl, hg, hr⟩ := rowE_of_own hown (by omega) hwf
    clear h hs hs' hown hlc
    go_wp2_with fail
    refine (valueAt_impl _ _ c l key _ hr).mono ?_; rintro e w2 ⟨rfl, hd2⟩
    have hr2 := hr.below hd2
    have hb2 := hb1.trans (hd2.mono hb1.size)
    clear hr hd2
    go_wp2_with fail
    refine (valueAt_spec _ _ c l key _ hr2).mono ?_; rintro e w3 ⟨rfl, hd3⟩
    have hr3 := hr2.below (hd3.below _)
    have hb3 := hb2.trans (hd3.below _)
    clear hr2 hd3 hb1 hb2
    obtain ⟨N, hN⟩ : ∃ N, N = valueM l key := ⟨_, rfl⟩
    have HN := Lib.hid hN
    rw [← hN]
    clear hN
    have hNN : (N != N) = false := by simp
    go_wp2_with fail
    refine (storeValid_spec _ _ c l _ hr3).mono ?_; rintro e w4 ⟨rfl, hd4⟩
    have hr4 := hr3.below (hd4.below _)
    have hb4 := hb3.trans (hd4.below _)
    clear hr3 hd4 hb3
    cases hsb : storeB l with
    | false =>
      have hN1 : N = -1 := by rw [HN.out]; simp [valueM, hsb]
      subst hN1
      go_wp2_with fail
      refine (alive_any _).mono ?_; rintro e w7 ⟨rfl, hb7⟩
      go_wp2
      go_ret
      exact ⟨rfl, hb4.trans (hb7.mono hb4.size)⟩
    | true =>
      by_cases hkk : 0 ≤ key ∧ key ≤ 31
      · have hN1 : N = atM l key := by rw [HN.out]; simp [valueM, hsb, inB_yes hkk.1 hkk.2]
        have HN1 := Lib.hid hN1
        have e1 : decide (key < 0) = false := by simp; omega
        have e2 : decide (31 < key) = false := by simp; omega
        obtain ⟨hlg, hm, hcell, -⟩ := hr4
        clear hN1 hkk hlg
        unfold maxLen at hm
        by_cases hn0 : 0 < l.length
        · obtain ⟨b, off, he, hcc⟩ := hcell hn0
          simp at he
          obtain ⟨rfl, rfl⟩ := he
          clear hcell
          simp only [Nat.zero_add] at hcc
          go_wp2_with fail
          go_loop [6] (fun i => ∃ k : Nat, k ≤ l.length ∧ i = .int .i64 k ∧ Absent l key k) (fun i => l.length - (intOf i).toNat)
          case atStart => exact ⟨0, Nat.zero_le _, rfl, Absent.zero _ _⟩
          case round =>
            obtain ⟨k, hk, rfl, hab⟩ := hrel
            have HA := Lib.hid hab; clear hab
            by_cases hlt : k < l.length
            · obtain ⟨hc1, hc2⟩ := hcc k hlt
              have HH := Lib.hid (atM_hit l key k hlt HA.out)
              have HX := Lib.hid (fun h => Absent.next HA.out h)
              clear hcc
              obtain ⟨x, hx⟩ : ∃ x, x = (l.getD k (0, 0)).1 := ⟨_, rfl⟩
              obtain ⟨y, hy⟩ : ∃ y, y = (l.getD k (0, 0)).2 := ⟨_, rfl⟩
              rw [← hx] at hc1 HH HX
              rw [← hy] at hc2 HH
              clear hx hy
              by_cases he : x = key
              · have hNy : (N == y) = true := by rw [HN1.out, HH.out he]; simp
                subst he
                go_wp2
                go_ret
                exact ⟨rfl, hb4⟩
              · have HN2 := Lib.hid (HX.out he)
                have hb : (x == key) = false := by simpa using he
                clear he
                go_wp2
                go_round
                case rel => exact ⟨k + 1, by omega, by go_num, HN2.out⟩
                case measure => simp [intOf]; omega
            · have hN0 : (N == 0) = true := by rw [HN1.out, atM_miss l key (by rw [show l.length = k by omega]; exact HA.out)]; rfl
              clear hcc
              go_wp2
              go_ret
              exact ⟨rfl, hb4⟩
        · have hl0 : l = [] := List.eq_nil_of_length_eq_zero (by omega)
          subst hl0
          have hN0 : (N == 0) = true := by rw [HN1.out]; rfl
          clear hcell
          go_wp2_with fail
          go_loop [6] (fun i => i = .int .i64 0) (fun _ => 0)
          case atStart => rfl
          case round =>
            subst hrel
            go_wp2
            go_ret
            exact ⟨rfl, hb4⟩
      · have hN1 : N = -1 := by rw [HN.out]; simp [valueM, inB_no hkk]
        subst hN1
        by_cases hk2 : key < 0
        · have e1 : decide (key < 0) = true := by simpa using hk2
          clear hk2 hkk
          go_wp2_with fail
          refine (alive_any _).mono ?_; rintro e w7 ⟨rfl, hb7⟩
          go_wp2
          go_ret
          exact ⟨rfl, hb4.trans (hb7.mono hb4.size)⟩
        · have e1 : decide (key < 0) = false := by simpa using hk2
          have e2 : decide (31 < key) = true := by simp; omega
          clear hk2 hkk
          go_wp2_with fail
          refine (alive_any _).mono ?_; rintro e w7 ⟨rfl, hb7⟩
          go_wp2
          go_ret
          exact ⟨rfl, hb4.trans (hb7.mono hb4.size)⟩
  · have hs' : (1048576 : Int) < (len : Int) := by omega
    clear h hlc
    go_enter Try.func4, Try.ntmps4
    go_wp2
    go_ret
    exact ⟨rfl, Below.refl _ _⟩
set_option maxHeartbeats 4000000 in
theorem lawStoreTotal (a : Option Addr) (len cap : Nat) (z : List Int) (w : World) (h : RowB w a len z) (hc : a = none → cap = 0) (hlc : len ≤ cap) :
    Calls Try.prog 6 #[.slice a len cap] w (LawTrue w) := by
  by_cases hs : len ≤ 1048576
  · have hs' : ¬ (1048576 : Int) < (len : Int) := by omega
    go_enter Try.func6, Try.ntmps6
    go_wp2_with fail
    refine (drawStoreTotal_any a len cap z w h hlc).mono ?_; rintro e w1 ⟨v, l, rfl, hown, hwf, hlen, hb1⟩
    obtain ⟨g, c, rfl, hg, hr⟩ := rowE_of_own hown (by omega) hwf
    clear h hs hs' hown hlc
    go_wp2_with fail
    refine (storeTotal_impl _ _ c l _ hr).mono ?_; rintro e w2 ⟨rfl, hd2⟩
    have hr2 := hr.below hd2
    have hb2 := hb1.trans (hd2.mono hb1.size)
    clear hr hd2
    go_wp2_with fail
    refine (storeTotal_spec _ _ c l _ hr2).mono ?_; rintro e w3 ⟨rfl, hd3⟩
    have hr3 := hr2.below (hd3.below _)
    have hb3 := hb2.trans (hd3.below _)
    clear hr2 hd3 hb1 hb2
    obtain ⟨N, hN⟩ : ∃ N, N = totalM l := ⟨_, rfl⟩
    have HN := Lib.hid hN
    rw [← hN]
    clear hN
    have hNN : (N != N) = false := by simp
    cases hsb : storeB l with
    | false =>
      have hN1 : N = -1 := by rw [HN.out]; simp [totalM, hsb]
      subst hN1
      go_wp2_with fail
      refine (alive_any _).mono ?_; rintro e w7 ⟨rfl, hb7⟩
      go_wp2
      go_ret
      exact ⟨rfl, hb3.trans (hb7.mono hb3.size)⟩
    | true =>
      have hN1 : N = sumV l := by rw [HN.out]; simp [totalM, hsb]
      have hok := (storeB_ok l).1 hsb
      have hst := sumV_take hsb l.length (Nat.le_refl _)
      rw [List.take_length] at hst
      have h32 := store_len hsb
      have hneg : decide (N < 0) = false := by simp; omega
      have hN32 : 0 ≤ N ∧ N ≤ 32000000 ∧ (l.length : Int) ≤ N := by omega
      obtain ⟨hN0, hN2, hN3⟩ := hN32
      obtain ⟨key, hkey⟩ : ∃ key : Int, key = ((len % 32 : Nat) : Int) := ⟨_, rfl⟩
      have hkb : 0 ≤ key ∧ key ≤ 31 := by omega
      have hkk : (len : Int) % 32 = key := by omega
      have hput : putM l key 7 = (putRaw key 7 l, true) := by rw [putM, if_pos hsb, inB_yes hkb.1 hkb.2, inB_yes (by omega) (by omega)]; rfl
      have hok2 := ok_put hok hkb.1 hkb.2 (show (0 : Int) ≤ 7 by omega) (show (7 : Int) ≤ 1000000 by omega)
      have hsb2 : storeB (putRaw key 7 l) = true := (storeB_ok _).2 hok2
      have htot : totalM (putRaw key 7 l) = N - atM l key + 7 := by rw [totalM, if_pos hsb2, sumV_put hok.1, hN1]
      have hval : valueM l key = atM l key := by simp [valueM, hsb, inB_yes hkb.1 hkb.2]
      have hab := atM_bd hok.2 key
      have HT := Lib.hid htot
      have HV := Lib.hid hval
      have HP := Lib.hid hput
      clear hN1 hok hst hok2 hsb2 htot hval hput hkey
      go_wp2_with fail
      refine (putValue_impl _ _ c l key 7 _ hr3).mono ?_; rintro e w4 ⟨vx, rfl, hox, hwx, hb4'⟩
      rw [HP.out] at hox hwx
      rw [HP.out]
      have hpl := putM_len l key 7
      rw [HP.out] at hpl
      obtain ⟨gx, cx, rfl, hrx, -⟩ := rowE_of_owns hox (by simp only at hpl ⊢; omega) hwx
      have hr4 := hr3.below hb4'
      have hb4 := hb3.trans (hb4'.mono hb3.size)
      clear hr3 hb4' hox hpl hwx
      simp only at hrx ⊢
      go_wp2_with fail
      refine (storeTotal_impl _ _ cx _ _ hrx).mono ?_; rintro e w5 ⟨rfl, hd5⟩
      have hr5 := hr4.below hd5
      have hb5 := hb4.trans (hd5.mono hb4.size)
      rw [HT.out]
      clear hr4 hd5 hrx
      go_wp2_with fail
      refine (valueAt_impl _ _ c l key _ hr5).mono ?_; rintro e w6 ⟨rfl, hd6⟩
      have hb6 := hb5.trans (hd6.mono hb5.size)
      rw [HV.out]
      obtain ⟨A, hA⟩ : ∃ A, A = atM l key := ⟨_, rfl⟩
      rw [← hA] at hab ⊢
      clear hr5 hd6 hA
      obtain ⟨hA0, hA1⟩ := hab
      have hfin : (N - A + 7 == N - A + 7) = true := by simp
      have hfin2 : decide ((l.length : Int) ≤ N) = true := by simpa using hN3
      go_wp2
      go_ret
      exact ⟨rfl, hb6⟩
  · have hs' : (1048576 : Int) < (len : Int) := by omega
    clear h hlc
    go_enter Try.func6, Try.ntmps6
    go_wp2
    go_ret
    exact ⟨rfl, Below.refl _ _⟩
end Go.Proofs.Ytmblmmbcdmmpcaa
