/- The walk of the law FnPutValue. -/
import Derived.Test.YtmblmmbcdmmpcaaDrawStores
import Derived.Test.YtmblmmbcdmmpcaaImplChanged
import Derived.Test.YtmblmmbcdmmpcaaStoreLaws
import Derived.Test.YtmblmmbcdmmpcaaConvE
import Derived.Test.YtmblmmbcdmmpcaaAlive
namespace Go.Proofs.Ytmblmmbcdmmpcaa
open Go.RowKit
set_option linter.unusedVariables false
/-- What PutValue gives, by cases. -/
theorem putM_cases (l : List Ent) (key val : Int) : (putM l key val = ([], false)) ∨ (putM l key val = (l, false)) ∨ (storeB l = true ∧ 0 ≤ key ∧ key ≤ 31 ∧ 0 ≤ val ∧ val ≤ 1000000 ∧ putM l key val = (putRaw key val l, true)) := by
  unfold putM
  split
  · rename_i hs
    split
    · rename_i hi
      simp only [Bool.and_eq_true] at hi
      have h1 := inB_true hi.1; have h2 := inB_true hi.2
      exact .inr (.inr ⟨hs, h1.1, h1.2, h2.1, h2.2, rfl⟩)
    · exact .inr (.inl rfl)
  · exact .inl rfl
theorem valueM_ok {l : List Ent} (h : storeB l = true) {k : Int} (h0 : 0 ≤ k) (h1 : k ≤ 31) : valueM l k = atM l k := by simp [valueM, h, inB_yes h0 h1]
set_option maxHeartbeats 4000000 in
theorem lawPutValue (a : Option Addr) (len cap : Nat) (z : List Int) (w : World) (h : RowB w a len z) (hc : a = none → cap = 0) (hlc : len ≤ cap) :
    Calls Try.prog 5 #[.slice a len cap] w (LawTrue w) := by
  by_cases hs : len ≤ 1048576
  · have hs' : ¬ (1048576 : Int) < (len : Int) := by omega
    go_enter Try.func5, Try.ntmps5
    go_wp2_with fail
    refine (drawPutValue_any a len cap z w h hlc).mono ?_; rintro e w1 ⟨v, l, key, val, rfl, hown, hwf, hlen, hk0, hk1, hv0, hv1, hb1⟩
    obtain ⟨g, c, rfl, hg, hr⟩ := rowE_of_own hown (by omega) hwf
    clear h hs hs' hown hlc
    have hpl := putM_len l key val
    go_wp2_with fail
    refine (putValue_impl _ _ c l key val _ hr).mono ?_; rintro e w2 ⟨vx, rfl, hox, hwx, hb2'⟩
    obtain ⟨gx, cx, rfl, hrx, -⟩ := rowE_of_owns hox (by omega) hwx
    have hr2 := hr.below hb2'
    have hb2 := hb1.trans (hb2'.mono hb1.size)
    clear hr hox hb2' hb1
    go_wp2_with fail
    refine (putValue_spec _ _ c l key val _ hr2 (by omega) (fun h => by cases h) (WalkArith.wf_i64 (by omega)) (WalkArith.wf_i64 (by omega))).mono ?_; rintro e w3 ⟨vy, rfl, hoy, hwy, hb3'⟩
    obtain ⟨gy, cy, rfl, -, hry⟩ := rowE_of_own hoy (by omega) hwy
    have hr3 := hr2.below hb3'
    have hrx3 := hrx.below hb3'
    have hb3 := hb2.trans (hb3'.mono hb2.size)
    clear hr2 hrx hoy hb3' hb2
    go_wp2_with fail
    refine (sameStore_same _ _ _ cx cy _ _ hrx3 hry).mono ?_; rintro e w4 ⟨rfl, hd4⟩
    have hr4 := hr3.below (hd4.below _)
    have hrx4 := hrx3.below (hd4.below _)
    have hb4 := hb3.trans (hd4.below _)
    clear hr3 hrx3 hry hd4 hb3 hwx hwy
    rcases putM_cases l key val with hp | hp | ⟨hsb, a0, a1, a2, a3, hp⟩
    · rw [hp]
      clear hrx4 hpl hp
      simp only
      go_wp2_with fail
      refine (alive_any _).mono ?_; rintro e w7 ⟨rfl, hb7⟩
      go_wp2
      go_ret
      exact ⟨rfl, hb4.trans (hb7.mono hb4.size)⟩
    · rw [hp] at hrx4
      rw [hp]
      clear hpl hp
      simp only at hrx4 ⊢
      by_cases hl0 : l.length = 0
      · have hl1 : ((l.length : Int) == 0) = true := by simpa using hl0
        clear hl0
        go_wp2_with fail
        refine (alive_any _).mono ?_; rintro e w7 ⟨rfl, hb7⟩
        go_wp2
        go_ret
        exact ⟨rfl, hb4.trans (hb7.mono hb4.size)⟩
      · have hl1 : ((l.length : Int) == 0) = false := by simpa using hl0
        clear hl0
        go_wp2_with fail
        refine (sameStore_same _ _ _ cx c l _ hrx4 hr4).mono ?_; rintro e w5 ⟨rfl, hd5⟩
        have hb5 := hb4.trans (hd5.below _)
        go_wp2_with fail
        refine (alive_any _).mono ?_; rintro e w7 ⟨rfl, hb7⟩
        go_wp2
        go_ret
        exact ⟨rfl, hb5.trans (hb7.mono hb5.size)⟩
    · rw [hp] at hrx4 hpl
      rw [hp]
      simp only at hrx4 hpl ⊢
      have hok := (storeB_ok l).1 hsb
      have hokx := ok_put hok a0 a1 a2 a3
      have hsx := (storeB_ok _).2 hokx
      have hab := atM_bd hok.2 key
      have HV1 := Lib.hid (fun k : Nat => fun hk : k ≤ 31 => valueM_ok hsx (k := (k : Int)) (by omega) (by omega))
      have HV2 := Lib.hid (fun k : Nat => fun hk : k ≤ 31 => valueM_ok hsb (k := (k : Int)) (by omega) (by omega))
      have HVx := Lib.hid (valueM_ok hsx a0 a1)
      have HVl := Lib.hid (valueM_ok hsb a0 a1)
      have HAT := Lib.hid (fun k => atM_put key val k l)
      have hback : putM (putRaw key val l) key (atM l key) = (l, true) := by
        rw [putM, if_pos hsx, inB_yes a0 a1, inB_yes hab.1 hab.2, put_back hok a0 a1 a2 a3]; rfl
      have HBK := Lib.hid hback
      have HSX := Lib.hid hsx
      clear hok hokx hsx hback hp hsb
      obtain ⟨X, hX⟩ : ∃ X, X = putRaw key val l := ⟨_, rfl⟩
      rw [← hX] at hrx4 hpl HV1 HVx HAT HBK HSX ⊢
      clear hX
      go_wp2_with fail
      go_loopw [10] (fun i wr => ∃ k : Nat, k ≤ 32 ∧ i = .int .i64 k ∧ Below w4.heap.size w4 wr) (fun i _ => 32 - (intOf i).toNat)
      case atStart => exact ⟨0, by omega, rfl, Below.refl _ _⟩
      case round =>
        obtain ⟨k, hk, rfl, hd⟩ := hrel
        have hrr := hr4.below hd
        have hrrx := hrx4.below hd
        by_cases hlt : k ≤ 31
        · have hkb : decide ((k : Int) ≤ 31) = true := by simp; omega
          by_cases hkk : (k : Int) = key
          · have hkn : ((k : Int) != key) = false := by simpa using hkk
            clear hkk
            go_wp2
            go_roundw
            case rel => exact ⟨k + 1, by omega, by go_num, hd⟩
            case measure => simp [intOf]; omega
          · have hkn : ((k : Int) != key) = true := by simpa using hkk
            have hxx : valueM X k = valueM l k := by rw [HV1.out k hlt, HV2.out k hlt, HAT.out, if_neg hkk]
            have HXX := Lib.hid hxx
            clear hkk hxx
            go_wp2_with fail
            refine (valueAt_impl _ _ cx X k _ hrrx).mono ?_; rintro e w5 ⟨rfl, hd5⟩
            go_wp2_with fail
            refine (valueAt_impl _ _ c l k _ (hrr.below hd5)).mono ?_; rintro e w6 ⟨rfl, hd6⟩
            rw [HXX.out]
            obtain ⟨Y, hY⟩ : ∃ Y, Y = valueM l k := ⟨_, rfl⟩
            rw [← hY]
            clear hY
            have hyy : (Y != Y) = false := by simp
            go_wp2
            go_roundw
            case rel => exact ⟨k + 1, by omega, by go_num, (hd.trans (hd5.mono hd.size)).trans (hd6.mono (Nat.le_trans hd.size hd5.size))⟩
            case measure => simp [intOf]; omega
        · have hkb : decide ((k : Int) ≤ 31) = false := by simp; omega
          have hbd := hb4.trans (hd.mono hb4.size)
          clear hr4 hrx4 hd hb4
          go_wp2_with fail
          refine (valueAt_impl _ _ c l key _ hrr).mono ?_; rintro e w5 ⟨rfl, hd5⟩
          rw [HVl.out]
          have hr5 := hrr.below hd5
          have hrx5 := hrrx.below hd5
          have hb5 := hbd.trans (hd5.mono hbd.size)
          clear hrr hrrx hd5 hbd
          go_wp2_with fail
          refine (putValue_impl _ _ cx X key (atM l key) _ hrx5).mono ?_; rintro e w6 ⟨vb, rfl, hob, hwb, hb6'⟩
          rw [HBK.out] at hob hwb
          rw [HBK.out]
          simp only at hob hwb ⊢
          obtain ⟨gb, cb, rfl, hrb, -⟩ := rowE_of_owns hob (by omega) hwb
          have hr6 := hr5.below hb6'
          have hrx6 := hrx5.below hb6'
          have hb6 := hb5.trans (hb6'.mono hb5.size)
          clear hr5 hrx5 hob hwb hb6' hb5
          go_wp2_with fail
          refine (storeValid_impl _ _ cx X _ hrx6).mono ?_; rintro e w7 ⟨rfl, hd7⟩
          rw [HSX.out]
          have hrx7 := hrx6.below hd7
          have hr7 := hr6.below hd7
          have hrb7 := hrb.below hd7
          have hb7 := hb6.trans (hd7.mono hb6.size)
          clear hrx6 hr6 hrb hd7 hb6
          go_wp2_with fail
          refine (valueAt_impl _ _ cx X key _ hrx7).mono ?_; rintro e w8 ⟨rfl, hd8⟩
          have hvv : valueM X key = val := by rw [HVx.out, HAT.out, if_pos rfl]
          rw [hvv]
          have hvq : (val == val) = true := by simp
          have hr8 := hr7.below hd8
          have hrb8 := hrb7.below hd8
          have hb8 := hb7.trans (hd8.mono hb7.size)
          clear hrx7 hr7 hrb7 hd8 hb7 hvv
          go_wp2_with fail
          refine (sameStore_same _ _ _ cb c l _ hrb8 hr8).mono ?_; rintro e w9 ⟨rfl, hd9⟩
          go_wp2
          go_ret
          exact ⟨rfl, hb8.trans (hd9.below _)⟩
  · have hs' : (1048576 : Int) < (len : Int) := by omega
    clear h hlc
    go_enter Try.func5, Try.ntmps5
    go_wp2
    go_ret
    exact ⟨rfl, Below.refl _ _⟩
end Go.Proofs.Ytmblmmbcdmmpcaa
