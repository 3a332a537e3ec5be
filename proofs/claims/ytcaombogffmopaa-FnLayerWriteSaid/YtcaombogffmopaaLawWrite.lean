/- The walk of the law FnLayerWrite. -/
import Derived.Test.YtcaombogffmopaaLawFork
namespace Go.Proofs.Ytcaombogffmopaa
open Go.RowKit
set_option linter.unusedVariables false
theorem writeM_no {L : List Lay} {n key val : Int} (h : layersB L = false) : layerWriteM L n key val = ([], false) := by rw [layerWriteM_eq, h]; rfl
theorem writeM_out {L : List Lay} {n key val : Int} (h : layersB L = true) (h2 : (inB n 0 ((L.length : Int) - 1) && inB key 0 31 && inB val 0 1000000) = false) : layerWriteM L n key val = (L, false) := by rw [layerWriteM_eq, h, h2]; rfl
theorem writeM_yes {L : List Lay} {n key val : Int} (h : layersB L = true) (h2 : (inB n 0 ((L.length : Int) - 1) && inB key 0 31 && inB val 0 1000000) = true) : layerWriteM L n key val = (writeL L n key val, true) := by rw [layerWriteM_eq, h, h2]; rfl
theorem read_apart {S : List Ent} {L : List Lay} {n key val : Int} (hL : layersB L = true) (hM : layersB (writeL L n key val) = true) (h0 : 0 ≤ n) (h1 : n < L.length) (key' k : Int) (hk : k < L.length) (ho : overM L n k = false) :
    layerReadM S (writeL L n key val) k key' = layerReadM S L k key' := by
  unfold layerReadM readM
  rw [hL, hM, writeL_len, seen_apart hL hM h0 h1 key' k hk ho]
theorem read_written {S : List Ent} {L : List Lay} {n key val : Int} (hS : storeB S = true) (hL : layersB L = true) (hM : layersB (writeL L n key val) = true) (h0 : 0 ≤ n) (h1 : n < L.length) (k0 : 0 ≤ key) (k1 : key ≤ 31) :
    layerReadM S (writeL L n key val) n key = val := by
  rw [layerReadM_yes (by rw [hS, hM, writeL_len, inB_yes (n := n) (by omega) (by omega), inB_yes k0 k1]; rfl)]
  unfold readM
  rw [seen_written hL h0 h1]; rfl
/-- What has been found so far, and what lies below, tell of the whole way. -/
def WayTo (L : List Lay) (n k j : Int) (o : Bool) : Prop := (o || overM L n j) = overM L n k
set_option maxRecDepth 100000 in
set_option maxHeartbeats 1000000 in
theorem lawLayerWrite (a : Option Addr) (len cap : Nat) (z : List Int) (w : World) (h : RowB w a len z) (hc : a = none → cap = 0) (hlc : len ≤ cap) :
    Calls Try.prog 6 #[.slice a len cap] w (LawTrue w) := by
  by_cases hs : len ≤ 1048576
  · have hs' : ¬ (1048576 : Int) < (len : Int) := by omega
    go_enter Try.func6, Try.ntmps6
    go_wp2_with fail
    refine (drawLayerWrite_any a len cap z w h hlc).mono ?_; rintro e w1 ⟨v, L, n, key, val, rfl, ⟨av, cv, rfl, hrl, hnil, hlen, hsm⟩, hn0, hn1, hk0, hk1, hv0, hv1, hb1⟩
    have hl20 := hsm.1
    have hnw : (Lit.int .i64 n).wf = true := WalkArith.wf_i64 (by omega)
    clear h hs hs' hsm hnil
    go_wp2_with fail
    refine (layerWrite_impl _ _ cv L n key val _ hrl hlen hnw).mono ?_; rintro e w2 ⟨vx, rfl, hx, hb2'⟩
    have hb2 := hb1.trans (hb2'.mono hb1.size)
    have hrl2 := hrl.below hb2'
    obtain ⟨ax, cx, rfl, hrx, -, hlx⟩ := rowL_of_own hx
    clear hrl hb2' hx
    go_wp2_with fail
    refine (layerWrite_spec _ _ cv L n key val _ hrl2).mono ?_; rintro e w3 ⟨vy, rfl, hy, hb3'⟩
    have hb3 := hb2.trans (hb3'.mono hb2.size)
    have hrl3 := hrl2.below hb3'
    have hrx3 := hrx.below hb3'
    obtain ⟨ay, cy, rfl, hry, -, -⟩ := rowL_of_own hy
    clear hrl2 hrx hb3' hy hnw
    obtain ⟨P, hP⟩ : ∃ P, P = (layerWriteM L n key val).1 := ⟨_, rfl⟩
    obtain ⟨pb, hpb⟩ : ∃ pb, pb = (layerWriteM L n key val).2 := ⟨_, rfl⟩
    rw [← hP] at hrx3 hry hlx ⊢
    rw [← hpb]
    have HP := Lib.hid hP
    have HPB := Lib.hid hpb
    clear hP hpb
    have hpp : (pb != pb) = false := by simp
    go_wp2_with fail
    refine (sameLayers_same _ _ _ cx cy P _ hrx3 hry).mono ?_; rintro e w4 ⟨rfl, hd4⟩
    have hb4 := hb3.trans (hd4.below _)
    have hrl4 := hrl3.below (hd4.below w3.heap.size)
    have hrx4 := hrx3.below (hd4.below w3.heap.size)
    clear hrl3 hrx3 hry hd4 hb3 hpp
    have hP := HP.out
    have hpb := HPB.out
    clear HP HPB
    cases hL : layersB L with
    | false =>
      rw [writeM_no hL] at hP hpb
      subst hP; subst hpb
      clear hL
      go_wp2_with fail
      refine (alive_any _).mono ?_; rintro e w5 ⟨rfl, hb5⟩
      go_wp2
      go_ret
      exact ⟨rfl, hb4.trans (hb5.mono hb4.size)⟩
    | true =>
      cases hi : (inB n 0 ((L.length : Int) - 1) && inB key 0 31 && inB val 0 1000000) with
      | false =>
        rw [writeM_out hL hi] at hP hpb
        subst hP; subst hpb
        clear hi hL
        by_cases h0 : P.length = 0
        · have hz : ((P.length : Int) == 0) = true := by simp; exact List.eq_nil_of_length_eq_zero h0
          clear h0
          go_wp2_with fail
          refine (alive_any _).mono ?_; rintro e w5 ⟨rfl, hb5⟩
          go_wp2
          go_ret
          exact ⟨rfl, hb4.trans (hb5.mono hb4.size)⟩
        · have hz : ((P.length : Int) == 0) = false := by simp; intro h; exact h0 (by rw [h]; rfl)
          clear h0
          go_wp2_with fail
          refine (sameLayers_same _ _ _ cx cv P _ hrx4 hrl4).mono ?_; rintro e w5 ⟨rfl, hd5⟩
          have hb5 := hb4.trans (hd5.below _)
          go_wp2_with fail
          refine (alive_any _).mono ?_; rintro e w6 ⟨rfl, hb6⟩
          go_wp2
          go_ret
          exact ⟨rfl, hb5.trans (hb6.mono hb5.size)⟩
      | true =>
        rw [writeM_yes hL hi] at hP hpb
        subst hpb
        simp only [Bool.and_eq_true] at hi
        obtain ⟨⟨i1, i2⟩, i3⟩ := hi
        have b1 := inB_true i1
        have b2 := inB_true i2
        have b3 := inB_true i3
        have hM := layersB_write hL b1.1 (by omega) b2.1 b2.2 b3.1 b3.2
        have HPV : Hid (layersB P = true) := Lib.hid (by rw [hP]; exact hM)
        have HRA : Hid (∀ k : Int, k < L.length → overM L n k = false → layerReadM [((2 : Int), (9 : Int))] P k key = layerReadM [((2 : Int), (9 : Int))] L k key) := Lib.hid (fun k hk ho => by rw [hP]; exact read_apart hL hM b1.1 (by omega) key k hk ho)
        have HRW : Hid (layerReadM [((2 : Int), (9 : Int))] P n key = val) := Lib.hid (by rw [hP]; exact read_written two_nine hL hM b1.1 (by omega) b2.1 b2.2)
        have HLV := Lib.hid hL
        obtain ⟨m, hm⟩ : ∃ m, m = L.length := ⟨_, rfl⟩
        have HN := Lib.hid hm.symm
        rw [← hm] at hlen hl20 hrl4 b1 HRA ⊢
        clear i1 i2 i3 hP hL hM hm b2 b3 hv0 hv1 hk0 hk1
        have hs4 := rowE_two_nine w4
        have hbl := (Below.refl w4.heap.size w4).alloc (Nat.le_refl _) (.cells #[.int .i64 2, .int .i64 9] 42)
        have hrx5 := hrx4.below hbl
        have hrl5 := hrl4.below hbl
        have hb5 := hb4.trans (hbl.mono hb4.size)
        clear hrx4 hrl4 hbl hb4
        go_wp2_with fail
        obtain ⟨w5, hw5⟩ : ∃ w5, w5 = w4.alloc (.cells #[.int .i64 2, .int .i64 9] 42) := ⟨_, rfl⟩
        rw [← hw5] at hs4 hrx5 hrl5 hb5 ⊢
        clear hw5
        obtain ⟨gs, hgs⟩ : ∃ gs, gs = w4.heap.size := ⟨_, rfl⟩
        rw [← hgs] at hs4 ⊢
        clear hgs
        go_loopw [12] (fun i wr => ∃ k : Nat, k ≤ m ∧ i = .int .i64 k ∧ Below w5.heap.size w5 wr) (fun i _ => m - (intOf i).toNat)
        case atStart => exact ⟨0, Nat.zero_le _, rfl, Below.refl _ _⟩
        case round =>
          obtain ⟨k, hk, rfl, hbr⟩ := hrel
          have hsr := hs4.below hbr
          have hxr := hrx5.below hbr
          have hlr := hrl5.below hbr
          have hbw := hb5.trans (hbr.mono hb5.size)
          by_cases hlt : k < m
          · have HSR := Lib.hid hsr
            have HXR := Lib.hid hxr
            have HLR := Lib.hid hlr
            obtain ⟨b, off, rfl, hcc⟩ := hlr.2.2.1 (by omega)
            clear hsr hxr hlr hs4 hrx5 hrl5
            have HCC := Lib.hid hcc
            clear hcc
            go_wp2_with fail
            go_loop [13, 14] (fun o i => ∃ (j : Int) (ob : Bool), -1 ≤ j ∧ j < m ∧ i = .int .i64 j ∧ o = .bool ob ∧ WayTo L n k j ob) (fun _ i => (intOf i + 1).toNat)
            case atStart => exact ⟨k, false, by omega, by omega, rfl, rfl, by simp [WayTo]⟩
            case round =>
              obtain ⟨j, ob, hj0, hj1, rfl, rfl, hway⟩ := hrel
              have HWAY := Lib.hid hway
              clear hway
              by_cases hjn : j < 0
              · have hjb : decide (0 ≤ j) = false := by simp; omega
                have hov : overM L n k = ob := by have := HWAY.out; rw [WayTo, overM_neg L n j hjn] at this; rw [← this]; simp
                cases ob with
                | true =>
                  clear hov hjn
                  go_wp2
                  go_roundw
                  case rel => exact ⟨k + 1, by omega, by go_num, hbr⟩
                  case measure => simp [intOf]; omega
                | false =>
                  have HEQ := Lib.hid (HRA.out k (by omega) hov)
                  clear hov hjn
                  go_wp2_with fail
                  refine (layerRead_impl _ _ _ _ _ cx [((2 : Int), (9 : Int))] P k key _ HSR.out HXR.out hlx).mono ?_; rintro e w6 ⟨rfl, hb6⟩
                  have HS6 := Lib.hid (HSR.out.below hb6)
                  have HL6 := Lib.hid (HLR.out.below hb6)
                  have hbr6 := hbr.trans (hb6.mono hbr.size)
                  rw [HEQ.out]
                  clear hb6
                  go_wp2_with fail
                  refine (layerRead_impl _ _ _ _ _ cv [((2 : Int), (9 : Int))] L k key _ HS6.out HL6.out hlen).mono ?_; rintro e w7 ⟨rfl, hb7⟩
                  have hbr7 := hbr6.trans (hb7.mono hbr6.size)
                  obtain ⟨r, hr⟩ : ∃ r, r = layerReadM [((2 : Int), (9 : Int))] L k key := ⟨_, rfl⟩
                  rw [← hr]
                  have hrr : (r != r) = false := by simp
                  clear hr hb7 hbr6
                  go_wp2
                  go_roundw
                  case rel => exact ⟨k + 1, by omega, by go_num, hbr7⟩
                  case measure => simp [intOf]; omega
              · obtain ⟨q, rfl⟩ : ∃ q : Nat, j = (q : Int) := ⟨j.toNat, by omega⟩
                have hqm : q < m := by omega
                obtain ⟨c1, -⟩ := HCC.out q hqm
                have hbd := lay_bd HLV.out q (by rw [HN.out]; exact hqm)
                have hst := overM_step HLV.out n q (by rw [HN.out]; exact hqm)
                have hjb : decide ((0 : Int) ≤ (q : Int)) = true := by simp
                have hw2 := HWAY.out
                unfold WayTo at hw2
                rw [hst] at hw2
                have HW2 := Lib.hid hw2
                clear hst hw2 hjn
                obtain ⟨y, hy⟩ : ∃ y, y = (L.getD q (0, [])).1 := ⟨_, rfl⟩
                rw [← hy] at c1 hbd HW2
                clear hy
                cases ob with
                | true =>
                  go_wp2
                  go_round
                  case rel => exact ⟨y, true, by omega, by omega, rfl, rfl, by have := HW2.out; simp only [Bool.true_or] at this; simp only [WayTo, Bool.true_or]; exact this⟩
                  case measure => simp [intOf]; omega
                | false =>
                  by_cases hqn : (q : Int) = n
                  · have HQ := Lib.hid (show ((q : Int) == n) = true by simpa using hqn)
                    have hqb : ((q : Int) == n) = true := by simpa using hqn
                    clear hqn
                    go_wp2
                    go_round
                    case rel => exact ⟨y, true, by omega, by omega, rfl, rfl, by have := HW2.out; rw [HQ.out] at this; simp only [Bool.false_or, Bool.true_or] at this; simp only [WayTo, Bool.true_or]; exact this⟩
                    case measure => simp [intOf]; omega
                  · have HQ := Lib.hid (show ((q : Int) == n) = false by simpa using hqn)
                    have hqb : ((q : Int) == n) = false := by simpa using hqn
                    clear hqn
                    go_wp2
                    go_round
                    case rel => exact ⟨y, false, by omega, by omega, rfl, rfl, by have := HW2.out; rw [HQ.out] at this; simp only [Bool.false_or] at this; simp only [WayTo, Bool.false_or]; exact this⟩
                    case measure => simp [intOf]; omega
          · have HSR := Lib.hid hsr
            have HXR := Lib.hid hxr
            clear hsr hxr hlr hs4 hrx5 hrl5
            go_wp2_with fail
            refine (layersValid_impl _ _ cx P _ HXR.out hlx).mono ?_; rintro e w6 ⟨rfl, hb6⟩
            have HS6 := Lib.hid (HSR.out.below hb6)
            have HX6 := Lib.hid (HXR.out.below hb6)
            have hb6' := hbw.trans (hb6.mono hbw.size)
            rw [HPV.out]
            go_wp2_with fail
            refine (layerRead_impl _ _ _ _ _ cx [((2 : Int), (9 : Int))] P n key _ HS6.out HX6.out hlx).mono ?_; rintro e w7 ⟨rfl, hb7⟩
            have hb7' := hb6'.trans (hb7.mono hb6'.size)
            rw [HRW.out]
            have hvv : (val == val) = true := by simp
            go_wp2
            go_ret
            exact ⟨rfl, hb7'⟩
  · have hs' : (1048576 : Int) < (len : Int) := by omega
    clear h hlc
    go_enter Try.func6, Try.ntmps6
    go_wp2
    go_ret
    exact ⟨rfl, Below.refl _ _⟩
end Go.Proofs.Ytcaombogffmopaa
