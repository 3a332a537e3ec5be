/- The walk of the law FnOrderFits (gen8/lawfit.py). -/
import Derived.Test.YtfhbolpchmdaoaaDrawOrd2
import Derived.Test.YtfhbolpchmdaoaaConfM
import Derived.Test.YtfhbolpchmdaoaaEightB
import Derived.Test.YtfhbolpchmdaoaaEightA
import Derived.Test.YtfhbolpchmdaoaaSpecFit
import Derived.Test.YtfhbolpchmdaoaaLawLev
namespace Go.Proofs.Ytfhbolpchmdaoaa
open Go.RowKit
set_option linter.unusedVariables false
theorem RowI.dropped {w : World} {b off n : Nat} {l : List Int} (h : RowI w (some ⟨b, off, none⟩) n l) (k : Nat) (hk : k ≤ n) : RowI w (some ⟨b, off + k, none⟩) (n - k) (l.drop k) := by
  obtain ⟨h1, h2, h3, h4⟩ := h
  refine ⟨by rw [List.length_drop]; omega, by omega, fun hl => ?_, fun x hx => h4 x (List.mem_of_mem_drop hx)⟩
  obtain ⟨b', off', he, hc⟩ := h3 (by omega)
  obtain ⟨rfl, rfl⟩ : b = b' ∧ off = off' := by simpa using he
  refine ⟨b, off + k, rfl, fun i hi => ?_⟩
  have e : (l.drop k).getD i 0 = l.getD (k + i) 0 := by
    rw [List.getD_eq_getElem?_getD, List.getD_eq_getElem?_getD, List.getElem?_drop]
  rw [e, show off + k + i = off + (k + i) by omega]
  exact hc (k + i) (by omega)
theorem RowI.newsI {w : World} {a : Option Addr} {n : Nat} {l : List Int} (h : RowI w a n l) : ∀ ad, a = some ad → ∀ j u, (l.map (Value.int .i64))[j]? = some u → w.cell? (ad.add j) = some u := by
  intro ad he j u hu
  have hj : j < n := by
    have := (List.getElem?_eq_some_iff.1 hu).1
    rw [List.length_map, h.1] at this; exact this
  obtain ⟨b, off, he', hc⟩ := h.2.2.1 (by omega)
  rw [he] at he'
  obtain rfl := Option.some.inj he'
  rw [show (⟨b, off, none⟩ : Addr).add j = ⟨b, off + j, none⟩ by unfold Addr.add; split <;> simp_all]
  rw [hc j hj, ← hu, List.getElem?_map, List.getD_eq_getElem?_getD, List.getElem?_eq_getElem (by rw [h.1]; exact hj)]; rfl
theorem rowI_none {w : World} (a : Option Addr) {l : List Int} (hl : l = []) : RowI w a 0 l := by
  subst hl; exact ⟨rfl, by unfold maxLen; omega, fun h => absurd h (by omega), fun n hn => by cases hn⟩
/-- The order of the law, with its first two numbers equal. -/
def twiceM (n : Nat) : List Int := [0, 0] ++ (plainM n).drop 2
theorem twiceM_len {n : Nat} (h : 2 ≤ n) : (twiceM n).length = n := by simp [twiceM, plainM_len]; omega
theorem plain_wf {n : Nat} (h : n ≤ 20) : ∀ x ∈ plainM n, (Lit.int .i64 x).wf = true := fun x hx => by
  obtain ⟨m, rfl, hm⟩ := plain_mem.1 hx
  exact WalkArith.wf_i64 (by omega)
theorem twice_wf {n : Nat} (h : n ≤ 20) : ∀ x ∈ twiceM n, (Lit.int .i64 x).wf = true := fun x hx => by
  rcases List.mem_append.1 hx with hx | hx
  · simp at hx; subst hx; rfl
  · exact plain_wf h x (List.mem_of_mem_drop hx)
set_option maxRecDepth 100000 in
set_option maxHeartbeats 8000000 in
theorem lawOrderFits (a : Option Addr) (len cap : Nat) (z : List Int) (w : World) (h : RowB w a len z) (hc : a = none → cap = 0) (hlc : len ≤ cap) :
    Calls Try.prog 5 #[.slice a len cap] w (LawTrue w) := by
  by_cases hs : len ≤ 1048576
  · have hs' : ¬ (1048576 : Int) < (len : Int) := by omega
    go_enter Try.func5, Try.ntmps5
    go_wp2_with fail
    refine (drawOrderFits_any a len cap z w h hlc).mono ?_; rintro e w1 ⟨g, c, L, gO, cO, O, rfl, hrA, hlc2, hl20, hrO, hO20, hb1⟩
    clear h hs hs' hc hlc
    obtain ⟨n, hn⟩ : ∃ n, n = L.length := ⟨_, rfl⟩
    have HN := Lib.hid hn
    obtain ⟨m, hm⟩ : ∃ m, m = O.length := ⟨_, rfl⟩
    rw [← hn] at hrA hlc2 hl20 ⊢
    rw [← hm] at hrO hO20 ⊢
    clear hn hm
    obtain ⟨v, hv⟩ : ∃ v, fitsM L O = v := ⟨_, rfl⟩
    have HV := Lib.hid hv
    have hvv : (v != v) = false := by simp
    clear hv
    go_wp2_with fail
    refine (orderFits_impl _ n c L _ m cO O _ hrA hrO).mono ?_; rintro e w2 ⟨rfl, hb2'⟩
    rw [HV.out]
    have hrA2 := hrA.below hb2'
    have hrO2 := hrO.below hb2'
    have hb2 := hb1.trans (hb2'.mono hb1.size)
    clear hrA hrO hb1 hb2'
    go_wp2_with fail
    refine (orderFits_spec _ n c L _ m cO O _ hrA2 hrO2).mono ?_; rintro e w3 ⟨rfl, hb3'⟩
    rw [HV.out]
    have hrA3 := hrA2.below hb3'
    have hb3 := hb2.trans (hb3'.mono hb2.size)
    clear hrA2 hrO2 hb2 hb3'
    go_wp2_with fail
    refine (actionsValid_spec _ n c L _ hrA3).mono ?_; rintro e w4 ⟨rfl, hb4'⟩
    have hrA4 := hrA3.below hb4'
    have hb4 := hb3.trans (hb4'.mono hb3.size)
    clear hrA3 hb3 hb4' hvv
    cases hA : actsB L with
    | false =>
      have hvf : v = false := by rw [← HV.out]; exact fitsM_acts hA
      subst hvf
      clear hrA4 hA
      go_wp2_with fail
      refine (alive_any _).mono ?_; rintro e w5 ⟨rfl, hb5'⟩
      go_wp2
      go_ret
      exact ⟨rfl, hb4.trans (hb5'.mono hb4.size)⟩
    | true =>
      have HAC := Lib.hid hA
      have hn10 : n ≤ 10 := by have := (actsB_true hA).1; rw [HN.out]; exact this
      have hown0 : Own (w4.alloc (.cells #[] 3)) w4.heap.size 3 1 (.slice (some ⟨w4.heap.size, 0, none⟩) 0 0) 0 ((plainM 0).map (Value.int .i64)) := own_lit 3 1 #[] 0 (Nat.le_refl _) (by simp) rfl
      have hbl := (Below.refl w4.heap.size w4).alloc (Nat.le_refl _) (.cells #[] 3)
      have HO0 := Lib.hid (And.intro hown0 hbl)
      have HA4 := Lib.hid hrA4
      have HB4 := Lib.hid hb4
      clear hA hown0 hbl hrA4 hb4
      go_wp2
      go_loopw [6, 7] (fun q i wr => ∃ k : Nat, k ≤ n ∧ i = .int .i64 k ∧ Own wr w4.heap.size 3 1 q k ((plainM k).map (Value.int .i64)) ∧ Below w4.heap.size w4 wr) (fun _ i _ => n - (intOf i).toNat)
      case atStart => exact ⟨0, Nat.zero_le _, rfl, HO0.out.1, HO0.out.2⟩
      case round =>
        clear HO0
        obtain ⟨k, hk, rfl, ho, hb⟩ := hrel
        by_cases hlt : k < n
        · have HO := Lib.hid ho
          obtain ⟨gX, cX, hvX, -, -⟩ := ho.slice
          subst hvX
          have hs := hb.size
          clear ho
          go_wp2_with (at_builtin; refine wpList_append_one rfl _ _ 43 rfl w4.heap.size 3 _ (.int .i64 0) 1 8 Try.underlying43 infoInt rfl (by decide) _ _ _ [.int .i64 (k : Int)] (by rfl) HO.out (by rfl) rfl ?c11 ?c21 (by decide) ?c31 ?_)
          case c11 => intro u hu; simp at hu; subst hu; rfl
          case c21 => omega
          case c31 => exact hs
          intro v6 w6 ho6 hg6
          have HO6 : Hid (Own w6 w4.heap.size 3 1 v6 (k + 1) ((plainM (k + 1)).map (Value.int .i64))) := Lib.hid (by rw [plainM_next, List.map_append]; exact ho6)
          have HB6 := Lib.hid ((hb.alloc hs _).grown hg6 (by simp; omega) (fun p hp => (HO.out.1.lt p hp).1))
          clear HO ho6 hg6 hb
          go_wp2
          go_roundw
          case rel => exact ⟨k + 1, by omega, by go_num, HO6.out, HB6.out⟩
          case measure => simp [intOf]; omega
        · obtain rfl : k = n := by omega
          obtain ⟨gP, cP, hvP, hgP0, hgP1⟩ := ho.slice
          subst hvP
          have hcP : k ≤ cP := by
            rcases ho.1.2 with ⟨h1, _⟩ | ⟨g', cap', cur, h1, h2, h3, h4, h5, h6, h7⟩
            · cases h1
            · simp at h1; omega
          have hlo : (plainM k).length = k := plainM_len k
          have hrP : RowI wr (some ⟨gP, 0, none⟩) k (plainM k) := rowI_owned (B := w4.heap.size) (e := 3) (cap := cP) ho.1 (by omega) (plain_wf hl20)
          have hrA5 := HA4.out.below hb
          have hb5 := HB4.out.trans (hb.mono HB4.out.size)
          have HPF : Hid (fitsM L (plainM k) = true) := Lib.hid (by rw [HN.out]; exact plain_fits HAC.out)
          have HLF := Lib.hid (lvOrd_fits HAC.out)
          have hOl := levelOrder_len L
          have HOL : Hid ((lvOrdM (levelsM L)).length = k) := Lib.hid (by rw [lvOrd_len (levels_bd L), levelsM_len HAC.out, HN.out])
          clear HA4 HB4 ho hb hlt
          go_wp2_with fail
          refine (orderFits_impl _ k c L _ k cP (plainM k) _ hrA5 hrP).mono ?_; rintro e w6 ⟨rfl, hb6'⟩
          rw [HPF.out]
          have hrA6 := hrA5.below hb6'
          have hrP6 := hrP.below hb6'
          have hb6 := hb5.trans (hb6'.mono hb5.size)
          clear hrA5 hrP hb5 hb6'
          go_wp2_with fail
          refine (levelOrder_impl _ k c L _ hrA6).mono ?_; intro e w7 hN
          obtain ⟨aQ, cQ, rfl, hrQ, -, hb7'⟩ := newLN_row hN (by omega)
          rw [HOL.out] at hrQ ⊢
          have hrA7 := hrA6.below hb7'
          have hrP7 := hrP6.below hb7'
          have hb7 := hb6.trans (hb7'.mono hb6.size)
          clear hrA6 hrP6 hb6 hb7' hN
          go_wp2_with fail
          refine (orderFits_impl _ k c L _ k cQ _ _ hrA7 hrQ).mono ?_; rintro e w8 ⟨rfl, hb8'⟩
          rw [HLF.out]
          have hrA8 := hrA7.below hb8'
          have hrP8 := hrP7.below hb8'
          have hb8 := hb7.trans (hb8'.mono hb7.size)
          clear hrA7 hrP7 hrQ hb7 hb8'
          by_cases h2 : k < 2
          · have hd2 : decide ((k : Int) < 2) = true := by simp; omega
            go_wp2
            go_ret
            exact ⟨rfl, hb8⟩
          · have hd2 : decide ((k : Int) < 2) = false := by simp; omega
            have HTW : Hid (fitsM L (twiceM k) = false) := Lib.hid (twice_unfit (by simp [twiceM]) (by rw [← HN.out]; omega))
            have HTL : Hid ((twiceM k).length = k) := Lib.hid (twiceM_len (by omega))
            have hown2 : Own (w8.alloc (.cells #[.int .i64 0, .int .i64 0] 3)) w8.heap.size 3 1 (.slice (some ⟨w8.heap.size, 0, none⟩) 2 2) 2 [.int .i64 0, .int .i64 0] := own_lit 3 1 #[.int .i64 0, .int .i64 0] 2 (Nat.le_refl _) (by unfold maxLen; omega) rfl
            have hbl := (Below.refl w8.heap.size w8).alloc (Nat.le_refl _) (.cells #[.int .i64 0, .int .i64 0] 3)
            have hrP9 := hrP8.below hbl
            have HA9 := Lib.hid (hrA8.below hbl)
            have HB9 := Lib.hid hb8
            have HGL : Hid (g < w8.heap.size) := Lib.hid (by
              obtain ⟨b', o', e', hc'⟩ := hrA8.2.2.1 (by omega)
              obtain ⟨rfl, rfl⟩ : g = b' ∧ 0 = o' := by simpa using e'
              exact World.block_lt_of_cell? _ _ (hc' 0 (by omega)).1)
            have h1 : 2 ≤ k := by omega
            have hc1 : 2 ≤ cP := by omega
            clear h2 hrA8 hrP8 hb8
            by_cases hc2 : cP = 2
            · obtain rfl : k = 2 := by omega
              subst hc2
              have hrD : RowI (w8.alloc (.cells #[.int .i64 0, .int .i64 0] 3)) (some ⟨gP, 0, none⟩) 0 ((plainM 2).drop 2) := rowI_none _ rfl
              have HND := Lib.hid hrD.newsI
              clear hrD hrP9
              go_wp2_with (at_builtin; refine wpList_append_rows (by first | rfl | simp [Region.wanted, yielded]) _ _ 43 rfl w8.heap.size 3 (.int .i64 0) 1 8 Try.underlying43 infoInt rfl (by decide) _ 2 [.int .i64 0, .int .i64 0] (((plainM 2).drop 2).map (Value.int .i64)) (by rfl) hown2 (some ⟨gP, 0, none⟩) 0 0 (by rfl) (fun h => by cases h) ?p1 HND.out ?p2 ?p3 (by decide) (by simp) ?_)
              case p1 => rfl
              case p2 => intro u hu; obtain ⟨y, -, rfl⟩ := List.mem_map.1 hu; rfl
              case p3 => omega
              intro v9 w9 ho9 hg9
              have hb9 := hbl.grown hg9 (by simp) (fun p hp => (hown2.1.lt p hp).1)
              have HA10 := Lib.hid (HA9.out.grown hg9 (fun e => by have := (hown2.1.lt g e.symm).1; have := HGL.out; omega))
              have hb10 := HB9.out.trans (hb9.mono HB9.out.size)
              have ho10 : Own w9 w8.heap.size 3 1 v9 (twiceM 2).length ((twiceM 2).map (Value.int .i64)) := by
                rw [HTL.out]
                have e : (twiceM 2).map (Value.int .i64) = [.int .i64 0, .int .i64 0] ++ ((plainM 2).drop 2).map (Value.int .i64) := by simp [twiceM]
                rw [e]
                exact ho9
              obtain ⟨gT, cT, rfl, -, -, hrT⟩ := rowI_of_own ho10 (by rw [HTL.out]; omega) (twice_wf (by omega))
              rw [HTL.out] at hrT ⊢
              clear ho9 hg9 ho10 hown2 hbl hb9 HND HA9 HB9
              go_wp2_with fail
              refine (orderFits_impl _ 2 c L _ 2 cT _ _ HA10.out hrT).mono ?_; rintro e w10 ⟨rfl, hb11⟩
              rw [HTW.out]
              go_wp2
              go_ret
              exact ⟨rfl, hb10.trans (hb11.mono hb10.size)⟩
            · have hrD := hrP9.dropped 2 h1
              rw [Nat.zero_add] at hrD
              have hc3 : 2 < cP := by omega
              have HND := Lib.hid hrD.newsI
              have hdl : ((plainM k).drop 2).length = k - 2 := hrD.1
              clear hrD hrP9
              go_wp2_with (at_builtin; refine wpList_append_rows (by first | rfl | simp [Region.wanted, yielded]) _ _ 43 rfl w8.heap.size 3 (.int .i64 0) 1 8 Try.underlying43 infoInt rfl (by decide) _ 2 [.int .i64 0, .int .i64 0] (((plainM k).drop 2).map (Value.int .i64)) (by rfl) hown2 (some ⟨gP, 2, none⟩) (k - 2) (cP - 2) (by rfl) (fun h => by cases h) ?q1 HND.out ?q2 ?q3 (by decide) (by simp) ?_)
              case q1 => simp [plainM_len]
              case q2 => intro u hu; obtain ⟨y, -, rfl⟩ := List.mem_map.1 hu; rfl
              case q3 => omega
              intro v9 w9 ho9 hg9
              have hb9 := hbl.grown hg9 (by simp) (fun p hp => (hown2.1.lt p hp).1)
              have HA10 := Lib.hid (HA9.out.grown hg9 (fun e => by have := (hown2.1.lt g e.symm).1; have := HGL.out; omega))
              have hb10 := HB9.out.trans (hb9.mono HB9.out.size)
              have ho10 : Own w9 w8.heap.size 3 1 v9 (twiceM k).length ((twiceM k).map (Value.int .i64)) := by
                rw [HTL.out]
                have e : (twiceM k).map (Value.int .i64) = [.int .i64 0, .int .i64 0] ++ ((plainM k).drop 2).map (Value.int .i64) := by simp [twiceM]
                rw [e]
                rw [List.map_drop]
                exact ho9
              obtain ⟨gT, cT, rfl, -, -, hrT⟩ := rowI_of_own ho10 (by rw [HTL.out]; omega) (twice_wf (by omega))
              rw [HTL.out] at hrT ⊢
              clear ho9 hg9 ho10 hown2 hbl hb9 HND HA9 HB9
              go_wp2_with fail
              refine (orderFits_impl _ k c L _ k cT _ _ HA10.out hrT).mono ?_; rintro e w10 ⟨rfl, hb11⟩
              rw [HTW.out]
              go_wp2
              go_ret
              exact ⟨rfl, hb10.trans (hb11.mono hb10.size)⟩
  · have hs' : (1048576 : Int) < (len : Int) := by omega
    clear h hlc
    go_enter Try.func5, Try.ntmps5
    go_wp2
    go_ret
    exact ⟨rfl, Below.refl _ _⟩
end Go.Proofs.Ytfhbolpchmdaoaa
