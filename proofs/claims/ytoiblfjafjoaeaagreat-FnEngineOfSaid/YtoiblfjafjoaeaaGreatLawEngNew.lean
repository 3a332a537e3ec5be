/- The walk of the law FnEngineOf; a new engine. -/
import Derived.Test.YtoiblfjafjoaeaaGreatDrawFs
import Derived.Test.YtoiblfjafjoaeaaGreatImplEngO
import Derived.Test.YtoiblfjafjoaeaaGreatTenB
import Derived.Test.YtoiblfjafjoaeaaGreatImplTries
import Derived.Test.YtoiblfjafjoaeaaGreatSameEng
import Derived.Test.YtoiblfjafjoaeaaGreatOne
namespace Go.Proofs.YtoiblfjafjoaeaaGreat
open Go.RowKit
set_option linter.unusedVariables false
set_option linter.unusedSimpArgs false
theorem getD_fresh (n k : Nat) : (List.replicate n noSlt).getD k noSlt = noSlt := by
  rw [List.getD_eq_getElem?_getD, List.getElem?_replicate]
  split <;> rfl
theorem vsN_fresh {X : List Eff} (h : ∀ k, (X.getD k noEff).wrs = []) : ∀ k, vsN X k = []
  | 0 => rfl
  | k + 1 => by
    show putL (vsN X k) (k : Int) (X.getD k noEff).wrs = []
    rw [vsN_fresh h k, h k]; rfl
/-- A new engine is an engine. -/
theorem fresh_ok {S : List Ent} {L : List Acn} (h : storeB S = true) (h2 : actsB L = true) : EngOk (engOfM S L) := by
  rw [engOfM_yes h h2]
  refine ⟨h, h2, by simp, fun n hn => ?_, ?_, fun n hn hs => ?_⟩
  · show slotB (L.getD n noA) n ((List.replicate L.length noSlt).getD n noSlt) = true
    rw [getD_fresh]; rfl
  · refine (vsN_fresh (fun k => ?_) _).symm
    rw [resL_get]
    show ((List.replicate L.length noSlt).getD k noSlt).res.wrs = []
    rw [getD_fresh]; rfl
  · unfold stg at hs
    have hs' : ((List.replicate L.length noSlt).getD n noSlt).stage = 2 := hs
    rw [getD_fresh] at hs'
    exact absurd hs' (by decide)
theorem fresh_done {S : List Ent} {L : List Acn} (h : storeB S = true) (h2 : actsB L = true) : doneE (engOfM S L) = decide (L.length = 0) := by
  have hb := (engB_iff _).2 (fresh_ok h h2)
  by_cases h0 : L.length = 0
  · rw [decide_eq_true h0]
    refine doneE_yes hb fun n hn => ?_
    rw [engOfM_yes h h2] at hn
    simp at hn; omega
  · rw [decide_eq_false h0]
    refine doneE_bad (k := 0) (by rw [engOfM_yes h h2]; simp; omega) ?_
    rw [engOfM_yes h h2]
    unfold stg
    show ¬ ((List.replicate L.length noSlt).getD 0 noSlt).stage = 2
    rw [getD_fresh]; decide
theorem fresh_tries {S : List Ent} {L : List Acn} (h : storeB S = true) (h2 : actsB L = true) : triesM (engOfM S L) = 0 := by
  have hb := (engB_iff _).2 (fresh_ok h h2)
  unfold triesM
  rw [if_pos hb]
  have : ∀ k, triesTo (engOfM S L) k = 0 := by
    intro k
    induction k with
    | zero => rfl
    | succ k ih =>
      show triesTo (engOfM S L) k + ((engOfM S L).slots.getD k noSlt).tries = 0
      rw [ih, engOfM_yes h h2]
      show 0 + ((List.replicate L.length noSlt).getD k noSlt).tries = 0
      rw [getD_fresh]; rfl
  exact this _
theorem engRd_lens {w : World} {a1 a2 a3 a4 : Option Addr} {n1 n2 n3 n4 c1 c2 c3 c4 : Nat} {e : Eng} (h : EngRd w (.slice a1 n1 c1) (.slice a2 n2 c2) (.slice a3 n3 c3) (.slice a4 n4 c4) e) : e.base.length = n1 ∧ e.slots.length = n4 := by
  obtain ⟨⟨_, _, _, h1, r1, -, -⟩, -, -, _, _, _, h4, r4, -, -⟩ := h
  simp only [Value.slice.injEq] at h1 h4
  obtain ⟨rfl, rfl, rfl⟩ := h1
  obtain ⟨rfl, rfl, rfl⟩ := h4
  exact ⟨r1.1, r4.1⟩
theorem newEng_formN {w : World} {B T : Nat} {t : EngT} {v1 v2 v3 v4 : Value} {e : Eng} {ts : List (Value × Value × Value)} (h : EngOwn w B T t v1 v2 v3 v4 e ts) : ∃ b1 m1 d1 b2 m2 d2 b3 m3 d3 b4 m4 d4, v1 = .slice b1 m1 d1 ∧ v2 = .slice b2 m2 d2 ∧ v3 = .slice b3 m3 d3 ∧ v4 = .slice b4 m4 d4 := by
  obtain ⟨⟨b1, m1, d1, rfl, -⟩, ⟨b2, m2, d2, rfl, -⟩, ⟨b3, m3, d3, rfl, -⟩, b4, m4, d4, rfl, -⟩ := h.rd
  exact ⟨b1, m1, d1, b2, m2, d2, b3, m3, d3, b4, m4, d4, rfl, rfl, rfl, rfl⟩
theorem drawEngineOf_any (a : Option Addr) (len cap : Nat) (z : List Int) (w : World) (h : RowB w a len z) (hlc : len ≤ cap) :
    Calls Tryz.prog 14 #[.slice a len cap] w (EntsActsD w) := by
  go_enter Tryz.func14, Tryz.ntmps14
  go_wp2_with fail
  refine (drawRunSerial_any a len cap z w h hlc).mono ?_; rintro e w1 ⟨gS, cS, S, gA, cA, L, rfl, h1, h2, h3, h4, h5, h6⟩
  have H1 := Lib.hid h1; have H2 := Lib.hid h2; have H3 := Lib.hid h3; have H4 := Lib.hid h4; have H5 := Lib.hid h5; have H6 := Lib.hid h6
  clear h1 h2 h3 h4 h5 h6 h
  go_wp2
  go_ret2
  exact ⟨gS, cS, S, gA, cA, L, rfl, H1.out, H2.out, H3.out, H4.out, H5.out, H6.out⟩
set_option maxRecDepth 100000 in
set_option maxHeartbeats 8000000 in
theorem lawEngineOf (a : Option Addr) (len cap : Nat) (z : List Int) (w : World) (h : RowB w a len z) (hc : a = none → cap = 0) (hlc : len ≤ cap) :
    Calls Tryz.prog 3 #[.slice a len cap] w (LawTrue w) := by
  by_cases hs : len ≤ 1048576
  · have hs' : ¬ (1048576 : Int) < (len : Int) := by omega
    go_enter Tryz.func3, Tryz.ntmps3
    go_wp2_with fail
    refine (drawEngineOf_any a len cap z w h hlc).mono ?_; rintro e w1 ⟨gS, cS, S, gA, cA, L, rfl, hrS, hSl, hrA, hlA, hl20, hb1⟩
    have HRS := Lib.hid (fun W (hb : Below w1.heap.size w1 W) => hrS.below hb)
    have HRA := Lib.hid (fun W (hb : Below w1.heap.size w1 W) => hrA.below hb)
    have HB1 := Lib.hid hb1
    obtain ⟨E, hE⟩ : ∃ E, E = engOfM S L := ⟨_, rfl⟩
    have HE := Lib.hid hE
    have HNO : Hid ((storeB S && actsB L) = false → E = noEng) := Lib.hid (fun hh => by rw [hE, engOfM_no hh])
    have HYES : Hid (storeB S = true → actsB L = true → engB E = true ∧ doneE E = decide (L.length = 0) ∧ triesM E = 0) := Lib.hid (fun h1 h2 => by rw [hE]; exact ⟨(engB_iff _).2 (fresh_ok h1 h2), fresh_done h1 h2, fresh_tries h1 h2⟩)
    clear h hs hs' hc hrS hrA hb1 hE hlA
    go_wp2_with fail
    refine (engineOf_impl _ _ _ S _ _ _ L _ (HRS.out _ (Below.refl _ _)) (fun h => by cases h) (HRA.out _ (Below.refl _ _)) (fun h => by cases h)).mono ?_; rintro e w2 ⟨q1, q2, q3, q4, ts1, rfl, ho2, hb2⟩
    rw [← HE.out] at ho2
    obtain ⟨e1, i1, j1, e2, i2, j2, e3, i3, j3, e4, i4, j4, rfl, rfl, rfl, rfl⟩ := newEng_formN ho2
    have HO2 := Lib.hid ho2
    have HB2 := Lib.hid hb2
    clear ho2 hb2
    go_upto_region 5 with (fail)
    generalize hw3 : World.alloc _ _ = w3
    have hb3 : Below w2.heap.size w2 w3 := by rw [← hw3]; exact (Below.refl _ _).alloc (Nat.le_refl _) _
    have hZ : EgAt w3 w2.heap.size (.slice e1 i1 j1) (.slice e2 i2 j2) (.slice e3 i3 j3) (.slice e4 i4 j4) := by rw [← hw3]; exact egAt_new w2 _ _ _ _ _
    have HO3 := Lib.hid (HO2.out.below hb3)
    have HB3 := Lib.hid (HB2.out.trans (hb3.mono HB2.out.size))
    have HZ3 := Lib.hid hZ
    obtain ⟨Z, hZe⟩ : ∃ Z, Z = w2.heap.size := ⟨_, rfl⟩
    rw [← hZe] at HZ3 ⊢
    clear hw3 hb3 hZ hZe HO2 HB2
    have hzl := HZ3.out.lt
    obtain ⟨m0, m1, m2, m3, -⟩ := HZ3.out
    have HKP := Lib.hid (fun W' (hb : Below w3.heap.size w3 W') => (⟨below_cell hb hzl m0, below_cell hb hzl m1, below_cell hb hzl m2, below_cell hb hzl m3⟩ : _ ∧ _ ∧ _ ∧ _))
    go_region_held3 (fun w' => w'.cell? ⟨Z, 0, none⟩ = some (.slice e1 i1 j1) ∧ w'.cell? ⟨Z, 1, none⟩ = some (.slice e2 i2 j2) ∧ w'.cell? ⟨Z, 2, none⟩ = some (.slice e3 i3 j3) ∧ w'.cell? ⟨Z, 3, none⟩ = some (.slice e4 i4 j4)) (first | exact ⟨m0, m1, m2, m3⟩ | exact hkp | exact hkp2 | go_keep)
      (first | (go_at_call 17; refine (engineOf_spec _ _ _ S _ _ _ L w3.drew (HRS.out _ (HB3.out.trans (((Below.refl w3.heap.size w3).drew).mono HB3.out.size))) (fun h => by cases h) (HRA.out _ (HB3.out.trans (((Below.refl w3.heap.size w3).drew).mono HB3.out.size))) (fun h => by cases h)).mono ?_; rintro en w4 ⟨g1, g2, g3, g4, ts0, rfl, ho4, hb4'⟩; rw [← HE.out] at ho4; obtain ⟨f1, h1, k1, f2, h2, k2, f3, h3, k3, f4, h4, k4, rfl, rfl, rfl, rfl⟩ := newEng_formN ho4; have hb4 := (Below.refl w3.heap.size w3).drew.trans hb4'; have hkp := HKP.out _ hb4) | (go_at_call 16; refine (sameEngine_same _ _ _ _ _ _ _ _ E _ (HO3.out.below hb4).rd ho4.rd).mono ?_; rintro en w5 ⟨rfl, hb5'⟩; have hb5 := hb4.trans (hb5'.mono hb4.size); have hkp2 := HKP.out _ hb5))
    have HO5 := Lib.hid (HO3.out.below hb5)
    have HZ5 := Lib.hid (HZ3.out.below hb5)
    have HB5 := Lib.hid (HB3.out.trans (hb5.mono HB3.out.size))
    clear hkp hkp2 hb5 hb5' hb4 hb4' ho4 m0 m1 m2 m3 hzl HKP HO3 HZ3 HB3
    have HLENS : Hid ((storeB S && actsB L) = false → i1 = 0 ∧ i4 = 0) := Lib.hid (fun hh => by
      have := engRd_lens HO5.out.rd
      rw [HNO.out hh] at this
      exact ⟨this.1.symm, this.2.symm⟩)
    go_wp2_with fail
    refine (storeValid_spec _ _ cS S _ (HRS.out _ HB5.out)).mono ?_; rintro en w6 ⟨rfl, hd6⟩
    have hb6 := hd6.below w5.heap.size
    have HB6 := Lib.hid (HB5.out.trans (hb6.mono HB5.out.size))
    have HZ6 := Lib.hid (HZ5.out.below hb6)
    have HO6 := Lib.hid (HO5.out.below hb6)
    clear hd6 hb6 HB5 HZ5 HO5
    cases hS : storeB S with
    | false =>
      obtain ⟨rfl, rfl⟩ := HLENS.out (by rw [hS]; rfl)
      obtain ⟨m0, m1, m2, m3, -⟩ := HZ6.out
      clear hS HLENS
      go_wp2_with fail
      refine (alive_any _).mono ?_; rintro en w7 ⟨rfl, hb7⟩
      have HBF := Lib.hid (HB1.out.trans ((HB6.out.trans (hb7.mono HB6.out.size)).mono HB1.out.size))
      clear hb7 m0 m1 m2 m3
      go_wp2
      go_ret
      exact ⟨rfl, HBF.out⟩
    | true =>
      have HS := Lib.hid hS
      clear hS
      go_wp2_with fail
      refine (actionsValid_spec _ _ cA L _ (HRA.out _ HB6.out)).mono ?_; rintro en w7 ⟨rfl, hb7⟩
      have HB7 := Lib.hid (HB6.out.trans (hb7.mono HB6.out.size))
      have HZ7 := Lib.hid (HZ6.out.below hb7)
      have HO7 := Lib.hid (HO6.out.below hb7)
      clear hb7 HB6 HZ6 HO6
      cases hA : actsB L with
      | false =>
        obtain ⟨rfl, rfl⟩ := HLENS.out (by rw [hA, Bool.and_false])
        obtain ⟨m0, m1, m2, m3, -⟩ := HZ7.out
        clear hA HLENS
        go_wp2_with fail
        refine (alive_any _).mono ?_; rintro en w8 ⟨rfl, hb8⟩
        have HBF := Lib.hid (HB1.out.trans ((HB7.out.trans (hb8.mono HB7.out.size)).mono HB1.out.size))
        clear hb8 m0 m1 m2 m3
        go_wp2
        go_ret
        exact ⟨rfl, HBF.out⟩
      | true =>
        obtain ⟨y1, y2, y3⟩ := HYES.out HS.out hA
        have HY1 := Lib.hid y1; have HY2 := Lib.hid y2; have HY3 := Lib.hid y3
        clear hA HLENS y1 y2 y3
        obtain ⟨m0, m1, m2, m3, -⟩ := HZ7.out
        go_wp2_with fail
        refine (engineValid_impl _ _ _ _ E _ HO7.out.rd).mono ?_; rintro en w8 ⟨rfl, hb8⟩
        rw [HY1.out]
        have HB8 := Lib.hid (HB7.out.trans (hb8.mono HB7.out.size))
        have HZ8 := Lib.hid (HZ7.out.below hb8)
        have HO8 := Lib.hid (HO7.out.below hb8)
        clear hb8 HB7 HZ7 HO7 m0 m1 m2 m3
        obtain ⟨m0, m1, m2, m3, -⟩ := HZ8.out
        go_wp2_with fail
        refine (engineDone_impl _ _ _ _ E _ HO8.out.rd).mono ?_; rintro en w9 ⟨rfl, hb9⟩
        rw [HY2.out]
        have HB9 := Lib.hid (HB8.out.trans (hb9.mono HB8.out.size))
        have HZ9 := Lib.hid (HZ8.out.below hb9)
        have HO9 := Lib.hid (HO8.out.below hb9)
        clear hb9 HB8 HZ8 HO8 m0 m1 m2 m3
        obtain ⟨m0, m1, m2, m3, -⟩ := HZ9.out
        obtain ⟨l0, hl0⟩ : ∃ x, x = L.length := ⟨_, rfl⟩
        rw [← hl0] at hl20 ⊢
        clear hl0
        by_cases h0 : l0 = 0
        · subst h0
          rw [show decide ((0 : Nat) = 0) = true from rfl]
          go_wp2_with fail
          refine (triesOf_impl _ _ _ _ E _ HO9.out.rd).mono ?_; rintro en w10 ⟨rfl, hb10⟩
          rw [HY3.out]
          have HBF := Lib.hid (HB1.out.trans ((HB9.out.trans (hb10.mono HB9.out.size)).mono HB1.out.size))
          clear hb10 m0 m1 m2 m3
          go_wp2
          go_ret
          exact ⟨rfl, HBF.out⟩
        · rw [decide_eq_false h0]
          have t0 : decide ((l0 : Int) = 0) = false := decide_eq_false (by omega)
          have t1 : ((l0 : Int) == 0) = false := by simp; omega
          have t2 : ¬ (l0 : Int) = 0 := by omega
          go_wp2_with fail
          refine (triesOf_impl _ _ _ _ E _ HO9.out.rd).mono ?_; rintro en w10 ⟨rfl, hb10⟩
          rw [HY3.out]
          have HBF := Lib.hid (HB1.out.trans ((HB9.out.trans (hb10.mono HB9.out.size)).mono HB1.out.size))
          clear hb10 m0 m1 m2 m3
          go_wp2
          go_ret
          exact ⟨rfl, HBF.out⟩
  · have hs' : (1048576 : Int) < (len : Int) := by omega
    have HB := Lib.hid (Below.refl w.heap.size w)
    go_enter Tryz.func3, Tryz.ntmps3
    clear h hs
    go_wp2
    go_ret
    exact ⟨rfl, HB.out⟩
end Go.Proofs.YtoiblfjafjoaeaaGreat
