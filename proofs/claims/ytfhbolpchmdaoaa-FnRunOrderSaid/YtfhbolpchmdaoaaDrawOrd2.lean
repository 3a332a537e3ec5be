/- The contracts of the draws of stage 8: DrawOrderFits, DrawRunOrder. -/
import Derived.Test.YtfhbolpchmdaoaaDrawOrd
namespace Go.Proofs.Ytfhbolpchmdaoaa
open Go.RowKit
set_option linter.unusedVariables false
/-- Drawn actions and an order. -/
def ActsOrdD (w : World) (e : Ending) (w' : World) : Prop :=
  ∃ (g c : Nat) (L : List Acn) (g2 c2 : Nat) (O : List Int), e = .returned (.tuple #[.slice (some ⟨g, 0, none⟩) L.length c, .slice (some ⟨g2, 0, none⟩) O.length c2]) ∧ RowA w' (some ⟨g, 0, none⟩) L.length L ∧ L.length ≤ c ∧ L.length ≤ 20 ∧
    RowI w' (some ⟨g2, 0, none⟩) O.length O ∧ O.length ≤ 20 ∧ Below w.heap.size w w'
theorem wf_20 {l : List Int} (h : ∀ x ∈ l, -1 ≤ x ∧ x ≤ 20) : ∀ x ∈ l, (Lit.int .i64 x).wf = true := fun x hx => WalkArith.wf_i64 (by have := h x hx; omega)
set_option maxRecDepth 100000 in
set_option maxHeartbeats 2000000 in
theorem drawOrderFits_any (a : Option Addr) (len cap : Nat) (z : List Int) (w : World) (h : RowB w a len z) (hlc : len ≤ cap) :
    Calls Try.prog 27 #[.slice a len cap] w (ActsOrdD w) := by
  have HR := Lib.hid h
  clear h
  go_enter Try.func27, Try.ntmps27
  go_wp2_with fail
  refine (open_any a len cap z _ HR.out hlc).mono ?_; rintro e w1 ⟨R, rfl, hR, hr1, hb1, hRw⟩
  have HB1 := Lib.hid hb1
  clear hb1
  go_wp2_with fail
  refine (l20Actions_any R 0 12 _ hr1 (by omega) (by omega) (by omega)).mono ?_; rintro e w2 ⟨v, L, rfl, hoA, hwA, hl20, hr2, hu2⟩
  obtain ⟨g, c, rfl, hg1, hg2, hrA2, hlc2⟩ := rowA_of_own hoA (by omega) hwA
  have hgR : g ≠ R := by have := (hoA.1.lt g rfl).1; omega
  have HB2 := Lib.hid (hu2.below HB1.out HB1.out.size hR)
  have hgw2 : g < w2.heap.size := (hoA.1.lt g rfl).2
  obtain ⟨n, hn⟩ : ∃ n, n = L.length := ⟨_, rfl⟩
  have HN := Lib.hid hn
  rw [← hn] at hrA2 hlc2 hl20 ⊢
  clear hr1 hoA hu2 hn
  go_wp2_with fail
  refine (l20Order_any R _ g c n L _ hr2 hrA2 (by omega) hl20 hgw2 hgR).mono ?_; rintro e w3 ⟨v3, X, rfl, hoX, hX20, hXl, hr3, hu3⟩
  have HX := Lib.hid hX20
  clear hX20
  have hrA3 := hrA2.grown hu3 (by simp; exact hgR)
  have HB3 := Lib.hid (hu3.below HB2.out HB2.out.size (by omega))
  obtain ⟨gX, cX, rfl, hgX1, hgX2⟩ := hoX.slice
  have hgXg : gX ≠ g := by have := (hoX.1.lt gX rfl).1; omega
  have hgXR : gX ≠ R := by have := (hoX.1.lt gX rfl).1; have := hr2.lt; omega
  have hs2 := HB2.out.size
  have hRw2 := hr2.lt
  clear hr2 hrA2 hu3
  by_cases h0 : 0 < X.length
  · have hd0 : decide ((0 : Int) < (X.length : Int)) = true := by simp; omega
    go_wp2_with fail
    refine (odd_any R _ 6 _ hr3 (by omega) (by omega) (by omega)).mono ?_; rintro e w4 ⟨ob, rfl, hr4, hu4⟩
    have hrA4 := hrA3.grown hu4 (by simp; exact hgR)
    have hoX4 := hoX.upd hu4 hRw2
    have HB4 := Lib.hid (hu4.below HB3.out HB3.out.size (by omega))
    clear hr3 hrA3 hoX hu4
    cases ob with
    | false =>
      have HA4 := Lib.hid hrA4
      obtain ⟨gX', cX', e', -, -, hri⟩ := rowI_of_own hoX4 (by omega) (wf_20 (fun x hx => by have := HX.out x hx; omega))
      simp only [Value.slice.injEq, true_and, Option.some.injEq, Addr.mk.injEq, and_true] at e'
      obtain ⟨rfl, rfl⟩ := e'
      have HRI := Lib.hid hri
      clear hrA4 hoX4 hri
      go_wp2
      go_ret2
      have hnL := HN.out
      subst hnL
      exact ⟨g, c, L, gX, cX, X, rfl, HA4.out, hlc2, hl20, HRI.out, hXl, HB4.out⟩
    | true =>
      go_wp2_with fail
      refine (pick_pos R _ (X.length : Int) _ hr4 (by omega) (by omega) (by omega)).mono ?_; rintro e w5 ⟨x5, rfl, h50, h51, hr5, hu5⟩
      have hrA5 := hrA4.grown hu5 (by simp; exact hgR)
      have hoX5 := hoX4.upd hu5 hRw2
      have HB5 := Lib.hid (hu5.below HB4.out HB4.out.size (by omega))
      obtain ⟨i5, hi5⟩ : ∃ i : Nat, x5 = (i : Int) := ⟨x5.toNat, by omega⟩
      subst hi5
      clear hr4 hrA4 hoX4 hu5
      go_wp2_with fail
      refine (pick_pos R _ 9 _ hr5 (by omega) (by omega) (by omega)).mono ?_; rintro e w6 ⟨x6, rfl, h60, h61, hr6, hu6⟩
      have hrA6 := hrA5.grown hu6 (by simp; exact hgR)
      have hoX6 := hoX5.upd hu6 hRw2
      have HB6 := Lib.hid (hu6.below HB5.out HB5.out.size (by omega))
      clear hr5 hr6 hrA5 hoX5 hu6
      have hi5l : i5 < X.length := by omega
      have hfz := hoX6.1.frozenAt i5
      obtain ⟨s0, t0⟩ := hoX6.1.stored i5 (.int .i64 (x6 - 1))
      have hc6 : w6.cell? ⟨gX, i5, none⟩ = some (.int .i64 (X.getD i5 0)) := by
        rw [hoX6.1.cellAt i5 (by omega), List.getElem?_map, List.getD_eq_getElem?_getD, List.getElem?_eq_getElem hi5l]; rfl
      have hgr := grown_set w6 gX i5 (.int .i64 (x6 - 1))
      have HA7 := Lib.hid (hrA6.grown hgr (by simp; omega))
      have HB7 := Lib.hid (HB6.out.grown hgr HB6.out.size (fun k hk => by simp at hk; omega))
      have hXs : ∀ x ∈ X.set i5 (x6 - 1), -1 ≤ x ∧ x ≤ 20 := fun x hx => by
        rcases List.mem_or_eq_of_mem_set hx with hx | rfl
        · have := HX.out x hx; omega
        · omega
      have hri : RowI (w6.setCell ⟨gX, i5, none⟩ (.int .i64 (x6 - 1))) (some ⟨gX, 0, none⟩) (X.set i5 (x6 - 1)).length (X.set i5 (x6 - 1)) := by
        refine rowI_owned (B := w2.heap.size) (e := 3) (cap := cX) ?_ (by simp; omega) (wf_20 hXs)
        rw [List.length_set, List.map_set]; exact s0
      have HRI := Lib.hid hri
      have HXL : Hid ((X.set i5 (x6 - 1)).length = X.length) := Lib.hid (by simp)
      clear hri hXs hgr s0 t0 hrA6 hoX6
      go_wp2
      go_ret2
      have hnL := HN.out
      subst hnL
      exact ⟨g, c, L, gX, cX, X.set i5 (x6 - 1), by rw [HXL.out]; rfl, HA7.out, hlc2, hl20, HRI.out, by rw [HXL.out]; exact hXl, HB7.out⟩
  · have hd0 : decide ((0 : Int) < (X.length : Int)) = false := decide_eq_false (by omega)
    have HA4 := Lib.hid hrA3
    obtain ⟨gX', cX', e', -, -, hri⟩ := rowI_of_own hoX (by omega) (wf_20 (fun x hx => by have := HX.out x hx; omega))
    simp only [Value.slice.injEq, true_and, Option.some.injEq, Addr.mk.injEq, and_true] at e'
    obtain ⟨rfl, rfl⟩ := e'
    have HRI := Lib.hid hri
    clear hrA3 hoX hri
    go_wp2
    go_ret2
    have hnL := HN.out
    subst hnL
    exact ⟨g, c, L, gX, cX, X, rfl, HA4.out, hlc2, hl20, HRI.out, hXl, HB3.out⟩
/-- A drawn store, actions and an order. -/
def EntsActsOrdD (w : World) (e : Ending) (w' : World) : Prop :=
  ∃ (g0 c0 : Nat) (S : List Ent) (g c : Nat) (L : List Acn) (g2 c2 : Nat) (O : List Int), e = .returned (.tuple #[.slice (some ⟨g0, 0, none⟩) S.length c0, .slice (some ⟨g, 0, none⟩) L.length c, .slice (some ⟨g2, 0, none⟩) O.length c2]) ∧
    RowE w' (some ⟨g0, 0, none⟩) S.length S ∧ S.length ≤ 1000 ∧ RowA w' (some ⟨g, 0, none⟩) L.length L ∧ L.length ≤ c ∧ L.length ≤ 20 ∧ RowI w' (some ⟨g2, 0, none⟩) O.length O ∧ O.length ≤ 20 ∧ Below w.heap.size w w'
set_option maxRecDepth 100000 in
set_option maxHeartbeats 2000000 in
theorem drawRunOrder_any (a : Option Addr) (len cap : Nat) (z : List Int) (w : World) (h : RowB w a len z) (hlc : len ≤ cap) :
    Calls Try.prog 31 #[.slice a len cap] w (EntsActsOrdD w) := by
  have HR := Lib.hid h
  clear h
  go_enter Try.func31, Try.ntmps31
  go_wp2_with fail
  refine (open_any a len cap z _ HR.out hlc).mono ?_; rintro e w1 ⟨R, rfl, hR, hr1, hb1, hRw⟩
  have HB1 := Lib.hid hb1
  clear hb1
  go_wp2_with fail
  refine (l20Store_any R 0 14 _ hr1 (by omega) (by omega) (by omega)).mono ?_; rintro e w1b ⟨v0, S, rfl, hoS, hwS, hSl, hr1b, hu1b⟩
  have HB1b := Lib.hid (hu1b.below HB1.out HB1.out.size hR)
  obtain ⟨g0, c0, rfl, hg0B, hrS⟩ := rowE_of_own hoS (by omega) hwS
  have hg0R : g0 ≠ R := by have := (hoS.1.lt g0 rfl).1; omega
  have hs1b := hu1b.size
  clear hr1 hoS hu1b
  go_wp2_with fail
  refine (l20Actions_any R _ 14 _ hr1b (by omega) (by omega) (by omega)).mono ?_; rintro e w2 ⟨v, L, rfl, hoA, hwA, hl20, hr2, hu2⟩
  obtain ⟨g, c, rfl, hg1, hg2, hrA2, hlc2⟩ := rowA_of_own hoA (by omega) hwA
  have hgR : g ≠ R := by have := (hoA.1.lt g rfl).1; omega
  have hrS2 := hrS.grown hu2 (by simp; exact hg0R)
  have HB2 := Lib.hid (hu2.below HB1b.out HB1b.out.size hR)
  have hgw2 : g < w2.heap.size := (hoA.1.lt g rfl).2
  obtain ⟨n, hn⟩ : ∃ n, n = L.length := ⟨_, rfl⟩
  have HN := Lib.hid hn
  rw [← hn] at hrA2 hlc2 hl20 ⊢
  clear hr1b hrS hoA hu2 hn
  go_wp2_with fail
  refine (l20Order_any R _ g c n L _ hr2 hrA2 (by omega) hl20 hgw2 hgR).mono ?_; rintro e w3 ⟨v3, X, rfl, hoX, hX20, hXl, hr3, hu3⟩
  have HX := Lib.hid hX20
  clear hX20
  have HA3 := Lib.hid (hrA2.grown hu3 (by simp; exact hgR))
  have HS3 := Lib.hid (hrS2.grown hu3 (by simp; exact hg0R))
  have HB3 := Lib.hid (hu3.below HB2.out HB2.out.size (by omega))
  obtain ⟨gX, cX, rfl, -, -, hri⟩ := rowI_of_own hoX (by omega) (wf_20 (fun x hx => by have := HX.out x hx; omega))
  have HRI := Lib.hid hri
  clear hr2 hr3 hrA2 hrS2 hu3 hri hoX
  go_wp2
  go_ret3
  have hnL := HN.out
  subst hnL
  exact ⟨g0, c0, S, g, c, L, gX, cX, X, rfl, HS3.out, by omega, HA3.out, hlc2, hl20, HRI.out, hXl, HB3.out⟩
end Go.Proofs.Ytfhbolpchmdaoaa
