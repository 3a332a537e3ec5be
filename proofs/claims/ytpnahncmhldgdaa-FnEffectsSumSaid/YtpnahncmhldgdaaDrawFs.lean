/- The contracts of the draws of stage 7: l20Effects, DrawRunSerial, DrawDoneCount, DrawEffectsSum. -/
import Derived.Test.YtpnahncmhldgdaaSpecSer
import Derived.Test.YtpnahncmhldgdaaDrawAc
import Derived.Test.YtpnahncmhldgdaaDrawEffs
namespace Go.Proofs.Ytpnahncmhldgdaa
open Go.RowKit
set_option linter.unusedVariables false
/-- Drawn effects, of the call's own. -/
def DrawXs (w : World) (R c : Nat) (e : Ending) (w' : World) : Prop :=
  ∃ (v : Value) (L : List Eff), e = .returned v ∧ OwnFs w' w.heap.size w'.heap.size 39 70 v L ∧ L.length ≤ 11 ∧ (∀ x ∈ L, x.rds.length ≤ 40 ∧ x.wrs.length ≤ 40) ∧ Rd w' R c ∧ Upd R w w'
/-- A drawn list of effects. -/
def EffsD (w : World) (e : Ending) (w' : World) : Prop :=
  ∃ (a : Option Addr) (c : Nat) (L : List Eff), e = .returned (.slice a L.length c) ∧ RowFs w' a L.length L ∧ (a = none → c = 0) ∧ L.length ≤ c ∧ L.length ≤ 11 ∧ (∀ x ∈ L, x.rds.length ≤ 40 ∧ x.wrs.length ≤ 40) ∧ Below w.heap.size w w'
/-- A drawn store and drawn actions. -/
def EntsActsD (w : World) (e : Ending) (w' : World) : Prop :=
  ∃ (g c : Nat) (S : List Ent) (g2 c2 : Nat) (L : List Acn), e = .returned (.tuple #[.slice (some ⟨g, 0, none⟩) S.length c, .slice (some ⟨g2, 0, none⟩) L.length c2]) ∧ RowE w' (some ⟨g, 0, none⟩) S.length S ∧ S.length ≤ 1000 ∧
    RowA w' (some ⟨g2, 0, none⟩) L.length L ∧ L.length ≤ c2 ∧ L.length ≤ 20 ∧ Below w.heap.size w w'
theorem rd_belowX {w w' : World} {R P B : Nat} (h : Rd w R P) (hb : Below B w w') (hR : R < B) : Rd w' R P := by
  obtain ⟨a, len, cap, z, p, ⟨h1, h2, h3, h4, h5, h6, h7, h8, h9, h10⟩, hp⟩ := h
  refine ⟨a, len, cap, z, p, ⟨(hb.cell (p := ⟨R, 0, none⟩) hR).trans h1, (hb.cell (p := ⟨R, 1, none⟩) hR).trans h2, (hb.frozen (p := ⟨R, 1, none⟩) hR).trans h3, h4, h5, h6, h7, h8, fun hl => ?_, h10⟩, hp⟩
  obtain ⟨b, off, he, hc⟩ := h9 hl
  refine ⟨b, off, he, fun i hi => (hb.cell (p := ⟨b, off + i, none⟩) ?_).trans (hc i hi)⟩
  have := h6 hl b off he
  show b < B
  omega
theorem upd_belowX {w0 w w' : World} {R : Nat} (h : Upd R w0 w) (hb : Below w0.heap.size w w') : Upd R w0 w' :=
  ⟨hb.os.trans h.os, hb.tape.trans h.tape, hb.output.trans h.output, Nat.le_trans h.size hb.size, fun k hk hr => (hb.block k hk).trans (h.block k hk hr)⟩
theorem OwnFs.upd {w w' : World} {B T R : Nat} {eX eE : TypeId} {v : Value} {L : List Eff} (h : OwnFs w B T eX eE v L) (hu : Upd R w w') (hR : R < B) : OwnFs w' B T eX eE v L :=
  h.turn (Turn.ofGrown (B := R) (T := R + 1) hu (fun k hk => by simp at hk; omega)) (.inr (.inl (by omega)))
set_option maxHeartbeats 1000000 in
theorem drawRunSerial_any (a : Option Addr) (len cap : Nat) (z : List Int) (w : World) (h : RowB w a len z) (hlc : len ≤ cap) :
    Calls Try.prog 11 #[.slice a len cap] w (EntsActsD w) := by
  have HR := Lib.hid h
  clear h
  go_enter Try.func11, Try.ntmps11
  go_wp2_with fail
  refine (open_any a len cap z _ HR.out hlc).mono ?_; rintro e w1 ⟨R, rfl, hR, hr1, hb1, hRw⟩
  have HB1 := Lib.hid hb1
  clear hb1
  go_wp2_with fail
  refine (l20Store_any R 0 12 _ hr1 (by omega) (by omega) (by omega)).mono ?_; rintro e w2 ⟨v, S, rfl, hown, hwf, hlen, hr2, hu2⟩
  have HB2 := Lib.hid (hu2.below HB1.out HB1.out.size (by omega))
  clear hr1 hu2
  obtain ⟨g, c, rfl, hgB, hrow⟩ := rowE_of_own hown (by omega) hwf
  have hgl : g < w2.heap.size := (hown.1.lt g rfl).2
  have hgR : g ≠ R := by omega
  clear hown
  go_wp2_with fail
  refine (l20Actions_any R _ 12 _ hr2 (by omega) (by omega) (by omega)).mono ?_; rintro e w3 ⟨v3, L, rfl, ho3, hw3, hl3, hr3, hu3⟩
  have hrow3 : RowE w3 (some ⟨g, 0, none⟩) S.length S := hrow.grown hu3 (by simp; exact hgR)
  have HB3 := Lib.hid (hu3.below HB2.out HB2.out.size (by omega))
  obtain ⟨g3, c3, rfl, -, -, hra, hlc3⟩ := rowA_of_own ho3 (by omega) hw3
  clear hr2 hr3 hu3 ho3 hrow
  go_wp2
  go_ret2
  exact ⟨g, c, S, g3, c3, L, rfl, hrow3, by omega, hra, hlc3, hl3, HB3.out⟩
set_option maxHeartbeats 2000000 in
theorem l20Effects_any (R P : Nat) (n : Int) (w : World) (h : Rd w R P) (hP : P ≤ 300000) (hn0 : 0 ≤ n) (hn : n ≤ 1000) :
    Calls Try.prog 58 #[.pointer (some ⟨R, 0, none⟩), .int .i64 n] w (DrawXs w R (P + 400)) := by
  have hRw := h.lt
  go_enter Try.func58, Try.ntmps58
  go_wp2_with fail
  refine (l20Store_any R P 0 _ h (by omega) (by omega) (by omega)).mono ?_; rintro e w1 ⟨v, S, rfl, hown, hwf, hlen, hr1, hu1⟩
  obtain ⟨g, c, rfl, hgB, hrow⟩ := rowE_of_own hown (by omega) hwf
  have hgR : g ≠ R := by omega
  clear hown h
  go_wp2_with fail
  refine (l20Actions_any R _ 0 _ hr1 (by omega) (by omega) (by omega)).mono ?_; rintro e w2 ⟨v2, A, rfl, ho2, hw2, hl2, hr2, hu2⟩
  have hrow2 : RowE w2 (some ⟨g, 0, none⟩) S.length S := hrow.grown hu2 (by simp; exact hgR)
  have HU2 := Lib.hid (hu1.trans hu2)
  obtain ⟨g2, c2, rfl, -, -, hra2, hlc2⟩ := rowA_of_own ho2 (by omega) hw2
  clear hr1 hu1 hu2 ho2 hrow
  go_wp2_with fail
  refine (runSerial_spec _ _ c S _ _ c2 A _ hrow2 (fun h => by cases h) hra2).mono ?_; rintro e w3 ⟨v3, u3, rfl, hSF, hb3⟩
  have hr3 := hr2.below hb3
  have hs2 := HU2.out.size
  have hu3 := HU2.out.trans (Upd.ofBelow R hb3)
  have hX3 := hSF.effs.mono hs2 (Nat.le_refl _)
  have hl3 := serM_len S A
  have he3 := serM_eff S A
  have HV3 := Lib.hid (owns_one hSF.1)
  obtain ⟨X, hX⟩ : ∃ X, X = (serM S A).2 := ⟨_, rfl⟩
  rw [← hX] at hX3 hl3 he3
  have HE3 := Lib.hid he3
  have HU3 := Lib.hid hu3
  clear hX hSF hb3 hr2 hrow2 hra2 HU2 hu3 he3
  go_wp2_with fail
  refine (odd_any R _ n _ hr3 (by omega) (by omega) hn0).mono ?_; rintro e w4 ⟨ob, rfl, hr4, hu4⟩
  have hX4 := (hX3.upd hu4 hRw).mono (Nat.le_refl _) hu4.size
  have HU4 := Lib.hid (HU3.out.trans hu4)
  clear hr3 hX3 hu4 HU3
  cases ob with
  | false =>
    have HX := Lib.hid hX4
    clear hX4
    go_wp2
    go_ret
    exact ⟨_, X, rfl, HX.out, by omega, fun x hx => by have := HE3.out x hx; omega, hr4.mono (by omega), HU4.out⟩
  | true =>
    go_wp2_with fail
    refine (l20Effect_any R _ 1 _ hr4 (by omega) (by omega) (by omega)).mono ?_; rintro e w5 ⟨dn, va, vb, Y, Z, rfl, o1, o2, wf1, wf2, l1, l2, hr5, hu5, ap⟩
    have hX5 := hX4.upd hu5 hRw
    have HU5 := Lib.hid (HU4.out.trans hu5)
    obtain ⟨a1, c1, rfl, -, -⟩ := rowE_of_owns o1 (by omega) wf1
    obtain ⟨a2, c2', rfl, -, -⟩ := rowE_of_owns o2 (by omega) wf2
    have hF := ownF_mk (x := ⟨dn, Y, Z⟩) o1 o2 wf1 wf2 ap
    obtain ⟨hnw, hap⟩ := effNew hF (by simp only; omega) (by simp only; omega)
    have hs4 := HU4.out.size
    have hs5 := hu5.size
    obtain ⟨h0, xs, hO⟩ := hX5
    obtain ⟨au, cu, rfl, -, -, -⟩ := rowFs_of_own ⟨h0, xs, hO⟩
    clear hX4 o1 o2 hF hu5 HU4 hr4
    go_wp2_with (at_builtin; refine wpList_append_el2 rfl _ _ 27 rfl w.heap.size w4.heap.size 39 _ (.agg #[.bool false, .slice none 0 0, .slice none 0 0]) 3 56 Try.underlying27 infoEffS rfl (by decide) _ X.length _ xs (effC 70 ⟨dn, Y, Z⟩) [.bool dn, .slice a1 Y.length c1, .slice a2 Z.length c2'] (by rfl) hO (by rfl) rfl rfl hnw hap ?c1 (by decide) ?c2 ?c3 ?c4 ?_)
    case c1 => omega
    case c2 => omega
    case c3 => exact hs4
    case c4 => exact hs5
    intro u7 w7 ho7 hne7 hb7 hsz7 hg7 hat7
    have hX7 : OwnFs w7 w.heap.size w7.heap.size 39 70 u7 (X ++ [⟨dn, Y, Z⟩]) := ⟨by simp; omega, _, by rw [flatMap_snoc, List.length_append]; exact ho7⟩
    have HX := Lib.hid hX7
    have HU7 := Lib.hid (upd_belowX HU5.out hb7)
    have HR7 := Lib.hid (rd_belowX hr5 hb7 hRw)
    clear hO hnw hap ho7 hne7 hb7 hsz7 hg7 hat7 hX7 HU5 hr5
    go_wp2
    go_ret
    exact ⟨u7, X ++ [⟨dn, Y, Z⟩], rfl, HX.out, by simp; omega, fun x hx => by
      rcases List.mem_append.1 hx with hx | hx
      · have := HE3.out x hx; omega
      · simp at hx; subst hx; exact ⟨l1, l2⟩, HR7.out.mono (by omega), HU7.out⟩
theorem effsD_of {w w' : World} {v : Value} {L : List Eff} (h : OwnFs w' w.heap.size w'.heap.size 39 70 v L) (hl : L.length ≤ 11) (he : ∀ x ∈ L, x.rds.length ≤ 40 ∧ x.wrs.length ≤ 40) (hb : Below w.heap.size w w') : EffsD w (.returned v) w' := by
  obtain ⟨a, c, rfl, hr, hz, hc⟩ := rowFs_of_own h
  exact ⟨a, c, L, rfl, hr, hz, hc, hl, he, hb⟩
set_option maxHeartbeats 1000000 in
theorem drawDoneCount_any (a : Option Addr) (len cap : Nat) (z : List Int) (w : World) (h : RowB w a len z) (hlc : len ≤ cap) :
    Calls Try.prog 20 #[.slice a len cap] w (EffsD w) := by
  have HR := Lib.hid h
  clear h
  go_enter Try.func20, Try.ntmps20
  go_wp2_with fail
  refine (open_any a len cap z _ HR.out hlc).mono ?_; rintro e w1 ⟨R, rfl, hR, hr1, hb1, hRw⟩
  have HB1 := Lib.hid hb1
  clear hb1
  go_wp2_with fail
  refine (l20Effects_any R 0 9 _ hr1 (by omega) (by omega) (by omega)).mono ?_; rintro e w2 ⟨v, L, rfl, hX, hl, he, hr2, hu2⟩
  have HX := Lib.hid (hX.mono HB1.out.size (Nat.le_refl _))
  have HB2 := Lib.hid (hu2.below HB1.out HB1.out.size (by omega))
  have HE := Lib.hid he
  clear hX he hr1 hr2 hu2
  go_wp2
  go_ret
  exact effsD_of HX.out hl HE.out HB2.out
set_option maxHeartbeats 1000000 in
theorem drawEffectsSum_any (a : Option Addr) (len cap : Nat) (z : List Int) (w : World) (h : RowB w a len z) (hlc : len ≤ cap) :
    Calls Try.prog 23 #[.slice a len cap] w (EffsD w) := by
  have HR := Lib.hid h
  clear h
  obtain ⟨i0, hi, hz0, hz1, hz2⟩ := info_parts infoEffS
  go_enter Try.func23, Try.ntmps23
  go_wp2_with fail
  refine (open_any a len cap z _ HR.out hlc).mono ?_; rintro e w1 ⟨R, rfl, hR, hr1, hb1, hRw⟩
  have HB1 := Lib.hid hb1
  clear hb1
  go_wp2_with fail
  refine (odd_any R _ 9 _ hr1 (by omega) (by omega) (by omega)).mono ?_; rintro e w2 ⟨ob, rfl, hr2, hu2⟩
  have HB2 := Lib.hid (hu2.below HB1.out HB1.out.size (by omega))
  clear hr1 hu2
  cases ob with
  | false =>
    clear hi hz0 hz1 hz2
    go_wp2_with fail
    refine (l20Effects_any R _ 4 _ hr2 (by omega) (by omega) (by omega)).mono ?_; rintro e w3 ⟨v, L, rfl, hX, hl, he, hr3, hu3⟩
    have HX := Lib.hid (hX.mono HB2.out.size (Nat.le_refl _))
    have HB3 := Lib.hid (hu3.below HB2.out HB2.out.size (by omega))
    have HE := Lib.hid he
    clear hX he hr2 hr3 hu3
    go_wp2
    go_ret
    exact effsD_of HX.out hl HE.out HB3.out
  | true =>
    have hRb := hr2.lt
    go_wp2_with fail
    refine (pick_pos R _ 2 _ (hr2.alloc _) (by omega) (by omega) (by omega)).mono ?_; rintro e w3 ⟨x3, rfl, hx0, hx1, hr3, hu3⟩
    have hcell : ∃ n : Nat, w3.cell? ⟨w2.heap.size, x3.toNat, none⟩ = some (.int .i64 (n : Int)) ∧ n ≤ 11 := by
      rcases (by omega : x3 = 0 ∨ x3 = 1) with rfl | rfl
      · exact ⟨10, hu3.cell (by simp [go_sem]) (by omega), by omega⟩
      · exact ⟨11, hu3.cell (by simp [go_sem]) (by omega), by omega⟩
    obtain ⟨n, hn, hn11⟩ := hcell
    have hb3 := hu3.below ((HB2.out.alloc HB2.out.size (.cells #[.int .i64 10, .int .i64 11] 3))) (by have := HB2.out.size; simp; omega) (by omega)
    have hs3 := hb3.size
    clear hr2 hr3 hu3
    go_wp2_with (first | (at_make; refine wpList_make_full _ rfl (.tmp 12) (.tmp 12) 27 rfl w.heap.size 39 i0 (.agg #[.bool false, .slice none 0 0, .slice none 0 0]) 3 Try.underlying27 hi hz0 hz1 .i64 .i64 n n n rfl rfl rfl rfl (by rw [hz2]; omega) (by unfold maxLen; omega) hs3 ?_; intro w4 hown hgrow; clear hi hz0 hz1 hz2))
    have HB4 := Lib.hid (hb3.grown hgrow hs3 (fun k hk => by simp at hk))
    have hlt := fun b hb => (hown.lt b hb).2
    have hbk := owns_blk hown
    have HX : Hid (OwnFs w4 w.heap.size w4.heap.size 39 70 _ (List.replicate n noEff)) := Lib.hid ⟨by simp; omega, _, by
      rw [List.length_replicate, ← oeC_none]
      exact own2_made3 (.bool false) (.slice none 0 0) (.slice none 0 0) (.bool false) (.ents 70 []) (.ents 70 []) (oeC 70) none rfl hown (fun b hb => hlt b (by rw [← hbk]; exact hb)) rfl (ents_nil _ _) (ents_nil _ _) rfl rfl rfl (oeC_len _)⟩
    clear hown hgrow hb3 hlt hbk hn
    go_wp2
    go_ret
    exact effsD_of HX.out (by simp; omega) (fun x hx => by have := List.eq_of_mem_replicate hx; subst this; exact ⟨by simp [noEff], by simp [noEff]⟩) HB4.out
end Go.Proofs.Ytpnahncmhldgdaa
