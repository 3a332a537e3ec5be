/- The contracts of the draws of stage 9: DrawVersionsValid, DrawReadVersion, DrawDropVersions, DrawPutVersions, DrawLastVersions. -/
import Derived.Test.YtaaffpolmecicaaDrawVer
namespace Go.Proofs.Ytaaffpolmecicaa
open Go.RowKit
set_option linter.unusedVariables false
set_option linter.unusedSimpArgs false
theorem results_four {fn : Func} {t u v x : Tmp} (h : fn.results = #[.tmp t, .tmp u, .tmp v, .tmp x]) (tmps : Array Value) (P : Program) (w : World) :
    (results fn tmps).run P w = .ok (.tuple #[tmps.getD t undef, tmps.getD u undef, tmps.getD v undef, tmps.getD x undef]) w := by simp [results, h]
/-- Drawn versions. -/
def VsO (w : World) (e : Ending) (w' : World) : Prop :=
  ∃ (g c : Nat) (l : List Ver), e = .returned (.slice (some ⟨g, 0, none⟩) l.length c) ∧ RowV w' (some ⟨g, 0, none⟩) l.length l ∧ l.length ≤ c ∧ l.length ≤ 330 ∧ Below w.heap.size w w'
/-- A drawn store, versions, a key, a number. -/
def EVII (w : World) (e : Ending) (w' : World) : Prop :=
  ∃ (g0 c0 : Nat) (S : List Ent) (g c : Nat) (l : List Ver) (key by_ : Int), e = .returned (.tuple #[.slice (some ⟨g0, 0, none⟩) S.length c0, .slice (some ⟨g, 0, none⟩) l.length c, .int .i64 key, .int .i64 by_]) ∧
    RowE w' (some ⟨g0, 0, none⟩) S.length S ∧ RowV w' (some ⟨g, 0, none⟩) l.length l ∧ l.length ≤ c ∧ S.length ≤ 1000 ∧ l.length ≤ 330 ∧ (0 ≤ key ∧ key ≤ 31) ∧ (-1 ≤ by_ ∧ by_ ≤ 11) ∧ Below w.heap.size w w'
/-- Drawn versions and a number. -/
def VsI (w : World) (e : Ending) (w' : World) : Prop :=
  ∃ (g c : Nat) (l : List Ver) (by_ : Int), e = .returned (.tuple #[.slice (some ⟨g, 0, none⟩) l.length c, .int .i64 by_]) ∧ RowV w' (some ⟨g, 0, none⟩) l.length l ∧ l.length ≤ c ∧ l.length ≤ 330 ∧ (0 ≤ by_ ∧ by_ ≤ 9) ∧ Below w.heap.size w w'
/-- A drawn store and versions. -/
def EVs (w : World) (e : Ending) (w' : World) : Prop :=
  ∃ (g0 c0 : Nat) (S : List Ent) (g c : Nat) (l : List Ver), e = .returned (.tuple #[.slice (some ⟨g0, 0, none⟩) S.length c0, .slice (some ⟨g, 0, none⟩) l.length c]) ∧
    RowE w' (some ⟨g0, 0, none⟩) S.length S ∧ RowV w' (some ⟨g, 0, none⟩) l.length l ∧ l.length ≤ c ∧ S.length ≤ 1000 ∧ l.length ≤ 330 ∧ Below w.heap.size w w'
/-- Drawn versions, a number, writes. -/
def VsIE (w : World) (e : Ending) (w' : World) : Prop :=
  ∃ (g c : Nat) (l : List Ver) (by_ : Int) (a : Option Addr) (d : Nat) (E : List Ent), e = .returned (.tuple #[.slice (some ⟨g, 0, none⟩) l.length c, .int .i64 by_, .slice a E.length d]) ∧ RowV w' (some ⟨g, 0, none⟩) l.length l ∧ RowE w' a E.length E ∧ l.length ≤ c ∧ l.length ≤ 330 ∧ E.length ≤ 40 ∧ (-1 ≤ by_ ∧ by_ ≤ 10) ∧ Below w.heap.size w w'
set_option maxRecDepth 100000 in
set_option maxHeartbeats 1000000 in
theorem drawPutVersions_any (a : Option Addr) (len cap : Nat) (z : List Int) (w : World) (h : RowB w a len z) (hlc : len ≤ cap) :
    Calls Try.prog 34 #[.slice a len cap] w (VsIE w) := by
  go_enter Try.func34, Try.ntmps34
  go_wp2_with fail
  refine (open_any a len cap z _ h hlc).mono ?_; rintro e w1 ⟨R, rfl, hR, hr1, hb1, hRw⟩
  clear h
  go_wp2_with fail
  refine (l20Versions_any R _ 12 _ hr1 (by omega) (by omega) (by omega)).mono ?_; rintro e w2 ⟨v, l, rfl, ho, hw, hlen, hr2, hu2⟩
  have hb2 := hu2.below hb1 hb1.size hR
  obtain ⟨g, c, rfl, hg1, -, hr, hlc⟩ := rowV_of_own ho (by omega) hw
  have hgR : g ≠ R := by omega
  clear hr1 ho hu2 hb1
  go_wp2_with fail
  refine (pick_pos R _ 11 _ hr2 (by omega) (by omega) (by omega)).mono ?_; rintro e w5 ⟨x5, rfl, hx0, hx1, hr5, hu5⟩
  have hb5 := hu5.below hb2 hb2.size hR
  have hr5v := hr.grown hu5 (by simp; exact hgR)
  clear hr2 hr hu5 hb2
  go_wp2_with fail
  refine (pick_pos R _ 12 _ hr5 (by omega) (by omega) (by omega)).mono ?_; rintro e w6 ⟨x6, rfl, hy0, hy1, hr6, hu6⟩
  have hb6 := hu6.below hb5 hb5.size hR
  have hr6v := hr5v.grown hu6 (by simp; exact hgR)
  clear hr5 hr5v hu6 hb5
  obtain ⟨q, hq⟩ : ∃ q, q = x6.tdiv 11 := ⟨_, rfl⟩
  have hq1 : 0 ≤ q ∧ q ≤ 1 := by rw [hq, Int.tdiv_eq_ediv_of_nonneg hy0]; omega
  have hq2 : x6.tdiv 11 = q := hq.symm
  clear hq
  go_wp2_with fail
  refine (l20Effect_any R _ 9 _ hr6 (by omega) (by omega) (by omega)).mono ?_; rintro e w7 ⟨dn, va, vb, X, Y, rfl, o1, o2, wf1, wf2, l1, l2, hr7, hu7, -⟩
  obtain ⟨a1, c1, rfl, -, z1⟩ := rowE_of_owns o1 (by omega) wf1
  obtain ⟨a2, c2, rfl, hrY, z2⟩ := rowE_of_owns o2 (by omega) wf2
  have HB := Lib.hid (hu7.below hb6 hb6.size hR)
  have HRV := Lib.hid (hr6v.grown hu7 (by simp; exact hgR))
  have HRY := Lib.hid hrY
  have hfd := field_eff2 dn a1 a2 X.length Y.length c1 c2
  clear hr6 hr6v hu7 hr7 hb6 hrY o1 o2 wf1 wf2
  go_wp2
  go_ret3
  exact ⟨g, c, l, x5 - q, a2, c2, Y, rfl, HRV.out, HRY.out, hlc, hlen, l2, by omega, HB.out⟩
end Go.Proofs.Ytaaffpolmecicaa
