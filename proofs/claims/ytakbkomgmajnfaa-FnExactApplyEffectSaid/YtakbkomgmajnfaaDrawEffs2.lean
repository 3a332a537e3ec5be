/- The contracts of DrawApplyEffect and DrawEffectSum. -/
import Derived.Test.YtakbkomgmajnfaaDrawEffs
namespace Go.Proofs.Ytakbkomgmajnfaa
open Go.RowKit
set_option linter.unusedVariables false
/-- A drawn effect. -/
def EffD (w : World) (e : Ending) (w' : World) : Prop :=
  ∃ (x : Eff) (a : Option Addr) (ca : Nat) (b : Option Addr) (cb : Nat), e = .returned (.agg #[.bool x.done, .slice a x.rds.length ca, .slice b x.wrs.length cb]) ∧ RowF w' a x.rds.length b x.wrs.length x ∧
    x.rds.length ≤ 40 ∧ x.wrs.length ≤ 40 ∧ (a = none → ca = 0) ∧ (b = none → cb = 0) ∧ Below w.heap.size w w'
/-- A drawn store and a drawn effect. -/
def EntsEffD (w : World) (e : Ending) (w' : World) : Prop :=
  ∃ (g c : Nat) (S : List Ent) (x : Eff) (a : Option Addr) (ca : Nat) (b : Option Addr) (cb : Nat), e = .returned (.tuple #[.slice (some ⟨g, 0, none⟩) S.length c, .agg #[.bool x.done, .slice a x.rds.length ca, .slice b x.wrs.length cb]]) ∧
    RowE w' (some ⟨g, 0, none⟩) S.length S ∧ S.length ≤ 1000 ∧ RowF w' a x.rds.length b x.wrs.length x ∧ x.rds.length ≤ 40 ∧ x.wrs.length ≤ 40 ∧ (a = none → ca = 0) ∧ (b = none → cb = 0) ∧ Below w.heap.size w w'
/-- The rows of a drawn effect behind the stores of its answer. -/
theorem rowF_fin {w : World} {B Z : Nat} {e0 : TypeId} {dn : Bool} {a b : Option Addr} {ca cb : Nat} {X Y : List Ent} (h1 : w.ownsRow B e0 2 (.slice a X.length ca) X.length (flatE X)) (h2 : w.ownsRow B e0 2 (.slice b Y.length cb) Y.length (flatE Y)) (hX : WfE X) (hY : WfE Y)
    (l1 : X.length ≤ 40) (l2 : Y.length ≤ 40) (hZ : Z < B) : RowF (((w.setCell ⟨Z, 0, none⟩ (.bool dn)).setCell ⟨Z, 1, none⟩ (.slice a X.length ca)).setCell ⟨Z, 2, none⟩ (.slice b Y.length cb)) a X.length b Y.length ⟨dn, X, Y⟩ := by
  have n1 : Value.ownBlock (.slice a X.length ca) ≠ some Z := fun e => by have := (h1.lt _ e).1; omega
  have n2 : Value.ownBlock (.slice b Y.length cb) ≠ some Z := fun e => by have := (h2.lt _ e).1; omega
  obtain ⟨a', ca', ea, ra, -⟩ := rowE_of_owns (owns_set (owns_set (owns_set h1 n1 0 (.bool dn)) n1 1 (.slice a X.length ca)) n1 2 (.slice b Y.length cb)) (by omega) hX
  obtain ⟨b', cb', eb, rb, -⟩ := rowE_of_owns (owns_set (owns_set (owns_set h2 n2 0 (.bool dn)) n2 1 (.slice a X.length ca)) n2 2 (.slice b Y.length cb)) (by omega) hY
  simp only [Value.slice.injEq, true_and] at ea eb
  obtain ⟨rfl, rfl⟩ := ea
  obtain ⟨rfl, rfl⟩ := eb
  exact ⟨ra, rb⟩
set_option maxHeartbeats 1000000 in
theorem drawEffectSum_any (a : Option Addr) (len cap : Nat) (z : List Int) (w : World) (h : RowB w a len z) (hlc : len ≤ cap) :
    Calls Try.prog 36 #[.slice a len cap] w (EffD w) := by
  have hz0 := zAt_new w 39
  have hb0 := (Below.refl w.heap.size w).alloc (Nat.le_refl _) (.cells #[.bool false, .slice none 0 0, .slice none 0 0] 39)
  have HR := Lib.hid (rowB_below h hb0)
  have HB0 := Lib.hid hb0
  clear h hb0
  go_enter Try.func36, Try.ntmps36
  go_wp2_with fail
  refine (open_any a len cap z _ HR.out hlc).mono ?_; rintro e w1 ⟨R, rfl, hR, hr1, hb1, hRw⟩
  have hz1 := hz0.grown (Below.grownBy hb1 none) (by simp)
  have hR1 : w.heap.size < R := by simp at hR; omega
  have HB1 := Lib.hid (HB0.out.trans (hb1.mono (by simp)))
  clear hz0 hb1 hR
  go_wp2_with fail
  refine (l20Effect_any R 0 4 _ hr1 (by omega) (by omega) (by omega)).mono ?_; rintro e w2 ⟨dn, va, vb, X, Y, rfl, o1, o2, wf1, wf2, l1, l2, hr2, hu2⟩
  have hz2 := hz1.grown hu2 (by simp; omega)
  have HB2 := Lib.hid (hu2.below HB1.out HB1.out.size (by omega))
  obtain ⟨a1, c1, rfl, -, z1⟩ := rowE_of_owns o1 (by omega) wf1
  obtain ⟨a2, c2, rfl, -, z2⟩ := rowE_of_owns o2 (by omega) wf2
  have HF := Lib.hid (rowF_fin (dn := dn) o1 o2 wf1 wf2 l1 l2 (show w.heap.size < w1.heap.size from Nat.lt_trans hR1 hRw))
  have hzE : EAt w2 w.heap.size false (.slice none 0 0) (.slice none 0 0) := hz2
  have HE := Lib.hid (((hzE.set0 dn).set1 (.slice a1 X.length c1)).set2 (.slice a2 Y.length c2))
  have HB3 := Lib.hid (below_set3 HB2.out (Nat.le_refl _) 0 1 2 (.bool dn) (.slice a1 X.length c1) (.slice a2 Y.length c2))
  obtain ⟨⟨c0, c1', c2'⟩, ⟨f0, f1, f2⟩, -⟩ := hz2
  clear o1 o2 hr1 hr2 hu2 hz1 wf1 wf2 hzE
  go_wp2_with fail
  exact bodyPost_ret (results_eff Try.results36 _ (by rfl) HE.out) rfl ⟨⟨dn, X, Y⟩, a1, c1, a2, c2, rfl, HF.out, l1, l2, z1, z2, HB3.out⟩
set_option maxHeartbeats 1000000 in
theorem drawApplyEffect_any (a : Option Addr) (len cap : Nat) (z : List Int) (w : World) (h : RowB w a len z) (hlc : len ≤ cap) :
    Calls Try.prog 33 #[.slice a len cap] w (EntsEffD w) := by
  have hz0 := zAt_new w 39
  have hb0 := (Below.refl w.heap.size w).alloc (Nat.le_refl _) (.cells #[.bool false, .slice none 0 0, .slice none 0 0] 39)
  have HR := Lib.hid (rowB_below h hb0)
  have HB0 := Lib.hid hb0
  clear h hb0
  go_enter Try.func33, Try.ntmps33
  go_wp2_with fail
  refine (open_any a len cap z _ HR.out hlc).mono ?_; rintro e w1 ⟨R, rfl, hR, hr1, hb1, hRw⟩
  have hz1 := hz0.grown (Below.grownBy hb1 none) (by simp)
  have hR1 : w.heap.size < R := by simp at hR; omega
  have HB1 := Lib.hid (HB0.out.trans (hb1.mono (by simp)))
  clear hz0 hb1 hR
  go_wp2_with fail
  refine (l20Store_any R 0 12 _ hr1 (by omega) (by omega) (by omega)).mono ?_; rintro e w2 ⟨v, S, rfl, hown, hwf, hlen, hr2, hu2⟩
  have hz2 := hz1.grown hu2 (by simp; omega)
  have HB2 := Lib.hid (hu2.below HB1.out HB1.out.size (by omega))
  have hR2 := hr2.lt
  clear hz1 hr1 hu2
  obtain ⟨g, c, rfl, hgB, hrow⟩ := rowE_of_own hown (by omega) hwf
  have hgl : g < w2.heap.size := (hown.1.lt g rfl).2
  have hgR : g ≠ R := by omega
  clear hown
  go_wp2_with fail
  refine (l20Effect_any R _ 6 _ hr2 (by omega) (by omega) (by omega)).mono ?_; rintro e w3 ⟨dn, va, vb, X, Y, rfl, o1, o2, wf1, wf2, l1, l2, hr3, hu3⟩
  have hrow3 : RowE w3 (some ⟨g, 0, none⟩) S.length S := hrow.grown hu3 (by simp; exact hgR)
  have hz3 := hz2.grown hu3 (by simp; omega)
  have HB3 := Lib.hid (hu3.below HB2.out HB2.out.size (by omega))
  have hgZ : g ≠ w.heap.size := by have := HB1.out.size; omega
  obtain ⟨a1, c1, rfl, -, z1⟩ := rowE_of_owns o1 (by omega) wf1
  obtain ⟨a2, c2, rfl, -, z2⟩ := rowE_of_owns o2 (by omega) wf2
  have HF := Lib.hid (rowF_fin (dn := dn) o1 o2 wf1 wf2 l1 l2 (show w.heap.size < w2.heap.size from Nat.lt_trans hR1 hR2))
  have hzE : EAt w3 w.heap.size false (.slice none 0 0) (.slice none 0 0) := hz3
  have HE := Lib.hid (((hzE.set0 dn).set1 (.slice a1 X.length c1)).set2 (.slice a2 Y.length c2))
  have HB4 := Lib.hid (below_set3 HB3.out (Nat.le_refl _) 0 1 2 (.bool dn) (.slice a1 X.length c1) (.slice a2 Y.length c2))
  have hgs := grownBy_tr (grownBy_tr (set_grown w3 w.heap.size 0 (.bool dn)) (set_grown _ w.heap.size 1 (.slice a1 X.length c1))) (set_grown _ w.heap.size 2 (.slice a2 Y.length c2))
  have HROW := Lib.hid (hrow3.grown hgs (by simp; exact hgZ))
  obtain ⟨⟨c0, c1', c2'⟩, ⟨f0, f1, f2⟩, -⟩ := hz3
  clear o1 o2 hr2 hr3 hu3 hz2 wf1 wf2 hzE hrow hrow3 hgs
  go_wp2_with fail
  refine bodyPost_ret (v := .tuple #[.slice (some ⟨g, 0, none⟩) S.length c, .agg #[.bool dn, .slice a1 X.length c1, .slice a2 Y.length c2]]) ?_ rfl ⟨g, c, S, ⟨dn, X, Y⟩, a1, c1, a2, c2, rfl, HROW.out, by omega, HF.out, l1, l2, z1, z2, HB4.out⟩
  obtain ⟨⟨k0, k1, k2⟩, -⟩ := HE.out
  simp [results, Try.results33, go_sem, k0, k1, k2]
end Go.Proofs.Ytakbkomgmajnfaa
