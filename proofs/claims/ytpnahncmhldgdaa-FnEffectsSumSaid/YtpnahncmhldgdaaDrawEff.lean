/- The contracts of the draws of effects. -/
import Derived.Test.YtpnahncmhldgdaaDrawAc
import Derived.Test.YtpnahncmhldgdaaEffMem
namespace Go.Proofs.Ytpnahncmhldgdaa
open Go.RowKit
set_option linter.unusedVariables false
/-- A drawn store and a drawn action. -/
def RunD (w : World) (e : Ending) (w' : World) : Prop :=
  ∃ (g c : Nat) (S : List Ent) (p q r t : Int), e = .returned (.tuple #[.slice (some ⟨g, 0, none⟩) S.length c, .agg #[.int .i64 p, .int .i64 q, .int .i64 r, .int .i64 t]]) ∧ RowE w' (some ⟨g, 0, none⟩) S.length S ∧ S.length ≤ 1000 ∧
    (-10 ≤ p ∧ p ≤ 100) ∧ (-10 ≤ q ∧ q ≤ 100) ∧ (-10 ≤ r ∧ r ≤ 100) ∧ (-10 ≤ t ∧ t ≤ 1000010) ∧ Below w.heap.size w w'
theorem rowB_below {w w' : World} {a : Option Addr} {len : Nat} {z : List Int} (h : RowB w a len z) (hb : Below w.heap.size w w') : RowB w' a len z := by
  obtain ⟨h1, h2, h3, h4⟩ := h
  refine ⟨h1, h2, fun hl => ?_, h4⟩
  obtain ⟨b, off, he, hc⟩ := h3 hl
  refine ⟨b, off, he, fun i hi => ?_⟩
  have hlt : b < w.heap.size := World.block_lt_of_cell? w ⟨b, off + i, none⟩ (hc i hi)
  rw [hb.cell (p := ⟨b, off + i, none⟩) hlt]
  exact hc i hi
set_option maxHeartbeats 1000000 in
theorem drawRunAction_any (a : Option Addr) (len cap : Nat) (z : List Int) (w : World) (h : RowB w a len z) (hlc : len ≤ cap) :
    Calls Try.prog 29 #[.slice a len cap] w (RunD w) := by
  have hz0 := actAt_new w 42 0 0 0 0
  have hb0 := (Below.refl w.heap.size w).alloc (Nat.le_refl _) (.cells #[.int .i64 0, .int .i64 0, .int .i64 0, .int .i64 0] 42)
  have HR := Lib.hid (rowB_below h hb0)
  have HB0 := Lib.hid hb0
  clear h hb0
  go_enter Try.func29, Try.ntmps29
  go_wp2_with fail
  refine (open_any a len cap z _ HR.out hlc).mono ?_; rintro e w1 ⟨R, rfl, hR, hr1, hb1, hRw⟩
  have hz1 := hz0.grown (Below.grownBy hb1 none) (by simp)
  have hR1 : w.heap.size < R := by simp at hR; omega
  have HB1 := Lib.hid (HB0.out.trans (hb1.mono (by simp)))
  clear hz0 hb1 hR
  go_wp2_with fail
  refine (l20Store_any R 0 12 _ hr1 (by omega) (by omega) (by omega)).mono ?_; rintro e w2 ⟨v, S, rfl, hown, hwf, hlen, hr2, hu2⟩
  have hz2 := hz1.grown hu2 (by simp; omega)
  have HB2 := Lib.hid (hu2.below HB1.out HB1.out.size (by omega))
  clear hz1 hr1 hu2
  obtain ⟨g, c, rfl, hgB, hrow⟩ := rowE_of_own hown (by omega) hwf
  have hgl : g < w2.heap.size := (hown.1.lt g rfl).2
  have hgR : g ≠ R := by omega
  clear hown
  go_wp2_with fail
  refine (l20Action_any R _ 12 _ hr2 (by omega) (by omega) (by omega)).mono ?_; rintro e w3 ⟨p, q, r, t, rfl, hp, hq, hrr, ht, hr3, hu3⟩
  have hrow3 : RowE w3 (some ⟨g, 0, none⟩) S.length S := hrow.grown hu3 (by simp; exact hgR)
  obtain ⟨⟨z1, z2, z3, z4⟩, z5, z6, z7, z8⟩ := hz2.grown hu3 (by simp; omega)
  have HB3 := Lib.hid (hu3.below HB2.out HB2.out.size (by omega))
  have hgZ : g ≠ w.heap.size := by have := HB1.out.size; omega
  have hgs := grownBy_tr (grownBy_tr (grownBy_tr (grown_set w3 w.heap.size 0 (.int .i64 p)) (grown_set _ w.heap.size 1 (.int .i64 q))) (grown_set _ w.heap.size 2 (.int .i64 r))) (grown_set _ w.heap.size 3 (.int .i64 t))
  have HROW := Lib.hid (hrow3.grown hgs (by simp; exact hgZ))
  have HP := Lib.hid (And.intro hp (And.intro hq (And.intro hrr ht)))
  clear hr2 hr3 hu3 hz2 hp hq hrr ht hrow hrow3 hgs
  go_wp2_with fail
  refine bodyPost_ret (v := .tuple #[.slice (some ⟨g, 0, none⟩) S.length c, .agg #[.int .i64 p, .int .i64 q, .int .i64 r, .int .i64 t]]) ?_ rfl ⟨g, c, S, p, q, r, t, rfl, HROW.out, by omega, HP.out.1, HP.out.2.1, HP.out.2.2.1, HP.out.2.2.2, (((HB3.out.setCell (p := ⟨w.heap.size, 0, none⟩) (Nat.le_refl _) _).setCell (p := ⟨w.heap.size, 1, none⟩) (Nat.le_refl _) _).setCell (p := ⟨w.heap.size, 2, none⟩) (Nat.le_refl _) _).setCell (p := ⟨w.heap.size, 3, none⟩) (Nat.le_refl _) _⟩
  simp [results, Try.results29, go_sem, z1, z2, z3, z4]
end Go.Proofs.Ytpnahncmhldgdaa
