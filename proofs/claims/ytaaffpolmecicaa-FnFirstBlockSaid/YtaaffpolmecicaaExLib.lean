/- What the walks of exact laws share (gen8/exact.py): rows that are owned, marks of actions. -/
import Derived.Test.YtaaffpolmecicaaConvA
import Derived.Test.YtaaffpolmecicaaConv

namespace Go.Proofs.Ytaaffpolmecicaa
open Go.RowKit
set_option linter.unusedVariables false
theorem rowA_owned {w : World} {B : Nat} {e : TypeId} {g n cap : Nat} {l : List Acn} (h : w.ownsRow B e 4 (.slice (some ⟨g, 0, none⟩) n cap) n (flatA l)) (hl : l.length = n) (hm : n ≤ 4000000) (hw : WfAs l) : RowA w (some ⟨g, 0, none⟩) n l := by
  subst hl
  obtain ⟨g', c', e', -, -, hr, -⟩ := rowA_of_own (⟨h, by simp⟩ : Own _ _ _ _ _ _ _) hm hw
  simp only [Value.slice.injEq, true_and, Option.some.injEq, Addr.mk.injEq, and_true] at e'
  obtain ⟨rfl, rfl⟩ := e'
  exact hr
theorem grownBy_transX {a b c : World} {row : Option Nat} (h : a.grownBy b row) (k : b.grownBy c row) : a.grownBy c row :=
  ⟨k.os.trans h.os, k.tape.trans h.tape, k.output.trans h.output, Nat.le_trans h.size k.size, fun p hp hn => (k.block p (Nat.lt_of_lt_of_le hp h.size) hn).trans (h.block p hp hn)⟩
set_option maxHeartbeats 2000000 in
theorem markActionS_ownX (B g n cap : Nat) (xs : List Value) (k : Int) (w : World) (h : w.ownsRow B 75 4 (.slice (some ⟨g, 0, none⟩) n cap) n xs) (hn : n ≤ 4000000) (hk0 : 0 ≤ k) (hk1 : k ≤ 100000000) :
    Calls Try.prog 63 #[.slice (some ⟨g, 0, none⟩) n cap, .int .i64 k] w fun e w' => e = .returned (.int .i64 (k + 4 * n)) ∧ w.grownBy w' (some g) := by
  go_enter Try.func63, Try.ntmps63
  go_wp2
  go_loopw [1, 5] (fun q i wr => ∃ j : Nat, j ≤ n ∧ i = .int .i64 j ∧ q = .int .i64 (k + 4 * j) ∧ (∃ ys, wr.ownsRow B 75 4 (.slice (some ⟨g, 0, none⟩) n cap) n ys) ∧ w.grownBy wr (some g)) (fun _ i _ => n - (intOf i).toNat)
  case atStart => exact ⟨0, Nat.zero_le _, rfl, by simp, ⟨xs, h⟩, World.grownBy.refl _ _⟩
  case round =>
    obtain ⟨j, hj, rfl, rfl, ⟨ys, hown⟩, hg⟩ := hrel
    clear h
    by_cases hlt : j < n
    · have hl := hown.1
      have hex : ∀ i, i < 4 → ∃ u, wr.cell? ⟨g, j * 4 + i, none⟩ = some u := fun i hi => by
        rw [hown.cellAt (j * 4 + i) (by omega)]; exact ⟨_, List.getElem?_eq_getElem (by omega)⟩
      obtain ⟨u0, hu0⟩ := hex 0 (by omega)
      obtain ⟨u1, hu1⟩ := hex 1 (by omega)
      obtain ⟨u2, hu2⟩ := hex 2 (by omega)
      obtain ⟨u3, hu3⟩ := hex 3 (by omega)
      have hf0 := hown.frozenAt (j * 4)
      have hf1 := hown.frozenAt (j * 4 + 1)
      have hf2 := hown.frozenAt (j * 4 + 2)
      have hf3 := hown.frozenAt (j * 4 + 3)
      rw [Nat.add_zero] at hu0
      obtain ⟨s0, t0⟩ := hown.stored (j * 4) (.int .i64 (k + 4 * j))
      obtain ⟨s1, t1⟩ := s0.stored (j * 4 + 1) (.int .i64 (k + 4 * j + 1))
      obtain ⟨s2, t2⟩ := s1.stored (j * 4 + 2) (.int .i64 (k + 4 * j + 1 + 1))
      obtain ⟨s3, t3⟩ := s2.stored (j * 4 + 3) (.int .i64 (k + 4 * j + 1 + 1 + 1))
      have HST := Lib.hid s3
      have HG := Lib.hid (grownBy_transX hg (grownBy_transX (grownBy_set wr g (j * 4) (.int .i64 (k + 4 * j))) (grownBy_transX (grownBy_set _ g (j * 4 + 1) (.int .i64 (k + 4 * j + 1))) (grownBy_transX (grownBy_set _ g (j * 4 + 2) (.int .i64 (k + 4 * j + 1 + 1))) (grownBy_set _ g (j * 4 + 3) (.int .i64 (k + 4 * j + 1 + 1 + 1)))))))
      clear s0 t0 s1 t1 s2 t2 s3 t3 hg hown hex hl
      go_wp2
      go_roundw
      case rel => exact ⟨j + 1, by omega, by go_num, by congr 1; omega, ⟨_, HST.out⟩, HG.out⟩
      case measure => simp [intOf]; omega
    · obtain rfl : j = n := by omega
      go_wp2
      go_ret
      exact ⟨rfl, hg⟩
/-- A new list of ints, of the call's own. -/
def NewIO (w : World) (l : List Int) (e : Ending) (w' : World) : Prop :=
  ∃ v, e = .returned v ∧ Own w' w.heap.size 3 1 v l.length (l.map (Value.int .i64)) ∧ (∀ x ∈ l, (Lit.int .i64 x).wf = true) ∧ Below w.heap.size w w'
end Go.Proofs.Ytaaffpolmecicaa
