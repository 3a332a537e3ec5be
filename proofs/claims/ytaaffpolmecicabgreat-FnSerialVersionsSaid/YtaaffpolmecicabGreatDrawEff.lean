/- The contracts of the draws of effects. -/
import Derived.Test.YtaaffpolmecicabGreatDrawAc
import Derived.Test.YtaaffpolmecicabGreatEffA
namespace Go.Proofs.YtaaffpolmecicabGreat
open Go.RowKit
set_option linter.unusedVariables false
/-- A drawn store and a drawn action. -/
def RunD (w : World) (e : Ending) (w' : World) : Prop :=
  ∃ (g c : Nat) (S : List Ent) (p q r t : Int), e = .returned (.tuple #[.slice (some ⟨g, 0, none⟩) S.length c, .agg #[.int .i64 p, .int .i64 q, .int .i64 r, .int .i64 t]]) ∧ RowE w' (some ⟨g, 0, none⟩) S.length S ∧ S.length ≤ 1000 ∧
    (-10 ≤ p ∧ p ≤ 100) ∧ (-10 ≤ q ∧ q ≤ 100) ∧ (-10 ≤ r ∧ r ≤ 100) ∧ (-10 ≤ t ∧ t ≤ 1000010) ∧ Below w.heap.size w w'
theorem rowB_below {w w' : World} {a : Option Addr} {len : Nat} {z : List Int} (h : RowB w a len z) (hb : Below w.heap.size w w') : RowB w' a len z := by
  obtain ⟨h1, h2, h3, h4⟩ := h
  refine ⟨h1, h2, fun hl => ?_, h4⟩
  obtain ⟨b, off, he, hc⟩ := h3 hl
  refine ⟨b, off, he, fun i hi => ?_⟩
  have hlt : b < w.heap.size := World.block_lt_of_cell? w ⟨b, off + i, none⟩ (hc i hi)
  rw [hb.cell (p := ⟨b, off + i, none⟩) hlt]
  exact hc i hi
end Go.Proofs.YtaaffpolmecicabGreat
