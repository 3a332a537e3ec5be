/- The walk of the law FnActionWrites. -/
import Derived.Test.YtpnahncmhldgdaaActLawH
namespace Go.Proofs.Ytpnahncmhldgdaa
open Go.RowKit
set_option linter.unusedVariables false
/-- The store of two entries that the laws use. -/
def twoE : List Ent := [(1, 40), (3, 900)]
theorem twoE_store : storeB twoE = true := by decide
theorem rowE_two (w : World) : RowE (w.alloc (.cells #[.int .i64 1, .int .i64 40, .int .i64 3, .int .i64 900] 70)) (some ⟨w.heap.size, 0, none⟩) 2 twoE := by
  have h := own_lit (w := w) (B := 0) 70 2 #[.int .i64 1, .int .i64 40, .int .i64 3, .int .i64 900] 2 (Nat.zero_le _) (by unfold maxLen; omega) rfl
  exact rowE_owned h.1 rfl (by decide) (fun e he => by simp [twoE] at he; rcases he with rfl | rfl <;> exact ⟨by decide, by decide⟩)
theorem below_cl {B G o : Nat} {w w' : World} {v : Value} (hb : Below B w w') (hG : G < B) (hc : w.cell? ⟨G, o, none⟩ = some v) : w'.cell? ⟨G, o, none⟩ = some v := (hb.cell (p := ⟨G, o, none⟩) hG).trans hc
theorem actAt_below {w w' : World} {G : Nat} {p q r t : Int} (h : ActAt w G p q r t) (hb : Below w.heap.size w w') : ActAt w' G p q r t := h.grown (Below.grownBy hb none) (by simp)
end Go.Proofs.Ytpnahncmhldgdaa
