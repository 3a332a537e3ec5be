/- Texts of ours that stand together: Clone, SxAt, Copied, Copied2 -/
import Derived.Test.YtaaffpolmecicabGreatSpecE0
import Derived.Lib.BufferMore
import Derived.Test.YtaaffpolmecicabGreatEngM
import Derived.Test.YtaaffpolmecicabGreatOwnG
import Derived.Test.YtaaffpolmecicabGreatSpecX
import Derived.Deep.RegionHeld3
import Derived.Deep.MidRow
/- The contracts of slices.Clone at entries and actions (gen11/engof.py). -/
namespace Go.Proofs.YtaaffpolmecicabGreat
open Go.RowKit
set_option linter.unusedVariables false
end Go.Proofs.YtaaffpolmecicabGreat
/- A block that holds a slot;a new slot. No function of the program is named here. -/
namespace Go.Proofs.YtaaffpolmecicabGreat
open Go.RowKit
set_option linter.unusedVariables false
structure SxAt (w:World) (Z:Nat) (v0 v1 v2 v3 v4 v5:Value):Prop where
 c0:w.cell? ⟨Z,0,none⟩=some v0
 c1:w.cell? ⟨Z,1,none⟩=some v1
 c2:w.cell? ⟨Z,2,none⟩=some v2
 c3:w.cell? ⟨Z,3,none⟩=some v3
 c4:w.cell? ⟨Z,4,none⟩=some v4
 c5:w.cell? ⟨Z,5,none⟩=some v5
 f0:w.frozen? ⟨Z,0,none⟩=false
 f1:w.frozen? ⟨Z,1,none⟩=false
 f2:w.frozen? ⟨Z,2,none⟩=false
 f3:w.frozen? ⟨Z,3,none⟩=false
 f4:w.frozen? ⟨Z,4,none⟩=false
 f5:w.frozen? ⟨Z,5,none⟩=false
theorem SxAt.lt {w:World} {Z:Nat} {v0 v1 v2 v3 v4 v5:Value} (h:SxAt w Z v0 v1 v2 v3 v4 v5):Z < w.heap.size:=World.block_lt_of_cell? w ⟨Z,0,none⟩ h.c0
theorem SxAt.keep {w w':World} {Z:Nat} {v0 v1 v2 v3 v4 v5:Value} (h:SxAt w Z v0 v1 v2 v3 v4 v5) (hb:w'.heap[Z]? = w.heap[Z]?):SxAt w' Z v0 v1 v2 v3 v4 v5 :=
 ⟨(World.cell?_of_block hb).trans h.c0, (World.cell?_of_block hb).trans h.c1, (World.cell?_of_block hb).trans h.c2, (World.cell?_of_block hb).trans h.c3, (World.cell?_of_block hb).trans h.c4, (World.cell?_of_block hb).trans h.c5,
  (World.frozen?_of_block hb).trans h.f0,(World.frozen?_of_block hb).trans h.f1,(World.frozen?_of_block hb).trans h.f2,(World.frozen?_of_block hb).trans h.f3,(World.frozen?_of_block hb).trans h.f4,(World.frozen?_of_block hb).trans h.f5⟩
theorem SxAt.below {w w':World} {Z:Nat} {v0 v1 v2 v3 v4 v5:Value} (h:SxAt w Z v0 v1 v2 v3 v4 v5) (hb:Below w.heap.size w w'):SxAt w' Z v0 v1 v2 v3 v4 v5:=h.keep (hb.block Z h.lt)
theorem SxAt.set2 {w:World} {Z:Nat} {v0 v1 v2 v3 v4 v5:Value} (h:SxAt w Z v0 v1 v2 v3 v4 v5) (x:Value):SxAt (w.setCell ⟨Z,2,none⟩ x) Z v0 v1 x v3 v4 v5:=by
 constructor <;> simp [go_sem,h.c0,h.c1,h.c2,h.c3,h.c4,h.c5,h.f0,h.f1,h.f2,h.f3,h.f4,h.f5]
theorem SxAt.set3 {w:World} {Z:Nat} {v0 v1 v2 v3 v4 v5:Value} (h:SxAt w Z v0 v1 v2 v3 v4 v5) (x y z:Value):SxAt (((w.setCell ⟨Z,3,none⟩ x).setCell ⟨Z,4,none⟩ y).setCell ⟨Z,5,none⟩ z) Z v0 v1 v2 x y z:=by
 constructor <;> simp [go_sem,h.c0,h.c1,h.c2,h.c3,h.c4,h.c5,h.f0,h.f1,h.f2,h.f3,h.f4,h.f5]
end Go.Proofs.YtaaffpolmecicabGreat
/- The contracts of slices.Clone at ints,of the program's Effect.copied and Slot.copied. -/
namespace Go.Proofs.YtaaffpolmecicabGreat
open Go.RowKit
set_option linter.unusedVariables false
end Go.Proofs.YtaaffpolmecicabGreat
/- The contract of the program's Slot.copied. -/
namespace Go.Proofs.YtaaffpolmecicabGreat
open Go.RowKit
set_option linter.unusedVariables false
theorem SxAt.there {w:World} {Z:Nat} {v0 v1 v2 v3 v4 v5:Value} (h:SxAt w Z v0 v1 v2 v3 v4 v5):w.there Z 0 6:=by
 intro j hj
 obtain ⟨c0,c1,c2,c3,c4,c5,f0,f1,f2,f3,f4,f5⟩:=h
 rw [Nat.zero_add]
 rcases (by omega:j=0∨j=1∨j=2∨j=3∨j=4∨j=5) with rfl | rfl | rfl | rfl | rfl | rfl
 · exact ⟨by rw [c0];rfl,f0⟩
 · exact ⟨by rw [c1];rfl,f1⟩
 · exact ⟨by rw [c2];rfl,f2⟩
 · exact ⟨by rw [c3];rfl,f3⟩
 · exact ⟨by rw [c4];rfl,f4⟩
 · exact ⟨by rw [c5];rfl,f5⟩
end Go.Proofs.YtaaffpolmecicabGreat
