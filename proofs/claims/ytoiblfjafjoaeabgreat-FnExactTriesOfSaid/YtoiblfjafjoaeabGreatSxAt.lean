/- A block that holds a slot;a new slot. No function of the program is named here. -/
import Derived.Test.YtoiblfjafjoaeabGreatEngM
import Derived.Test.YtoiblfjafjoaeabGreatOwnG
namespace Go.Proofs.YtoiblfjafjoaeabGreat
open Go.RowKit
set_option linter.unusedVariables false
def slV (s:Slt) (x y z:Value):Value:=.agg #[.int .i64 s.stage,.int .i64 s.tries,x,.bool s.res.done,y,z]
structure SxAt (w:World) (Z:Nat) (v0 v1 v2 v3 v4 v5:Value):Prop where
 c0:w.cell? ⟨Z,0,none⟩=some v0
 c1:w.cell? ⟨Z,1,none⟩=some v1
 c2:w.cell? ⟨Z,2,none⟩=some v2
 c3:w.cell? ⟨Z,3,none⟩=some v3
 c4:w.cell? ⟨Z,4,none⟩=some v4
 c5:w.cell? ⟨Z,5,none⟩=some v5
 f0:w.frozen? ⟨Z,0,none⟩=false
 f1:w.frozen? ⟨Z,1,none⟩=false
 f2:w.frozen? ⟨Z,2,none⟩=false
 f3:w.frozen? ⟨Z,3,none⟩=false
 f4:w.frozen? ⟨Z,4,none⟩=false
 f5:w.frozen? ⟨Z,5,none⟩=false
theorem SxAt.lt {w:World} {Z:Nat} {v0 v1 v2 v3 v4 v5:Value} (h:SxAt w Z v0 v1 v2 v3 v4 v5):Z < w.heap.size:=World.block_lt_of_cell? w ⟨Z,0,none⟩ h.c0
theorem SxAt.keep {w w':World} {Z:Nat} {v0 v1 v2 v3 v4 v5:Value} (h:SxAt w Z v0 v1 v2 v3 v4 v5) (hb:w'.heap[Z]? = w.heap[Z]?):SxAt w' Z v0 v1 v2 v3 v4 v5 :=
 ⟨(World.cell?_of_block hb).trans h.c0, (World.cell?_of_block hb).trans h.c1, (World.cell?_of_block hb).trans h.c2, (World.cell?_of_block hb).trans h.c3, (World.cell?_of_block hb).trans h.c4, (World.cell?_of_block hb).trans h.c5,
  (World.frozen?_of_block hb).trans h.f0,(World.frozen?_of_block hb).trans h.f1,(World.frozen?_of_block hb).trans h.f2,(World.frozen?_of_block hb).trans h.f3,(World.frozen?_of_block hb).trans h.f4,(World.frozen?_of_block hb).trans h.f5⟩
theorem SxAt.below {w w':World} {Z:Nat} {v0 v1 v2 v3 v4 v5:Value} (h:SxAt w Z v0 v1 v2 v3 v4 v5) (hb:Below w.heap.size w w'):SxAt w' Z v0 v1 v2 v3 v4 v5:=h.keep (hb.block Z h.lt)
theorem sxAt_new (w:World) (T:TypeId) (v0 v1 v2 v3 v4 v5:Value):SxAt (w.alloc (.cells #[v0,v1,v2,v3,v4,v5] T)) w.heap.size v0 v1 v2 v3 v4 v5:=by constructor <;> simp [go_sem]
theorem SxAt.set2 {w:World} {Z:Nat} {v0 v1 v2 v3 v4 v5:Value} (h:SxAt w Z v0 v1 v2 v3 v4 v5) (x:Value):SxAt (w.setCell ⟨Z,2,none⟩ x) Z v0 v1 x v3 v4 v5:=by
 constructor <;> simp [go_sem,h.c0,h.c1,h.c2,h.c3,h.c4,h.c5,h.f0,h.f1,h.f2,h.f3,h.f4,h.f5]
theorem SxAt.set3 {w:World} {Z:Nat} {v0 v1 v2 v3 v4 v5:Value} (h:SxAt w Z v0 v1 v2 v3 v4 v5) (x y z:Value):SxAt (((w.setCell ⟨Z,3,none⟩ x).setCell ⟨Z,4,none⟩ y).setCell ⟨Z,5,none⟩ z) Z v0 v1 v2 x y z:=by
 constructor <;> simp [go_sem,h.c0,h.c1,h.c2,h.c3,h.c4,h.c5,h.f0,h.f1,h.f2,h.f3,h.f4,h.f5]
theorem SxAt.set6 {w:World} {Z:Nat} {v0 v1 v2 v3 v4 v5:Value} (h:SxAt w Z v0 v1 v2 v3 v4 v5) (x0 x1 x2 x3 x4 x5:Value):SxAt ((((((w.setCell ⟨Z,0,none⟩ x0).setCell ⟨Z,1,none⟩ x1).setCell ⟨Z,2,none⟩ x2).setCell ⟨Z,3,none⟩ x3).setCell ⟨Z,4,none⟩ x4).setCell ⟨Z,5,none⟩ x5) Z x0 x1 x2 x3 x4 x5:=by
 constructor <;> simp [go_sem,h.c0,h.c1,h.c2,h.c3,h.c4,h.c5,h.f0,h.f1,h.f2,h.f3,h.f4,h.f5]
def NewSl (w:World) (tI tE:TypeId) (s:Slt) (e:Ending) (w':World):Prop :=
 ∃ x y z,e = .returned (slV s x y z)∧OwnR w' w.heap.size w'.heap.size (slRs tI tE s (x,y,z))∧(∀ i∈s.from_,(Lit.int .i64 i).wf=true)∧WfE s.res.rds∧WfE s.res.wrs∧Below w.heap.size w w'
end Go.Proofs.YtoiblfjafjoaeabGreat
