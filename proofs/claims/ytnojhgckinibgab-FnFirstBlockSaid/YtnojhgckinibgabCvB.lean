/- Texts of ours that stand together: ConvBk, ConvTr, ConvTr3 -/
import Derived.Test.YtnojhgckinibgabTrM
import Derived.Test.YtnojhgckinibgabHeldA
import Derived.Test.YtnojhgckinibgabConv
import Derived.StillTailTactics
import Derived.Deep.Cut
import Derived.Test.YtnojhgckinibgabConvAX
import Derived.Lib.AppendZeros
/- The contracts of the laws' own helpers over blocks: szBlock,toBlock,eqBlock,markBlock,heldBlock. -/
namespace Go.Proofs.Ytnojhgckinibgab
open Go.RowKit
set_option linter.unusedVariables false
end Go.Proofs.Ytnojhgckinibgab
/- The contracts of the laws' own helpers over blocks and trees: weights and comparisons. -/
namespace Go.Proofs.Ytnojhgckinibgab
open Go.RowKit
set_option linter.unusedVariables false
end Go.Proofs.Ytnojhgckinibgab
/- The contracts of the laws' own helpers toBlockS and toBlockTree. -/
namespace Go.Proofs.Ytnojhgckinibgab
open Go.RowKit
set_option linter.unusedVariables false
structure Tt (w W:World) (v1 v2 v3 u1 u2 u3:Value) (R:List Rw):Prop where
 inn:TrAt W w.heap.size v1 v2 v3
 ans:TrAt W (w.heap.size+1) (.slice none 0 0) (.slice none 0 0) (.slice none 0 0)
 cpy:TrAt W (w.heap.size+1+1) u1 u2 u3
 own:OwnR W (w.heap.size+3) W.heap.size R
 below:Below w.heap.size w W
 size:w.heap.size+3≤W.heap.size
theorem Tt.add {w W W':World} {v1 v2 v3 u1 u2 u3:Value} {R R2:List Rw} (h:Tt w W v1 v2 v3 u1 u2 u3 R) (hb:Below W.heap.size W W') (h2:OwnR W' W.heap.size W'.heap.size R2):Tt w W' v1 v2 v3 u1 u2 u3 (R++R2) :=
 ⟨h.inn.below hb,h.ans.below hb,h.cpy.below hb,(h.own.below hb).append h2 (Nat.le_refl _) h.size hb.size,h.below.trans (hb.mono h.below.size),Nat.le_trans h.size hb.size⟩
theorem Tt.put {w W:World} {v1 v2 v3 u1 u2 u3 x1 x2 x3:Value} {R:List Rw} (h:Tt w W v1 v2 v3 u1 u2 u3 R) (i:Nat) (x:Value) (hc:TrAt (W.setCell ⟨w.heap.size+1+1,i,none⟩ x) (w.heap.size+1+1) x1 x2 x3):Tt w (W.setCell ⟨w.heap.size+1+1,i,none⟩ x) v1 v2 v3 x1 x2 x3 R:=by
 have hk:∀ b,b≠w.heap.size+1+1→(W.setCell ⟨w.heap.size+1+1,i,none⟩ x).heap[b]? = W.heap[b]?:=fun b hb=>Below.heap_setCell _ _ _ _ (by simpa using hb)
 refine ⟨h.inn.keep (hk _ (by omega)),h.ans.keep (hk _ (by omega)),hc,?_,h.below.setCell (by simp;omega) x,by simpa [World.setCell] using h.size⟩
 have:=h.own.keep (w':=W.setCell ⟨w.heap.size+1+1,i,none⟩ x) fun r hr b hb=>hk b (by have:=(h.own.ge hr hb).1;omega)
 exact this.mono (Nat.le_refl _) (by simp [World.setCell])
end Go.Proofs.Ytnojhgckinibgab
