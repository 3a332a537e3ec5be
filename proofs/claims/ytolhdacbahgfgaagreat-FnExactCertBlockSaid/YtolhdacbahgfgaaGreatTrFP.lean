/- Texts of ours that stand together: TrFns, PathTr -/
import Derived.Test.YtolhdacbahgfgaaGreatImT
import Derived.Test.YtolhdacbahgfgaaGreatSpecTr2
import Derived.Test.YtolhdacbahgfgaaGreatCvB
/- The contracts of the program's BlockTreeValid and FindBlock,and of the model's FindBlock (gen16/lawtr.py). -/
namespace Go.Proofs.YtolhdacbahgfgaaGreat
open Go.RowKit
set_option linter.unusedVariables false
set_option linter.unusedSimpArgs false
end Go.Proofs.YtolhdacbahgfgaaGreat
/- The contracts of PathTo and IsBefore,the program's and the model's (gen16/pathtr.py). -/
namespace Go.Proofs.YtolhdacbahgfgaaGreat
open Go.RowKit
set_option linter.unusedVariables false
set_option linter.unusedSimpArgs false
/-! Ways: more mathematics. -/
def NoInt (l:List Int) (x:Int) (k:Nat):Prop:=∀ j,j < k→l.getD j 0≠x
theorem NoInt.next {l:List Int} {x:Int} {k:Nat} (h:NoInt l x k) (hk:l.getD k 0≠x):NoInt l x (k+1):=by
 intro j hj
 by_cases e:j=k
 · rw [e];exact hk
 · exact h j (by omega)
theorem NoInt.all {l:List Int} {x:Int} {k:Nat} (h:NoInt l x k) (hk:l.length=k):decide (x∈l)=false:=by
 refine decide_eq_false (fun hm=>?_)
 obtain ⟨j,hj,e⟩:=List.getElem_of_mem hm
 exact h j (by omega) (by rw [List.getD_eq_getElem?_getD,List.getElem?_eq_getElem hj];exact e)
end Go.Proofs.YtolhdacbahgfgaaGreat
