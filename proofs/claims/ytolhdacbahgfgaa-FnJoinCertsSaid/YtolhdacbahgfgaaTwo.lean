/- Texts of ours that stand together: ImplStore, ImplVals, ImplPut, ImplChanged -/
import Derived.Test.YtolhdacbahgfgaaSpecS
import Derived.Test.YtolhdacbahgfgaaCore
/- The contracts of the program's isKey,isValue,StoreValid. -/
namespace Go.Proofs.Ytolhdacbahgfgaa
open Go.RowKit
def BoolB (b:Bool) (w:World) (e:Ending) (w':World):Prop:=e = .returned (.bool b)∧Below w.heap.size w w'
def IntB (n:Int) (w:World) (e:Ending) (w':World):Prop:=e = .returned (.int .i64 n)∧Below w.heap.size w w'
end Go.Proofs.Ytolhdacbahgfgaa
/- The contracts of the program's valuesOf and entries. -/
namespace Go.Proofs.Ytolhdacbahgfgaa
open Go.RowKit
end Go.Proofs.Ytolhdacbahgfgaa
/- The contracts of the program's ValueAt and PutValue. -/
namespace Go.Proofs.Ytolhdacbahgfgaa
open Go.RowKit
end Go.Proofs.Ytolhdacbahgfgaa
/- The contracts of the program's StoreTotal and ChangedKeys. -/
namespace Go.Proofs.Ytolhdacbahgfgaa
open Go.RowKit
def NewLN (w:World) (l:List Int) (e:Ending) (w':World):Prop :=
 ∃ v,e = .returned v∧w'.ownsRow w.heap.size 3 1 v l.length (l.map (Value.int .i64))∧(∀ x∈l,(Lit.int .i64 x).wf=true)∧Below w.heap.size w w'
end Go.Proofs.Ytolhdacbahgfgaa
