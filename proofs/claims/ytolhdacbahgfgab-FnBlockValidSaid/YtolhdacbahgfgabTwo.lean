/- Texts of ours that stand together: ImplStore, ImplVals, ImplPut, ImplChanged -/
import Derived.Test.YtolhdacbahgfgabSpecS
import Derived.Test.YtolhdacbahgfgabCore
/- The contracts of the program's isKey,isValue,StoreValid. -/
namespace Go.Proofs.Ytolhdacbahgfgab
open Go.RowKit
def BoolB (b:Bool) (w:World) (e:Ending) (w':World):Prop:=e = .returned (.bool b)∧Below w.heap.size w w'
def IntB (n:Int) (w:World) (e:Ending) (w':World):Prop:=e = .returned (.int .i64 n)∧Below w.heap.size w w'
theorem isKey_impl (n:Int) (w:World) :
  Calls Try.prog 42 #[.int .i64 n] w fun e w'=>e = .returned (.bool (inB n 0 31))∧w=w':=by
 by_cases h1:0≤n
 · by_cases h2:n≤31
   · rw [inB_yes h1 h2]
     go_enter Try.func42,Try.ntmps42
     go_wp2
     go_ret
     exact ⟨rfl,rfl⟩
   · rw [inB_no (by omega)]
     go_enter Try.func42,Try.ntmps42
     go_wp2
     go_ret
     exact ⟨rfl,rfl⟩
 · rw [inB_no (by omega)]
   go_enter Try.func42,Try.ntmps42
   go_wp2
   go_ret
   exact ⟨rfl,rfl⟩
theorem isValue_impl (n:Int) (w:World) :
  Calls Try.prog 43 #[.int .i64 n] w fun e w'=>e = .returned (.bool (inB n 0 1000000))∧w=w':=by
 by_cases h1:0≤n
 · by_cases h2:n≤1000000
   · rw [inB_yes h1 h2]
     go_enter Try.func43,Try.ntmps43
     go_wp2
     go_ret
     exact ⟨rfl,rfl⟩
   · rw [inB_no (by omega)]
     go_enter Try.func43,Try.ntmps43
     go_wp2
     go_ret
     exact ⟨rfl,rfl⟩
 · rw [inB_no (by omega)]
   go_enter Try.func43,Try.ntmps43
   go_wp2
   go_ret
   exact ⟨rfl,rfl⟩
end Go.Proofs.Ytolhdacbahgfgab
/- The contracts of the program's valuesOf and entries. -/
namespace Go.Proofs.Ytolhdacbahgfgab
open Go.RowKit
end Go.Proofs.Ytolhdacbahgfgab
/- The contracts of the program's ValueAt and PutValue. -/
namespace Go.Proofs.Ytolhdacbahgfgab
open Go.RowKit
end Go.Proofs.Ytolhdacbahgfgab
/- The contracts of the program's StoreTotal and ChangedKeys. -/
namespace Go.Proofs.Ytolhdacbahgfgab
open Go.RowKit
def NewLN (w:World) (l:List Int) (e:Ending) (w':World):Prop :=
 ∃ v,e = .returned v∧w'.ownsRow w.heap.size 3 1 v l.length (l.map (Value.int .i64))∧(∀ x∈l,(Lit.int .i64 x).wf=true)∧Below w.heap.size w w'
end Go.Proofs.Ytolhdacbahgfgab
