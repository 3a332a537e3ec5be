/- The contracts of the program's isHeight and isView. -/
import Derived.Test.YtolhdacbahgfgabTrM
import Derived.Test.YtolhdacbahgfgabTree
namespace Go.Proofs.Ytolhdacbahgfgab
open Go.RowKit
set_option linter.unusedVariables false
theorem isHeight_impl (n:Int) (w:World) :
  Calls Try.prog 16 #[.int .i64 n] w fun e w'=>e = .returned (.bool (inB n 0 100))∧w=w':=by
 by_cases h1:0≤n
 · by_cases h2:n≤100
   · rw [inB_yes h1 h2]
     go_enter Try.func16,Try.ntmps16
     go_wp2
     go_ret
     exact ⟨rfl,rfl⟩
   · rw [inB_no (by omega)]
     go_enter Try.func16,Try.ntmps16
     go_wp2
     go_ret
     exact ⟨rfl,rfl⟩
 · rw [inB_no (by omega)]
   go_enter Try.func16,Try.ntmps16
   go_wp2
   go_ret
   exact ⟨rfl,rfl⟩
theorem isView_impl (n:Int) (w:World) :
  Calls Try.prog 17 #[.int .i64 n] w fun e w'=>e = .returned (.bool (inB n 0 1000))∧w=w':=by
 by_cases h1:0≤n
 · by_cases h2:n≤1000
   · rw [inB_yes h1 h2]
     go_enter Try.func17,Try.ntmps17
     go_wp2
     go_ret
     exact ⟨rfl,rfl⟩
   · rw [inB_no (by omega)]
     go_enter Try.func17,Try.ntmps17
     go_wp2
     go_ret
     exact ⟨rfl,rfl⟩
 · rw [inB_no (by omega)]
   go_enter Try.func17,Try.ntmps17
   go_wp2
   go_ret
   exact ⟨rfl,rfl⟩
end Go.Proofs.Ytolhdacbahgfgab
