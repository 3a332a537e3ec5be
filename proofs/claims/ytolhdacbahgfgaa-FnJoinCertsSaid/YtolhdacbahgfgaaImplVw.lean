/- The contracts of the program's isHeight and isView. -/
import Derived.Test.YtolhdacbahgfgaaTrM
import Derived.Test.YtolhdacbahgfgaaTree
namespace Go.Proofs.Ytolhdacbahgfgaa
open Go.RowKit
set_option linter.unusedVariables false
theorem isView_impl (n:Int) (w:World) :
  Calls Try.prog 26 #[.int .i64 n] w fun e w'=>e = .returned (.bool (inB n 0 1000))∧w=w':=by
 by_cases h1:0≤n
 · by_cases h2:n≤1000
   · rw [inB_yes h1 h2]
     go_enter Try.func26,Try.ntmps26
     go_wp2
     go_ret
     exact ⟨rfl,rfl⟩
   · rw [inB_no (by omega)]
     go_enter Try.func26,Try.ntmps26
     go_wp2
     go_ret
     exact ⟨rfl,rfl⟩
 · rw [inB_no (by omega)]
   go_enter Try.func26,Try.ntmps26
   go_wp2
   go_ret
   exact ⟨rfl,rfl⟩
end Go.Proofs.Ytolhdacbahgfgaa
