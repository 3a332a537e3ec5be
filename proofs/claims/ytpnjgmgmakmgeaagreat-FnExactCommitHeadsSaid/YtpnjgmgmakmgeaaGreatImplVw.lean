/- The contracts of the program's isHeight and isView. -/
import Derived.Test.YtpnjgmgmakmgeaaGreatTrM
import Derived.Test.YtpnjgmgmakmgeaaGreatTree
namespace Go.Proofs.YtpnjgmgmakmgeaaGreat
open Go.RowKit
set_option linter.unusedVariables false
theorem isHeight_impl (n:Int) (w:World) :
  Calls Tryz.prog 135 #[.int .i64 n] w fun e w'=>e = .returned (.bool (inB n 0 100))∧w=w':=by
 by_cases h1:0≤n
 · by_cases h2:n≤100
   · rw [inB_yes h1 h2]
     go_enter Tryz.func135,Tryz.ntmps135
     go_wp2
     go_ret
     exact ⟨rfl,rfl⟩
   · rw [inB_no (by omega)]
     go_enter Tryz.func135,Tryz.ntmps135
     go_wp2
     go_ret
     exact ⟨rfl,rfl⟩
 · rw [inB_no (by omega)]
   go_enter Tryz.func135,Tryz.ntmps135
   go_wp2
   go_ret
   exact ⟨rfl,rfl⟩
theorem isView_impl (n:Int) (w:World) :
  Calls Tryz.prog 136 #[.int .i64 n] w fun e w'=>e = .returned (.bool (inB n 0 1000))∧w=w':=by
 by_cases h1:0≤n
 · by_cases h2:n≤1000
   · rw [inB_yes h1 h2]
     go_enter Tryz.func136,Tryz.ntmps136
     go_wp2
     go_ret
     exact ⟨rfl,rfl⟩
   · rw [inB_no (by omega)]
     go_enter Tryz.func136,Tryz.ntmps136
     go_wp2
     go_ret
     exact ⟨rfl,rfl⟩
 · rw [inB_no (by omega)]
   go_enter Tryz.func136,Tryz.ntmps136
   go_wp2
   go_ret
   exact ⟨rfl,rfl⟩
end Go.Proofs.YtpnjgmgmakmgeaaGreat
