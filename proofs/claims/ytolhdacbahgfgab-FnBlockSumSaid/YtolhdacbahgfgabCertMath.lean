/- Certificates: plain mathematics,and a certificate in a box. No function of the program is named here. -/
import Derived.Test.YtolhdacbahgfgabTrM

namespace Go.Proofs.Ytolhdacbahgfgab
open Go.RowKit
set_option linter.unusedVariables false
structure Crt where
 sum:Int
 view:Int
 sig:Int
def Crt.v (c:Crt):Value:=.agg #[.int .i64 c.sum,.int .i64 c.view,.int .i64 c.sig]
end Go.Proofs.Ytolhdacbahgfgab
