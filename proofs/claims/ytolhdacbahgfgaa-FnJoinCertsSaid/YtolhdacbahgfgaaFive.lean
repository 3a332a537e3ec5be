/- Texts of ours that stand together: Deed, DeedKeys, ImplActs -/
import Derived.Test.YtolhdacbahgfgaaActs
import Derived.Test.YtolhdacbahgfgaaTwo
/- The contracts of the program's deeds: one kind after the other. -/
namespace Go.Proofs.Ytolhdacbahgfgaa
open Go.RowKit
set_option linter.unusedVariables false
end Go.Proofs.Ytolhdacbahgfgaa
/- The contracts of the program's keys of actions. -/
namespace Go.Proofs.Ytolhdacbahgfgaa
open Go.RowKit
set_option linter.unusedVariables false
theorem NewLN.after {w w0:World} {l:List Int} {e:Ending} {w':World} (h:NewLN w0 l e w') (hb:Below w.heap.size w w0):NewLN w l e w':=by
 obtain ⟨v,h1,h2,h3,h4⟩:=h
 exact ⟨v,h1,owns_mono h2 hb.size,h3,hb.trans (h4.mono hb.size)⟩
end Go.Proofs.Ytolhdacbahgfgaa
/- The contract of the program's ActionsValid. -/
namespace Go.Proofs.Ytolhdacbahgfgaa
open Go.RowKit
set_option linter.unusedVariables false
end Go.Proofs.Ytolhdacbahgfgaa
