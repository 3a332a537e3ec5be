/- The walk of the law FnDropVersions. -/
import Derived.Test.YtaaffpolmecicaaDrawVer2
import Derived.Test.YtaaffpolmecicaaKeyC
import Derived.Test.YtaaffpolmecicaaConvV2
import Derived.Test.YtaaffpolmecicaaOne
namespace Go.Proofs.Ytaaffpolmecicaa
open Go.RowKit
set_option linter.unusedVariables false
set_option linter.unusedSimpArgs false
theorem drop_valid {L : List Ver} (h : versB L = true) (by_ : Int) : versB (dropL L by_) = true := (versB_ok _).2 (ok_dropL ((versB_ok L).1 h) by_)
theorem drop_again {L : List Ver} (h : versB L = true) (by_ : Int) : dropVM (dropVM L by_) by_ = dropVM L by_ := by
  have e : dropVM L by_ = dropL L by_ := by unfold dropVM; rw [h]; rfl
  rw [e]; unfold dropVM; rw [drop_valid h]; exact dropL_again L by_
end Go.Proofs.Ytaaffpolmecicaa
