/- Texts of ours that stand together: SpecLay, SpecLay2, SpecLay3, SpecLay4, SpecLay5 -/
import Derived.Test.YtolhdacbahgfgaaGreatSpecS
import Derived.Test.YtolhdacbahgfgaaGreatLay
import Derived.Deep.RegionLaw
/- The contracts of the model's l4Writes,LayersValid,l4Find,l4Read,LayerRead,LayerStore. -/
namespace Go.Proofs.YtolhdacbahgfgaaGreat
open Go.RowKit
set_option linter.unusedVariables false
end Go.Proofs.YtolhdacbahgfgaaGreat
/- The contracts of the model's LayerRead,LayerStore,l4Put,l4Copy,ForkLayer,LayerWrite. -/
namespace Go.Proofs.YtolhdacbahgfgaaGreat
open Go.RowKit
set_option linter.unusedVariables false
end Go.Proofs.YtolhdacbahgfgaaGreat
/- The contracts of the model's LayerStore,l4Copy,ForkLayer,LayerWrite. -/
namespace Go.Proofs.YtolhdacbahgfgaaGreat
open Go.RowKit
set_option linter.unusedVariables false
end Go.Proofs.YtolhdacbahgfgaaGreat
/- The contracts of the model's ForkLayer,LayerWrite,LayerStore. -/
namespace Go.Proofs.YtolhdacbahgfgaaGreat
open Go.RowKit
set_option linter.unusedVariables false
end Go.Proofs.YtolhdacbahgfgaaGreat
/- The contract of the model's LayerStore. -/
namespace Go.Proofs.YtolhdacbahgfgaaGreat
open Go.RowKit
set_option linter.unusedVariables false
end Go.Proofs.YtolhdacbahgfgaaGreat
