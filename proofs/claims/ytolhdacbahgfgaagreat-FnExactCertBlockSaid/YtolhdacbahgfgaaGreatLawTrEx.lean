/- The walks of exact laws over trees of blocks (gen16/lawtr.py). -/
import Derived.Test.YtolhdacbahgfgaaGreatTrFP
import Derived.Test.YtolhdacbahgfgaaGreatCvB
import Derived.Deep.RegionHeld3
namespace Go.Proofs.YtolhdacbahgfgaaGreat
open Go.RowKit
set_option linter.unusedVariables false
set_option linter.unusedSimpArgs false
theorem newTre_form {w:World} {B T:Nat} {t:TreT} {v1 v2 v3:Value} {x:Tre} {ts:List Value} (h:TreOwn w B T t v1 v2 v3 x ts):∃ b1 m1 d1 b2 m2 d2 b3 m3 d3,v1 = .slice b1 m1 d1∧v2 = .slice b2 m2 d2∧v3 = .slice b3 m3 d3:=by
 obtain ⟨⟨b1,m1,d1,rfl,-⟩,⟨b2,m2,d2,rfl,-⟩,b3,m3,d3,rfl,-⟩:=h.rd
 exact ⟨b1,m1,d1,b2,m2,d2,b3,m3,d3,rfl,rfl,rfl⟩
end Go.Proofs.YtolhdacbahgfgaaGreat
