/- The walks of the exact laws of EngineValid and EngineDone (gen11/laweng.py). -/
import Derived.Test.YtoiblfjafjoaeabGreatTenB
import Derived.Test.YtoiblfjafjoaeabGreatConvG
import Derived.Test.YtoiblfjafjoaeabGreatConvH
import Derived.Test.YtoiblfjafjoaeabGreatSpecE
import Derived.Deep.RegionHeld3
namespace Go.Proofs.YtoiblfjafjoaeabGreat
open Go.RowKit
set_option linter.unusedVariables false
set_option linter.unusedSimpArgs false
theorem newEng_form {w:World} {B T:Nat} {t:EngT} {v1 v2 v3 v4:Value} {e:Eng} {ts:List (Value × Value × Value)} (h:EngOwn w B T t v1 v2 v3 v4 e ts):∃ b1 m1 d1 b2 m2 d2 b3 m3 d3 b4 m4 d4,v1 = .slice b1 m1 d1∧v2 = .slice b2 m2 d2∧v3 = .slice b3 m3 d3∧v4 = .slice b4 m4 d4:=by
 obtain ⟨⟨b1,m1,d1,rfl,-⟩,⟨b2,m2,d2,rfl,-⟩,⟨b3,m3,d3,rfl,-⟩,b4,m4,d4,rfl,-⟩:=h.rd
 exact ⟨b1,m1,d1,b2,m2,d2,b3,m3,d3,b4,m4,d4,rfl,rfl,rfl,rfl⟩
end Go.Proofs.YtoiblfjafjoaeabGreat
