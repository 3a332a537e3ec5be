/- Texts of ours that stand together: SpecEff3, SpecSer -/
import Derived.Test.YtpnjgmgmakmgeaaGreatEffA
import Derived.Test.YtpnjgmgmakmgeaaGreatSpecS
import Derived.Test.YtpnjgmgmakmgeaaGreatLay
import Derived.Deep.RegionLaw
import Derived.Deep.RegionHeld3
import Derived.Test.YtpnjgmgmakmgeaaGreatSpecX
import Derived.Test.YtpnjgmgmakmgeaaGreatSpecAct
import Derived.Test.YtpnjgmgmakmgeaaGreatEff






/- The contract of the model's ApplyEffect. -/
namespace Go.Proofs.YtpnjgmgmakmgeaaGreat
open Go.RowKit
set_option linter.unusedVariables false
theorem rowE_apart {w w':World} {a:Option Addr} {n:Nat} {row:Option Nat} {l:List Ent} (h:RowE w a n l) (hg:w.grownBy w' row) (hne:0 < n→∀ b o,a=some ⟨b,o,none⟩→some b≠row):RowE w' a n l:=by
 obtain ⟨h1,h2,h3,h4⟩:=h
 refine ⟨h1,h2,fun hl=>?_,h4⟩
 obtain ⟨b,off,he,hc⟩:=h3 hl
 exact ⟨b,off,he,fun i hi=>⟨hg.cell (hc i hi).1 (hne hl b off he),hg.cell (hc i hi).2 (hne hl b off he)⟩⟩
theorem infoEffS:(Tryz.prog.info? 178).map (fun i=>(i.zero,i.size,i.bytes))=some (some (.agg #[.bool false,.slice none 0 0,.slice none 0 0]),3,56):=by kernel_rfl
end Go.Proofs.YtpnjgmgmakmgeaaGreat
