/- Texts of ours that stand together: ImplTr2, ImplTr3, ImplTr4 -/
import Derived.Test.YtolhdacbahgfgabTrM
import Derived.Test.YtolhdacbahgfgabActs
import Derived.Test.YtolhdacbahgfgabTrI
import Derived.Lib.BufferMore
import Derived.Test.YtolhdacbahgfgabTwo
import Derived.Deep.Cut
import Derived.StillTailTactics
import Derived.Test.YtolhdacbahgfgabBkI
import Derived.Test.YtolhdacbahgfgabRegO
import Derived.Deep.RegionHeld3
import Derived.Deep.RegionLaw
import Derived.Test.YtolhdacbahgfgabImplSer









/- The contract of the program's indexedTree.put (gen16/put.py). -/
namespace Go.Proofs.Ytolhdacbahgfgab
open Go.RowKit Go.Maps
set_option linter.unusedVariables false
set_option linter.unusedSimpArgs false
theorem infoIntP:(Try.prog.info? 3).map (fun i=>(i.zero,i.size,i.bytes))=some (some (.int .i64 0),1,8):=by kernel_rfl
theorem RowA.stay {w w':World} {a:Option Addr} {n:Nat} {row:Option Nat} {l:List Acn} (h:RowA w a n l) (hg:w.grownBy w' row) (hne:0 < n→∀ p o,a=some ⟨p,o,none⟩→some p≠row):RowA w' a n l:=by
 obtain ⟨h1,h2,h3,h4⟩:=h
 refine ⟨h1,h2,fun hl=>?_,h4⟩
 obtain ⟨b',off,he,hc⟩:=h3 hl
 have hn:=hne hl b' off he
 refine ⟨b',off,he,fun i hi=>?_⟩
 obtain ⟨c1,c2,c3,c4⟩:=hc i hi
 exact ⟨World.grownBy.cell hg c1 hn,World.grownBy.cell hg c2 hn,World.grownBy.cell hg c3 hn,World.grownBy.cell hg c4 hn⟩
end Go.Proofs.Ytolhdacbahgfgab
/- The contract of the program's newTree (gen16/newtree.py). -/
namespace Go.Proofs.Ytolhdacbahgfgab
open Go.RowKit Go.Maps
set_option linter.unusedVariables false
set_option linter.unusedSimpArgs false
end Go.Proofs.Ytolhdacbahgfgab
/- The contract of the program's indexedTreeOf (gen16/ixof.py). -/
namespace Go.Proofs.Ytolhdacbahgfgab
open Go.RowKit
set_option linter.unusedVariables false
set_option linter.unusedSimpArgs false
end Go.Proofs.Ytolhdacbahgfgab
