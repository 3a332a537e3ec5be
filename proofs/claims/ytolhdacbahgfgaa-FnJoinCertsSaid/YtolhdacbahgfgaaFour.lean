/- Texts of ours that stand together: ImplLay, ImplWrit, ImplList, ImplSeen, ImplLayers, ImplFork -/
import Derived.Test.YtolhdacbahgfgaaTwo
import Derived.Test.YtolhdacbahgfgaaImplWr
import Derived.Test.YtolhdacbahgfgaaLay
import Derived.StillTailTactics
import Derived.Test.YtolhdacbahgfgaaLayP
import Derived.Deep.RegionWith
/- The contracts of the program's isLayer,isLayerOrStore,areWrites,LayersValid. -/
namespace Go.Proofs.Ytolhdacbahgfgaa
open Go.RowKit
set_option linter.unusedVariables false
end Go.Proofs.Ytolhdacbahgfgaa
/- The contracts of the program's writtenLayers,writtenAt,writes,listOf. -/
namespace Go.Proofs.Ytolhdacbahgfgaa
open Go.RowKit Go.Maps
set_option linter.unusedVariables false
theorem wlC_get (K:Nat) (L:List Lay) (i:Nat) (h:i < L.length):((L.map some).flatMap (wlC K))[i*2]? = some (.int (L.getD i (0,[])).1)∧((L.map some).flatMap (wlC K))[i*2+1]? = some (.mapF K (findM (L.getD i (0,[])).2)):=by
 have hs:(L.map some)[i]? = some (some (L.getD i (0,[]))):=by rw [List.getElem?_map,getD_some L i (0,[]) h];rfl
 have h0:=flatMap_get (wlC K) 2 (wlC_len K) _ i 0 _ hs (by omega)
 have h1:=flatMap_get (wlC K) 2 (wlC_len K) _ i 1 _ hs (by omega)
 rw [Nat.add_zero] at h0
 exact ⟨h0,h1⟩
end Go.Proofs.Ytolhdacbahgfgaa
/- The contract of the program's listOf. -/
namespace Go.Proofs.Ytolhdacbahgfgaa
open Go.RowKit Go.Maps
set_option linter.unusedVariables false
end Go.Proofs.Ytolhdacbahgfgaa
/- The contract of the program's seenIn. -/
namespace Go.Proofs.Ytolhdacbahgfgaa
open Go.RowKit Go.Maps
set_option linter.unusedVariables false
end Go.Proofs.Ytolhdacbahgfgaa
/- The contracts of the program's LayerRead,LayerStore,ForkLayer,LayerWrite. -/
namespace Go.Proofs.Ytolhdacbahgfgaa
open Go.RowKit Go.Maps
set_option linter.unusedVariables false
end Go.Proofs.Ytolhdacbahgfgaa
/- The contracts of the program's ForkLayer and LayerWrite. -/
namespace Go.Proofs.Ytolhdacbahgfgaa
open Go.RowKit Go.Maps
set_option linter.unusedVariables false
theorem wlC_cases (K:Nat) (L:List Lay) (i:Nat) (c:Cel) (h:((L.map some).flatMap (wlC K))[i]? = some c):∃ j,j < L.length∧((i=j*2∧c = .int (L.getD j (0,[])).1)∨(i=j*2+1∧c = .mapF K (findM (L.getD j (0,[])).2))):=by
 have hi:=(List.getElem?_eq_some_iff.1 h).1
 rw [flatMap_len (wlC K) 2 (wlC_len K),List.length_map] at hi
 have hj:i / 2 < L.length:=by omega
 obtain ⟨h0,h1⟩:=wlC_get K L (i / 2) hj
 rcases (by omega:i=i / 2*2∨i=i / 2*2+1) with e | e
 · rw [← e,h] at h0;exact ⟨_,hj,.inl ⟨e,Option.some.inj h0⟩⟩
 · rw [← e,h] at h1;exact ⟨_,hj,.inr ⟨e,Option.some.inj h1⟩⟩
end Go.Proofs.Ytolhdacbahgfgaa
