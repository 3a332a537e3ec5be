/- Texts of ours that stand together: DrawTree, DrawTrees -/
import Derived.Test.YtnojhgckinibgabGreatDrawS
import Derived.Test.YtnojhgckinibgabGreatTreeS
/- The contracts of the draws of chapter 3. -/
namespace Go.Proofs.YtnojhgckinibgabGreat
open Go.RowKit
set_option linter.unusedVariables false
theorem Own.cap {w:World} {B:Nat} {e:TypeId} {size n:Nat} {a:Option Addr} {c:Nat} {xs:List Value} (h:Own w B e size (.slice a n c) n xs):n≤c:=by
 rcases h.1.2 with ⟨h1,_⟩ | ⟨g,cap,cur,h1,_,_,h2,_⟩
 · exact absurd h1 h.2
 · simp only [Value.slice.injEq] at h1
   omega
theorem Upd.setNew {R g o:Nat} {w w9:World} {v:Value} (h:Upd R w w9) (hg:w.heap.size≤g):Upd R w (w9.setCell ⟨g,o,none⟩ v) :=
 ⟨h.os,h.tape,h.output,by simpa [World.setCell] using h.size,fun k hk hr=>(Below.heap_setCell _ _ _ _ (by simp;omega)).trans (h.block k hk hr)⟩
theorem RowI.tail {w:World} {g n:Nat} {l:List Int} (h:RowI w (some ⟨g,0,none⟩) (n+1) l):RowI w (some ⟨g,1,none⟩) n (l.drop 1):=by
 obtain ⟨h1,h2,h3,h4⟩:=h
 refine ⟨by rw [List.length_drop];omega,by omega,fun hn=>⟨g,1,rfl,fun i hi=>?_⟩,fun x hx=>h4 x (List.mem_of_mem_drop hx)⟩
 obtain ⟨b,off,he,hc⟩:=h3 (by omega)
 simp at he
 obtain ⟨rfl,rfl⟩:=he
 have:=hc (1+i) (by omega)
 rw [Nat.zero_add] at this
 rw [this,List.getD_eq_getElem?_getD,List.getD_eq_getElem?_getD,List.getElem?_drop]
end Go.Proofs.YtnojhgckinibgabGreat
/- The contracts of the drawn arguments of chapter 3's laws. -/
namespace Go.Proofs.YtnojhgckinibgabGreat
open Go.RowKit
set_option linter.unusedVariables false
end Go.Proofs.YtnojhgckinibgabGreat
