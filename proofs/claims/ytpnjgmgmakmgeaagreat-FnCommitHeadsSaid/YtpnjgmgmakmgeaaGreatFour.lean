/- Texts of ours that stand together: ImplLay, ImplWrit, ImplList, ImplSeen, ImplLayers, ImplFork -/
import Derived.Test.YtpnjgmgmakmgeaaGreatTwo
import Derived.Test.YtpnjgmgmakmgeaaGreatLay
import Derived.StillTailTactics
import Derived.Test.YtpnjgmgmakmgeaaGreatLayP
import Derived.Deep.RegionWith





/- The contracts of the program's isLayer,isLayerOrStore,areWrites,LayersValid. -/
namespace Go.Proofs.YtpnjgmgmakmgeaaGreat
open Go.RowKit
set_option linter.unusedVariables false
open Go.RowKit Go.Maps
def OwnW (K:Nat) (w:World) (B T:Nat) (v:Value) (L:List Lay):Prop:=∃ xs,Own2 w B T 211 2 v L.length ((L.map some).flatMap (wlC K)) xs
theorem OwnW.below {K:Nat} {w w':World} {B T:Nat} {v:Value} {L:List Lay} (h:OwnW K w B T v L) (hb:Below w.heap.size w w'):OwnW K w' B T v L:=by
 obtain ⟨xs,h1⟩:=h;exact ⟨xs,h1.below hb⟩
theorem wlC_get (K:Nat) (L:List Lay) (i:Nat) (h:i < L.length):((L.map some).flatMap (wlC K))[i*2]? = some (.int (L.getD i (0,[])).1)∧((L.map some).flatMap (wlC K))[i*2+1]? = some (.mapF K (findM (L.getD i (0,[])).2)):=by
 have hs:(L.map some)[i]? = some (some (L.getD i (0,[]))):=by rw [List.getElem?_map,getD_some L i (0,[]) h];rfl
 have h0:=flatMap_get (wlC K) 2 (wlC_len K) _ i 0 _ hs (by omega)
 have h1:=flatMap_get (wlC K) 2 (wlC_len K) _ i 1 _ hs (by omega)
 rw [Nat.add_zero] at h0
 exact ⟨h0,h1⟩
theorem OwnW.at {K:Nat} {w:World} {B T g n cap:Nat} {L:List Lay} (h:OwnW K w B T (.slice (some ⟨g,0,none⟩) n cap) L) (i:Nat) (hi:i < L.length) :
  ∃ m,w.cell? ⟨g,i*2,none⟩=some (.int .i64 (L.getD i (0,[])).1)∧w.cell? ⟨g,i*2+1,none⟩=some (.map (some m))∧MapF w m K (findM (L.getD i (0,[])).2)∧n=L.length:=by
 obtain ⟨xs,h1⟩:=h
 have hn:n=L.length:=by
  rcases slice_of_owns h1.1 with ⟨h2,_⟩ | ⟨g',cap',h2,_⟩
  · cases h2
  · simp at h2;exact h2.2.1
 subst hn
 obtain ⟨c0,c1⟩:=wlC_get K L i hi
 obtain ⟨x,hx,hcx,hox,-⟩:=h1.at c0
 obtain ⟨y,hy,hcy,hoy,-⟩:=h1.at c1
 obtain ⟨m,rfl,hm⟩:=hoy
 exact ⟨m,by rw [hcx,hox.1],hcy,hm,rfl⟩
def FillW (w:World) (B g n:Nat) (L:List Lay) (k:Nat):Prop:=∃ xs,Own2 w B w.heap.size 211 2 (.slice (some ⟨g,0,none⟩) n n) n ((fillO L k).flatMap (wlC 100)) xs
theorem FillW.store {w:World} {B g n:Nat} {L:List Lay} {k T:Nat} {xs:List Value} (h:Own2 w B T 211 2 (.slice (some ⟨g,0,none⟩) n n) n ((fillO L k).flatMap (wlC 100)) xs) (hk:k < L.length) (m:Nat) (hm:MapF w m 100 (findM (L.getD k (0,[])).2)) (hT:T≤m) (hB:B≤T)
  (hw:(Lit.int .i64 (L.getD k (0,[])).1).wf=true) (hTw:T≤w.heap.size):FillW ((w.setCell ⟨g,k*2,none⟩ (.int .i64 (L.getD k (0,[])).1)).setCell ⟨g,k*2+1,none⟩ (.map (some m))) B g n L (k+1):=by
 have h1:=h.store2 (T':=w.heap.size) k (.int (L.getD k (0,[])).1) (.mapF 100 (findM (L.getD k (0,[])).2)) (.int .i64 (L.getD k (0,[])).1) (.map (some m)) (fun _=>⟨rfl,hw⟩) rfl ⟨m,rfl,hm⟩ (fun b hb=>by simp [blk] at hb;have:=hm.lt;omega) hTw hB
 rw [← flatMap_set2 (wlC 100) (wlC_len 100) (fillO L k) k (some (L.getD k (0,[]))) _ _ (by rw [fillO_len L k (by omega)];exact hk) rfl,fillO_set L k (0,[]) hk] at h1
 exact ⟨_,h1.mono (Nat.le_refl _) (by simp [World.setCell])⟩
theorem wlC_cases (K:Nat) (L:List Lay) (i:Nat) (c:Cel) (h:((L.map some).flatMap (wlC K))[i]? = some c):∃ j,j < L.length∧((i=j*2∧c = .int (L.getD j (0,[])).1)∨(i=j*2+1∧c = .mapF K (findM (L.getD j (0,[])).2))):=by
 have hi:=(List.getElem?_eq_some_iff.1 h).1
 rw [flatMap_len (wlC K) 2 (wlC_len K),List.length_map] at hi
 have hj:i / 2 < L.length:=by omega
 obtain ⟨h0,h1⟩:=wlC_get K L (i / 2) hj
 rcases (by omega:i=i / 2*2∨i=i / 2*2+1) with e | e
 · rw [← e,h] at h0;exact ⟨_,hj,.inl ⟨e,Option.some.inj h0⟩⟩
 · rw [← e,h] at h1;exact ⟨_,hj,.inr ⟨e,Option.some.inj h1⟩⟩
theorem OwnW.more {K K':Nat} {w:World} {B T:Nat} {v:Value} {L:List Lay} (h:OwnW K w B T v L) (hK:K≤K'):OwnW K' w B T v L:=by
 obtain ⟨xs,h1⟩:=h
 refine ⟨xs,h1.imp (by rw [flatMap_len _ 2 (wlC_len K),flatMap_len _ 2 (wlC_len K')]) fun i c c' x hc hc' ho=>?_⟩
 obtain ⟨j,hj,⟨e,rfl⟩ | ⟨e,rfl⟩⟩:=wlC_cases K L i c hc
 · obtain ⟨j',hj',⟨e',rfl⟩ | ⟨e',rfl⟩⟩:=wlC_cases K' L i c' hc'
   · obtain rfl:j=j':=by omega
     exact ho
   · omega
 · obtain ⟨j',hj',⟨e',rfl⟩ | ⟨e',rfl⟩⟩:=wlC_cases K' L i c' hc'
   · omega
   · obtain rfl:j=j':=by omega
     obtain ⟨b,rfl,hm⟩:=ho
     exact ⟨b,rfl,hm.mono hK⟩
theorem OwnW.write {w:World} {B T g cap:Nat} {L:List Lay} (h:OwnW 100 w B T (.slice (some ⟨g,0,none⟩) L.length cap) L) (j:Nat) (hj:j < L.length) (hA:Asc (L.getD j (0,[])).2) :
  ∃ m,w.cell? ⟨g,j*2+1,none⟩=some (.map (some m))∧MapF w m 100 (findM (L.getD j (0,[])).2)∧B≤m ∧
   ∀ key val w',MapF w' m 101 (updF (findM (L.getD j (0,[])).2) key val)→w.grownBy w' (some m)→OwnW 101 w' B T (.slice (some ⟨g,0,none⟩) L.length cap) (writeL L j key val):=by
 obtain ⟨xs,h1⟩:=h.more (show 100≤101 by omega)
 obtain ⟨xs0,h0⟩:=h
 obtain ⟨m,hc1,hc2,hm,-⟩:=(show OwnW 100 w B T (.slice (some ⟨g,0,none⟩) L.length cap) L from ⟨xs0,h0⟩).at j hj
 obtain ⟨x,hx,hcx,hox,hbx⟩:=h1.at (wlC_get 101 L j hj).2
 rw [hc2] at hcx
 obtain rfl:x = .map (some m):=(Option.some.inj hcx).symm
 refine ⟨m,hc2,hm,(hbx m rfl).1,fun key val w' hm' hg=>?_⟩
 have h2:=h1.inner (j*2+1) (.mapF 101 (findM (pm key val (L.getD j (0,[])).2))) hx hg (fun p hp=>by cases hp;rfl) ⟨m,rfl,by rw [findM_pm' hA];exact hm'⟩
 rw [← flatMap_set (wlC 101) 2 (wlC_len 101) (L.map some) j 1 (some (L.getD j (0,[]))) (some ((L.getD j (0,[])).1,pm key val (L.getD j (0,[])).2)) _ (by rw [List.getElem?_map,getD_some L j (0,[]) hj];rfl) (by omega) rfl,← List.map_set] at h2
 have e:writeL L (j:Int) key val=L.set j ((L.getD j (0,[])).1,pm key val (L.getD j (0,[])).2):=by simp [writeL]
 rw [OwnW,e,List.length_set]
 exact ⟨xs,h2⟩
end Go.Proofs.YtpnjgmgmakmgeaaGreat
