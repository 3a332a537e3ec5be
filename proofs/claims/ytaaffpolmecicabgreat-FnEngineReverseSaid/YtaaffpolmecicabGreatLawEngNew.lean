/- The walk of the law FnEngineOf;a new engine. -/
import Derived.Test.YtaaffpolmecicabGreatDrawFs
import Derived.Test.YtaaffpolmecicabGreatImplEngO
import Derived.Test.YtaaffpolmecicabGreatTenB
import Derived.Test.YtaaffpolmecicabGreatImplTries
import Derived.Test.YtaaffpolmecicabGreatSameEng
import Derived.Test.YtaaffpolmecicabGreatOne
namespace Go.Proofs.YtaaffpolmecicabGreat
open Go.RowKit
set_option linter.unusedVariables false
set_option linter.unusedSimpArgs false
theorem getD_fresh (n k:Nat):(List.replicate n noSlt).getD k noSlt=noSlt:=by
 rw [List.getD_eq_getElem?_getD,List.getElem?_replicate]
 split <;> rfl
theorem vsN_fresh {X:List Eff} (h:∀ k,(X.getD k noEff).wrs=[]):∀ k,vsN X k=[]
 | 0=>rfl
 | k+1=>by
  show putL (vsN X k) (k:Int) (X.getD k noEff).wrs=[]
  rw [vsN_fresh h k,h k];rfl
theorem fresh_ok {S:List Ent} {L:List Acn} (h:storeB S=true) (h2:actsB L=true):EngOk (engOfM S L):=by
 rw [engOfM_yes h h2]
 refine ⟨h,h2,by simp,fun n hn=>?_,?_,fun n hn hs=>?_⟩
 · show slotB (L.getD n noA) n ((List.replicate L.length noSlt).getD n noSlt)=true
   rw [getD_fresh];rfl
 · refine (vsN_fresh (fun k=>?_) _).symm
   rw [resL_get]
   show ((List.replicate L.length noSlt).getD k noSlt).res.wrs=[]
   rw [getD_fresh];rfl
 · unfold stg at hs
   have hs':((List.replicate L.length noSlt).getD n noSlt).stage=2:=hs
   rw [getD_fresh] at hs'
   exact absurd hs' (by decide)
theorem engRd_lens {w:World} {a1 a2 a3 a4:Option Addr} {n1 n2 n3 n4 c1 c2 c3 c4:Nat} {e:Eng} (h:EngRd w (.slice a1 n1 c1) (.slice a2 n2 c2) (.slice a3 n3 c3) (.slice a4 n4 c4) e):e.base.length=n1∧e.slots.length=n4:=by
 obtain ⟨⟨_,_,_,h1,r1,-,-⟩,-,-,_,_,_,h4,r4,-,-⟩:=h
 simp only [Value.slice.injEq] at h1 h4
 obtain ⟨rfl,rfl,rfl⟩:=h1
 obtain ⟨rfl,rfl,rfl⟩:=h4
 exact ⟨r1.1,r4.1⟩
theorem newEng_formN {w:World} {B T:Nat} {t:EngT} {v1 v2 v3 v4:Value} {e:Eng} {ts:List (Value × Value × Value)} (h:EngOwn w B T t v1 v2 v3 v4 e ts):∃ b1 m1 d1 b2 m2 d2 b3 m3 d3 b4 m4 d4,v1 = .slice b1 m1 d1∧v2 = .slice b2 m2 d2∧v3 = .slice b3 m3 d3∧v4 = .slice b4 m4 d4:=by
 obtain ⟨⟨b1,m1,d1,rfl,-⟩,⟨b2,m2,d2,rfl,-⟩,⟨b3,m3,d3,rfl,-⟩,b4,m4,d4,rfl,-⟩:=h.rd
 exact ⟨b1,m1,d1,b2,m2,d2,b3,m3,d3,b4,m4,d4,rfl,rfl,rfl,rfl⟩
theorem drawEngineOf_any (a:Option Addr) (len cap:Nat) (z:List Int) (w:World) (h:RowB w a len z) (hlc:len≤cap) :
  Calls Tryz.prog 37 #[.slice a len cap] w (EntsActsD w):=by
 go_enter Tryz.func37,Tryz.ntmps37
 go_wp2_with fail
 refine (drawRunSerial_any a len cap z w h hlc).mono ?_;rintro e w1 ⟨gS,cS,S,gA,cA,L,rfl,h1,h2,h3,h4,h5,h6⟩
 have H1:=Lib.hid h1;have H2:=Lib.hid h2;have H3:=Lib.hid h3;have H4:=Lib.hid h4;have H5:=Lib.hid h5;have H6:=Lib.hid h6
 clear h1 h2 h3 h4 h5 h6 h
 go_wp2
 go_ret2
 exact ⟨gS,cS,S,gA,cA,L,rfl,H1.out,H2.out,H3.out,H4.out,H5.out,H6.out⟩
end Go.Proofs.YtaaffpolmecicabGreat
