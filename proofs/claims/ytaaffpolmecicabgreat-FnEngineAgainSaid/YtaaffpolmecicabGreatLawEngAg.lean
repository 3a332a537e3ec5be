/- The walk of the law FnEngineAgain (gen15/). -/
import Derived.Test.YtaaffpolmecicabGreatImplE
import Derived.Test.YtaaffpolmecicabGreatEngR
import Derived.Test.YtaaffpolmecicabGreatDrawEng3
import Derived.Test.YtaaffpolmecicabGreatSameEng
import Derived.Test.YtaaffpolmecicabGreatEngLaw2
import Derived.Test.YtaaffpolmecicabGreatOne
namespace Go.Proofs.YtaaffpolmecicabGreat
open Go.RowKit
set_option linter.unusedVariables false
set_option linter.unusedSimpArgs false
theorem newEng_formE {w:World} {B T:Nat} {t:EngT} {v1 v2 v3 v4:Value} {e:Eng} {ts:List (Value × Value × Value)} (h:EngOwn w B T t v1 v2 v3 v4 e ts):∃ b1 m1 d1 b2 m2 d2 b3 m3 d3 b4 m4 d4,v1 = .slice b1 m1 d1∧v2 = .slice b2 m2 d2∧v3 = .slice b3 m3 d3∧v4 = .slice b4 m4 d4:=by
 obtain ⟨⟨b1,m1,d1,rfl,-⟩,⟨b2,m2,d2,rfl,-⟩,⟨b3,m3,d3,rfl,-⟩,b4,m4,d4,rfl,-⟩:=h.rd
 exact ⟨b1,m1,d1,b2,m2,d2,b3,m3,d3,b4,m4,d4,rfl,rfl,rfl,rfl⟩
set_option maxRecDepth 100000 in
set_option maxHeartbeats 8000000 in
theorem lawEngineAgain (a:Option Addr) (len cap:Nat) (z:List Int) (w:World) (h:RowB w a len z) (hc:a=none→cap=0) (hlc:len≤cap) :
  Calls Tryz.prog 13 #[.slice a len cap] w (LawTrue w):=by
 by_cases hs:len≤1048576
 · have hs':¬ (1048576:Int) < (len:Int):=by omega
   go_enter Tryz.func13,Tryz.ntmps13
   go_wp2_with fail
   refine (drawEngineFinish_any a len cap z w h hlc).mono ?_;rintro e w1 ⟨e01,e02,e03,e11,e12,e13,e21,e22,e23,e31,e32,e33,E,rfl,hrd,hsm,hb1⟩
   have HRD:=Lib.hid hrd
   have HSM:=Lib.hid hsm
   have HB1:=Lib.hid hb1
   clear h hs hs' hc hlc hrd hb1 hsm
   go_upto_region 4 with (fail)
   generalize hw2:World.alloc _ _=w2
   have hb2:Below w1.heap.size w1 w2:=by rw [← hw2];exact (Below.refl _ _).alloc (Nat.le_refl _) _
   have hX2:EgAt w2 w1.heap.size (.slice e01 e02 e03) (.slice e11 e12 e13) (.slice e21 e22 e23) (.slice e31 e32 e33):=by rw [← hw2];exact egAt_new w1 _ _ _ _ _
   have HK:=Lib.hid (fun (W:World) (hb:Below w2.heap.size w2 W)=>(⟨hX2.below hb,HRD.out W (hb2.trans (hb.mono hb2.size)),HB1.out.trans ((hb2.trans (hb.mono hb2.size)).mono HB1.out.size)⟩:EgAt W w1.heap.size (.slice e01 e02 e03) (.slice e11 e12 e13) (.slice e21 e22 e23) (.slice e31 e32 e33)∧EngRd W (.slice e01 e02 e03) (.slice e11 e12 e13) (.slice e21 e22 e23) (.slice e31 e32 e33) E∧Below w.heap.size w W))
   obtain ⟨Z,hZe⟩:∃ Z,Z=w1.heap.size:=⟨_,rfl⟩
   rw [← hZe] at HK ⊢
   clear hw2 hb2 hX2 hZe HRD HB1
   obtain ⟨ex,hex⟩:∃ ex,ex=(eFinM E).1:=⟨_,rfl⟩
   obtain ⟨cx,hcx⟩:∃ cx,cx=(eFinM E).2:=⟨_,rfl⟩
   have HEQ:=Lib.hid (⟨hex.symm,hcx.symm⟩:(eFinM E).1=ex∧(eFinM E).2=cx)
   have HYES:Hid (0≤cx→(eFinM ex).2≤0∧((eFinM ex).2 < 0∨(eFinM ex).1=ex)):=Lib.hid (fun h=>by rw [hex];exact fin_again (fin_yes (by rw [← hcx];exact h)).1)
   have hcc:(cx != cx)=false:=by simp
   clear hex hcx
   obtain ⟨⟨m0,m1,m2,m3,-⟩,hr2,-⟩:=HK.out w2 (Below.refl _ _)
   have HC:=Lib.hid (engineFinish_impl _ _ _ _ E w2 hr2)
   clear hr2
   go_wp2_with fail
   refine HC.out.mono ?_;rintro en w3 ⟨x1,x2,x3,x4,tsp,rfl,ho3,hb3⟩
   obtain ⟨p01,p02,p03,p11,p12,p13,p21,p22,p23,p31,p32,p33,rfl,rfl,rfl,rfl⟩:=newEng_formE ho3
   rw [HEQ.out.1] at ho3
   rw [HEQ.out.2]
   have HB3:=Lib.hid hb3
   clear m0 m1 m2 m3 HC hb3
   go_upto_region 5 with (fail)
   generalize hw4:World.alloc _ _=w4
   have hb4:Below w3.heap.size w3 w4:=by rw [← hw4];exact (Below.refl _ _).alloc (Nat.le_refl _) _
   have hX4:EgAt w4 w3.heap.size (.slice p01 p02 p03) (.slice p11 p12 p13) (.slice p21 p22 p23) (.slice p31 p32 p33):=by rw [← hw4];exact egAt_new w3 _ _ _ _ _
   have HKX:=Lib.hid (fun (W:World) (hb:Below w4.heap.size w4 W)=>(⟨hX4.below hb,((ho3.below hb4).below hb).rd,HB3.out.trans ((hb4.trans (hb.mono hb4.size)).mono HB3.out.size)⟩:EgAt W w3.heap.size (.slice p01 p02 p03) (.slice p11 p12 p13) (.slice p21 p22 p23) (.slice p31 p32 p33)∧EngRd W (.slice p01 p02 p03) (.slice p11 p12 p13) (.slice p21 p22 p23) (.slice p31 p32 p33) ex∧Below w2.heap.size w2 W))
   obtain ⟨X,hXe⟩:∃ X,X=w3.heap.size:=⟨_,rfl⟩
   rw [← hXe] at HKX ⊢
   clear hw4 hb4 hX4 hXe HB3 ho3
   obtain ⟨⟨m0,m1,m2,m3,-⟩,hr4,-⟩:=HK.out w4 (HKX.out w4 (Below.refl _ _)).2.2
   have HC:=Lib.hid (engineFinish_spec _ _ _ _ E w4 hr4)
   clear hr4
   go_wp2_with fail
   refine HC.out.mono ?_;rintro en w5 ⟨x1,x2,x3,x4,tsq,rfl,ho5,hb5⟩
   obtain ⟨q01,q02,q03,q11,q12,q13,q21,q22,q23,q31,q32,q33,rfl,rfl,rfl,rfl⟩:=newEng_formE ho5
   rw [HEQ.out.1] at ho5
   rw [HEQ.out.2]
   have HB5:=Lib.hid hb5
   clear m0 m1 m2 m3 HC hb5
   go_upto_region 6 with (fail)
   generalize hw6:World.alloc _ _=w6
   have hb6:Below w5.heap.size w5 w6:=by rw [← hw6];exact (Below.refl _ _).alloc (Nat.le_refl _) _
   have hX6:EgAt w6 w5.heap.size (.slice q01 q02 q03) (.slice q11 q12 q13) (.slice q21 q22 q23) (.slice q31 q32 q33):=by rw [← hw6];exact egAt_new w5 _ _ _ _ _
   have HKY:=Lib.hid (fun (W:World) (hb:Below w6.heap.size w6 W)=>(⟨hX6.below hb,((ho5.below hb6).below hb).rd,HB5.out.trans ((hb6.trans (hb.mono hb6.size)).mono HB5.out.size)⟩:EgAt W w5.heap.size (.slice q01 q02 q03) (.slice q11 q12 q13) (.slice q21 q22 q23) (.slice q31 q32 q33)∧EngRd W (.slice q01 q02 q03) (.slice q11 q12 q13) (.slice q21 q22 q23) (.slice q31 q32 q33) ex∧Below w4.heap.size w4 W))
   obtain ⟨Y,hYe⟩:∃ Y,Y=w5.heap.size:=⟨_,rfl⟩
   rw [← hYe] at HKY ⊢
   clear hw6 hb6 hX6 hYe HB5 ho5
   obtain ⟨⟨m0,m1,m2,m3,-⟩,hrx,-⟩:=HKX.out w6 (HKY.out w6 (Below.refl _ _)).2.2
   obtain ⟨⟨n0,n1,n2,n3,-⟩,hry,-⟩:=HKY.out w6 (Below.refl _ _)
   have HC:=Lib.hid (sameEngine_same _ _ _ _ _ _ _ _ ex w6 hrx hry)
   clear hrx hry
   by_cases hneg:cx < 0
   · have hd8:decide (cx < 0)=true:=by simp;exact hneg
     go_wp2_with fail
     refine HC.out.mono ?_;rintro en w7 ⟨rfl,hb7⟩
     clear m0 m1 m2 m3 n0 n1 n2 n3 HC
     go_wp2_with fail
     refine (alive_any _).mono ?_;rintro en w8 ⟨rfl,hb8⟩
     have HBF:=Lib.hid (HK.out w8 (HKX.out w8 (HKY.out w8 (hb7.trans (hb8.mono hb7.size))).2.2).2.2).2.2
     clear hb7 hb8
     go_wp2
     go_ret
     exact ⟨rfl,HBF.out⟩
   · have hd8:decide (cx < 0)=false:=by simp;omega
     obtain ⟨ez,hez⟩:∃ ez,ez=(eFinM ex).1:=⟨_,rfl⟩
     obtain ⟨cz,hcz⟩:∃ cz,cz=(eFinM ex).2:=⟨_,rfl⟩
     have HEZ:=Lib.hid (⟨hez.symm,hcz.symm⟩:(eFinM ex).1=ez∧(eFinM ex).2=cz)
     have hy:=HYES.out (by omega)
     rw [← hez,← hcz] at hy
     have HY:=Lib.hid hy
     clear hy hez hcz hneg
     go_wp2_with fail
     refine HC.out.mono ?_;rintro en w7 ⟨rfl,hb7⟩
     have HY7:=Lib.hid hb7
     clear m0 m1 m2 m3 n0 n1 n2 n3 HC hb7
     obtain ⟨⟨m0,m1,m2,m3,-⟩,hr7,-⟩:=HKX.out w7 (HKY.out w7 HY7.out).2.2
     have HC:=Lib.hid (engineFinish_impl _ _ _ _ ex w7 hr7)
     clear hr7
     go_wp2_with fail
     refine HC.out.mono ?_;rintro en w8 ⟨x1,x2,x3,x4,tsr,rfl,ho8,hb8⟩
     obtain ⟨r01,r02,r03,r11,r12,r13,r21,r22,r23,r31,r32,r33,rfl,rfl,rfl,rfl⟩:=newEng_formE ho8
     rw [HEZ.out.1] at ho8
     rw [HEZ.out.2]
     have HY8:=Lib.hid (HY7.out.trans (hb8.mono HY7.out.size))
     clear m0 m1 m2 m3 HC hb8 HY7
     go_upto_region 11 with (fail)
     generalize hw9:World.alloc _ _=w9
     have hb9:Below w8.heap.size w8 w9:=by rw [← hw9];exact (Below.refl _ _).alloc (Nat.le_refl _) _
     have hX9:EgAt w9 w8.heap.size (.slice r01 r02 r03) (.slice r11 r12 r13) (.slice r21 r22 r23) (.slice r31 r32 r33):=by rw [← hw9];exact egAt_new w8 _ _ _ _ _
     have HY9:=Lib.hid (HY8.out.trans (hb9.mono HY8.out.size))
     have hr9:=(ho8.below hb9).rd
     obtain ⟨V,hVe⟩:∃ V,V=w8.heap.size:=⟨_,rfl⟩
     rw [← hVe] at hX9 ⊢
     clear hw9 hb9 hVe ho8 HY8
     have hz0:decide (cz≤0)=true:=by simp;exact HY.out.1
     by_cases hz:cz < 0
     · have hz1:decide (cz < 0)=true:=by simp;exact hz
       have HBF:=Lib.hid (HK.out w9 (HKX.out w9 (HKY.out w9 HY9.out).2.2).2.2).2.2
       clear hr9 hX9
       go_wp2
       go_ret
       exact ⟨rfl,HBF.out⟩
     · have hz1:decide (cz < 0)=false:=by simp;omega
       obtain rfl:ez=ex:=HY.out.2.resolve_left hz
       obtain ⟨⟨m0,m1,m2,m3,-⟩,hrx,-⟩:=HKX.out w9 (HKY.out w9 HY9.out).2.2
       have HC:=Lib.hid (sameEngine_same _ _ _ _ _ _ _ _ ez w9 hr9 hrx)
       obtain ⟨n0,n1,n2,n3,-⟩:=hX9
       clear hr9 hrx
       go_wp2_with fail
       refine HC.out.mono ?_;rintro en w10 ⟨rfl,hb10⟩
       have HBF:=Lib.hid (HK.out w10 (HKX.out w10 (HKY.out w10 (HY9.out.trans (hb10.mono HY9.out.size))).2.2).2.2).2.2
       clear hb10 m0 m1 m2 m3 n0 n1 n2 n3 HC
       go_wp2
       go_ret
       exact ⟨rfl,HBF.out⟩
 · have hs':(1048576:Int) < (len:Int):=by omega
   clear h hlc
   go_enter Tryz.func13,Tryz.ntmps13
   go_wp2
   go_ret
   exact ⟨rfl,Below.refl _ _⟩
end Go.Proofs.YtaaffpolmecicabGreat
