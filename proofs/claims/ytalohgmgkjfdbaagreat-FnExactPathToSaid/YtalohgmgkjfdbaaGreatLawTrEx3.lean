/- The walk of the exact law of PathTo (gen16/lawpath.py). -/
import Derived.Test.YtalohgmgkjfdbaaGreatPathTr
import Derived.Test.YtalohgmgkjfdbaaGreatCvB
import Derived.Test.YtalohgmgkjfdbaaGreatLawTrEx
import Derived.Test.YtalohgmgkjfdbaaGreatMarkTr
import Derived.Test.YtalohgmgkjfdbaaGreatConv

import Derived.Deep.RegionHeld3
namespace Go.Proofs.YtalohgmgkjfdbaaGreat
open Go.RowKit
set_option linter.unusedVariables false
set_option linter.unusedSimpArgs false
theorem owns_turnP {w w':World} {B C T:Nat} {e:TypeId} {size n:Nat} {v:Value} {xs:List Value} (h:w.ownsRow B e size v n xs) (ht:Turn C T w w') (hd:∀ b,blk v=some b→b < C∨T≤b):w'.ownsRow B e size v n xs :=
 owns_keep h (fun b hb=>by have h2:=hb;rw [owns_blk h] at h2;exact ht.block b (h.lt b h2).2 (hd b hb))
theorem owns_lo {w:World} {B:Nat} {e:TypeId} {size n:Nat} {v:Value} {xs:List Value} (h:w.ownsRow B e size v n xs):∀ b,blk v=some b→B≤b:=fun b hb=>by
 rw [owns_blk h] at hb;exact (h.lt b hb).1
theorem owns_hi {w:World} {B:Nat} {e:TypeId} {size n:Nat} {v:Value} {xs:List Value} (h:w.ownsRow B e size v n xs):∀ b,blk v=some b→b < w.heap.size:=fun b hb=>by
 rw [owns_blk h] at hb;exact (h.lt b hb).2
set_option maxRecDepth 100000 in
set_option maxHeartbeats 8000000 in
theorem lawExactPathTo (a1:Option Addr) (n1 c1:Nat) (a2:Option Addr) (n2 c2:Nat) (a3:Option Addr) (n3 c3:Nat) (t:Tre) (x:Int) (w:World) (h:TreRd w (.slice a1 n1 c1) (.slice a2 n2 c2) (.slice a3 n3 c3) t) (hxw:(Lit.int .i64 x).wf=true) :
  Calls Tryz.prog 7 #[.agg #[.slice a1 n1 c1,.slice a2 n2 c2,.slice a3 n3 c3],.int .i64 x] w (LawTrue w):=by
 have hb0:=(Below.refl w.heap.size w).alloc (Nat.le_refl _) (.cells #[.slice a1 n1 c1,.slice a2 n2 c2,.slice a3 n3 c3] 38)
 have hg0:=trAt_new w 38 (.slice a1 n1 c1) (.slice a2 n2 c2) (.slice a3 n3 c3)
 obtain ⟨W1,hW1⟩:∃ W1,W1=w.alloc (.cells #[.slice a1 n1 c1,.slice a2 n2 c2,.slice a3 n3 c3] 38):=⟨_,rfl⟩
 have hzz:w.heap.size < W1.heap.size:=by rw [hW1];simp
 have HW1:=Lib.hid hW1
 rw [← hW1] at hb0 hg0
 clear hW1
 have hKK:∀ W',Below W1.heap.size W1 W'→(W'.cell? ⟨w.heap.size,0,none⟩=some (.slice a1 n1 c1)∧W'.cell? ⟨w.heap.size,1,none⟩=some (.slice a2 n2 c2)∧W'.cell? ⟨w.heap.size,2,none⟩=some (.slice a3 n3 c3))∧TreRd W' (.slice a1 n1 c1) (.slice a2 n2 c2) (.slice a3 n3 c3) t∧Below w.heap.size w W':=fun W' hb =>
  ⟨⟨below_cell hb hzz hg0.c0,below_cell hb hzz hg0.c1,below_cell hb hzz hg0.c2⟩,(h.below hb0).below hb,hb0.trans (hb.mono hb0.size)⟩
 have HKK:=Lib.hid hKK
 clear hKK hb0 hg0 h
 go_enter Tryz.func7,Tryz.ntmps7
 go_upto_region 1 with (fail)
 rw [← HW1.out]
 clear HW1
 obtain ⟨⟨k0,k1,k2⟩,kr,-⟩:=HKK.out W1 (Below.refl _ _)
 go_wp2_with fail
 refine (szBlockTree_any _ _ _ t 1048576 _ kr (by omega) (by omega)).mono ?_;rintro e1 w1 ⟨rfl,hb1⟩
 have HB1:=Lib.hid hb1
 clear k0 k1 k2 kr hb1
 by_cases hw:((wtTre t:Nat):Int)≤1048576
 · have hs:decide (szNt (wtTre t) 1048576 < 0)=false:=by rw [szNt_yes hw];simp;omega
   have hwn:wtTre t≤1048576:=by omega
   obtain ⟨sz,hsz⟩:∃ sz,sz=szNt (wtTre t) 1048576:=⟨_,rfl⟩
   rw [← hsz] at hs ⊢
   have HWN:=Lib.hid hwn
   clear hsz hw hwn
   obtain ⟨P,hP⟩:∃ P,pathM t x=P:=⟨_,rfl⟩
   have HP:=Lib.hid hP
   clear hP
   obtain ⟨⟨k0,k1,k2⟩,kr,-⟩:=HKK.out w1 HB1.out
   go_wp2_with fail
   refine (toBlockTree_any _ _ _ t _ kr HWN.out).mono ?_;rintro e1 w2 ⟨u1,u2,u3,ts,rfl,ho2,hb2⟩
   obtain ⟨b1,m1,d1,b2,m2,d2,b3,m3,d3,rfl,rfl,rfl⟩:=newTre_form ho2
   have HO2:=Lib.hid ho2.rd
   have HB2:=Lib.hid (HB1.out.trans (hb2.mono HB1.out.size))
   clear k0 k1 k2 kr ho2 hb2 HB1
   go_wp2_with fail
   refine (pathTo_spec _ _ _ t x _ HO2.out).mono ?_;rintro e1 w3 ⟨vw,rfl,how,hwf,hlen,hb3⟩
   rw [HP.out] at how hwf hlen
   have HB3:=Lib.hid (HB2.out.trans (hb3.mono HB2.out.size))
   obtain ⟨aw,cw,rfl,-⟩:=rowI_of_owns how (by unfold maxLen;omega) hwf
   have HWF:=Lib.hid hwf
   have HLEN:=Lib.hid hlen
   have HOW3:=Lib.hid how
   have HWH:=Lib.hid (owns_hi how)
   obtain ⟨⟨k0,k1,k2⟩,kr,-⟩:=HKK.out w3 HB3.out
   clear hb3 HB2 HO2 how hwf hlen
   go_wp2_with fail
   refine (toBlockTree_any _ _ _ t _ kr HWN.out).mono ?_;rintro e1 w4 ⟨u1,u2,u3,ts4,rfl,ho4,hb4⟩
   obtain ⟨x1,y1,z1,x2,y2,z2,x3,y3,z3,rfl,rfl,rfl⟩:=newTre_form ho4
   have HOW4:=Lib.hid (owns_below HOW3.out hb4)
   have HO4:=Lib.hid ho4
   have HB4:=Lib.hid (HB3.out.trans (hb4.mono HB3.out.size))
   have hs13:=HB3.out.size
   have hs34:=hb4.size
   clear k0 k1 k2 kr ho4 hb4 HB3 HOW3
   go_upto_region 7 with (fail)
   generalize hw5:World.alloc _ _=w5
   have hb5:Below w4.heap.size w4 w5:=by rw [← hw5];exact (Below.refl _ _).alloc (Nat.le_refl _) _
   have hz5:w4.heap.size < w5.heap.size:=by rw [← hw5];simp
   have q0:w5.cell? ⟨w4.heap.size,0,none⟩=some (.slice x1 y1 z1):=by rw [← hw5];simp [go_sem]
   have q1:w5.cell? ⟨w4.heap.size,1,none⟩=some (.slice x2 y2 z2):=by rw [← hw5];simp [go_sem]
   have q2:w5.cell? ⟨w4.heap.size,2,none⟩=some (.slice x3 y3 z3):=by rw [← hw5];simp [go_sem]
   have HB5:=Lib.hid (HB4.out.trans (hb5.mono HB4.out.size))
   have HO5:=Lib.hid (HO4.out.below hb5)
   have HOW5:=Lib.hid (owns_below HOW4.out hb5)
   clear hw5 hb5 HB4 HO4 HOW4
   go_wp2_with fail
   refine (pathTo_impl _ _ _ t x _ HO5.out.rd).mono ?_;rintro e1 w6 ⟨vg,rfl,hog,-,-,hb6⟩
   rw [HP.out] at hog
   obtain ⟨ag,cg,rfl,hrg⟩:=rowI_of_owns hog (by have:=HLEN.out;unfold maxLen;omega) HWF.out
   have HB6:=Lib.hid (HB5.out.trans (hb6.mono HB5.out.size))
   have HO6:=Lib.hid (HO5.out.below hb6)
   have HOW6:=Lib.hid (owns_below HOW5.out hb6)
   have HOG6:=Lib.hid hog
   have HGL:=Lib.hid (owns_lo hog)
   have q0:=below_cell hb6 hz5 q0
   have q1:=below_cell hb6 hz5 q1
   have q2:=below_cell hb6 hz5 q2
   have hs56:=hb6.size
   have hrw:RowI w6 aw P.length P:=rowI_owned HOW6.out (by have:=HLEN.out;omega) HWF.out
   clear hb6 HB5 HO5 hog HOW5
   go_wp2_with fail
   refine (eqIntS_same _ _ _ cg cw P _ hrg hrw).mono ?_;rintro e1 w7 ⟨rfl,hb7⟩
   have HB7:=Lib.hid (HB6.out.trans (hb7.mono HB6.out.size))
   have HO7:=Lib.hid (HO6.out.below hb7)
   have HOW7:=Lib.hid (owns_below HOW6.out hb7)
   have HOG7:=Lib.hid (owns_below HOG6.out hb7)
   have hz6:w4.heap.size < w6.heap.size:=by omega
   have q0:=below_cell hb7 hz6 q0
   have q1:=below_cell hb7 hz6 q1
   have q2:=below_cell hb7 hz6 q2
   have hz7:w4.heap.size < w7.heap.size:=by have:=hb7.size;omega
   have hzw:w.heap.size < w7.heap.size:=by have:=HB7.out.size;omega
   obtain ⟨⟨k0,k1,k2⟩,-,-⟩:=HKK.out w7 HB7.out
   clear hb7 HB6 HO6 HOW6 HOG6 hrg hrw hz6 hs56
   have HKP:=Lib.hid (fun W' (hb:Below w7.heap.size w7 W')=>(⟨⟨below_cell hb hz7 q0,below_cell hb hz7 q1,below_cell hb hz7 q2⟩,below_cell hb hzw k0,below_cell hb hzw k1,below_cell hb hzw k2⟩:(_∧_∧_)∧_∧_∧_))
   have HKR:=Lib.hid (HKK.out w7 HB7.out).2.1
   have HOR:=HO7
   replace HO7:=Lib.hid HO7.out.rd
   go_upto_region 10 with (fail)
   go_region_held3 (fun w'=>(w'.cell? ⟨w4.heap.size,0,none⟩=some (.slice x1 y1 z1)∧w'.cell? ⟨w4.heap.size,1,none⟩=some (.slice x2 y2 z2)∧w'.cell? ⟨w4.heap.size,2,none⟩=some (.slice x3 y3 z3))∧w'.cell? ⟨w.heap.size,0,none⟩=some (.slice a1 n1 c1)∧w'.cell? ⟨w.heap.size,1,none⟩=some (.slice a2 n2 c2)∧w'.cell? ⟨w.heap.size,2,none⟩=some (.slice a3 n3 c3)) (first | exact ⟨⟨q0,q1,q2⟩,k0,k1,k2⟩ | exact hkp | exact hkp2 | go_keep)
    (first | (go_at_call 26;refine (toBlockTree_any _ _ _ t w7.drew (HKR.out.below (Below.refl _ _).drew) HWN.out).mono ?_;rintro e1 w8 ⟨u1,u2,u3,ts8,rfl,ho8,hb8'⟩;obtain ⟨f1,g1,j1,f2,g2,j2,f3,g3,j3,rfl,rfl,rfl⟩:=newTre_form ho8;have hb8:=(Below.refl w7.heap.size w7).drew.trans hb8';have hkp:=HKP.out _ hb8) | (go_at_call 19;refine (eqBlockTree_same _ _ _ _ _ _ t _ (HO7.out.below hb8) ho8.rd).mono ?_;rintro e1 w9 ⟨rfl,hb9'⟩;have hb9:=hb8.trans (hb9'.mono hb8.size);have hkp2:=HKP.out _ hb9))
   have HB9:=Lib.hid (HB7.out.trans (hb9.mono HB7.out.size))
   have HO9:=Lib.hid (HOR.out.below hb9)
   have HOW9:=Lib.hid (owns_below HOW7.out hb9)
   have HOG9:=Lib.hid (owns_below HOG7.out hb9)
   have hs79:=hb9.size
   obtain ⟨⟨q0,q1,q2⟩,k0,k1,k2⟩:=HKP.out _ hb9
   clear hkp hkp2 hb9 hb9' hb8 hb8' ho8 HOR HOW7 HOG7 HO7 HKR HKP HB7
   obtain ⟨mt,hmt⟩:∃ m,m=mkTreN t:=⟨_,rfl⟩
   have hk13:decide ((1:Int)+(mt:Int) < 0)=false:=by simp;omega
   have hwt3:t.base.length≤1048576∧wtBks t.blocks≤1048576∧t.bef.length≤1048576:=by
    have:=HWN.out;unfold wtTre at this;omega
   have HW3:=Lib.hid hwt3
   clear hwt3
   go_wp2_with fail
   refine (markBlockTree_own _ _ _ _ _ t ts4 1 _ HO9.out HW3.out.1 HW3.out.2.1 HW3.out.2.2 (by omega) (by omega) (by omega)).mono ?_;rintro e1 w10 ⟨rfl,-,ht10⟩
   rw [← hmt]
   clear hmt
   have HB10:=Lib.hid (ht10.below HB9.out (by omega) (by have:=HB9.out.size;omega))
   have HOW10:=Lib.hid (owns_turnP HOW9.out ht10 (fun b hb=>.inl (HWH.out b hb)))
   have HOG10:=Lib.hid (owns_turnP HOG9.out ht10 (fun b hb=>.inr (by have:=HGL.out b hb;omega)))
   clear ht10 HB9 HO9 HOW9 HOG9 q0 q1 q2 k0 k1 k2 HW3
   have hrg:RowI w10 ag P.length P:=rowI_owned HOG10.out (by have:=HLEN.out;omega) HWF.out
   have hrw:RowI w10 aw P.length P:=rowI_owned HOW10.out (by have:=HLEN.out;omega) HWF.out
   go_wp2_with fail
   refine (eqIntS_same _ _ _ cg cw P _ hrg hrw).mono ?_;rintro e1 w11 ⟨rfl,hb11⟩
   have HB11:=Lib.hid (HB10.out.trans (hb11.mono HB10.out.size))
   have HOW11:=Lib.hid (owns_below HOW10.out hb11)
   have HOG11:=Lib.hid (owns_below HOG10.out hb11)
   clear hrg hrw hb11 HB10 HOW10 HOG10 hk13
   go_wp2_with fail
   refine (markIntS_own _ _ _ P 1 _ HOG11.out rfl (by have:=HLEN.out;omega) (by omega) (by omega)).mono ?_;rintro e1 w12 ⟨rfl,hom,hg12⟩
   have ht12:Turn w5.heap.size w11.heap.size w11 w12:=Turn.ofGrown hg12 (fun k hk=>HOG11.out.lt k hk)
   have HB12:=Lib.hid (ht12.below HB11.out (by omega) HB11.out.size)
   have HOW12:=Lib.hid (owns_turnP HOW11.out ht12 (fun b hb=>.inl (by have:=HWH.out b hb;omega)))
   have HRM:=Lib.hid (rowI_marked hom (by have:=HLEN.out;omega))
   have hq0:decide ((1:Int)+(P.length:Int) < 0)=false:=by simp;omega
   have hqm:((1:Int)+(P.length:Int) != 1+(P.length:Int))=false:=by simp
   clear hom hg12 ht12 HB11 HOW11 HOG11 HGL
   obtain ⟨⟨k0,k1,k2⟩,kr,-⟩:=HKK.out w12 HB12.out
   go_wp2_with fail
   refine (heldIntS_any _ _ cg 1 _ HRM.out (by have:=HLEN.out;omega) (by omega) (by omega)).mono ?_;rintro e1 w' ⟨rfl,rfl⟩
   go_wp2_with fail
   refine (toBlockTree_any _ _ _ t _ kr HWN.out).mono ?_;rintro e1 w13 ⟨u1,u2,u3,ts13,rfl,ho13,hb13⟩
   obtain ⟨f1,g1,j1,f2,g2,j2,f3,g3,j3,rfl,rfl,rfl⟩:=newTre_form ho13
   have HO13:=Lib.hid ho13.rd
   have HB13:=Lib.hid (HB12.out.trans (hb13.mono HB12.out.size))
   have HOW13:=Lib.hid (owns_below HOW12.out hb13)
   have HRM13:=Lib.hid (HRM.out.below hb13)
   clear k0 k1 k2 kr ho13 hb13 HB12 HOW12 HRM
   go_wp2_with fail
   refine (pathTo_impl _ _ _ t x _ HO13.out).mono ?_;rintro e1 w14 ⟨vh,rfl,hoh,-,-,hb14⟩
   rw [HP.out] at hoh
   obtain ⟨ah,ch,rfl,hrh⟩:=rowI_of_owns hoh (by have:=HLEN.out;unfold maxLen;omega) HWF.out
   have HB14:=Lib.hid (HB13.out.trans (hb14.mono HB13.out.size))
   have HOW14:=Lib.hid (owns_below HOW13.out hb14)
   have HRM14:=Lib.hid (HRM13.out.below hb14)
   have hrw:RowI w14 aw P.length P:=rowI_owned HOW14.out (by have:=HLEN.out;omega) HWF.out
   clear hoh hb14 HB13 HO13 HOW13 HRM13
   go_wp2_with fail
   refine (eqIntS_same _ _ _ ch cw P _ hrh hrw).mono ?_;rintro e1 w15 ⟨rfl,hb15⟩
   have HRM15:=Lib.hid (HRM14.out.below hb15)
   have HBF:=Lib.hid ((HKK.out _ (HB14.out.trans (hb15.mono HB14.out.size))).2.2)
   clear hb15 hrh hrw HB14 HOW14 HRM14
   go_wp2_with fail
   refine (heldIntS_any _ _ cg 1 _ HRM15.out (by have:=HLEN.out;omega) (by omega) (by omega)).mono ?_;rintro e1 w' ⟨rfl,rfl⟩
   go_wp2
   go_ret
   exact ⟨rfl,HBF.out⟩
 · have hs:decide (szNt (wtTre t) 1048576 < 0)=true:=by rw [szNt_no (by omega)];rfl
   obtain ⟨sz,hsz⟩:∃ sz,sz=szNt (wtTre t) 1048576:=⟨_,rfl⟩
   rw [← hsz] at hs ⊢
   have HBF:=Lib.hid ((HKK.out _ HB1.out).2.2)
   clear hsz hw
   go_wp2
   go_ret
   exact ⟨rfl,HBF.out⟩
end Go.Proofs.YtalohgmgkjfdbaaGreat
