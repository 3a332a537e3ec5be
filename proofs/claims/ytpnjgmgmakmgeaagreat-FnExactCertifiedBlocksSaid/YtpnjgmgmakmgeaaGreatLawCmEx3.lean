/- The walk of the exact law of CertifiedBlocks (gen19/lawcmex.py). -/
import Derived.Test.YtpnjgmgmakmgeaaGreatCmI
import Derived.Test.YtpnjgmgmakmgeaaGreatCvB
import Derived.Test.YtpnjgmgmakmgeaaGreatCtC
import Derived.Test.YtpnjgmgmakmgeaaGreatLxT
import Derived.Test.YtpnjgmgmakmgeaaGreatInBt
import Derived.Deep.RegionHeld3
import Derived.Test.YtpnjgmgmakmgeaaGreatCmS



namespace Go.Proofs.YtpnjgmgmakmgeaaGreat
open Go.RowKit
set_option linter.unusedVariables false
set_option linter.unusedSimpArgs false
set_option maxRecDepth 100000 in
set_option maxHeartbeats 8000000 in
theorem lawExactCertifiedBlocks (a1:Option Addr) (n1 c1:Nat) (a2:Option Addr) (n2 c2:Nat) (a3:Option Addr) (n3 c3:Nat) (t:Tre) (a:Option Addr) (n cap:Nat) (cs:List Ver) (w:World) (h:TreRd w (.slice a1 n1 c1) (.slice a2 n2 c2) (.slice a3 n3 c3) t) (hc:RowV w a n cs) (hcz:a=none→cap=0) (hlc:n≤cap) :
  Calls Tryz.prog 8 #[.agg #[.slice a1 n1 c1,.slice a2 n2 c2,.slice a3 n3 c3],.slice a n cap] w (LawTrue w):=by
 clear hcz hlc
 obtain rfl:=hc.1
 have hmc:=hc.2.1
 have hb0:=(Below.refl w.heap.size w).alloc (Nat.le_refl _) (.cells #[.slice a1 n1 c1,.slice a2 n2 c2,.slice a3 n3 c3] 56)
 have hg0:=trAt_new w 56 (.slice a1 n1 c1) (.slice a2 n2 c2) (.slice a3 n3 c3)
 obtain ⟨W1,hW1⟩:∃ W1,W1=w.alloc (.cells #[.slice a1 n1 c1,.slice a2 n2 c2,.slice a3 n3 c3] 56):=⟨_,rfl⟩
 have hzz:w.heap.size < W1.heap.size:=by rw [hW1];simp
 have HW1:=Lib.hid hW1
 rw [← hW1] at hb0 hg0
 clear hW1
 have hKK:∀ W',Below W1.heap.size W1 W'→(W'.cell? ⟨w.heap.size,0,none⟩=some (.slice a1 n1 c1)∧W'.cell? ⟨w.heap.size,1,none⟩=some (.slice a2 n2 c2)∧W'.cell? ⟨w.heap.size,2,none⟩=some (.slice a3 n3 c3))∧TreRd W' (.slice a1 n1 c1) (.slice a2 n2 c2) (.slice a3 n3 c3) t∧RowV W' a cs.length cs∧Below w.heap.size w W':=fun W' hb =>
  ⟨⟨below_cell hb hzz hg0.c0,below_cell hb hzz hg0.c1,below_cell hb hzz hg0.c2⟩,(h.below hb0).below hb,(hc.below hb0).below hb,hb0.trans (hb.mono hb0.size)⟩
 have HKK:=Lib.hid hKK
 have HMC:=Lib.hid hmc
 clear hKK hb0 hg0 h hc hmc
 go_enter Tryz.func8,Tryz.ntmps8
 go_upto_region 1 with (fail)
 rw [← HW1.out]
 clear HW1
 obtain ⟨⟨k0,k1,k2⟩,kr,-,-⟩:=HKK.out W1 (Below.refl _ _)
 go_wp2_with fail
 refine (szBlockTree_any _ _ _ t 1048576 _ kr (by omega) (by omega)).mono ?_;rintro e1 w1 ⟨rfl,hb1⟩
 have HB1:=Lib.hid hb1
 clear k0 k1 k2 kr hb1
 by_cases hw:((wtTre t:Nat):Int)≤1048576
 case neg =>
  have hs:decide (szNt (wtTre t) 1048576 < 0)=true:=by rw [szNt_no (by omega)];rfl
  obtain ⟨sz,hsz⟩:∃ sz,sz=szNt (wtTre t) 1048576:=⟨_,rfl⟩
  rw [← hsz] at hs ⊢
  have HBF:=Lib.hid ((HKK.out _ HB1.out).2.2.2)
  clear hsz hw
  go_wp2
  go_ret
  exact ⟨rfl,HBF.out⟩
 case pos =>
  obtain ⟨sz,hsz⟩:∃ sz,sz=szNt (wtTre t) 1048576:=⟨_,rfl⟩
  have hsv:sz=1048576 - (wtTre t:Int):=by rw [hsz,szNt_yes hw]
  rw [← hsz]
  have hwn:wtTre t≤1048576:=by omega
  have hs:decide (sz < 0)=false:=decide_eq_false (by omega)
  have HSV:=Lib.hid hsv
  have HWN:=Lib.hid hwn
  clear hsz hw hwn hsv
  go_wp2_with fail
  refine (szCertS_any a cs.length cap sz w1 (by have:=HSV.out;have:=HWN.out;omega) (by have:=HSV.out;omega) HMC.out).mono ?_;rintro e1 w1x ⟨rfl,rfl⟩
  by_cases hn:(cs.length:Int)≤sz
  case neg =>
   rw [if_neg hn]
   have HBF:=Lib.hid ((HKK.out _ HB1.out).2.2.2)
   clear hs hn
   go_wp2
   go_ret
   exact ⟨rfl,HBF.out⟩
  case pos =>
   rw [if_pos hn]
   have hs2:decide (sz - (cs.length:Int) < 0)=false:=decide_eq_false (by omega)
   have HSN:Hid (cs.length≤1048576):=Lib.hid (by have:=HSV.out;omega)
   clear hs hn HMC HSV
   obtain ⟨R,hR⟩:∃ R,cerM t cs=R:=⟨_,rfl⟩
   have HR:=Lib.hid hR
   clear hR
   obtain ⟨⟨k0,k1,k2⟩,kr,-,-⟩:=HKK.out w1 HB1.out
   go_wp2_with fail
   refine (toBlockTree_any _ _ _ t _ kr HWN.out).mono ?_;rintro e1 w2 ⟨u1,u2,u3,ts,rfl,ho2,hb2⟩
   obtain ⟨b1,m1,d1,b2,m2,d2,b3,m3,d3,rfl,rfl,rfl⟩:=newTre_form ho2
   have HO2:=Lib.hid ho2.rd
   have HB2:=Lib.hid (HB1.out.trans (hb2.mono HB1.out.size))
   clear k0 k1 k2 kr ho2 hb2 HB1 hs2
   go_wp2_with fail
   refine (toCertS_any a cs.length cap cs w2 (HKK.out w2 HB2.out).2.2.1 HSN.out).mono ?_;rintro e1 w3 ⟨vc,rfl,hoc,hwc,hb3⟩
   obtain ⟨gc,kc,rfl,-,-,hrc,-⟩:=rowV_of_own hoc (by have:=HSN.out;omega) hwc
   have HRC:=Lib.hid hrc
   have HO3:=Lib.hid (HO2.out.below hb3)
   have HB3:=Lib.hid (HB2.out.trans (hb3.mono HB2.out.size))
   clear hoc hwc hb3 hrc HB2 HO2
   go_wp2_with fail
   refine (certifiedBlocks_spec _ _ _ t _ _ _ cs w3 HO3.out HRC.out).mono ?_;rintro e1 w4 ⟨vw,rfl,how,hlen,hb4⟩
   rw [HR.out] at how hlen
   have HB4:=Lib.hid (HB3.out.trans (hb4.mono HB3.out.size))
   obtain ⟨aw,cw,rfl,-⟩:=rowO_of_owns how (by omega)
   have HLEN:=Lib.hid hlen
   have HOW4:=Lib.hid how
   have HWH:=Lib.hid (owns_hi how)
   obtain ⟨⟨k0,k1,k2⟩,kr,-,-⟩:=HKK.out w4 HB4.out
   clear hb4 HB3 HO3 HRC how hlen
   go_wp2_with fail
   refine (toBlockTree_any _ _ _ t _ kr HWN.out).mono ?_;rintro e1 w5 ⟨u1,u2,u3,ts5,rfl,ho5,hb5⟩
   obtain ⟨x1,y1,z1,x2,y2,z2,x3,y3,z3,rfl,rfl,rfl⟩:=newTre_form ho5
   have HOW5:=Lib.hid (owns_below HOW4.out hb5)
   have HO5:=Lib.hid ho5
   have HB5:=Lib.hid (HB4.out.trans (hb5.mono HB4.out.size))
   have hs14:=HB4.out.size
   have hs45:=hb5.size
   clear k0 k1 k2 kr ho5 hb5 HB4 HOW4
   go_upto_region 10 with (fail)
   generalize hw6:World.alloc _ _=w6
   have hb6:Below w5.heap.size w5 w6:=by rw [← hw6];exact (Below.refl _ _).alloc (Nat.le_refl _) _
   have hz6:w6.heap.size=w5.heap.size+1:=by rw [← hw6];simp
   have hX6:TrAt w6 w5.heap.size (.slice x1 y1 z1) (.slice x2 y2 z2) (.slice x3 y3 z3):=by rw [← hw6];exact trAt_new w5 _ _ _ _
   have HB6:=Lib.hid (HB5.out.trans (hb6.mono HB5.out.size))
   have HX6:=Lib.hid hX6
   have HO6:=Lib.hid (HO5.out.below hb6)
   have HOW6:=Lib.hid (owns_below HOW5.out hb6)
   clear hw6 hb6 hX6 HB5 HO5 HOW5
   go_wp2_with fail
   refine (toCertS_any a cs.length cap cs w6 (HKK.out w6 HB6.out).2.2.1 HSN.out).mono ?_;rintro e1 w7 ⟨vx,rfl,hox,hwx,hb7⟩
   obtain ⟨gx,kx,rfl,hgx,hgx7,hrx,-⟩:=rowV_of_own hox (by have:=HSN.out;omega) hwx
   have HOX7:=Lib.hid hox.1
   have HWX:=Lib.hid hwx
   have HB7:=Lib.hid (HB6.out.trans (hb7.mono HB6.out.size))
   have HX7:=Lib.hid (HX6.out.below hb7)
   have HO7:=Lib.hid (HO6.out.below hb7)
   have hs67:=hb7.size
   have HOW7:=Lib.hid (owns_below HOW6.out hb7)
   have HRX:=Lib.hid hrx
   clear hox hwx hb7 hrx HB6 HX6 HO6 HOW6
   obtain ⟨q0,q1,q2,-⟩:=HX7.out
   go_wp2_with fail
   refine (certifiedBlocks_impl _ _ _ t _ _ _ cs w7 HO7.out.rd HRX.out).mono ?_;rintro e1 w8 ⟨vg,rfl,hog,-,hb8⟩
   rw [HR.out] at hog
   obtain ⟨ag,cg,rfl,hrg,-⟩:=rowO_of_owns hog (by have:=HLEN.out;omega)
   have HB8:=Lib.hid (HB7.out.trans (hb8.mono HB7.out.size))
   have HX8:=Lib.hid (HX7.out.below hb8)
   have HO8:=Lib.hid (HO7.out.below hb8)
   have HOW8:=Lib.hid (owns_below HOW7.out hb8)
   have HOX8:=Lib.hid (owns_below HOX7.out hb8)
   have HOG8:=Lib.hid hog
   have HGL:=Lib.hid (owns_lo hog)
   have hs78:=hb8.size
   have hrw:=(show RowO w8 aw R.length R from rowO_owned HOW8.out (by have:=HLEN.out;omega))
   clear hb8 hog HB7 HX7 HO7 HOW7 HOX7 HRX q0 q1 q2
   go_wp2_with fail
   refine (eqBoolS_same _ _ _ cg cw R _ hrg hrw).mono ?_;rintro e1 w9 ⟨rfl,hb9⟩
   have HB9:=Lib.hid (HB8.out.trans (hb9.mono HB8.out.size))
   have HX9:=Lib.hid (HX8.out.below hb9)
   have HO9:=Lib.hid (HO8.out.below hb9)
   have HOW9:=Lib.hid (owns_below HOW8.out hb9)
   have HOX9:=Lib.hid (owns_below HOX8.out hb9)
   have HOG9:=Lib.hid (owns_below HOG8.out hb9)
   have hs89:=hb9.size
   clear hb9 HB8 HX8 HO8 HOW8 HOX8 HOG8 hrg hrw
   obtain ⟨q0,q1,q2,-⟩:=HX9.out
   obtain ⟨⟨k0,k1,k2⟩,kr,-,-⟩:=HKK.out w9 HB9.out
   have HKP:=Lib.hid (fun W' (hb:Below w9.heap.size w9 W')=>(⟨⟨(HX9.out.below hb).c0,(HX9.out.below hb).c1,(HX9.out.below hb).c2⟩,(HKK.out W' (HB9.out.trans (hb.mono HB9.out.size))).1⟩:(W'.cell? ⟨w5.heap.size,0,none⟩=some (.slice x1 y1 z1)∧W'.cell? ⟨w5.heap.size,1,none⟩=some (.slice x2 y2 z2)∧W'.cell? ⟨w5.heap.size,2,none⟩=some (.slice x3 y3 z3))∧W'.cell? ⟨w.heap.size,0,none⟩=some (.slice a1 n1 c1)∧W'.cell? ⟨w.heap.size,1,none⟩=some (.slice a2 n2 c2)∧W'.cell? ⟨w.heap.size,2,none⟩=some (.slice a3 n3 c3)))
   have HKR:=Lib.hid kr
   clear kr
   go_upto_region 14 with (fail)
   go_region_held3 (fun w'=>(w'.cell? ⟨w5.heap.size,0,none⟩=some (.slice x1 y1 z1)∧w'.cell? ⟨w5.heap.size,1,none⟩=some (.slice x2 y2 z2)∧w'.cell? ⟨w5.heap.size,2,none⟩=some (.slice x3 y3 z3))∧w'.cell? ⟨w.heap.size,0,none⟩=some (.slice a1 n1 c1)∧w'.cell? ⟨w.heap.size,1,none⟩=some (.slice a2 n2 c2)∧w'.cell? ⟨w.heap.size,2,none⟩=some (.slice a3 n3 c3)) (first | exact ⟨⟨q0,q1,q2⟩,k0,k1,k2⟩ | exact hkp | exact hkp2 | go_keep)
    (first | (go_at_call 36;refine (toBlockTree_any _ _ _ t w9.drew (HKR.out.below (Below.refl _ _).drew) HWN.out).mono ?_;rintro e1 w10 ⟨u1,u2,u3,ts10,rfl,ho10,hb10'⟩;obtain ⟨f1,g1,j1,f2,g2,j2,f3,g3,j3,rfl,rfl,rfl⟩:=newTre_form ho10;have hb10:=(Below.refl w9.heap.size w9).drew.trans hb10';have hkp:=HKP.out _ hb10) | (go_at_call 38;refine (eqBlockTree_same _ _ _ _ _ _ t _ (HO9.out.rd.below hb10) ho10.rd).mono ?_;rintro e1 w11 ⟨rfl,hb11'⟩;have hb11:=hb10.trans (hb11'.mono hb10.size);have hkp2:=HKP.out _ hb11))
   have HB11:=Lib.hid (HB9.out.trans (hb11.mono HB9.out.size))
   have HOX11:=Lib.hid (owns_below HOX9.out hb11)
   have HX11:=Lib.hid (HX9.out.below hb11)
   have HO11:=Lib.hid (HO9.out.below hb11)
   have HOW11:=Lib.hid (owns_below HOW9.out hb11)
   have HOG11:=Lib.hid (owns_below HOG9.out hb11)
   have hs911:=hb11.size
   clear hkp hkp2 hb11 hb11' hb10 hb10' ho10 HKP HKR HX9 HO9 HOX9 HB9 q0 q1 q2 k0 k1 k2 HOW9 HOG9
   go_wp2_with fail
   refine (toCertS_any a cs.length cap cs w11 (HKK.out w11 HB11.out).2.2.1 HSN.out).mono ?_;rintro e1 w12 ⟨vd,rfl,hod,hwd,hb12⟩
   obtain ⟨gd,kd,rfl,-,-,hrd,-⟩:=rowV_of_own hod (by have:=HSN.out;omega) hwd
   have HRD:=Lib.hid hrd
   have HB12:=Lib.hid (HB11.out.trans (hb12.mono HB11.out.size))
   have HOX12:=Lib.hid (owns_below HOX11.out hb12)
   have HRX12:Hid (RowV w12 (some ⟨gx,0,none⟩) cs.length cs):=Lib.hid (rowV_owned HOX12.out rfl (by have:=HSN.out;omega) HWX.out)
   have HX12:=Lib.hid (HX11.out.below hb12)
   have HO12:=Lib.hid (HO11.out.below hb12)
   have HOW12:=Lib.hid (owns_below HOW11.out hb12)
   have HOG12:=Lib.hid (owns_below HOG11.out hb12)
   have hs1112:=hb12.size
   clear hod hwd hrd hb12 HB11 HOX11 HX11 HO11 HOW11 HOG11
   go_wp2_with fail
   refine (eqCertS_same _ _ _ kx kd cs _ HRX12.out HRD.out).mono ?_;rintro e1 w13 ⟨rfl,hb13⟩
   have HB13:=Lib.hid (HB12.out.trans (hb13.mono HB12.out.size))
   have HX13:=Lib.hid (HX12.out.below hb13)
   have HO13:=Lib.hid (HO12.out.below hb13)
   have HOW13:=Lib.hid (owns_below HOW12.out hb13)
   have HOG13:=Lib.hid (owns_below HOG12.out hb13)
   have HOX13:=Lib.hid (owns_below HOX12.out hb13)
   have hs1213:=hb13.size
   clear hb13 HB12 HX12 HO12 HOW12 HOG12 HOX12 HRX12 HRD
   obtain ⟨mt,hmt⟩:∃ m,m=mkTreN t:=⟨_,rfl⟩
   have hmb:mt≤20000000:=by
    rw [hmt]
    have h1:=HWN.out
    have h2:=offBk_le t.blocks t.blocks.length
    unfold wtTre at h1
    unfold mkTreN
    omega
   have hwt3:t.base.length≤1048576∧wtBks t.blocks≤1048576∧t.bef.length≤1048576:=by
    have:=HWN.out;unfold wtTre at this;omega
   have HW3:=Lib.hid hwt3
   clear hwt3
   obtain ⟨q0,q1,q2,-⟩:=HX13.out
   go_wp2_with fail
   refine (markBlockTree_own _ _ _ _ _ t ts5 1 _ HO13.out HW3.out.1 HW3.out.2.1 HW3.out.2.2 (by omega) (by omega) (by omega)).mono ?_;rintro e1 w14 ⟨rfl,-,ht14⟩
   rw [← hmt]
   clear hmt
   have HB14:=Lib.hid (ht14.below HB13.out (by omega) HB13.out.size)
   have HOW14:=Lib.hid (owns_turnP HOW13.out ht14 (fun b hb=>.inl (HWH.out b hb)))
   have HOG14:=Lib.hid (owns_turnP HOG13.out ht14 (fun b hb=>.inr (by have:=HGL.out b hb;omega)))
   have HOX14:=Lib.hid (owns_turnP HOX13.out ht14 (fun b hb=>.inr (by simp [blk] at hb;omega)))
   have hs1314:=ht14.size
   clear ht14 HB13 HX13 HO13 HOW13 HOG13 HOX13 q0 q1 q2 HW3
   go_wp2_with fail
   refine (markCertS_own _ _ _ cs (1+(mt:Int)) _ HOX14.out rfl (by have:=HSN.out;omega) (by omega) (by omega)).mono ?_;rintro e1 w15 ⟨rfl,-,hg15⟩
   have ht15:Turn w6.heap.size w7.heap.size w14 w15:=Turn.ofGrown hg15 (fun k hk=>by simp [Value.ownBlock] at hk;omega)
   have HB15:=Lib.hid (ht15.below HB14.out (by omega) HB14.out.size)
   have HOW15:=Lib.hid (owns_turnP HOW14.out ht15 (fun b hb=>.inl (by have:=HWH.out b hb;omega)))
   have HOG15:=Lib.hid (owns_turnP HOG14.out ht15 (fun b hb=>.inr (HGL.out b hb)))
   have hs1415:=ht15.size
   have hk13:decide ((1:Int)+(mt:Int)+3*(cs.length:Int) < 0)=false:=by simp;omega
   clear ht15 hg15 HB14 HOW14 HOG14 HOX14
   have hrg:=(show RowO w15 ag R.length R from rowO_owned HOG15.out (by have:=HLEN.out;omega))
   have hrw:=(show RowO w15 aw R.length R from rowO_owned HOW15.out (by have:=HLEN.out;omega))
   go_wp2_with fail
   refine (eqBoolS_same _ _ _ cg cw R _ hrg hrw).mono ?_;rintro e1 w16 ⟨rfl,hb16⟩
   have HB16:=Lib.hid (HB15.out.trans (hb16.mono HB15.out.size))
   have HOW16:=Lib.hid (owns_below HOW15.out hb16)
   have HOG16:=Lib.hid (owns_below HOG15.out hb16)
   have hs1516:=hb16.size
   clear hrg hrw hb16 HB15 HOW15 HOG15 hk13 hmb
   go_wp2_with fail
   refine (markBoolS_own _ _ _ R 1 _ HOG16.out rfl (by have:=HLEN.out;omega) (by omega) (by omega)).mono ?_;rintro e1 w17 ⟨rfl,hom,hg17⟩
   have ht17:Turn w7.heap.size w16.heap.size w16 w17:=Turn.ofGrown hg17 (fun k hk=>HOG16.out.lt k hk)
   have HB17:=Lib.hid (ht17.below HB16.out (by omega) HB16.out.size)
   have HOW17:=Lib.hid (owns_turnP HOW16.out ht17 (fun b hb=>.inl (by have:=HWH.out b hb;omega)))
   have HRM:=Lib.hid (rowO_owned hom (by have:=HLEN.out;omega))
   have hq0:decide ((1:Int)+(R.length:Int) < 0)=false:=by simp;omega
   have hqm:((1:Int)+(R.length:Int) != 1+(R.length:Int))=false:=by simp
   clear hom hg17 ht17 HB16 HOW16 HOG16 HGL
   obtain ⟨⟨k0,k1,k2⟩,kr,-,-⟩:=HKK.out w17 HB17.out
   go_wp2_with fail
   refine (heldBoolS_any _ _ cg 1 _ HRM.out (by have:=HLEN.out;omega) (by omega) (by omega)).mono ?_;rintro e1 w' ⟨rfl,rfl⟩
   go_wp2_with fail
   refine (toBlockTree_any _ _ _ t _ kr HWN.out).mono ?_;rintro e1 w18 ⟨u1,u2,u3,ts18,rfl,ho18,hb18⟩
   obtain ⟨f1,g1,j1,f2,g2,j2,f3,g3,j3,rfl,rfl,rfl⟩:=newTre_form ho18
   have HO18:=Lib.hid ho18.rd
   have HB18:=Lib.hid (HB17.out.trans (hb18.mono HB17.out.size))
   have HOW18:=Lib.hid (owns_below HOW17.out hb18)
   have HRM18:=Lib.hid (HRM.out.below hb18)
   clear k0 k1 k2 kr ho18 hb18 HB17 HOW17 HRM
   go_wp2_with fail
   refine (toCertS_any a cs.length cap cs w18 (HKK.out w18 HB18.out).2.2.1 HSN.out).mono ?_;rintro e1 w19 ⟨vd,rfl,hod,hwd,hb19⟩
   obtain ⟨ge,ke,rfl,-,-,hrd,-⟩:=rowV_of_own hod (by have:=HSN.out;omega) hwd
   have HRD:=Lib.hid hrd
   have HB19:=Lib.hid (HB18.out.trans (hb19.mono HB18.out.size))
   have HO19:=Lib.hid (HO18.out.below hb19)
   have HOW19:=Lib.hid (owns_below HOW18.out hb19)
   have HRM19:=Lib.hid (HRM18.out.below hb19)
   clear hod hwd hrd hb19 HB18 HO18 HOW18 HRM18
   go_wp2_with fail
   refine (certifiedBlocks_impl _ _ _ t _ _ _ cs w19 HO19.out HRD.out).mono ?_;rintro e1 w20 ⟨vh,rfl,hoh,-,hb20⟩
   rw [HR.out] at hoh
   obtain ⟨ah,ch,rfl,hrh,-⟩:=rowO_of_owns hoh (by have:=HLEN.out;omega)
   have HB20:=Lib.hid (HB19.out.trans (hb20.mono HB19.out.size))
   have HOW20:=Lib.hid (owns_below HOW19.out hb20)
   have HRM20:=Lib.hid (HRM19.out.below hb20)
   have hrw:=(show RowO w20 aw R.length R from rowO_owned HOW20.out (by have:=HLEN.out;omega))
   clear hoh hb20 HB19 HO19 HOW19 HRM19
   go_wp2_with fail
   refine (eqBoolS_same _ _ _ ch cw R _ hrh hrw).mono ?_;rintro e1 w21 ⟨rfl,hb21⟩
   have HRM21:=Lib.hid (HRM20.out.below hb21)
   have HBF:=Lib.hid ((HKK.out _ (HB20.out.trans (hb21.mono HB20.out.size))).2.2.2)
   clear hb21 hrh hrw HB20 HOW20 HRM20
   go_wp2_with fail
   refine (heldBoolS_any _ _ cg 1 _ HRM21.out (by have:=HLEN.out;omega) (by omega) (by omega)).mono ?_;rintro e1 w' ⟨rfl,rfl⟩
   go_wp2
   go_ret
   exact ⟨rfl,HBF.out⟩
end Go.Proofs.YtpnjgmgmakmgeaaGreat
