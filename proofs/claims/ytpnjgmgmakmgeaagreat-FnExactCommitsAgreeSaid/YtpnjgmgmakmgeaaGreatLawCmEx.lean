/- The walks of the exact laws of CommittedTo and CommitsAgree (gen19/lawcmex.py). -/
import Derived.Test.YtpnjgmgmakmgeaaGreatCmI
import Derived.Test.YtpnjgmgmakmgeaaGreatCvB
import Derived.Test.YtpnjgmgmakmgeaaGreatCtC
import Derived.Test.YtpnjgmgmakmgeaaGreatLxT
import Derived.Test.YtpnjgmgmakmgeaaGreatInBt
import Derived.Deep.RegionHeld3
import Derived.Test.YtpnjgmgmakmgeaaGreatCmS

namespace Go.Proofs.YtpnjgmgmakmgeaaGreat
open Go.RowKit
set_option linter.unusedVariables false
set_option linter.unusedSimpArgs false
set_option maxRecDepth 100000 in
set_option maxHeartbeats 8000000 in
theorem lawExactCommittedTo (a1:Option Addr) (n1 c1:Nat) (a2:Option Addr) (n2 c2:Nat) (a3:Option Addr) (n3 c3:Nat) (t:Tre) (a:Option Addr) (n cap:Nat) (cs:List Ver) (w:World) (h:TreRd w (.slice a1 n1 c1) (.slice a2 n2 c2) (.slice a3 n3 c3) t) (hc:RowV w a n cs) (hcz:a=none→cap=0) (hlc:n≤cap) :
  Calls Tryz.prog 11 #[.agg #[.slice a1 n1 c1,.slice a2 n2 c2,.slice a3 n3 c3],.slice a n cap] w (LawTrue w):=by
 clear hcz hlc
 obtain rfl:=hc.1
 have hmc:=hc.2.1
 have hb0:=(Below.refl w.heap.size w).alloc (Nat.le_refl _) (.cells #[.slice a1 n1 c1,.slice a2 n2 c2,.slice a3 n3 c3] 56)
 have hg0:=trAt_new w 56 (.slice a1 n1 c1) (.slice a2 n2 c2) (.slice a3 n3 c3)
 obtain ⟨W1,hW1⟩:∃ W1,W1=w.alloc (.cells #[.slice a1 n1 c1,.slice a2 n2 c2,.slice a3 n3 c3] 56):=⟨_,rfl⟩
 have hzz:w.heap.size < W1.heap.size:=by rw [hW1];simp
 have HW1:=Lib.hid hW1
 rw [← hW1] at hb0 hg0
 clear hW1
 have hKK:∀ W',Below W1.heap.size W1 W'→(W'.cell? ⟨w.heap.size,0,none⟩=some (.slice a1 n1 c1)∧W'.cell? ⟨w.heap.size,1,none⟩=some (.slice a2 n2 c2)∧W'.cell? ⟨w.heap.size,2,none⟩=some (.slice a3 n3 c3))∧TreRd W' (.slice a1 n1 c1) (.slice a2 n2 c2) (.slice a3 n3 c3) t∧RowV W' a cs.length cs∧Below w.heap.size w W':=fun W' hb =>
  ⟨⟨below_cell hb hzz hg0.c0,below_cell hb hzz hg0.c1,below_cell hb hzz hg0.c2⟩,(h.below hb0).below hb,(hc.below hb0).below hb,hb0.trans (hb.mono hb0.size)⟩
 have HKK:=Lib.hid hKK
 have HMC:=Lib.hid hmc
 clear hKK hb0 hg0 h hc hmc
 go_enter Tryz.func11,Tryz.ntmps11
 go_upto_region 1 with (fail)
 rw [← HW1.out]
 clear HW1
 obtain ⟨⟨k0,k1,k2⟩,kr,-,-⟩:=HKK.out W1 (Below.refl _ _)
 go_wp2_with fail
 refine (szBlockTree_any _ _ _ t 1048576 _ kr (by omega) (by omega)).mono ?_;rintro e1 w1 ⟨rfl,hb1⟩
 have HB1:=Lib.hid hb1
 clear k0 k1 k2 kr hb1
 by_cases hw:((wtTre t:Nat):Int)≤1048576
 case neg =>
  have hs:decide (szNt (wtTre t) 1048576 < 0)=true:=by rw [szNt_no (by omega)];rfl
  obtain ⟨sz,hsz⟩:∃ sz,sz=szNt (wtTre t) 1048576:=⟨_,rfl⟩
  rw [← hsz] at hs ⊢
  have HBF:=Lib.hid ((HKK.out _ HB1.out).2.2.2)
  clear hsz hw
  go_wp2
  go_ret
  exact ⟨rfl,HBF.out⟩
 case pos =>
  obtain ⟨sz,hsz⟩:∃ sz,sz=szNt (wtTre t) 1048576:=⟨_,rfl⟩
  have hsv:sz=1048576 - (wtTre t:Int):=by rw [hsz,szNt_yes hw]
  rw [← hsz]
  have hwn:wtTre t≤1048576:=by omega
  have hs:decide (sz < 0)=false:=decide_eq_false (by omega)
  have HSV:=Lib.hid hsv
  have HWN:=Lib.hid hwn
  clear hsz hw hwn hsv
  go_wp2_with fail
  refine (szCertS_any a cs.length cap sz w1 (by have:=HSV.out;have:=HWN.out;omega) (by have:=HSV.out;omega) HMC.out).mono ?_;rintro e1 w1x ⟨rfl,rfl⟩
  by_cases hn:(cs.length:Int)≤sz
  case neg =>
   rw [if_neg hn]
   have HBF:=Lib.hid ((HKK.out _ HB1.out).2.2.2)
   clear hs hn
   go_wp2
   go_ret
   exact ⟨rfl,HBF.out⟩
  case pos =>
   rw [if_pos hn]
   have hs2:decide (sz - (cs.length:Int) < 0)=false:=decide_eq_false (by omega)
   have HSN:Hid (cs.length≤1048576):=Lib.hid (by have:=HSV.out;omega)
   clear hs hn HMC HSV
   obtain ⟨R,hR⟩:∃ R,ctM t cs=R:=⟨_,rfl⟩
   have HR:=Lib.hid hR
   clear hR
   obtain ⟨⟨k0,k1,k2⟩,kr,-,-⟩:=HKK.out w1 HB1.out
   go_wp2_with fail
   refine (toBlockTree_any _ _ _ t _ kr HWN.out).mono ?_;rintro e1 w2 ⟨u1,u2,u3,ts,rfl,ho2,hb2⟩
   obtain ⟨b1,m1,d1,b2,m2,d2,b3,m3,d3,rfl,rfl,rfl⟩:=newTre_form ho2
   have HO2:=Lib.hid ho2.rd
   have HB2:=Lib.hid (HB1.out.trans (hb2.mono HB1.out.size))
   clear k0 k1 k2 kr ho2 hb2 HB1 hs2
   go_wp2_with fail
   refine (toCertS_any a cs.length cap cs w2 (HKK.out w2 HB2.out).2.2.1 HSN.out).mono ?_;rintro e1 w3 ⟨vc,rfl,hoc,hwc,hb3⟩
   obtain ⟨gc,kc,rfl,-,-,hrc,-⟩:=rowV_of_own hoc (by have:=HSN.out;omega) hwc
   have HRC:=Lib.hid hrc
   have HO3:=Lib.hid (HO2.out.below hb3)
   have HB3:=Lib.hid (HB2.out.trans (hb3.mono HB2.out.size))
   clear hoc hwc hb3 hrc HB2 HO2
   go_wp2_with fail
   refine (committedTo_spec _ _ _ t _ _ _ cs w3 HO3.out HRC.out).mono ?_;rintro e1 w4 ⟨rfl,hb4⟩
   rw [HR.out]
   have HB4:=Lib.hid (HB3.out.trans (hb4.mono HB3.out.size))
   obtain ⟨⟨k0,k1,k2⟩,kr,-,-⟩:=HKK.out w4 HB4.out
   have hrr:(R != R)=false:=by simp
   clear hb4 HB3 HO3 HRC
   go_wp2_with fail
   refine (toBlockTree_any _ _ _ t _ kr HWN.out).mono ?_;rintro e1 w5 ⟨u1,u2,u3,ts5,rfl,ho5,hb5⟩
   obtain ⟨x1,y1,z1,x2,y2,z2,x3,y3,z3,rfl,rfl,rfl⟩:=newTre_form ho5
   have HO5:=Lib.hid ho5
   have HB5:=Lib.hid (HB4.out.trans (hb5.mono HB4.out.size))
   have hs14:=HB4.out.size
   have hs45:=hb5.size
   clear k0 k1 k2 kr ho5 hb5 HB4 
   go_upto_region 10 with (fail)
   generalize hw6:World.alloc _ _=w6
   have hb6:Below w5.heap.size w5 w6:=by rw [← hw6];exact (Below.refl _ _).alloc (Nat.le_refl _) _
   have hz6:w6.heap.size=w5.heap.size+1:=by rw [← hw6];simp
   have hX6:TrAt w6 w5.heap.size (.slice x1 y1 z1) (.slice x2 y2 z2) (.slice x3 y3 z3):=by rw [← hw6];exact trAt_new w5 _ _ _ _
   have HB6:=Lib.hid (HB5.out.trans (hb6.mono HB5.out.size))
   have HX6:=Lib.hid hX6
   have HO6:=Lib.hid (HO5.out.below hb6)
   clear hw6 hb6 hX6 HB5 HO5 
   go_wp2_with fail
   refine (toCertS_any a cs.length cap cs w6 (HKK.out w6 HB6.out).2.2.1 HSN.out).mono ?_;rintro e1 w7 ⟨vx,rfl,hox,hwx,hb7⟩
   obtain ⟨gx,kx,rfl,hgx,hgx7,hrx,-⟩:=rowV_of_own hox (by have:=HSN.out;omega) hwx
   have HOX7:=Lib.hid hox.1
   have HWX:=Lib.hid hwx
   have HB7:=Lib.hid (HB6.out.trans (hb7.mono HB6.out.size))
   have HX7:=Lib.hid (HX6.out.below hb7)
   have HO7:=Lib.hid (HO6.out.below hb7)
   have hs67:=hb7.size
   have HRX:=Lib.hid hrx
   clear hox hwx hb7 hrx HB6 HX6 HO6 
   obtain ⟨q0,q1,q2,-⟩:=HX7.out
   go_wp2_with fail
   refine (committedTo_impl _ _ _ t _ _ _ cs w7 HO7.out.rd HRX.out).mono ?_;rintro e1 w9 ⟨rfl,hb8⟩
   rw [HR.out]
   have HB9:=Lib.hid (HB7.out.trans (hb8.mono HB7.out.size))
   have HX9:=Lib.hid (HX7.out.below hb8)
   have HO9:=Lib.hid (HO7.out.below hb8)
   have HOX9:=Lib.hid (owns_below HOX7.out hb8)
   clear hb8 HB7 HX7 HO7 HOX7 HRX q0 q1 q2
   obtain ⟨q0,q1,q2,-⟩:=HX9.out
   obtain ⟨⟨k0,k1,k2⟩,kr,-,-⟩:=HKK.out w9 HB9.out
   have HKP:=Lib.hid (fun W' (hb:Below w9.heap.size w9 W')=>(⟨⟨(HX9.out.below hb).c0,(HX9.out.below hb).c1,(HX9.out.below hb).c2⟩,(HKK.out W' (HB9.out.trans (hb.mono HB9.out.size))).1⟩:(W'.cell? ⟨w5.heap.size,0,none⟩=some (.slice x1 y1 z1)∧W'.cell? ⟨w5.heap.size,1,none⟩=some (.slice x2 y2 z2)∧W'.cell? ⟨w5.heap.size,2,none⟩=some (.slice x3 y3 z3))∧W'.cell? ⟨w.heap.size,0,none⟩=some (.slice a1 n1 c1)∧W'.cell? ⟨w.heap.size,1,none⟩=some (.slice a2 n2 c2)∧W'.cell? ⟨w.heap.size,2,none⟩=some (.slice a3 n3 c3)))
   have HKR:=Lib.hid kr
   clear kr
   go_upto_region 14 with (fail)
   go_region_held3 (fun w'=>(w'.cell? ⟨w5.heap.size,0,none⟩=some (.slice x1 y1 z1)∧w'.cell? ⟨w5.heap.size,1,none⟩=some (.slice x2 y2 z2)∧w'.cell? ⟨w5.heap.size,2,none⟩=some (.slice x3 y3 z3))∧w'.cell? ⟨w.heap.size,0,none⟩=some (.slice a1 n1 c1)∧w'.cell? ⟨w.heap.size,1,none⟩=some (.slice a2 n2 c2)∧w'.cell? ⟨w.heap.size,2,none⟩=some (.slice a3 n3 c3)) (first | exact ⟨⟨q0,q1,q2⟩,k0,k1,k2⟩ | exact hkp | exact hkp2 | go_keep)
    (first | (go_at_call 36;refine (toBlockTree_any _ _ _ t w9.drew (HKR.out.below (Below.refl _ _).drew) HWN.out).mono ?_;rintro e1 w10 ⟨u1,u2,u3,ts10,rfl,ho10,hb10'⟩;obtain ⟨f1,g1,j1,f2,g2,j2,f3,g3,j3,rfl,rfl,rfl⟩:=newTre_form ho10;have hb10:=(Below.refl w9.heap.size w9).drew.trans hb10';have hkp:=HKP.out _ hb10) | (go_at_call 38;refine (eqBlockTree_same _ _ _ _ _ _ t _ (HO9.out.rd.below hb10) ho10.rd).mono ?_;rintro e1 w11 ⟨rfl,hb11'⟩;have hb11:=hb10.trans (hb11'.mono hb10.size);have hkp2:=HKP.out _ hb11))
   have HB11:=Lib.hid (HB9.out.trans (hb11.mono HB9.out.size))
   have HOX11:=Lib.hid (owns_below HOX9.out hb11)
   clear hkp hkp2 hb11 hb11' hb10 hb10' ho10 HKP HKR HX9 HO9 HOX9 HB9 q0 q1 q2 k0 k1 k2 
   go_wp2_with fail
   refine (toCertS_any a cs.length cap cs w11 (HKK.out w11 HB11.out).2.2.1 HSN.out).mono ?_;rintro e1 w12 ⟨vd,rfl,hod,hwd,hb12⟩
   obtain ⟨gd,kd,rfl,-,-,hrd,-⟩:=rowV_of_own hod (by have:=HSN.out;omega) hwd
   have HRD:=Lib.hid hrd
   have HB12:=Lib.hid (HB11.out.trans (hb12.mono HB11.out.size))
   have HOX12:=Lib.hid (owns_below HOX11.out hb12)
   have HRX12:Hid (RowV w12 (some ⟨gx,0,none⟩) cs.length cs):=Lib.hid (rowV_owned HOX12.out rfl (by have:=HSN.out;omega) HWX.out)
   clear hod hwd hrd hb12 HB11 HOX11 
   go_wp2_with fail
   refine (eqCertS_same _ _ _ kx kd cs _ HRX12.out HRD.out).mono ?_;rintro e1 w13 ⟨rfl,hb13⟩
   have HBF:=Lib.hid ((HKK.out _ (HB12.out.trans (hb13.mono HB12.out.size))).2.2.2)
   clear hb13
   go_wp2
   go_ret
   exact ⟨rfl,HBF.out⟩
set_option maxRecDepth 100000 in
set_option maxHeartbeats 8000000 in
theorem lawExactCommitsAgree (a1:Option Addr) (n1 c1:Nat) (a2:Option Addr) (n2 c2:Nat) (a3:Option Addr) (n3 c3:Nat) (t:Tre) (a:Option Addr) (n cap:Nat) (cs:List Ver) (w:World) (h:TreRd w (.slice a1 n1 c1) (.slice a2 n2 c2) (.slice a3 n3 c3) t) (hc:RowV w a n cs) (hcz:a=none→cap=0) (hlc:n≤cap) :
  Calls Tryz.prog 12 #[.agg #[.slice a1 n1 c1,.slice a2 n2 c2,.slice a3 n3 c3],.slice a n cap] w (LawTrue w):=by
 clear hcz hlc
 obtain rfl:=hc.1
 have hmc:=hc.2.1
 have hb0:=(Below.refl w.heap.size w).alloc (Nat.le_refl _) (.cells #[.slice a1 n1 c1,.slice a2 n2 c2,.slice a3 n3 c3] 56)
 have hg0:=trAt_new w 56 (.slice a1 n1 c1) (.slice a2 n2 c2) (.slice a3 n3 c3)
 obtain ⟨W1,hW1⟩:∃ W1,W1=w.alloc (.cells #[.slice a1 n1 c1,.slice a2 n2 c2,.slice a3 n3 c3] 56):=⟨_,rfl⟩
 have hzz:w.heap.size < W1.heap.size:=by rw [hW1];simp
 have HW1:=Lib.hid hW1
 rw [← hW1] at hb0 hg0
 clear hW1
 have hKK:∀ W',Below W1.heap.size W1 W'→(W'.cell? ⟨w.heap.size,0,none⟩=some (.slice a1 n1 c1)∧W'.cell? ⟨w.heap.size,1,none⟩=some (.slice a2 n2 c2)∧W'.cell? ⟨w.heap.size,2,none⟩=some (.slice a3 n3 c3))∧TreRd W' (.slice a1 n1 c1) (.slice a2 n2 c2) (.slice a3 n3 c3) t∧RowV W' a cs.length cs∧Below w.heap.size w W':=fun W' hb =>
  ⟨⟨below_cell hb hzz hg0.c0,below_cell hb hzz hg0.c1,below_cell hb hzz hg0.c2⟩,(h.below hb0).below hb,(hc.below hb0).below hb,hb0.trans (hb.mono hb0.size)⟩
 have HKK:=Lib.hid hKK
 have HMC:=Lib.hid hmc
 clear hKK hb0 hg0 h hc hmc
 go_enter Tryz.func12,Tryz.ntmps12
 go_upto_region 1 with (fail)
 rw [← HW1.out]
 clear HW1
 obtain ⟨⟨k0,k1,k2⟩,kr,-,-⟩:=HKK.out W1 (Below.refl _ _)
 go_wp2_with fail
 refine (szBlockTree_any _ _ _ t 1048576 _ kr (by omega) (by omega)).mono ?_;rintro e1 w1 ⟨rfl,hb1⟩
 have HB1:=Lib.hid hb1
 clear k0 k1 k2 kr hb1
 by_cases hw:((wtTre t:Nat):Int)≤1048576
 case neg =>
  have hs:decide (szNt (wtTre t) 1048576 < 0)=true:=by rw [szNt_no (by omega)];rfl
  obtain ⟨sz,hsz⟩:∃ sz,sz=szNt (wtTre t) 1048576:=⟨_,rfl⟩
  rw [← hsz] at hs ⊢
  have HBF:=Lib.hid ((HKK.out _ HB1.out).2.2.2)
  clear hsz hw
  go_wp2
  go_ret
  exact ⟨rfl,HBF.out⟩
 case pos =>
  obtain ⟨sz,hsz⟩:∃ sz,sz=szNt (wtTre t) 1048576:=⟨_,rfl⟩
  have hsv:sz=1048576 - (wtTre t:Int):=by rw [hsz,szNt_yes hw]
  rw [← hsz]
  have hwn:wtTre t≤1048576:=by omega
  have hs:decide (sz < 0)=false:=decide_eq_false (by omega)
  have HSV:=Lib.hid hsv
  have HWN:=Lib.hid hwn
  clear hsz hw hwn hsv
  go_wp2_with fail
  refine (szCertS_any a cs.length cap sz w1 (by have:=HSV.out;have:=HWN.out;omega) (by have:=HSV.out;omega) HMC.out).mono ?_;rintro e1 w1x ⟨rfl,rfl⟩
  by_cases hn:(cs.length:Int)≤sz
  case neg =>
   rw [if_neg hn]
   have HBF:=Lib.hid ((HKK.out _ HB1.out).2.2.2)
   clear hs hn
   go_wp2
   go_ret
   exact ⟨rfl,HBF.out⟩
  case pos =>
   rw [if_pos hn]
   have hs2:decide (sz - (cs.length:Int) < 0)=false:=decide_eq_false (by omega)
   have HSN:Hid (cs.length≤1048576):=Lib.hid (by have:=HSV.out;omega)
   clear hs hn HMC HSV
   obtain ⟨R,hR⟩:∃ R,agM t cs=R:=⟨_,rfl⟩
   have HR:=Lib.hid hR
   clear hR
   obtain ⟨⟨k0,k1,k2⟩,kr,-,-⟩:=HKK.out w1 HB1.out
   go_wp2_with fail
   refine (toBlockTree_any _ _ _ t _ kr HWN.out).mono ?_;rintro e1 w2 ⟨u1,u2,u3,ts,rfl,ho2,hb2⟩
   obtain ⟨b1,m1,d1,b2,m2,d2,b3,m3,d3,rfl,rfl,rfl⟩:=newTre_form ho2
   have HO2:=Lib.hid ho2.rd
   have HB2:=Lib.hid (HB1.out.trans (hb2.mono HB1.out.size))
   clear k0 k1 k2 kr ho2 hb2 HB1 hs2
   go_wp2_with fail
   refine (toCertS_any a cs.length cap cs w2 (HKK.out w2 HB2.out).2.2.1 HSN.out).mono ?_;rintro e1 w3 ⟨vc,rfl,hoc,hwc,hb3⟩
   obtain ⟨gc,kc,rfl,-,-,hrc,-⟩:=rowV_of_own hoc (by have:=HSN.out;omega) hwc
   have HRC:=Lib.hid hrc
   have HO3:=Lib.hid (HO2.out.below hb3)
   have HB3:=Lib.hid (HB2.out.trans (hb3.mono HB2.out.size))
   clear hoc hwc hb3 hrc HB2 HO2
   go_wp2_with fail
   refine (commitsAgree_spec _ _ _ t _ _ _ cs w3 HO3.out HRC.out).mono ?_;rintro e1 w4 ⟨rfl,hb4⟩
   rw [HR.out]
   have HB4:=Lib.hid (HB3.out.trans (hb4.mono HB3.out.size))
   obtain ⟨⟨k0,k1,k2⟩,kr,-,-⟩:=HKK.out w4 HB4.out
   have hrr:(R != R)=false:=by simp
   clear hb4 HB3 HO3 HRC
   go_wp2_with fail
   refine (toBlockTree_any _ _ _ t _ kr HWN.out).mono ?_;rintro e1 w5 ⟨u1,u2,u3,ts5,rfl,ho5,hb5⟩
   obtain ⟨x1,y1,z1,x2,y2,z2,x3,y3,z3,rfl,rfl,rfl⟩:=newTre_form ho5
   have HO5:=Lib.hid ho5
   have HB5:=Lib.hid (HB4.out.trans (hb5.mono HB4.out.size))
   have hs14:=HB4.out.size
   have hs45:=hb5.size
   clear k0 k1 k2 kr ho5 hb5 HB4 
   go_upto_region 10 with (fail)
   generalize hw6:World.alloc _ _=w6
   have hb6:Below w5.heap.size w5 w6:=by rw [← hw6];exact (Below.refl _ _).alloc (Nat.le_refl _) _
   have hz6:w6.heap.size=w5.heap.size+1:=by rw [← hw6];simp
   have hX6:TrAt w6 w5.heap.size (.slice x1 y1 z1) (.slice x2 y2 z2) (.slice x3 y3 z3):=by rw [← hw6];exact trAt_new w5 _ _ _ _
   have HB6:=Lib.hid (HB5.out.trans (hb6.mono HB5.out.size))
   have HX6:=Lib.hid hX6
   have HO6:=Lib.hid (HO5.out.below hb6)
   clear hw6 hb6 hX6 HB5 HO5 
   go_wp2_with fail
   refine (toCertS_any a cs.length cap cs w6 (HKK.out w6 HB6.out).2.2.1 HSN.out).mono ?_;rintro e1 w7 ⟨vx,rfl,hox,hwx,hb7⟩
   obtain ⟨gx,kx,rfl,hgx,hgx7,hrx,-⟩:=rowV_of_own hox (by have:=HSN.out;omega) hwx
   have HOX7:=Lib.hid hox.1
   have HWX:=Lib.hid hwx
   have HB7:=Lib.hid (HB6.out.trans (hb7.mono HB6.out.size))
   have HX7:=Lib.hid (HX6.out.below hb7)
   have HO7:=Lib.hid (HO6.out.below hb7)
   have hs67:=hb7.size
   have HRX:=Lib.hid hrx
   clear hox hwx hb7 hrx HB6 HX6 HO6 
   obtain ⟨q0,q1,q2,-⟩:=HX7.out
   go_wp2_with fail
   refine (commitsAgree_impl _ _ _ t _ _ _ cs w7 HO7.out.rd HRX.out).mono ?_;rintro e1 w9 ⟨rfl,hb8⟩
   rw [HR.out]
   have HB9:=Lib.hid (HB7.out.trans (hb8.mono HB7.out.size))
   have HX9:=Lib.hid (HX7.out.below hb8)
   have HO9:=Lib.hid (HO7.out.below hb8)
   have HOX9:=Lib.hid (owns_below HOX7.out hb8)
   clear hb8 HB7 HX7 HO7 HOX7 HRX q0 q1 q2
   obtain ⟨q0,q1,q2,-⟩:=HX9.out
   obtain ⟨⟨k0,k1,k2⟩,kr,-,-⟩:=HKK.out w9 HB9.out
   have HKP:=Lib.hid (fun W' (hb:Below w9.heap.size w9 W')=>(⟨⟨(HX9.out.below hb).c0,(HX9.out.below hb).c1,(HX9.out.below hb).c2⟩,(HKK.out W' (HB9.out.trans (hb.mono HB9.out.size))).1⟩:(W'.cell? ⟨w5.heap.size,0,none⟩=some (.slice x1 y1 z1)∧W'.cell? ⟨w5.heap.size,1,none⟩=some (.slice x2 y2 z2)∧W'.cell? ⟨w5.heap.size,2,none⟩=some (.slice x3 y3 z3))∧W'.cell? ⟨w.heap.size,0,none⟩=some (.slice a1 n1 c1)∧W'.cell? ⟨w.heap.size,1,none⟩=some (.slice a2 n2 c2)∧W'.cell? ⟨w.heap.size,2,none⟩=some (.slice a3 n3 c3)))
   have HKR:=Lib.hid kr
   clear kr
   go_upto_region 14 with (fail)
   go_region_held3 (fun w'=>(w'.cell? ⟨w5.heap.size,0,none⟩=some (.slice x1 y1 z1)∧w'.cell? ⟨w5.heap.size,1,none⟩=some (.slice x2 y2 z2)∧w'.cell? ⟨w5.heap.size,2,none⟩=some (.slice x3 y3 z3))∧w'.cell? ⟨w.heap.size,0,none⟩=some (.slice a1 n1 c1)∧w'.cell? ⟨w.heap.size,1,none⟩=some (.slice a2 n2 c2)∧w'.cell? ⟨w.heap.size,2,none⟩=some (.slice a3 n3 c3)) (first | exact ⟨⟨q0,q1,q2⟩,k0,k1,k2⟩ | exact hkp | exact hkp2 | go_keep)
    (first | (go_at_call 36;refine (toBlockTree_any _ _ _ t w9.drew (HKR.out.below (Below.refl _ _).drew) HWN.out).mono ?_;rintro e1 w10 ⟨u1,u2,u3,ts10,rfl,ho10,hb10'⟩;obtain ⟨f1,g1,j1,f2,g2,j2,f3,g3,j3,rfl,rfl,rfl⟩:=newTre_form ho10;have hb10:=(Below.refl w9.heap.size w9).drew.trans hb10';have hkp:=HKP.out _ hb10) | (go_at_call 38;refine (eqBlockTree_same _ _ _ _ _ _ t _ (HO9.out.rd.below hb10) ho10.rd).mono ?_;rintro e1 w11 ⟨rfl,hb11'⟩;have hb11:=hb10.trans (hb11'.mono hb10.size);have hkp2:=HKP.out _ hb11))
   have HB11:=Lib.hid (HB9.out.trans (hb11.mono HB9.out.size))
   have HOX11:=Lib.hid (owns_below HOX9.out hb11)
   clear hkp hkp2 hb11 hb11' hb10 hb10' ho10 HKP HKR HX9 HO9 HOX9 HB9 q0 q1 q2 k0 k1 k2 
   go_wp2_with fail
   refine (toCertS_any a cs.length cap cs w11 (HKK.out w11 HB11.out).2.2.1 HSN.out).mono ?_;rintro e1 w12 ⟨vd,rfl,hod,hwd,hb12⟩
   obtain ⟨gd,kd,rfl,-,-,hrd,-⟩:=rowV_of_own hod (by have:=HSN.out;omega) hwd
   have HRD:=Lib.hid hrd
   have HB12:=Lib.hid (HB11.out.trans (hb12.mono HB11.out.size))
   have HOX12:=Lib.hid (owns_below HOX11.out hb12)
   have HRX12:Hid (RowV w12 (some ⟨gx,0,none⟩) cs.length cs):=Lib.hid (rowV_owned HOX12.out rfl (by have:=HSN.out;omega) HWX.out)
   clear hod hwd hrd hb12 HB11 HOX11 
   go_wp2_with fail
   refine (eqCertS_same _ _ _ kx kd cs _ HRX12.out HRD.out).mono ?_;rintro e1 w13 ⟨rfl,hb13⟩
   have HBF:=Lib.hid ((HKK.out _ (HB12.out.trans (hb13.mono HB12.out.size))).2.2.2)
   clear hb13
   go_wp2
   go_ret
   exact ⟨rfl,HBF.out⟩
end Go.Proofs.YtpnjgmgmakmgeaaGreat
