/- The walk of FnExactEngineRun (gen14/lawstep.py). -/
import Derived.Test.YtoiblfjafjoaeabGreatImplEngR
import Derived.Test.YtoiblfjafjoaeabGreatMarkG
import Derived.Deep.RegionHeld3
namespace Go.Proofs.YtoiblfjafjoaeabGreat
open Go.RowKit
set_option linter.unusedVariables false
set_option linter.unusedSimpArgs false
theorem wtRun (e:Eng) (L:List Int):wtEng (eRunM e L).1≤1000:=by
 unfold eRunM
 split
 · rename_i h;exact wtEng_ok (eRunTo_ok ((engB_iff e).1 h.1) L L.length (Nat.le_refl _)).1
 · rw [wtEng_no];omega
theorem mkEngN_le {e:Eng} (h:wtEng e≤1048576):mkEngN e≤20000000:=by
 have h1:=offSl_le e.slots e.slots.length
 unfold wtEng at h
 unfold mkEngN
 omega
theorem rowI_len {w:World} {a:Option Addr} {n:Nat} {L:List Int} (h:RowI w a n L):L.length=n:=h.1
set_option maxRecDepth 100000 in
set_option maxHeartbeats 8000000 in
theorem lawExactEngineRun (a1:Option Addr) (n1 c1:Nat) (a2:Option Addr) (n2 c2:Nat) (a3:Option Addr) (n3 c3:Nat) (a4:Option Addr) (n4 c4:Nat) (e:Eng) (ai:Option Addr) (ni ci:Nat) (L:List Int) (w:World) (h:EngRd w (.slice a1 n1 c1) (.slice a2 n2 c2) (.slice a3 n3 c3) (.slice a4 n4 c4) e) (hL:RowI w ai ni L) (hz:ai=none→ci=0) (hc:ni≤ci) :
  Calls Tryz.prog 6 #[.agg #[.slice a1 n1 c1,.slice a2 n2 c2,.slice a3 n3 c3,.slice a4 n4 c4],.slice ai ni ci] w (LawTrue w):=by
 have hb0:=(Below.refl w.heap.size w).alloc (Nat.le_refl _) (.cells #[.slice a1 n1 c1,.slice a2 n2 c2,.slice a3 n3 c3,.slice a4 n4 c4] 27)
 have hg0:=egAt_new w 27 (.slice a1 n1 c1) (.slice a2 n2 c2) (.slice a3 n3 c3) (.slice a4 n4 c4)
 obtain ⟨W1,hW1⟩:∃ W1,W1=w.alloc (.cells #[.slice a1 n1 c1,.slice a2 n2 c2,.slice a3 n3 c3,.slice a4 n4 c4] 27):=⟨_,rfl⟩
 have hzz:w.heap.size < W1.heap.size:=by rw [hW1];simp
 have HW1:=Lib.hid hW1
 rw [← hW1] at hb0 hg0
 clear hW1
 have HKK:=Lib.hid (fun W' (hb:Below W1.heap.size W1 W')=>(⟨⟨below_cell hb hzz hg0.c0,below_cell hb hzz hg0.c1,below_cell hb hzz hg0.c2,below_cell hb hzz hg0.c3⟩,(h.below hb0).below hb,hb0.trans (hb.mono hb0.size)⟩:(W'.cell? ⟨w.heap.size,0,none⟩=some (.slice a1 n1 c1)∧W'.cell? ⟨w.heap.size,1,none⟩=some (.slice a2 n2 c2)∧W'.cell? ⟨w.heap.size,2,none⟩=some (.slice a3 n3 c3)∧W'.cell? ⟨w.heap.size,3,none⟩=some (.slice a4 n4 c4))∧EngRd W' (.slice a1 n1 c1) (.slice a2 n2 c2) (.slice a3 n3 c3) (.slice a4 n4 c4) e∧Below w.heap.size w W'))
 have HWS:=Lib.hid hzz
 obtain rfl:=rowI_len hL
 have HLR:=Lib.hid (fun W' (hb:Below W1.heap.size W1 W')=>(hL.below hb0).below hb)
 clear hb0 hg0 h hzz hz hc hL
 go_enter Tryz.func6,Tryz.ntmps6
 go_upto_region 1 with (fail)
 rw [← HW1.out]
 clear HW1
 by_cases hll:L.length≤1048576
 · have hl1:decide ((1048576:Int) < (L.length:Int))=false:=by simp;omega
   have hl2:decide (1048576 < L.length)=false:=by simp;omega
   have HLL:=Lib.hid hll
   clear hll
   obtain ⟨⟨k0,k1,k2,k3⟩,kr,-⟩:=HKK.out W1 (Below.refl _ _)
   go_wp2_with fail
   refine (szEngine_any _ _ _ _ e 1048576 _ kr (by omega) (by omega)).mono ?_;rintro e1 w1 ⟨rfl,hb1⟩
   have HB1:=Lib.hid hb1
   clear k0 k1 k2 k3 kr hb1
   by_cases hw:((wtEng e:Nat):Int)≤1048576
   · have hs:decide (szN (wtEng e) 1048576 < 0)=false:=by rw [szN_yes hw];simp;omega
     have hwn:wtEng e≤1048576:=by omega
     obtain ⟨sz,hsz⟩:∃ sz,sz=szN (wtEng e) 1048576:=⟨_,rfl⟩
     rw [← hsz] at hs ⊢
     have HWN:=Lib.hid hwn
     have HWE:=Lib.hid (wtRun e L)
     obtain ⟨M,hM⟩:∃ M,M=eRunM e L:=⟨_,rfl⟩
     have HM:=Lib.hid hM
     rw [← hM] at HWE
     obtain ⟨E,bb⟩:=M
     clear hsz hw hwn hM
     simp only at HWE
     have hbb:(bb != bb)=false:=by simp
     clear hl1 hl2
     obtain ⟨⟨k0,k1,k2,k3⟩,kr,-⟩:=HKK.out w1 HB1.out
     go_wp2_with fail
     refine (toEngine_any _ _ _ _ e _ kr HWN.out).mono ?_;rintro e1 w2 ⟨g1,g2,g3,g4,ts,rfl,ho2,hb2⟩
     obtain ⟨b1,m1,d1,b2,m2,d2,b3,m3,d3,b4,m4,d4,rfl,rfl,rfl,rfl⟩:=newEng_formO ho2
     have HO2:=Lib.hid ho2.rd
     have HB2:=Lib.hid (HB1.out.trans (hb2.mono HB1.out.size))
     clear k0 k1 k2 k3 kr ho2 hb2 HB1
     have hlrA:=HLR.out w2 HB2.out
     go_wp2_with fail
     refine (toIntS_own ai _ ci L _ hlrA HLL.out).mono ?_;rintro e1 w2b ⟨vA,rfl,hovA,hwvA,hbvA⟩
     obtain ⟨gA,dA,rfl,hBvA,hgvA,hrvA⟩:=rowI_of_own hovA (by have:=HLL.out;omega) hwvA
     have HRA:=Lib.hid hrvA
     have HO2b:=Lib.hid (HO2.out.below hbvA)
     have HB2b:=Lib.hid (HB2.out.trans (hbvA.mono HB2.out.size))
     clear hovA hwvA hrvA hbvA hlrA hBvA hgvA HO2 HB2
     go_wp2_with fail
     refine (engineRun_spec _ _ _ _ e _ _ _ L _ HO2b.out HRA.out).mono ?_;rintro e1 w3 ⟨g1,g2,g3,g4,ts0,rfl,ho3,hb3⟩
     rw [← HM.out] at ho3 ⊢
     obtain ⟨p1,i1,l1,p2,i2,l2,p3,i3,l3,p4,i4,l4,rfl,rfl,rfl,rfl⟩:=newEng_formO ho3
     have HO3:=Lib.hid ho3
     have HB3:=Lib.hid (HB2b.out.trans (hb3.mono HB2b.out.size))
     have HS12:=Lib.hid HB2b.out.size
     have HS23:=Lib.hid hb3.size
     clear ho3 hb3 HB2b HO2b HRA
     go_upto_region 8 with (fail)
     generalize hw4:World.alloc _ _=w4
     have hb4:Below w3.heap.size w3 w4:=by rw [← hw4];exact (Below.refl _ _).alloc (Nat.le_refl _) _
     have hZ6:EgAt w4 w3.heap.size (.slice p1 i1 l1) (.slice p2 i2 l2) (.slice p3 i3 l3) (.slice p4 i4 l4):=by rw [← hw4];exact egAt_new w3 _ _ _ _ _
     have HS34:Hid (w4.heap.size=w3.heap.size+1):=Lib.hid (by rw [← hw4];simp)
     have HO4:=Lib.hid (HO3.out.below hb4)
     have HB4:=Lib.hid (HB3.out.trans (hb4.mono HB3.out.size))
     have HZ6:=Lib.hid hZ6
     obtain ⟨⟨k0,k1,k2,k3⟩,kr,-⟩:=HKK.out w4 HB4.out
     clear hw4 hb4 hZ6 HO3 HB3
     go_wp2_with fail
     refine (toEngine_any _ _ _ _ e _ kr HWN.out).mono ?_;rintro e1 w5 ⟨g1,g2,g3,g4,tx,rfl,ho5,hb5⟩
     obtain ⟨x1,y1,z1,x2,y2,z2,x3,y3,z3,x4,y4,z4,rfl,rfl,rfl,rfl⟩:=newEng_formO ho5
     have HX5:=Lib.hid ho5
     have HS45:=Lib.hid hb5.size
     have HO5:=Lib.hid (HO4.out.below hb5)
     have HZ65:=Lib.hid (HZ6.out.below hb5)
     have HB5:=Lib.hid (HB4.out.trans (hb5.mono HB4.out.size))
     clear k0 k1 k2 k3 kr ho5 hb5 HO4 HZ6 HB4
     go_upto_region 9 with (fail)
     generalize hw6:World.alloc _ _=w6
     have hb6:Below w5.heap.size w5 w6:=by rw [← hw6];exact (Below.refl _ _).alloc (Nat.le_refl _) _
     have hZ8:EgAt w6 w5.heap.size (.slice x1 y1 z1) (.slice x2 y2 z2) (.slice x3 y3 z3) (.slice x4 y4 z4):=by rw [← hw6];exact egAt_new w5 _ _ _ _ _
     have HS56:Hid (w6.heap.size=w5.heap.size+1):=Lib.hid (by rw [← hw6];simp)
     have HX6:=Lib.hid (HX5.out.below hb6)
     have HO6:=Lib.hid (HO5.out.below hb6)
     have HZ66:=Lib.hid (HZ65.out.below hb6)
     have HB6:=Lib.hid (HB5.out.trans (hb6.mono HB5.out.size))
     have HZ8:=Lib.hid hZ8
     clear hw6 hb6 HX5 HO5 HZ65 HB5 hZ8
     have hlrY:=HLR.out w6 HB6.out
     go_wp2_with fail
     refine (toIntS_own ai _ ci L _ hlrY HLL.out).mono ?_;rintro e1 w6b ⟨vY,rfl,hovY,hwvY,hbvY⟩
     obtain ⟨gY,dY,rfl,hBvY,hgvY,hrvY⟩:=rowI_of_own hovY (by have:=HLL.out;omega) hwvY
     have HRY:=Lib.hid hrvY
     have HWY:=Lib.hid hwvY
     have HOY:=Lib.hid hovY.1
     have HGY:=Lib.hid (show w6.heap.size≤gY∧gY < w6b.heap.size from ⟨hBvY,hgvY⟩)
     have HX6b:=Lib.hid (HX6.out.below hbvY)
     have HO6b:=Lib.hid (HO6.out.below hbvY)
     have HZ66b:=Lib.hid (HZ66.out.below hbvY)
     have HB6b:=Lib.hid (HB6.out.trans (hbvY.mono HB6.out.size))
     have HZ8b:=Lib.hid (HZ8.out.below hbvY)
     have HS66:=Lib.hid hbvY.size
     obtain ⟨x0,x1',x2',x3',-⟩:=HZ8b.out
     clear hovY hwvY hrvY hbvY hlrY hBvY hgvY HX6 HO6 HZ66 HB6 HZ8
     go_wp2_with fail
     refine (engineRun_impl _ _ _ _ e _ _ _ L _ HX6b.out.rd HRY.out).mono ?_;rintro e1 w7 ⟨g1,g2,g3,g4,ts1,rfl,ho7,hb7⟩
     rw [← HM.out] at ho7 ⊢
     obtain ⟨q1,r1,s1,q2,r2,s2,q3,r3,s3,q4,r4,s4,rfl,rfl,rfl,rfl⟩:=newEng_formO ho7
     have HO7:=Lib.hid ho7
     have HS67:=Lib.hid hb7.size
     have HX7:=Lib.hid (HX6b.out.below hb7)
     have HOY7:=Lib.hid (owns_below HOY.out hb7)
     have HZ87:=Lib.hid (HZ8b.out.below hb7)
     have HO67:=Lib.hid (HO6b.out.below hb7)
     have HZ67:=Lib.hid (HZ66b.out.below hb7)
     have HB7:=Lib.hid (HB6b.out.trans (hb7.mono HB6b.out.size))
     clear ho7 hb7 HX6b HO6b HZ66b HB6b HZ8b HOY HRY x0 x1' x2' x3'
     go_upto_region 11 with (fail)
     generalize hw8:World.alloc _ _=w8
     have hb8:Below w7.heap.size w7 w8:=by rw [← hw8];exact (Below.refl _ _).alloc (Nat.le_refl _) _
     have hZ9:EgAt w8 w7.heap.size (.slice q1 r1 s1) (.slice q2 r2 s2) (.slice q3 r3 s3) (.slice q4 r4 s4):=by rw [← hw8];exact egAt_new w7 _ _ _ _ _
     have HT8:Hid (TwoE w w3.heap.size w7.heap.size w2b.heap.size w3.heap.size w6b.heap.size w7.heap.size (.slice p1 i1 l1) (.slice p2 i2 l2) (.slice p3 i3 l3) (.slice p4 i4 l4) (.slice q1 r1 s1) (.slice q2 r2 s2) (.slice q3 r3 s3) (.slice q4 r4 s4) E E ts0 ts1 w8):=Lib.hid ⟨HO67.out.below hb8,HZ67.out.below hb8,HO7.out.below hb8,hZ9,(HKK.out w8 (HB7.out.trans (hb8.mono HB7.out.size))).2.2⟩
     have HX8:=Lib.hid (HX7.out.below hb8)
     have HOY8:=Lib.hid (owns_below HOY7.out hb8)
     have HZ88:=Lib.hid (HZ87.out.below hb8)
     have HB8:=Lib.hid (HB7.out.trans (hb8.mono HB7.out.size))
     clear hw8 hb8 hZ9 HO7 HO67 HZ67 HX7 HZ87 HB7 HOY7
     have HQQ:Hid (w2b.heap.size≤w3.heap.size∧w4.heap.size=w3.heap.size+1∧w4.heap.size≤w5.heap.size∧w5.heap.size+1≤gY∧gY < w6b.heap.size∧w6b.heap.size≤w7.heap.size∧w.heap.size≤w2b.heap.size∧W1.heap.size≤w2b.heap.size):=Lib.hid ⟨HS23.out,HS34.out,HS45.out,by have:=HGY.out;have:=HS56.out;omega,HGY.out.2,HS67.out,by have:=HS12.out;have:=HWS.out;omega,HS12.out⟩
     obtain ⟨Z6,hZ6⟩:∃ Z,Z=w3.heap.size:=⟨_,rfl⟩
     obtain ⟨Z8,hZ8⟩:∃ Z,Z=w5.heap.size:=⟨_,rfl⟩
     obtain ⟨Z9,hZ9⟩:∃ Z,Z=w7.heap.size:=⟨_,rfl⟩
     obtain ⟨B0,hB0⟩:∃ Z,Z=w2b.heap.size:=⟨_,rfl⟩
     obtain ⟨BX,hBX⟩:∃ Z,Z=w4.heap.size:=⟨_,rfl⟩
     obtain ⟨B1,hB1⟩:∃ Z,Z=w6b.heap.size:=⟨_,rfl⟩
     rw [← hZ6,← hZ9,← hB0,← hB1] at HT8
     rw [← hZ8] at HZ88 
     rw [← hZ8,← hBX] at HX8
     rw [← hZ6,← hZ8,← hZ9,← hB0,← hBX,← hB1] at HQQ
     rw [← hZ6,← hZ8,← hZ9]
     clear hZ6 hZ8 hZ9 hB0 hBX hB1 HS12 HS23 HS34 HS45 HS56 HS67 HS66 HGY
     -- the two answers
     obtain ⟨p0,p1',p2',p3',-⟩:=HT8.out.z6
     obtain ⟨q0,q1',q2',q3',-⟩:=HT8.out.z9
     go_wp2_with fail
     refine (eqEngine_same _ _ _ _ _ _ _ _ E _ HT8.out.g0.rd HT8.out.w0.rd).mono ?_;rintro e1 w9 ⟨rfl,hb9⟩
     have HT9:=Lib.hid (HT8.out.below hb9)
     have HX9:=Lib.hid (HX8.out.below hb9)
     have HOY9:=Lib.hid (owns_below HOY8.out hb9)
     have HZ89:=Lib.hid (HZ88.out.below hb9)
     have HB9:=Lib.hid (HB8.out.trans (hb9.mono HB8.out.size))
     clear hb9 HT8 HX8 HZ88 HB8 HOY8 p0 p1' p2' p3' q0 q1' q2' q3'
     -- the argument is as it was
     have hz9:=HZ89.out.lt
     have hzw:w.heap.size < w9.heap.size:=by have:=HB9.out.size;have:=HWS.out;omega
     obtain ⟨⟨k0,k1,k2,k3⟩,kr,-⟩:=HKK.out w9 HB9.out
     obtain ⟨m0,m1,m2,m3,-⟩:=HZ89.out
     have HKP:=Lib.hid (fun W' (hb:Below w9.heap.size w9 W')=>(⟨⟨below_cell hb hz9 m0,below_cell hb hz9 m1,below_cell hb hz9 m2,below_cell hb hz9 m3⟩,below_cell hb hzw k0,below_cell hb hzw k1,below_cell hb hzw k2,below_cell hb hzw k3⟩:(_∧_∧_∧_)∧_∧_∧_∧_))
     have HKR:=Lib.hid kr
     go_upto_region 13 with (fail)
     clear kr
     go_region_held3 (fun w'=>(w'.cell? ⟨Z8,0,none⟩=some (.slice x1 y1 z1)∧w'.cell? ⟨Z8,1,none⟩=some (.slice x2 y2 z2)∧w'.cell? ⟨Z8,2,none⟩=some (.slice x3 y3 z3)∧w'.cell? ⟨Z8,3,none⟩=some (.slice x4 y4 z4))∧w'.cell? ⟨w.heap.size,0,none⟩=some (.slice a1 n1 c1)∧w'.cell? ⟨w.heap.size,1,none⟩=some (.slice a2 n2 c2)∧w'.cell? ⟨w.heap.size,2,none⟩=some (.slice a3 n3 c3)∧w'.cell? ⟨w.heap.size,3,none⟩=some (.slice a4 n4 c4)) (first | exact ⟨⟨m0,m1,m2,m3⟩,k0,k1,k2,k3⟩ | exact hkp | exact hkp2 | go_keep)
      (first | (go_at_call 12;refine (toEngine_any _ _ _ _ e w9.drew (HKR.out.below (Below.refl _ _).drew) HWN.out).mono ?_;rintro e1 w10 ⟨g1,g2,g3,g4,ts7,rfl,ho10,hb10'⟩;obtain ⟨f1,h1,j1,f2,h2,j2,f3,h3,j3,f4,h4,j4,rfl,rfl,rfl,rfl⟩:=newEng_formO ho10;have hb10:=(Below.refl w9.heap.size w9).drew.trans hb10';have hkp:=HKP.out _ hb10) | (go_at_call 14;refine (eqEngine_same _ _ _ _ _ _ _ _ e _ (HX9.out.below hb10).rd ho10.rd).mono ?_;rintro e1 w11 ⟨rfl,hb11'⟩;have hb11:=hb10.trans (hb11'.mono hb10.size);have hkp2:=HKP.out _ hb11))
     have HT11:=Lib.hid (HT9.out.below hb11)
     have HX11:=Lib.hid (HX9.out.below hb11)
     have HOY11:=Lib.hid (owns_below HOY9.out hb11)
     have HZ11:=Lib.hid (HZ89.out.below hb11)
     have HB11:=Lib.hid (HB9.out.trans (hb11.mono HB9.out.size))
     clear hkp hkp2 hb11 hb11' hb10 hb10' ho10 m0 m1 m2 m3 k0 k1 k2 k3 HKP HKR HX9 HZ89 HT9 HB9 HOY9 hz9 hzw
     -- the ints are as they were
     have hlrC:=HLR.out w11 HB11.out
     go_wp2_with fail
     refine (toIntS_own ai _ ci L _ hlrC HLL.out).mono ?_;rintro e1 w11b ⟨vC,rfl,hovC,hwvC,hbvC⟩
     obtain ⟨gC,dC,rfl,hBvC,hgvC,hrvC⟩:=rowI_of_own hovC (by have:=HLL.out;omega) hwvC
     have HRC:=Lib.hid hrvC
     have HRY1:=Lib.hid (rowI_owned (owns_below HOY11.out hbvC) (by have:=HLL.out;omega) HWY.out)
     go_wp2_with fail
     refine (eqIntS_same _ _ _ _ _ L _ HRY1.out HRC.out).mono ?_;rintro e1 w11c ⟨rfl,hbc⟩
     have hbD:Below w11.heap.size w11 w11c:=hbvC.trans (hbc.mono hbvC.size)
     have HT11c:=Lib.hid (HT11.out.below hbD)
     have HX11c:=Lib.hid (HX11.out.below hbD)
     have HOY11c:=Lib.hid (owns_below HOY11.out hbD)
     have HZ11c:=Lib.hid (HZ11.out.below hbD)
     have HB11c:=Lib.hid (HB11.out.trans (hbD.mono HB11.out.size))
     clear hovC hwvC hrvC hbvC hlrC hBvC hgvC HRC HRY1 hbc hbD HT11 HX11 HOY11 HZ11 HB11
     -- the argument is marked
     obtain ⟨m0,m1,m2,m3,-⟩:=HZ11c.out
     have hqq:=HQQ.out
     have hZ8l:Z8≤w11c.heap.size:=Nat.le_of_lt HZ11c.out.lt
     go_wp2_with fail
     refine (markEngine_any _ _ _ _ _ _ e tx 1 _ HX11c.out HWN.out (by omega) (by omega) hZ8l).mono ?_;rintro e1 w12 ⟨rfl,-,ht12⟩
     have HT12:=Lib.hid (HT11c.out.turn ht12 (by omega) (by omega) (by omega) (by omega) (by omega))
     have HB12:Hid (Below W1.heap.size W1 w12):=Lib.hid (ht12.below HB11c.out (by omega) (by have:=HB11c.out.size;omega))
     have hmx1:=mkEngN_le HWN.out
     have HOY12:=Lib.hid (owns_keep HOY11c.out (w':=w12) fun k hk=>ht12.block k (HOY11c.out.lt k (by have hk:some gY=some k:=hk;cases hk;rfl)).2 (by have hk:some gY=some k:=hk;cases hk;omega))
     have hkx:decide ((1:Int)+(mkEngN e:Nat)+(L.length:Nat) < 0)=false:=by simp;omega
     clear HOY11c ht12 HT11c HX11c HZ11c HB11c m0 m1 m2 m3 hZ8l
     obtain ⟨mx,hmx⟩:∃ q,q=mkEngN e:=⟨_,rfl⟩
     rw [← hmx] at hkx hmx1 ⊢
     clear hmx
     have hll:=HLL.out
     go_wp2_with fail
     refine (markIntS_own _ _ (.slice (some ⟨gY,0,none⟩) L.length dY) L _ _ HOY12.out rfl (by omega) (by omega) (by omega)).mono ?_;rintro e1 w12b ⟨rfl,-,hg12⟩
     have htY:Turn gY (gY+1) w12 w12b:=Turn.ofGrown hg12 (fun k hk=>by have hk:some gY=some k:=hk;cases hk;exact ⟨Nat.le_refl _,Nat.lt_succ_self _⟩)
     have HT12b:=Lib.hid (HT12.out.turn htY (by omega) (by omega) (by omega) (by omega) (by omega))
     have HB12b:Hid (Below W1.heap.size W1 w12b):=Lib.hid (htY.below HB12.out (by omega) (by have:=HB12.out.size;omega))
     clear htY hg12 HT12 HB12 HOY12 hll
     obtain ⟨p0,p1',p2',p3',-⟩:=HT12b.out.z6
     obtain ⟨q0,q1',q2',q3',-⟩:=HT12b.out.z9
     go_wp2_with fail
     refine (eqEngine_same _ _ _ _ _ _ _ _ E _ HT12b.out.g0.rd HT12b.out.w0.rd).mono ?_;rintro e1 w13 ⟨rfl,hb13⟩
     have HT13:=Lib.hid (HT12b.out.below hb13)
     have HB13:=Lib.hid (HB12b.out.trans (hb13.mono HB12b.out.size))
     obtain ⟨q0,q1',q2',q3',-⟩:=HT13.out.z9
     have hs13:Z9≤w13.heap.size:=Nat.le_of_lt HT13.out.z9.lt
     clear hb13 HT12b HB12b p0 p1' p2' p3'
     -- the answer is marked
     go_wp2_with fail
     refine (markEngine_any _ _ _ _ _ _ E ts1 1 _ HT13.out.g0 (by have:=HWE.out;omega) (by omega) (by omega) hs13).mono ?_;rintro e1 w14 ⟨rfl,ho14,ht14⟩
     have HT14:=Lib.hid (HT13.out.mark ht14 ho14 (by omega) (by omega) (by omega) (by omega))
     have HB14:Hid (Below W1.heap.size W1 w14):=Lib.hid (ht14.below HB13.out (by omega) (by have:=HB13.out.size;omega))
     have HR14:=Lib.hid ho14.rd
     obtain ⟨q0,q1',q2',q3',-⟩:=HT14.out.z9
     clear ho14 ht14 HT13 HB13 hs13
     have HELD:=Lib.hid (fun W hr=>held_marked (E:=E) (e1:=q1) (e2:=q2) (e3:=q3) (e4:=q4) (i1:=r1) (i2:=r2) (i3:=r3) (i4:=r4) (j1:=s1) (j2:=s2) (j3:=s3) (j4:=s4) HWE.out W hr)
     obtain ⟨mk,hmk⟩:∃ q,q=mkEngN E:=⟨_,rfl⟩
     rw [← hmk] at HELD ⊢
     clear hmk
     have hk0:decide ((1:Int)+(mk:Int) < 0)=false:=by simp;omega
     have hkk:((1:Int)+(mk:Int) != (1:Int)+(mk:Int))=false:=by simp
     go_wp2_with fail
     refine (HELD.out _ HR14.out).mono ?_;rintro e1 w15 ⟨rfl,hb15⟩
     have HT15:=Lib.hid (HT14.out.below hb15)
     have HB15:=Lib.hid (HB14.out.trans (hb15.mono HB14.out.size))
     obtain ⟨⟨k0,k1,k2,k3⟩,kr,-⟩:=HKK.out w15 HB15.out
     clear hb15 HT14 HR14 HB14 q0 q1' q2' q3'
     -- another answer
     go_wp2_with fail
     refine (toEngine_any _ _ _ _ e _ kr HWN.out).mono ?_;rintro e1 w16 ⟨g1,g2,g3,g4,ts5,rfl,ho16,hb16⟩
     obtain ⟨f1,h1,j1,f2,h2,j2,f3,h3,j3,f4,h4,j4,rfl,rfl,rfl,rfl⟩:=newEng_formO ho16
     have HO16:=Lib.hid ho16.rd
     have HT16:=Lib.hid (HT15.out.below hb16)
     have HB16:=Lib.hid (HB15.out.trans (hb16.mono HB15.out.size))
     clear k0 k1 k2 k3 kr ho16 hb16 HT15 HB15
     have hlrD:=HLR.out w16 HB16.out
     go_wp2_with fail
     refine (toIntS_own ai _ ci L _ hlrD HLL.out).mono ?_;rintro e1 w16b ⟨vD,rfl,hovD,hwvD,hbvD⟩
     obtain ⟨gD,dD,rfl,hBvD,hgvD,hrvD⟩:=rowI_of_own hovD (by have:=HLL.out;omega) hwvD
     have HRD:=Lib.hid hrvD
     have HO16b:=Lib.hid (HO16.out.below hbvD)
     have HT16b:=Lib.hid (HT16.out.below hbvD)
     clear hovD hwvD hrvD hbvD hlrD hBvD hgvD HO16 HT16 HB16
     go_wp2_with fail
     refine (engineRun_impl _ _ _ _ e _ _ _ L _ HO16b.out HRD.out).mono ?_;rintro e1 w17 ⟨g1,g2,g3,g4,ts6,rfl,ho17,hb17⟩
     rw [← HM.out] at ho17 ⊢
     obtain ⟨u1,v1,o1,u2,v2,o2,u3,v3,o3,u4,v4,o4,rfl,rfl,rfl,rfl⟩:=newEng_formO ho17
     have HO17:=Lib.hid ho17
     have HT17:=Lib.hid (HT16b.out.below hb17)
     clear ho17 hb17 HO16b HT16b HRD
     go_upto_region 31 with (fail)
     generalize hw18:World.alloc _ _=w18
     have hb18:Below w17.heap.size w17 w18:=by rw [← hw18];exact (Below.refl _ _).alloc (Nat.le_refl _) _
     have hZ18:EgAt w18 w17.heap.size (.slice u1 v1 o1) (.slice u2 v2 o2) (.slice u3 v3 o3) (.slice u4 v4 o4):=by rw [← hw18];exact egAt_new w17 _ _ _ _ _
     have HT18:=Lib.hid (HT17.out.below hb18)
     have HO18:=Lib.hid (HO17.out.below hb18)
     obtain ⟨u0,u1',u2',u3',-⟩:=hZ18
     obtain ⟨p0,p1',p2',p3',-⟩:=HT18.out.z6
     clear hw18 hb18 HT17 HO17
     go_wp2_with fail
     refine (eqEngine_same _ _ _ _ _ _ _ _ E _ HO18.out.rd HT18.out.w0.rd).mono ?_;rintro e1 w19 ⟨rfl,hb19⟩
     have HT19:=Lib.hid (HT18.out.below hb19)
     obtain ⟨q0,q1',q2',q3',-⟩:=HT19.out.z9
     clear hb19 HT18 HO18 u0 u1' u2' u3' p0 p1' p2' p3'
     go_wp2_with fail
     refine (HELD.out _ HT19.out.g0.rd).mono ?_;rintro e1 w20 ⟨rfl,hb20⟩
     have HB20:=Lib.hid (HT19.out.below hb20).base
     clear hb20 HT19 q0 q1' q2' q3' HELD
     go_wp2
     go_ret
     exact ⟨rfl,HB20.out⟩
   · have hs:decide (szN (wtEng e) 1048576 < 0)=true:=by rw [szN_no (by omega)];rfl
     obtain ⟨sz,hsz⟩:∃ sz,sz=szN (wtEng e) 1048576:=⟨_,rfl⟩
     rw [← hsz] at hs ⊢
     have HBF:=Lib.hid ((HKK.out _ HB1.out).2.2)
     clear hsz hw
     go_wp2
     go_ret
     exact ⟨rfl,HBF.out⟩
 · have hl1:decide ((1048576:Int) < (L.length:Int))=true:=by simp;omega
   have hl2:decide (1048576 < L.length)=true:=by simp;omega
   have HBF:=Lib.hid ((HKK.out W1 (Below.refl _ _)).2.2)
   clear hll
   go_wp2
   go_ret
   exact ⟨rfl,HBF.out⟩
end Go.Proofs.YtoiblfjafjoaeabGreat
