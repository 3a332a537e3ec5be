/- The walk of the exact law of TreeOf. -/
import Derived.Test.YtalohgmgkjfdbaaGreatTreeOfTr
import Derived.Test.YtalohgmgkjfdbaaGreatHeldTr
namespace Go.Proofs.YtalohgmgkjfdbaaGreat
open Go.RowKit
set_option linter.unusedVariables false
set_option linter.unusedSimpArgs false
theorem treOfM_bd (S:List Ent):(treOfM S).base.length≤1048576∧wtBks (treOfM S).blocks≤1048576∧(treOfM S).bef.length≤1048576:=by
 unfold treOfM
 by_cases h:storeB S=true
 · rw [if_pos h]
   have h1:=store_len h
   have h2:=(actsB_true (blkB_true (firstM_ok h)).2.2.2.2.2).1
   refine ⟨by simp only;omega,?_,by simp⟩
   simp only [wtBks,sumBk,List.length_singleton];omega
 · rw [if_neg h];simp [noTre,wtBks,sumBk]
set_option maxRecDepth 100000 in
set_option maxHeartbeats 8000000 in
theorem lawExactTreeOf (a:Option Addr) (n cap:Nat) (l:List Ent) (w:World) (h:RowE w a n l) (hc:a=none→cap=0) (hlc:n≤cap) :
  Calls Tryz.prog 3 #[.slice a n cap] w (LawTrue w):=by
 have HR:=Lib.hid h
 have hm:=h.2.1
 clear h hc hlc
 go_enter Tryz.func3,Tryz.ntmps3
 go_wp2_with fail
 refine (szEntryS_any a n cap 1048576 _ (by omega) (by omega) hm).mono ?_;rintro e w' ⟨rfl,rfl⟩
 by_cases hs:(n:Int)≤1048576
 · rw [if_pos hs]
   have hnn:decide ((1048576:Int) - (n:Int) < 0)=false:=by simp;omega
   have hsn:n≤1048576:=by omega
   have HSN:=Lib.hid hsn
   obtain rfl:=HR.out.1
   obtain ⟨X,hX⟩:∃ X,treOfM l=X:=⟨_,rfl⟩
   have HX:=Lib.hid hX
   have HBD:=Lib.hid (hX ▸ treOfM_bd l)
   clear hX hs hsn hm
   go_wp2_with fail
   refine (toEntryS_any a _ cap l _ HR.out HSN.out).mono ?_;rintro e w1 ⟨v1,rfl,ho1,hw1,hb1⟩
   obtain ⟨g1,c1,rfl,-,hr1⟩:=rowE_of_own ho1 (by have:=HSN.out;omega) hw1
   have HR1:=Lib.hid hr1
   have HB1:=Lib.hid hb1
   clear ho1 hw1 hb1 hr1 hnn
   go_wp2_with fail
   refine (treeOf_spec _ _ c1 l _ HR1.out (fun e=>by cases e)).mono ?_;rintro e w2 ⟨p1,p2,p3,tp,rfl,hp,hb2⟩
   rw [HX.out] at hp
   obtain ⟨x1,y1,z1,x2,y2,z2,x3,y3,z3,rfl,rfl,rfl⟩:=trRd_form hp.rd
   have HP2:=Lib.hid hp
   have HB2:=Lib.hid (HB1.out.trans (hb2.mono HB1.out.size))
   clear hp hb2 HB1 HR1
   go_upto_region 6 with (fail)
   generalize hw3:World.alloc _ _=w3
   have hb3:Below w2.heap.size w2 w3:=by rw [← hw3];exact (Below.refl _ _).alloc (Nat.le_refl _) _
   have hz3:w3.heap.size=w2.heap.size+1:=by rw [← hw3];simp
   have HT3:Hid (TrAt w3 w2.heap.size (.slice x1 y1 z1) (.slice x2 y2 z2) (.slice x3 y3 z3)):=Lib.hid (by rw [← hw3];constructor <;> simp [go_sem])
   have HP3:=Lib.hid (HP2.out.below hb3)
   have HB3:=Lib.hid (HB2.out.trans (hb3.mono HB2.out.size))
   have hsw3:w.heap.size≤w3.heap.size:=HB3.out.size
   clear hw3 hb3 HB2 HP2
   go_wp2_with fail
   refine (toEntryS_any a _ cap l _ (HR.out.below HB3.out) HSN.out).mono ?_;rintro e w4 ⟨vx,rfl,hox,hwx,hb4⟩
   obtain ⟨gx,cx,rfl,hgx,hrx⟩:=rowE_of_own hox (by have:=HSN.out;omega) hwx
   have hgx4:gx < w4.heap.size:=by obtain ⟨g,c,he,_,h3⟩:=hox.slice;simp at he;obtain ⟨rfl,_⟩:=he;exact h3
   have HT4:=Lib.hid (HT3.out.below hb4)
   have HP4:=Lib.hid (HP3.out.below hb4)
   have HB4:=Lib.hid (HB3.out.trans (hb4.mono HB3.out.size))
   have HOX4:=Lib.hid hox
   have HRX4:=Lib.hid hrx
   clear hb4 hox hrx hwx HB3 HP3 HT3
   go_wp2_with fail
   refine (treeOf_impl _ _ cx l _ HRX4.out (fun e=>by cases e)).mono ?_;rintro e w5 ⟨q1,q2,q3,tq,rfl,hq,hb5⟩
   rw [HX.out] at hq
   obtain ⟨r1,s1,t1,r2,s2,t2,r3,s3,t3,rfl,rfl,rfl⟩:=trRd_form hq.rd
   have hs45:=hb5.size
   have HT5:=Lib.hid (HT4.out.below hb5)
   have HP5:=Lib.hid (HP4.out.below hb5)
   have HB5:=Lib.hid (HB4.out.trans (hb5.mono HB4.out.size))
   have HOX5:=Lib.hid (HOX4.out.below hb5)
   have HRX5:=Lib.hid (HRX4.out.below hb5)
   have HQ5:=Lib.hid hq
   clear hb5 hq HB4 HP4 HT4 HOX4 HRX4
   go_upto_region 8 with (fail)
   generalize hw6:World.alloc _ _=w6
   have hb6:Below w5.heap.size w5 w6:=by rw [← hw6];exact (Below.refl _ _).alloc (Nat.le_refl _) _
   have hz6:w6.heap.size=w5.heap.size+1:=by rw [← hw6];simp
   have HU6:Hid (TrAt w6 w5.heap.size (.slice r1 s1 t1) (.slice r2 s2 t2) (.slice r3 s3 t3)):=Lib.hid (by rw [← hw6];constructor <;> simp [go_sem])
   have HT6:=Lib.hid (HT5.out.below hb6)
   have HP6:=Lib.hid (HP5.out.below hb6)
   have HB6:=Lib.hid (HB5.out.trans (hb6.mono HB5.out.size))
   have HOX6:=Lib.hid (HOX5.out.below hb6)
   have HRX6:=Lib.hid (HRX5.out.below hb6)
   have HQ6:=Lib.hid (HQ5.out.below hb6)
   clear hw6 hb6 HB5 HP5 HT5 HOX5 HRX5 HQ5
   obtain ⟨k0,k1,k2,-⟩:=HT6.out
   obtain ⟨j0,j1,j2,-⟩:=HU6.out
   go_wp2_with fail
   refine (eqBlockTree_same _ _ _ _ _ _ X _ HQ6.out.rd HP6.out.rd).mono ?_;rintro e w7 ⟨rfl,hb7⟩
   have HB7:=Lib.hid (HB6.out.trans (hb7.mono HB6.out.size))
   clear k0 k1 k2 j0 j1 j2
   go_wp2_with fail
   refine (toEntryS_any a _ cap l _ (HR.out.below HB7.out) HSN.out).mono ?_;rintro e w8 ⟨v8,rfl,ho8,hw8,hb8⟩
   obtain ⟨g8,c8,rfl,-,hr8⟩:=rowE_of_own ho8 (by have:=HSN.out;omega) hw8
   have HB8:=Lib.hid (HB7.out.trans (hb8.mono HB7.out.size))
   have HR8:=Lib.hid hr8
   have hb68:=hb7.trans (hb8.mono hb7.size)
   have HRX8:=Lib.hid (HRX6.out.below hb68)
   clear ho8 hw8 hr8 hb7 hb8 HB7
   go_wp2_with fail
   refine (eqEntryS_same _ _ _ cx c8 l _ HRX8.out HR8.out).mono ?_;rintro e w9 ⟨rfl,hb9⟩
   have HB9:=Lib.hid (HB8.out.trans (hb9.mono HB8.out.size))
   have hb69:=hb68.trans (hb9.mono hb68.size)
   have hs69:=hb69.size
   have HT9:=Lib.hid (HT6.out.below hb69)
   have HU9:=Lib.hid (HU6.out.below hb69)
   have HP9:=Lib.hid (HP6.out.below hb69)
   have HQ9:=Lib.hid (HQ6.out.below hb69)
   have HOX9:=Lib.hid (HOX6.out.below hb69)
   clear hb68 hb69 hb9 HB6 HB8 HT6 HU6 HP6 HQ6 HOX6 HRX6 HRX8 HR8
   go_wp2_with fail
   refine (markEntryS_any _ gx _ cx l 1 _ HOX9.out rfl (by have:=HSN.out;omega) (by omega) (by omega)).mono ?_;rintro e w10 ⟨rfl,-,hg10⟩
   have ht10:Turn gx (gx+1) w9 w10:=Turn.ofGrown hg10 (fun k hk=>by simp at hk;omega)
   have HB10:=Lib.hid (ht10.below HB9.out (by have:=HB9.out.size;have:=HSN.out;omega) HB9.out.size)
   have HT10:=Lib.hid (HT9.out.keep (ht10.block _ HT9.out.lt (.inl (by omega))))
   have HU10:=Lib.hid (HU9.out.keep (ht10.block _ HU9.out.lt (.inr (by omega))))
   have HP10:=Lib.hid (HP9.out.turn ht10 (.inl (by omega)))
   have HQ10:=Lib.hid (HQ9.out.turn ht10 (.inr (.inl (by omega))))
   have hs910:=ht10.size
   have hk13:decide ((1:Int)+2*(l.length:Int) < 0)=false:=by simp;omega
   clear ht10 hg10 HB9 HT9 HU9 HP9 HQ9 HOX9
   obtain ⟨k0,k1,k2,-⟩:=HT10.out
   obtain ⟨j0,j1,j2,-⟩:=HU10.out
   go_wp2_with fail
   refine (eqBlockTree_same _ _ _ _ _ _ X _ HQ10.out.rd HP10.out.rd).mono ?_;rintro e w11 ⟨rfl,hb11⟩
   have HB11:=Lib.hid (HB10.out.trans (hb11.mono HB10.out.size))
   have HT11:=Lib.hid (HT10.out.below hb11)
   have HU11:=Lib.hid (HU10.out.below hb11)
   have HP11:=Lib.hid (HP10.out.below hb11)
   have HQ11:=Lib.hid (HQ10.out.below hb11)
   have hs1011:=hb11.size
   clear hb11 k0 k1 k2 j0 j1 j2 hk13 HB10 HT10 HU10 HP10 HQ10
   obtain ⟨mt,hmt⟩:∃ m,m=mkTreN X:=⟨_,rfl⟩
   have HMT:=Lib.hid hmt
   have hq0:decide ((1:Int)+(mt:Int) < 0)=false:=by simp;omega
   have hqm:((1:Int)+(mt:Int) != 1+(mt:Int))=false:=by simp
   clear hmt
   obtain ⟨j0,j1,j2,-⟩:=HU11.out
   go_wp2_with fail
   refine (markBlockTree_own _ _ _ _ _ X tq 1 _ HQ11.out HBD.out.1 HBD.out.2.1 HBD.out.2.2 (by omega) (by omega) (by omega)).mono ?_;rintro e w12 ⟨rfl,hom,ht12⟩
   rw [← HMT.out]
   have HB12:=Lib.hid (ht12.below HB11.out (by have:=HB11.out.size;omega) HB11.out.size)
   have HT12:=Lib.hid (HT11.out.keep (ht12.block _ HT11.out.lt (.inl (by omega))))
   have HU12:=Lib.hid (HU11.out.keep (ht12.block _ HU11.out.lt (.inr (Nat.le_refl _))))
   have HP12:=Lib.hid (HP11.out.turn ht12 (.inl (by omega)))
   have HM12:=Lib.hid (marked_rd hom HQ11.out.tl HBD.out.1 HBD.out.2.1 HBD.out.2.2 (by omega) (by omega))
   clear hom ht12 j0 j1 j2 HB11 HT11 HU11 HP11 HQ11
   obtain ⟨j0,j1,j2,-⟩:=HU12.out
   go_wp2_with fail
   refine (heldBlockTree_any _ _ _ X 1 _ HM12.out HBD.out.1 HBD.out.2.1 HBD.out.2.2 (by omega) (by omega)).mono ?_;rintro e w13 ⟨rfl,hb13⟩
   rw [← HMT.out]
   have HB13:=Lib.hid (HB12.out.trans (hb13.mono HB12.out.size))
   clear j0 j1 j2
   go_wp2_with fail
   refine (toEntryS_any a _ cap l _ (HR.out.below HB13.out) HSN.out).mono ?_;rintro e w14 ⟨v14,rfl,ho14,hw14,hb14⟩
   obtain ⟨g14,c14,rfl,-,hr14⟩:=rowE_of_own ho14 (by have:=HSN.out;omega) hw14
   have HR14:=Lib.hid hr14
   have HB14:=Lib.hid (HB13.out.trans (hb14.mono HB13.out.size))
   have hb1214:=hb13.trans (hb14.mono hb13.size)
   clear hb13 hb14 ho14 hw14 hr14 HB13
   go_wp2_with fail
   refine (treeOf_impl _ _ c14 l _ HR14.out (fun e=>by cases e)).mono ?_;rintro e w15 ⟨q1,q2,q3,tr,rfl,hq,hb15⟩
   rw [HX.out] at hq
   obtain ⟨d1,e1,f1,d2,e2,f2,d3,e3,f3,rfl,rfl,rfl⟩:=trRd_form hq.rd
   have HB15:=Lib.hid (HB14.out.trans (hb15.mono HB14.out.size))
   have HH15:=Lib.hid hq
   have hb1215:=hb1214.trans (hb15.mono hb1214.size)
   clear hb15 hq hb1214 HB14 HR14
   go_upto_region 25 with (fail)
   generalize hw16:World.alloc _ _=w16
   have hb16:Below w15.heap.size w15 w16:=by rw [← hw16];exact (Below.refl _ _).alloc (Nat.le_refl _) _
   have HV16:Hid (TrAt w16 w15.heap.size (.slice d1 e1 f1) (.slice d2 e2 f2) (.slice d3 e3 f3)):=Lib.hid (by rw [← hw16];constructor <;> simp [go_sem])
   have hb1216:=hb1215.trans (hb16.mono hb1215.size)
   have HB16:=Lib.hid (HB15.out.trans (hb16.mono HB15.out.size))
   have HH16:=Lib.hid (HH15.out.below hb16)
   have HT16:=Lib.hid (HT12.out.below hb1216)
   have HU16:=Lib.hid (HU12.out.below hb1216)
   have HP16:=Lib.hid (HP12.out.below hb1216)
   have HM16:=Lib.hid (HM12.out.below hb1216)
   clear hw16 hb16 hb1215 hb1216 HB15 HB12 HH15 HT12 HU12 HP12 HM12
   obtain ⟨k0,k1,k2,-⟩:=HT16.out
   obtain ⟨i0,i1,i2,-⟩:=HV16.out
   go_wp2_with fail
   refine (eqBlockTree_same _ _ _ _ _ _ X _ HH16.out.rd HP16.out.rd).mono ?_;rintro e w17 ⟨rfl,hb17⟩
   have HB17:=Lib.hid (HB16.out.trans (hb17.mono HB16.out.size))
   have HM17:=Lib.hid (HM16.out.below hb17)
   obtain ⟨j0,j1,j2,-⟩:=HU16.out.below hb17
   clear k0 k1 k2 i0 i1 i2 hb17 HB16 HT16 HP16 HU16 HV16 HH16 HM16
   go_wp2_with fail
   refine (heldBlockTree_any _ _ _ X 1 _ HM17.out HBD.out.1 HBD.out.2.1 HBD.out.2.2 (by omega) (by omega)).mono ?_;rintro e w18 ⟨rfl,hb18⟩
   rw [← HMT.out]
   have HBF:=Lib.hid (HB17.out.trans (hb18.mono HB17.out.size))
   clear j0 j1 j2 hb18
   go_wp2
   go_ret
   exact ⟨rfl,HBF.out⟩
 · rw [if_neg hs]
   clear HR
   go_wp2
   go_ret
   exact ⟨rfl,Below.refl _ _⟩
end Go.Proofs.YtalohgmgkjfdbaaGreat
