/- The contract of the laws' own sameEngine,at two engines that read the same. -/
import Derived.Test.YtaaffpolmecicabGreatConvG
import Derived.Test.YtaaffpolmecicabGreatConvVx
import Derived.Test.YtaaffpolmecicabGreatConvX
import Derived.Test.YtaaffpolmecicabGreatConv
namespace Go.Proofs.YtaaffpolmecicabGreat
open Go.RowKit
set_option linter.unusedVariables false
set_option linter.unusedSimpArgs false
set_option maxRecDepth 100000 in
set_option maxHeartbeats 4000000 in
theorem sameEngine_same (v1 v2 v3 v4 u1 u2 u3 u4:Value) (e:Eng) (w:World) (h:EngRd w v1 v2 v3 v4 e) (h':EngRd w u1 u2 u3 u4 e) :
  Calls Tryz.prog 39 #[.agg #[v1,v2,v3,v4],.agg #[u1,u2,u3,u4]] w fun en w'=>en = .returned (.bool true)∧Below w.heap.size w w':=by
 obtain ⟨⟨a1,n1,c1,rfl,r1,-,-⟩,⟨a2,n2,c2,rfl,r2,-,-⟩,⟨a3,n3,c3,rfl,r3,-,-⟩,a4,n4,c4,rfl,r4,-,-⟩:=h
 obtain ⟨⟨b1,m1,d1,rfl,s1,-,-⟩,⟨b2,m2,d2,rfl,s2,-,-⟩,⟨b3,m3,d3,rfl,s3,-,-⟩,b4,m4,d4,rfl,s4,-,-⟩:=h'
 obtain rfl:n1=m1:=by rw [← r1.1,← s1.1]
 obtain rfl:n2=m2:=by rw [← r2.1,← s2.1]
 obtain rfl:n3=m3:=by rw [← r3.1,← s3.1]
 obtain rfl:n4=m4:=by rw [← r4.1,← s4.1]
 have hm2:=r2.2.1
 have hm4:=r4.2.1
 unfold maxLen at hm2 hm4
 have hb0:=((Below.refl w.heap.size w).alloc (Nat.le_refl _) (.cells #[.slice a1 n1 c1,.slice a2 n2 c2,.slice a3 n3 c3,.slice a4 n4 c4] 57)).alloc (by simp) (.cells #[.slice b1 n1 d1,.slice b2 n2 d2,.slice b3 n3 d3,.slice b4 n4 d4] 57)
 have hg1:=(egAt_new w 57 (.slice a1 n1 c1) (.slice a2 n2 c2) (.slice a3 n3 c3) (.slice a4 n4 c4)).below ((Below.refl _ _).alloc (Nat.le_refl _) (.cells #[.slice b1 n1 d1,.slice b2 n2 d2,.slice b3 n3 d3,.slice b4 n4 d4] 57))
 have hg2:=egAt_new (w.alloc (.cells #[.slice a1 n1 c1,.slice a2 n2 c2,.slice a3 n3 c3,.slice a4 n4 c4] 57)) 57 (.slice b1 n1 d1) (.slice b2 n2 d2) (.slice b3 n3 d3) (.slice b4 n4 d4)
 rw [World.size_alloc] at hg2
 obtain ⟨W1,hW1⟩:∃ W1,W1=(w.alloc (.cells #[.slice a1 n1 c1,.slice a2 n2 c2,.slice a3 n3 c3,.slice a4 n4 c4] 57)).alloc (.cells #[.slice b1 n1 d1,.slice b2 n2 d2,.slice b3 n3 d3,.slice b4 n4 d4] 57):=⟨_,rfl⟩
 have HW1:=Lib.hid hW1
 rw [← hW1] at hb0 hg1 hg2
 clear hW1
 have HA:=Lib.hid (fun (W:World) (hb:Below W1.heap.size W1 W)=>(⟨hg1.below hb,hg2.below hb,hb0.trans (hb.mono hb0.size)⟩:EgAt W w.heap.size (.slice a1 n1 c1) (.slice a2 n2 c2) (.slice a3 n3 c3) (.slice a4 n4 c4)∧EgAt W (w.heap.size+1) (.slice b1 n1 d1) (.slice b2 n2 d2) (.slice b3 n3 d3) (.slice b4 n4 d4)∧Below w.heap.size w W))
 have HR1:=Lib.hid (fun (W:World) (hb:Below W1.heap.size W1 W)=>(⟨(r1.below hb0).below hb,(s1.below hb0).below hb⟩:RowE W a1 n1 e.base∧RowE W b1 n1 e.base))
 have HR2:=Lib.hid (fun (W:World) (hb:Below W1.heap.size W1 W)=>(⟨(r2.below hb0).below hb,(s2.below hb0).below hb⟩:RowA W a2 n2 e.list∧RowA W b2 n2 e.list))
 have HR3:=Lib.hid (fun (W:World) (hb:Below W1.heap.size W1 W)=>(⟨(r3.below hb0).below hb,(s3.below hb0).below hb⟩:RowV W a3 n3 e.vers∧RowV W b3 n3 e.vers))
 have HR4:=Lib.hid (fun (W:World) (hb:Below W1.heap.size W1 W)=>(⟨(r4.below hb0).below hb,(s4.below hb0).below hb⟩:RowSl W a4 n4 e.slots∧RowSl W b4 n4 e.slots))
 clear r1 r2 r3 r4 s1 s2 s3 s4 hb0 hg1 hg2
 go_enter Tryz.func39,Tryz.ntmps39
 go_upto_region 1 with (fail)
 rw [← HW1.out]
 clear HW1
 obtain ⟨⟨x0,x1,x2,x3,-,-,-,-⟩,⟨y0,y1,y2,y3,-,-,-,-⟩,-⟩:=HA.out W1 (Below.refl _ _)
 have e2:((n2:Int) != (n2:Int))=false:=by simp
 have e4:((n4:Int) != (n4:Int))=false:=by simp
 go_wp2_with fail
 refine (sameStore_same a1 b1 n1 c1 d1 e.base _ (HR1.out _ (Below.refl _ _)).1 (HR1.out _ (Below.refl _ _)).2).mono ?_;rintro en w2 ⟨rfl,hd2⟩
 have HB2:=Lib.hid (hd2.below W1.heap.size)
 clear x0 x1 x2 x3 y0 y1 y2 y3 hd2
 obtain ⟨⟨x0,x1,x2,x3,-,-,-,-⟩,⟨y0,y1,y2,y3,-,-,-,-⟩,-⟩:=HA.out w2 HB2.out
 go_wp2_with fail
 refine (sameVersions_same a3 b3 n3 c3 d3 e.vers _ (HR3.out _ HB2.out).1 (HR3.out _ HB2.out).2).mono ?_;rintro en w3 ⟨rfl,hd3⟩
 have HB3:=Lib.hid (HB2.out.trans ((hd3.below w2.heap.size).mono HB2.out.size))
 clear x0 x1 x2 x3 y0 y1 y2 y3 hd3
 obtain ⟨⟨x0,x1,x2,x3,-,-,-,-⟩,⟨y0,y1,y2,y3,-,-,-,-⟩,-⟩:=HA.out w3 HB3.out
 go_wp2_with fail
 clear x0 x1 x2 x3 y0 y1 y2 y3
 go_loopw [5] (fun i wr=>∃ k:Nat,k≤n2∧i = .int .i64 k∧Below W1.heap.size W1 wr) (fun i _=>n2 - (intOf i).toNat)
 case atStart=>exact ⟨0,Nat.zero_le _,rfl,HB3.out⟩
 case round =>
  obtain ⟨k,hk,rfl,hb⟩:=hrel
  clear HB3
  have HB:=Lib.hid hb
  obtain ⟨⟨x0,x1,x2,x3,-,-,-,-⟩,⟨y0,y1,y2,y3,-,-,-,-⟩,-⟩:=HA.out wr HB.out
  by_cases hlt:k < n2
  · obtain ⟨b,off,rfl,hcc⟩:=(HR2.out wr HB.out).1.2.2.1 (by omega)
    obtain ⟨b',off',rfl,hcc'⟩:=(HR2.out wr HB.out).2.2.2.1 (by omega)
    obtain ⟨c1',c2',c3',c4'⟩:=hcc k hlt
    obtain ⟨e1',e2',e3',e4'⟩:=hcc' k hlt
    clear hcc hcc'
    obtain ⟨x,hx⟩:∃ x,x=e.list.getD k noA:=⟨_,rfl⟩
    rw [← hx] at c1' c2' c3' c4' e1' e2' e3' e4'
    clear hx
    obtain ⟨p,q,r,t⟩:=x
    simp only at c1' c2' c3' c4' e1' e2' e3' e4'
    have i1:(0:Int)≤(k:Int):=by omega
    have i2:(k:Int) < (n2:Int):=by omega
    go_upto_region 6 with (fail)
    go_quiet (fail)
    go_wp2_with fail
    go_roundw
    case rel=>exact ⟨k+1,by omega,by go_num,by first | exact HB.out | exact HB.out.drew | exact below_drewN' HB.out _⟩
    case measure=>simp [intOf];omega
  · obtain rfl:k=n2:=by omega
    clear hlt
    go_wp2_with fail
    clear x0 x1 x2 x3 y0 y1 y2 y3
    go_loopw [6] (fun i wr=>∃ k:Nat,k≤n4∧i = .int .i64 k∧Below W1.heap.size W1 wr) (fun i _=>n4 - (intOf i).toNat)
    case atStart=>exact ⟨0,Nat.zero_le _,rfl,HB.out⟩
    case round =>
     obtain ⟨k,hk,rfl,hb⟩:=hrel
     clear HB
     have HB:=Lib.hid hb
     obtain ⟨⟨x0,x1,x2,x3,-,-,-,-⟩,⟨y0,y1,y2,y3,-,-,-,-⟩,HBW⟩:=HA.out wr HB.out
     by_cases hlt:k < n4
     · obtain ⟨b,off,rfl,g0,g1,⟨v2,g2,av,nv,cv,rfl,rv,-,-⟩,g3,⟨v4,g4,aw,nw,cw,rfl,rw_,-,-⟩,v5,g5,ax,nx,cx,rfl,rx,-,-⟩:=(HR4.out wr HB.out).1.at k hlt
       obtain ⟨b',off',rfl,j0,j1,⟨v2',j2,av',nv',cv',rfl,rv',-,-⟩,j3,⟨v4',j4,aw',nw',cw',rfl,rw_',-,-⟩,v5',j5,ax',nx',cx',rfl,rx',-,-⟩:=(HR4.out wr HB.out).2.at k hlt
       obtain rfl:nv=nv':=by rw [← rv.1,← rv'.1]
       obtain rfl:nw=nw':=by rw [← rw_.1,← rw_'.1]
       obtain rfl:nx=nx':=by rw [← rx.1,← rx'.1]
       have HV:=Lib.hid rv;have HV':=Lib.hid rv'
       have HF:=Lib.hid (show RowF wr aw nw ax nx (e.slots.getD k noSlt).res from ⟨rw_,rx⟩)
       have HF':=Lib.hid (show RowF wr aw' nw ax' nx (e.slots.getD k noSlt).res from ⟨rw_',rx'⟩)
       clear rv rv' rw_ rw_' rx rx' HBW
       obtain ⟨s,hs⟩:∃ s,s=e.slots.getD k noSlt:=⟨_,rfl⟩
       rw [← hs] at g0 g1 g3 j0 j1 j3 HV HV' HF HF'
       clear hs
       obtain ⟨st,tr,fr,rs⟩:=s
       simp only at g0 g1 g3 j0 j1 j3 HV HV' HF HF'
       obtain ⟨dn,X,Y⟩:=rs
       simp only at g3 j3
       have i1:(0:Int)≤(k:Int):=by omega
       have i2:(k:Int) < (n4:Int):=by omega
       go_upto_region 12 with (fail)
       generalize hw5:World.alloc _ _=w5
       have hb5:Below wr.heap.size wr w5:=by rw [← hw5];exact (Below.refl _ _).alloc (Nat.le_refl _) _
       have hx5:SxAt w5 wr.heap.size (.int .i64 st) (.int .i64 tr) (.slice av nv cv) (.bool dn) (.slice aw nw cw) (.slice ax nx cx):=by rw [← hw5];exact sxAt_new wr _ _ _ _ _ _ _
       have hbl:b' < wr.heap.size:=World.block_lt_of_cell? wr ⟨b',off'+k*6,none⟩ j0
       have l0:=below_cz hb5 hbl j0;have l1:=below_cz hb5 hbl j1;have l2:=below_cz hb5 hbl j2;have l3:=below_cz hb5 hbl j3;have l4:=below_cz hb5 hbl j4;have l5:=below_cz hb5 hbl j5
       have HB5:=Lib.hid (HB.out.trans (hb5.mono HB.out.size))
       have HXA:=Lib.hid hx5
       obtain ⟨-,⟨y0,y1,y2,y3,-,-,-,-⟩,-⟩:=HA.out w5 HB5.out
       clear hw5 g0 g1 g2 g3 g4 g5 j0 j1 j2 j3 j4 j5 x0 x1 x2 x3 hbl
       go_upto_region 13 with (fail)
       generalize hw6:World.alloc _ _=w6
       have hb6:Below w5.heap.size w5 w6:=by rw [← hw6];exact (Below.refl _ _).alloc (Nat.le_refl _) _
       have hx6:SxAt w6 w5.heap.size (.int .i64 st) (.int .i64 tr) (.slice av' nv cv') (.bool dn) (.slice aw' nw cw') (.slice ax' nx cx'):=by rw [← hw6];exact sxAt_new w5 _ _ _ _ _ _ _
       have HB6:=Lib.hid (HB5.out.trans (hb6.mono HB5.out.size))
       have hb56:Below wr.heap.size wr w6:=hb5.trans (hb6.mono hb5.size)
       have HXB:=Lib.hid hx6
       have HXA6:=Lib.hid (HXA.out.below hb6)
       have HV6:=Lib.hid (HV.out.below hb56);have HV6':=Lib.hid (HV'.out.below hb56)
       have HF6:=Lib.hid (HF.out.below hb56);have HF6':=Lib.hid (HF'.out.below hb56)
       obtain ⟨P5,hP5⟩:∃ P,P=wr.heap.size:=⟨_,rfl⟩
       obtain ⟨P6,hP6⟩:∃ P,P=w5.heap.size:=⟨_,rfl⟩
       rw [← hP5] at HXA6
       rw [← hP6] at HXB
       rw [← hP5,← hP6]
       have ea:(st != st)=false:=by simp
       have eb:(tr != tr)=false:=by simp
       clear hw6 hb5 hx5 hb6 hx6 hb56 HXA HV HV' HF HF' hP5 hP6 HB5 HB l0 l1 l2 l3 l4 l5 y0 y1 y2 y3
       obtain ⟨g0,g1,g2,g3,g4,g5,-⟩:=HXA6.out
       obtain ⟨j0,j1,j2,j3,j4,j5,-⟩:=HXB.out
       go_wp2_with fail
       refine (sameInts_same av av' nv cv cv' fr _ HV6.out HV6'.out).mono ?_;rintro en w7 ⟨rfl,hb7⟩
       have HB7:=Lib.hid (HB6.out.trans (hb7.mono HB6.out.size))
       have HF7:=Lib.hid (HF6.out.below hb7);have HF7':=Lib.hid (HF6'.out.below hb7)
       have HXA7:=Lib.hid (HXA6.out.below hb7);have HXB7:=Lib.hid (HXB.out.below hb7)
       clear hb7 HB6 HF6 HF6' HXA6 HXB HV6 HV6' g0 g1 g2 g3 g4 g5 j0 j1 j2 j3 j4 j5
       obtain ⟨g0,g1,g2,g3,g4,g5,-⟩:=HXA7.out
       obtain ⟨j0,j1,j2,j3,j4,j5,-⟩:=HXB7.out
       go_wp2_with fail
       refine (sameEffect_same aw nw cw ax nx cx aw' cw' ax' cx' ⟨dn,X,Y⟩ _ HF7.out HF7'.out).mono ?_;rintro en w8 ⟨rfl,hb8⟩
       have HB8:=Lib.hid (HB7.out.trans (hb8.mono HB7.out.size))
       clear hb8 HB7 HF7 HF7' HXA7 HXB7 g0 g1 g2 g3 g4 g5 j0 j1 j2 j3 j4 j5
       go_wp2_with fail
       go_roundw
       case rel=>exact ⟨k+1,by omega,by go_num,HB8.out⟩
       case measure=>simp [intOf];omega
     · have HBF:=Lib.hid HBW
       go_wp2_with fail
       go_ret
       exact ⟨rfl,HBF.out⟩
end Go.Proofs.YtaaffpolmecicabGreat
