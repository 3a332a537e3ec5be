/- The contract of the draw DrawEngineDone (gen15/laweng_done.py). -/
import Derived.Test.YtaaffpolmecicabGreatDrawEng3
namespace Go.Proofs.YtaaffpolmecicabGreat
open Go.RowKit
set_option linter.unusedVariables false
set_option linter.unusedSimpArgs false
set_option maxHeartbeats 4000000 in
theorem drawEngineDone_any (a:Option Addr) (len cap:Nat) (z:List Int) (w:World) (h:RowB w a len z) (hlc:len≤cap) :
  Calls Tryz.prog 47 #[.slice a len cap] w (DrawnE w):=by
 have hZ0:=egAt_new w 57 (.slice none 0 0) (.slice none 0 0) (.slice none 0 0) (.slice none 0 0)
 have hb0:=(Below.refl w.heap.size w).alloc (Nat.le_refl _) (.cells #[.slice none 0 0,.slice none 0 0,.slice none 0 0,.slice none 0 0] 57)
 obtain ⟨w0,hw0⟩:∃ W1,W1=w.alloc (.cells #[.slice none 0 0,.slice none 0 0,.slice none 0 0,.slice none 0 0] 57):=⟨_,rfl⟩
 have HW0:=Lib.hid hw0
 have hrb:RowB w0 a len z:=by rw [hw0];exact rowB_belowE h hb0
 rw [← hw0] at hb0 hZ0
 clear hw0 h
 have HB0:=Lib.hid hb0
 have HZ0:=Lib.hid hZ0
 have HOP:=Lib.hid (open_any a len cap z w0 hrb hlc)
 clear hb0 hZ0 hrb
 go_enter Tryz.func47,Tryz.ntmps47
 go_upto_region 1 with (fail)
 rw [← HW0.out]
 clear HW0
 go_wp2_with fail
 refine HOP.out.mono ?_;rintro e w1 ⟨R,rfl,hR,hr1,hb1,hRl⟩
 have HR0:Hid (w.heap.size < R∧R < w1.heap.size):=Lib.hid ⟨by have:=HZ0.out.lt;omega,hr1.lt⟩
 have HB1:=Lib.hid (HB0.out.trans (hb1.mono HB0.out.size))
 have HZ1:=Lib.hid (HZ0.out.below hb1)
 clear HOP hb1 HB0 HZ0 hRl hR
 go_wp2_with fail
 refine (l20Engine_any R 0 9 _ hr1 (by omega) (by omega) (by omega)).mono ?_;rintro e w2 ⟨v1,v2,v3,v4,E,rfl,hrd,hsm,hr2,hu2⟩
 have hrd0:=hrd w2 (fun _ _ _ _=>rfl)
 obtain ⟨⟨b1,m1,d1,rfl,-⟩,⟨b2,m2,d2,rfl,-⟩,⟨b3,m3,d3,rfl,-⟩,b4,m4,d4,rfl,-⟩:=hrd0
 have HZ2:=Lib.hid (HZ1.out.upd hu2 (by have:=HR0.out;omega))
 have HRD:=Lib.hid hrd
 have HSM:=Lib.hid hsm
 have HU2:=Lib.hid hu2
 have HR2:=Lib.hid hr2
 clear hr1 hrd hsm hu2 hr2
 go_upto_region 3 with (fail)
 generalize hw3:World.alloc _ _=w3
 have hX3:EgAt w3 w2.heap.size (.slice b1 m1 d1) (.slice b2 m2 d2) (.slice b3 m3 d3) (.slice b4 m4 d4):=by rw [← hw3];exact egAt_new w2 _ _ _ _ _
 have hb3:Below w2.heap.size w2 w3:=by rw [← hw3];exact (Below.refl _ _).alloc (Nat.le_refl _) _
 have HR3:=Lib.hid (HR2.out.below hb3)
 have HB3:=Lib.hid hb3
 have HX3:=Lib.hid hX3
 have HZ3:=Lib.hid (HZ2.out.below hb3)
 obtain ⟨X,hXe⟩:∃ X,X=w2.heap.size:=⟨_,rfl⟩
 have HXE:=Lib.hid hXe
 rw [← hXe] at HX3 ⊢
 have HXR:Hid (R < X∧w1.heap.size≤X):=Lib.hid ⟨by have h1:=HR2.out.lt;omega,by have h1:=HU2.out.size;omega⟩
 clear hw3 hX3 hb3 hXe HR2
 go_wp2_with fail
 refine (pick_pos R _ 2 _ HR3.out (by omega) (by omega) (by omega)).mono ?_;rintro e w4 ⟨xp,rfl,hp0,hp1,-,hu4⟩
 have HX4:=Lib.hid (HX3.out.upd hu4 (by have:=HXR.out;omega))
 have HZ4:=Lib.hid (HZ3.out.upd hu4 (by have:=HR0.out;omega))
 have HU4:=Lib.hid ((HU2.out.trans (Upd.ofBelow R HB3.out)).trans hu4)
 have HRD4:Hid (∀ W:World,(∀ k,w1.heap.size < k→k < w2.heap.size→k≠R→W.heap[k]? = w4.heap[k]?)→EngRd W (.slice b1 m1 d1) (.slice b2 m2 d2) (.slice b3 m3 d3) (.slice b4 m4 d4) E):=Lib.hid (fun W hW=>HRD.out W (fun k hk0 hk1 hk2=>(hW k hk0 hk1 hk2).trans ((hu4.block k (Nat.lt_of_lt_of_le hk1 HB3.out.size) (fun e=>hk2 (by simpa using e))).trans (HB3.out.block k hk1))))
 have HSZ4:Hid (X < w4.heap.size):=Lib.hid HX4.out.lt
 clear hu4 HX3 HZ3 HU2 HB3 HRD HR3 HZ2
 by_cases hx0:xp=0
 · have hd:(xp == 0)=true:=by simp [hx0]
   clear hx0 hp0 hp1
   have HC:=Lib.hid (engineFinish_spec _ _ _ _ E w4 (HRD4.out w4 (fun _ _ _ _=>rfl)))
   obtain ⟨q0,q1,q2,q3,p0,p1,p2,p3⟩:=HX4.out
   go_wp2_with fail
   refine HC.out.mono ?_;rintro en w5 ⟨x1,x2,x3,x4,ts,rfl,ho5,hb5⟩
   have ho5':=ho5.rd
   obtain ⟨⟨c1,k1,l1,rfl,-⟩,⟨c2,k2,l2,rfl,-⟩,⟨c3,k3,l3,rfl,-⟩,c4,k4,l4,rfl,-⟩:=ho5'
   have HFX:Hid (EngSm (eFinM E).1):=Lib.hid (OwnR.len4 (eFinM_ok E))
   have HX5:=Lib.hid (HX4.out.below hb5)
   have HZ5:=Lib.hid (HZ4.out.below hb5)
   have hGX:=set4_grown w5 X (.slice c1 k1 l1) (.slice c2 k2 l2) (.slice c3 k3 l3) (.slice c4 k4 l4)
   have HO5:=Lib.hid ho5
   have HB5:=Lib.hid hb5
   have HGX:=Lib.hid hGX
   clear ho5 hb5 hGX q0 q1 q2 q3 p0 p1 p2 p3 HC
   obtain ⟨q0,q1,q2,q3,p0,p1,p2,p3⟩:=HX5.out
   go_upto_region 5 with (fail)
   generalize hw6:World.setCell _ _ _=w6
   have hw:w6=set4 w5 X (.slice c1 k1 l1) (.slice c2 k2 l2) (.slice c3 k3 l3) (.slice c4 k4 l4):=hw6.symm
   have hX6:EgAt w6 X (.slice c1 k1 l1) (.slice c2 k2 l2) (.slice c3 k3 l3) (.slice c4 k4 l4):=by rw [hw];exact HX5.out.set4 (.slice c1 k1 l1) (.slice c2 k2 l2) (.slice c3 k3 l3) (.slice c4 k4 l4)
   have hG6:w5.grownBy w6 (some X):=by rw [hw];exact HGX.out
   clear hw6 hw q0 q1 q2 q3 p0 p1 p2 p3
   have hZ6:=HZ5.out.grown hG6 (fun e=>by have h1:=HXR.out;have h2:=HZ1.out.lt;simp only [Option.some.injEq] at e;omega)
   have hGZ:=set4_grown w6 w.heap.size (.slice c1 k1 l1) (.slice c2 k2 l2) (.slice c3 k3 l3) (.slice c4 k4 l4)
   have HE:=Lib.hid (hZ6.set4 (.slice c1 k1 l1) (.slice c2 k2 l2) (.slice c3 k3 l3) (.slice c4 k4 l4))
   have HFIN:Hid (DrawnE w (.returned (.agg #[.slice c1 k1 l1,.slice c2 k2 l2,.slice c3 k3 l3,.slice c4 k4 l4])) (set4 w6 w.heap.size (.slice c1 k1 l1) (.slice c2 k2 l2) (.slice c3 k3 l3) (.slice c4 k4 l4))):=Lib.hid (by
    have hs:=HSZ4.out
    have hr0:=HR0.out
    have hxr:=HXR.out
    have hz1:=HZ1.out.lt
    have hs5:=HB5.out.size
    have hu45:=HU4.out.size
    refine ⟨_,_,_,_,_,_,_,_,_,_,_,_,_,rfl,fun W hW=>((⟨HO5.out.tl,HO5.out.own.keep fun r hr b hb=>?_,HO5.out.wf⟩:EngOwn W _ _ tEng _ _ _ _ (eFinM E).1 ts)).rd,HFX.out,?_⟩
    · have hge:=HO5.out.own.ge hr hb
      exact (hW.block b (Nat.lt_of_lt_of_le hge.2.2 (Nat.le_trans hG6.size hGZ.size))).trans ((hGZ.block b (Nat.lt_of_lt_of_le hge.2.2 hG6.size) (fun e=>by simp only [Option.some.injEq] at e;omega)).trans (hG6.block b hge.2.2 (fun e=>by simp only [Option.some.injEq] at e;omega)))
    · exact (((HU4.out.below HB1.out (Nat.le_of_lt hz1) (Nat.le_of_lt hr0.1)).trans (HB5.out.mono (by omega))).grown hG6 (by omega) (fun k hk=>by simp only [Option.some.injEq] at hk;omega)).grown hGZ (by have:=hG6.size;omega) (fun k hk=>by simp only [Option.some.injEq] at hk;omega))
   obtain ⟨r0,r1,r2,r3,-⟩:=hX6
   obtain ⟨t0,t1,t2,t3,s0,s1,s2,s3⟩:=hZ6
   clear hG6 hGZ
   unfold set4 at HFIN HE
   go_wp2_with fail
   exact bodyPost_ret (results_eng Tryz.results47 _ (by rfl) HE.out) rfl HFIN.out
 · have hd:(xp == 0)=false:=by simp [hx0]
   clear hx0 hp0 hp1
   have hGZ:=set4_grown w4 w.heap.size (.slice b1 m1 d1) (.slice b2 m2 d2) (.slice b3 m3 d3) (.slice b4 m4 d4)
   have HFIN:Hid (DrawnE w (.returned (.agg #[.slice b1 m1 d1,.slice b2 m2 d2,.slice b3 m3 d3,.slice b4 m4 d4])) (set4 w4 w.heap.size (.slice b1 m1 d1) (.slice b2 m2 d2) (.slice b3 m3 d3) (.slice b4 m4 d4))):=Lib.hid (drawnE_fin HB1.out HZ1.out.lt (Nat.le_of_lt HR0.out.1) HU4.out (fun W hW=>HRD4.out W (fun k hk0 hk1 hk2=>hW k hk0 (Nat.lt_trans hk1 (by have h1:=HSZ4.out;have h2:=HXE.out;omega)) hk2)) HSM.out)
   have HE:=Lib.hid (HZ4.out.set4 (.slice b1 m1 d1) (.slice b2 m2 d2) (.slice b3 m3 d3) (.slice b4 m4 d4))
   obtain ⟨r0,r1,r2,r3,-⟩:=HX4.out
   obtain ⟨t0,t1,t2,t3,s0,s1,s2,s3⟩:=HZ4.out
   unfold set4 at HFIN HE
   clear hGZ
   go_wp2_with fail
   exact bodyPost_ret (results_eng Tryz.results47 _ (by rfl) HE.out) rfl HFIN.out
end Go.Proofs.YtaaffpolmecicabGreat
