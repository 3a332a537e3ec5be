/- The walk of the exact law of CertBlock (gen18/lawcb2.py). -/
import Derived.Test.YtolhdacbahgfgaaGreatCertTr
import Derived.Test.YtolhdacbahgfgaaGreatCvB
import Derived.Test.YtolhdacbahgfgaaGreatConvCt
import Derived.Test.YtolhdacbahgfgaaGreatLawTrEx
import Derived.Test.YtolhdacbahgfgaaGreatInCt
import Derived.Deep.RegionHeld3
namespace Go.Proofs.YtolhdacbahgfgaaGreat
open Go.RowKit
set_option linter.unusedVariables false
set_option linter.unusedSimpArgs false
set_option maxRecDepth 100000 in
set_option maxHeartbeats 8000000 in
theorem lawExactCertBlock (a1:Option Addr) (n1 c1:Nat) (a2:Option Addr) (n2 c2:Nat) (a3:Option Addr) (n3 c3:Nat) (t:Tre) (p q r:Int) (w:World) (h:TreRd w (.slice a1 n1 c1) (.slice a2 n2 c2) (.slice a3 n3 c3) t) (hxw:WfC ⟨p,q,r⟩) :
  Calls Tryz.prog 3 #[.agg #[.slice a1 n1 c1,.slice a2 n2 c2,.slice a3 n3 c3],.agg #[.int .i64 p,.int .i64 q,.int .i64 r]] w (LawTrue w):=by
 have hsw:(Lit.int .i64 p).wf=true:=hxw.1
 clear hxw
 have hb0:=((Below.refl w.heap.size w).alloc (Nat.le_refl _) (.cells #[.slice a1 n1 c1,.slice a2 n2 c2,.slice a3 n3 c3] 26)).alloc (by simp) (.cells #[.int .i64 p,.int .i64 q,.int .i64 r] 28)
 have hg0:=(trAt_new w 26 (.slice a1 n1 c1) (.slice a2 n2 c2) (.slice a3 n3 c3)).below ((Below.refl _ _).alloc (Nat.le_refl _) (.cells #[.int .i64 p,.int .i64 q,.int .i64 r] 28))
 have hd0:=trAt_new (w.alloc (.cells #[.slice a1 n1 c1,.slice a2 n2 c2,.slice a3 n3 c3] 26)) 28 (.int .i64 p) (.int .i64 q) (.int .i64 r)
 rw [World.size_alloc] at hd0
 obtain ⟨W1,hW1⟩:∃ W1,W1=(w.alloc (.cells #[.slice a1 n1 c1,.slice a2 n2 c2,.slice a3 n3 c3] 26)).alloc (.cells #[.int .i64 p,.int .i64 q,.int .i64 r] 28):=⟨_,rfl⟩
 have HW1:=Lib.hid hW1
 rw [← hW1] at hb0 hg0 hd0
 clear hW1
 have HKK:=Lib.hid (fun W' (hb:Below W1.heap.size W1 W') =>
  (⟨⟨(hg0.below hb).c0,(hg0.below hb).c1,(hg0.below hb).c2⟩,⟨(hd0.below hb).c0,(hd0.below hb).c1,(hd0.below hb).c2⟩,(h.below hb0).below hb,hb0.trans (hb.mono hb0.size)⟩:(W'.cell? ⟨w.heap.size,0,none⟩=some (.slice a1 n1 c1)∧W'.cell? ⟨w.heap.size,1,none⟩=some (.slice a2 n2 c2)∧W'.cell? ⟨w.heap.size,2,none⟩=some (.slice a3 n3 c3))∧(W'.cell? ⟨w.heap.size+1,0,none⟩=some (.int .i64 p)∧W'.cell? ⟨w.heap.size+1,1,none⟩=some (.int .i64 q)∧W'.cell? ⟨w.heap.size+1,2,none⟩=some (.int .i64 r))∧TreRd W' (.slice a1 n1 c1) (.slice a2 n2 c2) (.slice a3 n3 c3) t∧Below w.heap.size w W'))
 clear hb0 hg0 hd0 h
 go_enter Tryz.func3,Tryz.ntmps3
 go_upto_region 1 with (fail)
 rw [← HW1.out]
 clear HW1
 obtain ⟨⟨k0,k1,k2⟩,-,kr,-⟩:=HKK.out W1 (Below.refl _ _)
 go_wp2_with fail
 refine (szBlockTree_any _ _ _ t 1048576 _ kr (by omega) (by omega)).mono ?_;rintro e1 w1 ⟨rfl,hb1⟩
 have HB1:=Lib.hid hb1
 clear k0 k1 k2 kr hb1
 by_cases hw:((wtTre t:Nat):Int)≤1048576
 · have hs:decide (szNt (wtTre t) 1048576 < 0)=false:=by rw [szNt_yes hw];simp;omega
   have hwn:wtTre t≤1048576:=by omega
   obtain ⟨sz,hsz⟩:∃ sz,sz=szNt (wtTre t) 1048576:=⟨_,rfl⟩
   rw [← hsz] at hs ⊢
   have HWN:=Lib.hid hwn
   have HSW:=Lib.hid hsw
   clear hsz hw hwn hsw
   obtain ⟨v,hv⟩:∃ v,cbM t ⟨p,q,r⟩=v:=⟨_,rfl⟩
   have HV:=Lib.hid hv
   have hvv:(v != v)=false:=by simp
   clear hv
   obtain ⟨⟨k0,k1,k2⟩,⟨y0,y1,y2⟩,-,-⟩:=HKK.out w1 HB1.out
   have HKP1:=Lib.hid (fun W' (hb:Below w1.heap.size w1 W')=>(⟨(HKK.out W' (HB1.out.trans (hb.mono HB1.out.size))).1,(HKK.out W' (HB1.out.trans (hb.mono HB1.out.size))).2.1⟩:(_∧_∧_)∧_∧_∧_))
   have HKR1:=Lib.hid (HKK.out w1 HB1.out).2.2.1
   go_upto_region 5 with (fail)
   go_region_held3 (fun w'=>(w'.cell? ⟨w.heap.size,0,none⟩=some (.slice a1 n1 c1)∧w'.cell? ⟨w.heap.size,1,none⟩=some (.slice a2 n2 c2)∧w'.cell? ⟨w.heap.size,2,none⟩=some (.slice a3 n3 c3))∧w'.cell? ⟨w.heap.size+1,0,none⟩=some (.int .i64 p)∧w'.cell? ⟨w.heap.size+1,1,none⟩=some (.int .i64 q)∧w'.cell? ⟨w.heap.size+1,2,none⟩=some (.int .i64 r)) (first | exact ⟨⟨k0,k1,k2⟩,y0,y1,y2⟩ | exact hkp | exact hkp2 | exact hkp3 | go_keep)
    (first | (go_at_call 10;refine (toBlockTree_any _ _ _ t w1.drew (HKR1.out.below (Below.refl _ _).drew) HWN.out).mono ?_;rintro e1 w2 ⟨u1,u2,u3,ts2,rfl,ho2,hb2'⟩;obtain ⟨f1,g1,j1,f2,g2,j2,f3,g3,j3,rfl,rfl,rfl⟩:=newTre_form ho2;have hb2:=(Below.refl w1.heap.size w1).drew.trans hb2';have hkp:=HKP1.out _ hb2) | (go_at_call 11;refine (toCert_any p q r w2).mono ?_;rintro e1 w3 ⟨rfl,hb3'⟩;have hb3:=hb2.trans (hb3'.mono hb2.size);have hkp2:=HKP1.out _ hb3) | (go_at_call 9;refine (certBlock_spec _ _ _ t p q r w3 (ho2.rd.below hb3') HSW.out).mono ?_;rintro e1 w4 ⟨rfl,hb4'⟩;rw [HV.out];have hb4:=hb3.trans (hb4'.mono hb3.size);have hkp3:=HKP1.out _ hb4))
   have HB4:=Lib.hid (HB1.out.trans (hb4.mono HB1.out.size))
   clear hkp hkp2 hkp3 hb4 hb4' hb3 hb3' hb2 hb2' ho2 HKP1 HKR1 HB1
   obtain ⟨⟨k0,k1,k2⟩,-,kr,-⟩:=HKK.out w4 HB4.out
   go_wp2_with fail
   refine (toBlockTree_any _ _ _ t _ kr HWN.out).mono ?_;rintro e1 w5 ⟨u1,u2,u3,ts5,rfl,ho5,hb5⟩
   obtain ⟨x1,y1,z1,x2,y2,z2,x3,y3,z3,rfl,rfl,rfl⟩:=newTre_form ho5
   have HO5:=Lib.hid ho5.rd
   have HB5:=Lib.hid (HB4.out.trans (hb5.mono HB4.out.size))
   clear k0 k1 k2 kr ho5 hb5 HB4
   go_upto_region 7 with (fail)
   generalize hw6:World.alloc _ _=w6
   have hb6:Below w5.heap.size w5 w6:=by rw [← hw6];exact (Below.refl _ _).alloc (Nat.le_refl _) _
   have hX6:TrAt w6 w5.heap.size (.slice x1 y1 z1) (.slice x2 y2 z2) (.slice x3 y3 z3):=by rw [← hw6];exact trAt_new w5 _ _ _ _
   have HB6:=Lib.hid (HB5.out.trans (hb6.mono HB5.out.size))
   have HO6:=Lib.hid (HO5.out.below hb6)
   obtain ⟨X,hX⟩:∃ X,X=w5.heap.size:=⟨_,rfl⟩
   rw [← hX] at hX6 ⊢
   clear hw6 hb6 HB5 HO5 hX
   have HKP6:=Lib.hid (fun W' (hb:Below w6.heap.size w6 W')=>(⟨⟨(hX6.below hb).c0,(hX6.below hb).c1,(hX6.below hb).c2⟩,(HKK.out W' (HB6.out.trans (hb.mono HB6.out.size))).2.1⟩:(W'.cell? ⟨X,0,none⟩=some (.slice x1 y1 z1)∧W'.cell? ⟨X,1,none⟩=some (.slice x2 y2 z2)∧W'.cell? ⟨X,2,none⟩=some (.slice x3 y3 z3))∧W'.cell? ⟨w.heap.size+1,0,none⟩=some (.int .i64 p)∧W'.cell? ⟨w.heap.size+1,1,none⟩=some (.int .i64 q)∧W'.cell? ⟨w.heap.size+1,2,none⟩=some (.int .i64 r)))
   have HX6:=Lib.hid hX6
   have hkp:=HKP6.out w6 (Below.refl _ _)
   clear hX6
   obtain ⟨⟨q0,q1,q2⟩,v0,v1,v2⟩:=hkp
   go_region_held3 (fun w'=>(w'.cell? ⟨X,0,none⟩=some (.slice x1 y1 z1)∧w'.cell? ⟨X,1,none⟩=some (.slice x2 y2 z2)∧w'.cell? ⟨X,2,none⟩=some (.slice x3 y3 z3))∧w'.cell? ⟨w.heap.size+1,0,none⟩=some (.int .i64 p)∧w'.cell? ⟨w.heap.size+1,1,none⟩=some (.int .i64 q)∧w'.cell? ⟨w.heap.size+1,2,none⟩=some (.int .i64 r)) (first | exact ⟨⟨q0,q1,q2⟩,v0,v1,v2⟩ | exact hkp2 | exact hkp3 | go_keep)
    (first | (go_at_call 11;refine (toCert_any p q r w6.drew).mono ?_;rintro e1 w7 ⟨rfl,hb7'⟩;have hb7:=(Below.refl w6.heap.size w6).drew.trans hb7';have hkp2:=HKP6.out _ hb7) | (go_at_call 12;refine (certBlock_impl _ _ _ t p q r w7 (HO6.out.below hb7) HSW.out).mono ?_;rintro e1 w8 ⟨rfl,hb8'⟩;rw [HV.out];have hb8:=hb7.trans (hb8'.mono hb7.size);have hkp3:=HKP6.out _ hb8))
   have HB8:=Lib.hid (HB6.out.trans (hb8.mono HB6.out.size))
   have HX8:=Lib.hid (HX6.out.below hb8)
   have HO8:=Lib.hid (HO6.out.below hb8)
   clear hkp2 hkp3 hb8 hb8' hb7 hb7' q0 q1 q2 v0 v1 v2 HKP6 HX6 HO6 HB6
   obtain ⟨q0,q1,q2,-⟩:=HX8.out
   obtain ⟨⟨k0,k1,k2⟩,-,-,-⟩:=HKK.out w8 HB8.out
   have HKP:=Lib.hid (fun W' (hb:Below w8.heap.size w8 W')=>(⟨⟨(HX8.out.below hb).c0,(HX8.out.below hb).c1,(HX8.out.below hb).c2⟩,(HKK.out W' (HB8.out.trans (hb.mono HB8.out.size))).1⟩:(_∧_∧_)∧_∧_∧_))
   have HKR:=Lib.hid (HKK.out w8 HB8.out).2.2.1
   go_upto_region 10 with (fail)
   go_region_held3 (fun w'=>(w'.cell? ⟨X,0,none⟩=some (.slice x1 y1 z1)∧w'.cell? ⟨X,1,none⟩=some (.slice x2 y2 z2)∧w'.cell? ⟨X,2,none⟩=some (.slice x3 y3 z3))∧w'.cell? ⟨w.heap.size,0,none⟩=some (.slice a1 n1 c1)∧w'.cell? ⟨w.heap.size,1,none⟩=some (.slice a2 n2 c2)∧w'.cell? ⟨w.heap.size,2,none⟩=some (.slice a3 n3 c3)) (first | exact ⟨⟨q0,q1,q2⟩,k0,k1,k2⟩ | exact hkp | exact hkp2 | go_keep)
    (first | (go_at_call 10;refine (toBlockTree_any _ _ _ t w8.drew (HKR.out.below (Below.refl _ _).drew) HWN.out).mono ?_;rintro e1 w9 ⟨u1,u2,u3,ts9,rfl,ho9,hb9'⟩;obtain ⟨f1,g1,j1,f2,g2,j2,f3,g3,j3,rfl,rfl,rfl⟩:=newTre_form ho9;have hb9:=(Below.refl w8.heap.size w8).drew.trans hb9';have hkp:=HKP.out _ hb9) | (go_at_call 13;refine (eqBlockTree_same _ _ _ _ _ _ t _ (HO8.out.below hb9) ho9.rd).mono ?_;rintro e1 w10 ⟨rfl,hb10'⟩;have hb10:=hb9.trans (hb10'.mono hb9.size);have hkp2:=HKP.out _ hb10))
   have HBF:=Lib.hid ((HKK.out _ (HB8.out.trans (hb10.mono HB8.out.size))).2.2.2)
   clear hkp hkp2 hb10 hb10' hb9 hb9' ho9
   go_wp2
   go_ret
   exact ⟨rfl,HBF.out⟩
 · have hs:decide (szNt (wtTre t) 1048576 < 0)=true:=by rw [szNt_no (by omega)];rfl
   obtain ⟨sz,hsz⟩:∃ sz,sz=szNt (wtTre t) 1048576:=⟨_,rfl⟩
   rw [← hsz] at hs ⊢
   have HBF:=Lib.hid ((HKK.out _ HB1.out).2.2.2)
   clear hsz hw
   go_wp2
   go_ret
   exact ⟨rfl,HBF.out⟩
end Go.Proofs.YtolhdacbahgfgaaGreat
