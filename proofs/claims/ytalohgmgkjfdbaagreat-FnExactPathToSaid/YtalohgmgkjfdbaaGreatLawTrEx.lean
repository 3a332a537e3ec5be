/- The walks of exact laws over trees of blocks (gen16/lawtr.py). -/
import Derived.Test.YtalohgmgkjfdbaaGreatTrFns
import Derived.Test.YtalohgmgkjfdbaaGreatCvB
import Derived.Deep.RegionHeld3
namespace Go.Proofs.YtalohgmgkjfdbaaGreat
open Go.RowKit
set_option linter.unusedVariables false
set_option linter.unusedSimpArgs false
theorem newTre_form {w:World} {B T:Nat} {t:TreT} {v1 v2 v3:Value} {x:Tre} {ts:List Value} (h:TreOwn w B T t v1 v2 v3 x ts):∃ b1 m1 d1 b2 m2 d2 b3 m3 d3,v1 = .slice b1 m1 d1∧v2 = .slice b2 m2 d2∧v3 = .slice b3 m3 d3:=by
 obtain ⟨⟨b1,m1,d1,rfl,-⟩,⟨b2,m2,d2,rfl,-⟩,b3,m3,d3,rfl,-⟩:=h.rd
 exact ⟨b1,m1,d1,b2,m2,d2,b3,m3,d3,rfl,rfl,rfl⟩
set_option maxRecDepth 100000 in
set_option maxHeartbeats 8000000 in
theorem lawExactBlockTreeValid (a1:Option Addr) (n1 c1:Nat) (a2:Option Addr) (n2 c2:Nat) (a3:Option Addr) (n3 c3:Nat) (t:Tre) (w:World) (h:TreRd w (.slice a1 n1 c1) (.slice a2 n2 c2) (.slice a3 n3 c3) t) :
  Calls Tryz.prog 4 #[.agg #[.slice a1 n1 c1,.slice a2 n2 c2,.slice a3 n3 c3]] w (LawTrue w):=by
 have hb0:=(Below.refl w.heap.size w).alloc (Nat.le_refl _) (.cells #[.slice a1 n1 c1,.slice a2 n2 c2,.slice a3 n3 c3] 38)
 have hg0:=trAt_new w 38 (.slice a1 n1 c1) (.slice a2 n2 c2) (.slice a3 n3 c3)
 obtain ⟨W1,hW1⟩:∃ W1,W1=w.alloc (.cells #[.slice a1 n1 c1,.slice a2 n2 c2,.slice a3 n3 c3] 38):=⟨_,rfl⟩
 have hzz:w.heap.size < W1.heap.size:=by rw [hW1];simp
 have HW1:=Lib.hid hW1
 rw [← hW1] at hb0 hg0
 clear hW1
 have hKK:∀ W',Below W1.heap.size W1 W'→(W'.cell? ⟨w.heap.size,0,none⟩=some (.slice a1 n1 c1)∧W'.cell? ⟨w.heap.size,1,none⟩=some (.slice a2 n2 c2)∧W'.cell? ⟨w.heap.size,2,none⟩=some (.slice a3 n3 c3))∧TreRd W' (.slice a1 n1 c1) (.slice a2 n2 c2) (.slice a3 n3 c3) t∧Below w.heap.size w W':=fun W' hb =>
  ⟨⟨below_cell hb hzz hg0.c0,below_cell hb hzz hg0.c1,below_cell hb hzz hg0.c2⟩,(h.below hb0).below hb,hb0.trans (hb.mono hb0.size)⟩
 have HKK:=Lib.hid hKK
 clear hKK hb0 hg0 h
 go_enter Tryz.func4,Tryz.ntmps4
 go_upto_region 1 with (fail)
 rw [← HW1.out]
 clear HW1
 obtain ⟨⟨k0,k1,k2⟩,kr,-⟩:=HKK.out W1 (Below.refl _ _)
 go_wp2_with fail
 refine (szBlockTree_any _ _ _ t 1048576 _ kr (by omega) (by omega)).mono ?_;rintro e1 w1 ⟨rfl,hb1⟩
 have HB1:=Lib.hid hb1
 clear k0 k1 k2 kr hb1
 by_cases hw:((wtTre t:Nat):Int)≤1048576
 · have hs:decide (szNt (wtTre t) 1048576 < 0)=false:=by rw [szNt_yes hw];simp;omega
   have hwn:wtTre t≤1048576:=by omega
   obtain ⟨sz,hsz⟩:∃ sz,sz=szNt (wtTre t) 1048576:=⟨_,rfl⟩
   rw [← hsz] at hs ⊢
   have HWN:=Lib.hid hwn
   clear hsz hw hwn
   obtain ⟨v,hv⟩:∃ v,treB t=v:=⟨_,rfl⟩
   have HV:=Lib.hid hv
   have hvv:(v != v)=false:=by simp
   clear hv
   obtain ⟨⟨k0,k1,k2⟩,kr,-⟩:=HKK.out w1 HB1.out
   go_wp2_with fail
   refine (toBlockTree_any _ _ _ t _ kr HWN.out).mono ?_;rintro e1 w2 ⟨u1,u2,u3,ts,rfl,ho2,hb2⟩
   obtain ⟨b1,m1,d1,b2,m2,d2,b3,m3,d3,rfl,rfl,rfl⟩:=newTre_form ho2
   have HO2:=Lib.hid ho2.rd
   have HB2:=Lib.hid (HB1.out.trans (hb2.mono HB1.out.size))
   clear k0 k1 k2 kr ho2 hb2 HB1
   go_wp2_with fail
   refine (blockTreeValid_spec _ _ _ t _ HO2.out).mono ?_;rintro e1 w3 ⟨rfl,hb3⟩
   rw [HV.out]
   have HB3:=Lib.hid (HB2.out.trans (hb3.mono HB2.out.size))
   obtain ⟨⟨k0,k1,k2⟩,kr,-⟩:=HKK.out w3 HB3.out
   clear hb3 HB2 HO2
   go_wp2_with fail
   refine (toBlockTree_any _ _ _ t _ kr HWN.out).mono ?_;rintro e1 w4 ⟨u1,u2,u3,ts4,rfl,ho4,hb4⟩
   obtain ⟨x1,y1,z1,x2,y2,z2,x3,y3,z3,rfl,rfl,rfl⟩:=newTre_form ho4
   have HO4:=Lib.hid ho4.rd
   have HB4:=Lib.hid (HB3.out.trans (hb4.mono HB3.out.size))
   clear k0 k1 k2 kr ho4 hb4 HB3
   go_upto_region 7 with (fail)
   generalize hw5:World.alloc _ _=w5
   have hb5:Below w4.heap.size w4 w5:=by rw [← hw5];exact (Below.refl _ _).alloc (Nat.le_refl _) _
   have hz5:w4.heap.size < w5.heap.size:=by rw [← hw5];simp
   have q0:w5.cell? ⟨w4.heap.size,0,none⟩=some (.slice x1 y1 z1):=by rw [← hw5];simp [go_sem]
   have q1:w5.cell? ⟨w4.heap.size,1,none⟩=some (.slice x2 y2 z2):=by rw [← hw5];simp [go_sem]
   have q2:w5.cell? ⟨w4.heap.size,2,none⟩=some (.slice x3 y3 z3):=by rw [← hw5];simp [go_sem]
   have HB5:=Lib.hid (HB4.out.trans (hb5.mono HB4.out.size))
   have HO5:=Lib.hid (HO4.out.below hb5)
   clear hw5 hb5 HB4 HO4
   go_wp2_with fail
   refine (blockTreeValid_impl _ _ _ t _ HO5.out).mono ?_;rintro e1 w6 ⟨rfl,hb6⟩
   rw [HV.out]
   have HB6:=Lib.hid (HB5.out.trans (hb6.mono HB5.out.size))
   have HO6:=Lib.hid (HO5.out.below hb6)
   have q0:=below_cell hb6 hz5 q0
   have q1:=below_cell hb6 hz5 q1
   have q2:=below_cell hb6 hz5 q2
   have hz6:w4.heap.size < w6.heap.size:=by have:=hb6.size;omega
   have hzw:w.heap.size < w6.heap.size:=by have:=HB6.out.size;omega
   obtain ⟨⟨k0,k1,k2⟩,-,-⟩:=HKK.out w6 HB6.out
   clear hb6 HB5 HO5 hz5
   have HKP:=Lib.hid (fun W' (hb:Below w6.heap.size w6 W')=>(⟨⟨below_cell hb hz6 q0,below_cell hb hz6 q1,below_cell hb hz6 q2⟩,below_cell hb hzw k0,below_cell hb hzw k1,below_cell hb hzw k2⟩:(_∧_∧_)∧_∧_∧_))
   have HKR:=Lib.hid (HKK.out w6 HB6.out).2.1
   go_upto_region 10 with (fail)
   go_region_held3 (fun w'=>(w'.cell? ⟨w4.heap.size,0,none⟩=some (.slice x1 y1 z1)∧w'.cell? ⟨w4.heap.size,1,none⟩=some (.slice x2 y2 z2)∧w'.cell? ⟨w4.heap.size,2,none⟩=some (.slice x3 y3 z3))∧w'.cell? ⟨w.heap.size,0,none⟩=some (.slice a1 n1 c1)∧w'.cell? ⟨w.heap.size,1,none⟩=some (.slice a2 n2 c2)∧w'.cell? ⟨w.heap.size,2,none⟩=some (.slice a3 n3 c3)) (first | exact ⟨⟨q0,q1,q2⟩,k0,k1,k2⟩ | exact hkp | exact hkp2 | go_keep)
    (first | (go_at_call 26;refine (toBlockTree_any _ _ _ t w6.drew (HKR.out.below (Below.refl _ _).drew) HWN.out).mono ?_;rintro e1 w7 ⟨u1,u2,u3,ts7,rfl,ho7,hb7'⟩;obtain ⟨f1,g1,j1,f2,g2,j2,f3,g3,j3,rfl,rfl,rfl⟩:=newTre_form ho7;have hb7:=(Below.refl w6.heap.size w6).drew.trans hb7';have hkp:=HKP.out _ hb7) | (go_at_call 19;refine (eqBlockTree_same _ _ _ _ _ _ t _ (HO6.out.below hb7) ho7.rd).mono ?_;rintro e1 w8 ⟨rfl,hb8'⟩;have hb8:=hb7.trans (hb8'.mono hb7.size);have hkp2:=HKP.out _ hb8))
   have HBF:=Lib.hid ((HKK.out _ (HB6.out.trans (hb8.mono HB6.out.size))).2.2)
   clear hkp hkp2 hb8 hb8' hb7 hb7' ho7
   go_wp2
   go_ret
   exact ⟨rfl,HBF.out⟩
 · have hs:decide (szNt (wtTre t) 1048576 < 0)=true:=by rw [szNt_no (by omega)];rfl
   obtain ⟨sz,hsz⟩:∃ sz,sz=szNt (wtTre t) 1048576:=⟨_,rfl⟩
   rw [← hsz] at hs ⊢
   have HBF:=Lib.hid ((HKK.out _ HB1.out).2.2)
   clear hsz hw
   go_wp2
   go_ret
   exact ⟨rfl,HBF.out⟩
set_option maxRecDepth 100000 in
set_option maxHeartbeats 8000000 in
theorem lawExactFindBlock (a1:Option Addr) (n1 c1:Nat) (a2:Option Addr) (n2 c2:Nat) (a3:Option Addr) (n3 c3:Nat) (t:Tre) (s:Int) (w:World) (h:TreRd w (.slice a1 n1 c1) (.slice a2 n2 c2) (.slice a3 n3 c3) t) (hsw:(Lit.int .i64 s).wf=true) :
  Calls Tryz.prog 5 #[.agg #[.slice a1 n1 c1,.slice a2 n2 c2,.slice a3 n3 c3],.int .i64 s] w (LawTrue w):=by
 have hb0:=(Below.refl w.heap.size w).alloc (Nat.le_refl _) (.cells #[.slice a1 n1 c1,.slice a2 n2 c2,.slice a3 n3 c3] 38)
 have hg0:=trAt_new w 38 (.slice a1 n1 c1) (.slice a2 n2 c2) (.slice a3 n3 c3)
 obtain ⟨W1,hW1⟩:∃ W1,W1=w.alloc (.cells #[.slice a1 n1 c1,.slice a2 n2 c2,.slice a3 n3 c3] 38):=⟨_,rfl⟩
 have hzz:w.heap.size < W1.heap.size:=by rw [hW1];simp
 have HW1:=Lib.hid hW1
 rw [← hW1] at hb0 hg0
 clear hW1
 have hKK:∀ W',Below W1.heap.size W1 W'→(W'.cell? ⟨w.heap.size,0,none⟩=some (.slice a1 n1 c1)∧W'.cell? ⟨w.heap.size,1,none⟩=some (.slice a2 n2 c2)∧W'.cell? ⟨w.heap.size,2,none⟩=some (.slice a3 n3 c3))∧TreRd W' (.slice a1 n1 c1) (.slice a2 n2 c2) (.slice a3 n3 c3) t∧Below w.heap.size w W':=fun W' hb =>
  ⟨⟨below_cell hb hzz hg0.c0,below_cell hb hzz hg0.c1,below_cell hb hzz hg0.c2⟩,(h.below hb0).below hb,hb0.trans (hb.mono hb0.size)⟩
 have HKK:=Lib.hid hKK
 clear hKK hb0 hg0 h
 go_enter Tryz.func5,Tryz.ntmps5
 go_upto_region 1 with (fail)
 rw [← HW1.out]
 clear HW1
 obtain ⟨⟨k0,k1,k2⟩,kr,-⟩:=HKK.out W1 (Below.refl _ _)
 go_wp2_with fail
 refine (szBlockTree_any _ _ _ t 1048576 _ kr (by omega) (by omega)).mono ?_;rintro e1 w1 ⟨rfl,hb1⟩
 have HB1:=Lib.hid hb1
 clear k0 k1 k2 kr hb1
 by_cases hw:((wtTre t:Nat):Int)≤1048576
 · have hs:decide (szNt (wtTre t) 1048576 < 0)=false:=by rw [szNt_yes hw];simp;omega
   have hwn:wtTre t≤1048576:=by omega
   obtain ⟨sz,hsz⟩:∃ sz,sz=szNt (wtTre t) 1048576:=⟨_,rfl⟩
   rw [← hsz] at hs ⊢
   have HWN:=Lib.hid hwn
   clear hsz hw hwn
   obtain ⟨v,hv⟩:∃ v,findTM t s=v:=⟨_,rfl⟩
   have HV:=Lib.hid hv
   have hvv:(v != v)=false:=by simp
   clear hv
   obtain ⟨⟨k0,k1,k2⟩,kr,-⟩:=HKK.out w1 HB1.out
   go_wp2_with fail
   refine (toBlockTree_any _ _ _ t _ kr HWN.out).mono ?_;rintro e1 w2 ⟨u1,u2,u3,ts,rfl,ho2,hb2⟩
   obtain ⟨b1,m1,d1,b2,m2,d2,b3,m3,d3,rfl,rfl,rfl⟩:=newTre_form ho2
   have HO2:=Lib.hid ho2.rd
   have HB2:=Lib.hid (HB1.out.trans (hb2.mono HB1.out.size))
   clear k0 k1 k2 kr ho2 hb2 HB1
   go_wp2_with fail
   refine (findBlock_spec _ _ _ t s _ HO2.out).mono ?_;rintro e1 w3 ⟨rfl,hb3⟩
   rw [HV.out]
   have HB3:=Lib.hid (HB2.out.trans (hb3.mono HB2.out.size))
   obtain ⟨⟨k0,k1,k2⟩,kr,-⟩:=HKK.out w3 HB3.out
   clear hb3 HB2 HO2
   go_wp2_with fail
   refine (toBlockTree_any _ _ _ t _ kr HWN.out).mono ?_;rintro e1 w4 ⟨u1,u2,u3,ts4,rfl,ho4,hb4⟩
   obtain ⟨x1,y1,z1,x2,y2,z2,x3,y3,z3,rfl,rfl,rfl⟩:=newTre_form ho4
   have HO4:=Lib.hid ho4.rd
   have HB4:=Lib.hid (HB3.out.trans (hb4.mono HB3.out.size))
   clear k0 k1 k2 kr ho4 hb4 HB3
   go_upto_region 7 with (fail)
   generalize hw5:World.alloc _ _=w5
   have hb5:Below w4.heap.size w4 w5:=by rw [← hw5];exact (Below.refl _ _).alloc (Nat.le_refl _) _
   have hz5:w4.heap.size < w5.heap.size:=by rw [← hw5];simp
   have q0:w5.cell? ⟨w4.heap.size,0,none⟩=some (.slice x1 y1 z1):=by rw [← hw5];simp [go_sem]
   have q1:w5.cell? ⟨w4.heap.size,1,none⟩=some (.slice x2 y2 z2):=by rw [← hw5];simp [go_sem]
   have q2:w5.cell? ⟨w4.heap.size,2,none⟩=some (.slice x3 y3 z3):=by rw [← hw5];simp [go_sem]
   have HB5:=Lib.hid (HB4.out.trans (hb5.mono HB4.out.size))
   have HO5:=Lib.hid (HO4.out.below hb5)
   clear hw5 hb5 HB4 HO4
   go_wp2_with fail
   refine (findBlock_impl _ _ _ t s _ HO5.out hsw).mono ?_;rintro e1 w6 ⟨rfl,hb6⟩
   rw [HV.out]
   have HB6:=Lib.hid (HB5.out.trans (hb6.mono HB5.out.size))
   have HO6:=Lib.hid (HO5.out.below hb6)
   have q0:=below_cell hb6 hz5 q0
   have q1:=below_cell hb6 hz5 q1
   have q2:=below_cell hb6 hz5 q2
   have hz6:w4.heap.size < w6.heap.size:=by have:=hb6.size;omega
   have hzw:w.heap.size < w6.heap.size:=by have:=HB6.out.size;omega
   obtain ⟨⟨k0,k1,k2⟩,-,-⟩:=HKK.out w6 HB6.out
   clear hb6 HB5 HO5 hz5
   have HKP:=Lib.hid (fun W' (hb:Below w6.heap.size w6 W')=>(⟨⟨below_cell hb hz6 q0,below_cell hb hz6 q1,below_cell hb hz6 q2⟩,below_cell hb hzw k0,below_cell hb hzw k1,below_cell hb hzw k2⟩:(_∧_∧_)∧_∧_∧_))
   have HKR:=Lib.hid (HKK.out w6 HB6.out).2.1
   go_upto_region 10 with (fail)
   go_region_held3 (fun w'=>(w'.cell? ⟨w4.heap.size,0,none⟩=some (.slice x1 y1 z1)∧w'.cell? ⟨w4.heap.size,1,none⟩=some (.slice x2 y2 z2)∧w'.cell? ⟨w4.heap.size,2,none⟩=some (.slice x3 y3 z3))∧w'.cell? ⟨w.heap.size,0,none⟩=some (.slice a1 n1 c1)∧w'.cell? ⟨w.heap.size,1,none⟩=some (.slice a2 n2 c2)∧w'.cell? ⟨w.heap.size,2,none⟩=some (.slice a3 n3 c3)) (first | exact ⟨⟨q0,q1,q2⟩,k0,k1,k2⟩ | exact hkp | exact hkp2 | go_keep)
    (first | (go_at_call 26;refine (toBlockTree_any _ _ _ t w6.drew (HKR.out.below (Below.refl _ _).drew) HWN.out).mono ?_;rintro e1 w7 ⟨u1,u2,u3,ts7,rfl,ho7,hb7'⟩;obtain ⟨f1,g1,j1,f2,g2,j2,f3,g3,j3,rfl,rfl,rfl⟩:=newTre_form ho7;have hb7:=(Below.refl w6.heap.size w6).drew.trans hb7';have hkp:=HKP.out _ hb7) | (go_at_call 19;refine (eqBlockTree_same _ _ _ _ _ _ t _ (HO6.out.below hb7) ho7.rd).mono ?_;rintro e1 w8 ⟨rfl,hb8'⟩;have hb8:=hb7.trans (hb8'.mono hb7.size);have hkp2:=HKP.out _ hb8))
   have HBF:=Lib.hid ((HKK.out _ (HB6.out.trans (hb8.mono HB6.out.size))).2.2)
   clear hkp hkp2 hb8 hb8' hb7 hb7' ho7
   go_wp2
   go_ret
   exact ⟨rfl,HBF.out⟩
 · have hs:decide (szNt (wtTre t) 1048576 < 0)=true:=by rw [szNt_no (by omega)];rfl
   obtain ⟨sz,hsz⟩:∃ sz,sz=szNt (wtTre t) 1048576:=⟨_,rfl⟩
   rw [← hsz] at hs ⊢
   have HBF:=Lib.hid ((HKK.out _ HB1.out).2.2)
   clear hsz hw
   go_wp2
   go_ret
   exact ⟨rfl,HBF.out⟩
end Go.Proofs.YtalohgmgkjfdbaaGreat
