/- The walk of the exact law of TriesOf. -/
import Derived.Test.YtoiblfjafjoaeabGreatLawEngEx
import Derived.Test.YtoiblfjafjoaeabGreatImplTries
namespace Go.Proofs.YtoiblfjafjoaeabGreat
open Go.RowKit
set_option linter.unusedVariables false
set_option linter.unusedSimpArgs false
set_option maxRecDepth 100000 in
set_option maxHeartbeats 8000000 in
theorem lawExactTriesOf (a1:Option Addr) (n1 c1:Nat) (a2:Option Addr) (n2 c2:Nat) (a3:Option Addr) (n3 c3:Nat) (a4:Option Addr) (n4 c4:Nat) (e:Eng) (w:World) (h:EngRd w (.slice a1 n1 c1) (.slice a2 n2 c2) (.slice a3 n3 c3) (.slice a4 n4 c4) e) :
  Calls Tryz.prog 9 #[.agg #[.slice a1 n1 c1,.slice a2 n2 c2,.slice a3 n3 c3,.slice a4 n4 c4]] w (LawTrue w):=by
 have hb0:=(Below.refl w.heap.size w).alloc (Nat.le_refl _) (.cells #[.slice a1 n1 c1,.slice a2 n2 c2,.slice a3 n3 c3,.slice a4 n4 c4] 27)
 have hg0:=egAt_new w 27 (.slice a1 n1 c1) (.slice a2 n2 c2) (.slice a3 n3 c3) (.slice a4 n4 c4)
 obtain ⟨W1,hW1⟩:∃ W1,W1=w.alloc (.cells #[.slice a1 n1 c1,.slice a2 n2 c2,.slice a3 n3 c3,.slice a4 n4 c4] 27):=⟨_,rfl⟩
 have hzz:w.heap.size < W1.heap.size:=by rw [hW1];simp
 have HW1:=Lib.hid hW1
 rw [← hW1] at hb0 hg0
 clear hW1
 have hKK:∀ W',Below W1.heap.size W1 W'→(W'.cell? ⟨w.heap.size,0,none⟩=some (.slice a1 n1 c1)∧W'.cell? ⟨w.heap.size,1,none⟩=some (.slice a2 n2 c2)∧W'.cell? ⟨w.heap.size,2,none⟩=some (.slice a3 n3 c3)∧W'.cell? ⟨w.heap.size,3,none⟩=some (.slice a4 n4 c4))∧EngRd W' (.slice a1 n1 c1) (.slice a2 n2 c2) (.slice a3 n3 c3) (.slice a4 n4 c4) e∧Below w.heap.size w W':=fun W' hb =>
  ⟨⟨below_cell hb hzz hg0.c0,below_cell hb hzz hg0.c1,below_cell hb hzz hg0.c2,below_cell hb hzz hg0.c3⟩,(h.below hb0).below hb,hb0.trans (hb.mono hb0.size)⟩
 have HKK:=Lib.hid hKK
 clear hKK hb0 hg0 h
 go_enter Tryz.func9,Tryz.ntmps9
 go_upto_region 1 with (fail)
 rw [← HW1.out]
 clear HW1
 obtain ⟨⟨k0,k1,k2,k3⟩,kr,-⟩:=HKK.out W1 (Below.refl _ _)
 go_wp2_with fail
 refine (szEngine_any _ _ _ _ e 1048576 _ kr (by omega) (by omega)).mono ?_;rintro e1 w1 ⟨rfl,hb1⟩
 have HB1:=Lib.hid hb1
 clear k0 k1 k2 k3 kr hb1
 by_cases hw:((wtEng e:Nat):Int)≤1048576
 · have hs:decide (szN (wtEng e) 1048576 < 0)=false:=by rw [szN_yes hw];simp;omega
   have hwn:wtEng e≤1048576:=by omega
   obtain ⟨sz,hsz⟩:∃ sz,sz=szN (wtEng e) 1048576:=⟨_,rfl⟩
   rw [← hsz] at hs ⊢
   have HWN:=Lib.hid hwn
   clear hsz hw hwn
   obtain ⟨v,hv⟩:∃ v,triesM e=v:=⟨_,rfl⟩
   have HV:=Lib.hid hv
   have hvv:(v != v)=false:=by simp
   clear hv
   obtain ⟨⟨k0,k1,k2,k3⟩,kr,-⟩:=HKK.out w1 HB1.out
   go_wp2_with fail
   refine (toEngine_any _ _ _ _ e _ kr HWN.out).mono ?_;rintro e1 w2 ⟨u1,u2,u3,u4,ts,rfl,ho2,hb2⟩
   obtain ⟨b1,m1,d1,b2,m2,d2,b3,m3,d3,b4,m4,d4,rfl,rfl,rfl,rfl⟩:=newEng_form ho2
   have HO2:=Lib.hid ho2.rd
   have HB2:=Lib.hid (HB1.out.trans (hb2.mono HB1.out.size))
   clear k0 k1 k2 k3 kr ho2 hb2 HB1
   go_wp2_with fail
   refine (triesOf_spec _ _ _ _ e _ HO2.out).mono ?_;rintro e1 w3 ⟨rfl,hb3⟩
   rw [HV.out]
   have HB3:=Lib.hid (HB2.out.trans (hb3.mono HB2.out.size))
   obtain ⟨⟨k0,k1,k2,k3⟩,kr,-⟩:=HKK.out w3 HB3.out
   clear hb3 HB2 HO2
   go_wp2_with fail
   refine (toEngine_any _ _ _ _ e _ kr HWN.out).mono ?_;rintro e1 w4 ⟨u1,u2,u3,u4,ts4,rfl,ho4,hb4⟩
   obtain ⟨x1,y1,z1,x2,y2,z2,x3,y3,z3,x4,y4,z4,rfl,rfl,rfl,rfl⟩:=newEng_form ho4
   have HO4:=Lib.hid ho4.rd
   have HB4:=Lib.hid (HB3.out.trans (hb4.mono HB3.out.size))
   clear k0 k1 k2 k3 kr ho4 hb4 HB3
   go_upto_region 7 with (fail)
   generalize hw5:World.alloc _ _=w5
   have hb5:Below w4.heap.size w4 w5:=by rw [← hw5];exact (Below.refl _ _).alloc (Nat.le_refl _) _
   have hz5:w4.heap.size < w5.heap.size:=by rw [← hw5];simp
   have q0:w5.cell? ⟨w4.heap.size,0,none⟩=some (.slice x1 y1 z1):=by rw [← hw5];simp [go_sem]
   have q1:w5.cell? ⟨w4.heap.size,1,none⟩=some (.slice x2 y2 z2):=by rw [← hw5];simp [go_sem]
   have q2:w5.cell? ⟨w4.heap.size,2,none⟩=some (.slice x3 y3 z3):=by rw [← hw5];simp [go_sem]
   have q3:w5.cell? ⟨w4.heap.size,3,none⟩=some (.slice x4 y4 z4):=by rw [← hw5];simp [go_sem]
   have HB5:=Lib.hid (HB4.out.trans (hb5.mono HB4.out.size))
   have HO5:=Lib.hid (HO4.out.below hb5)
   clear hw5 hb5 HB4 HO4
   go_wp2_with fail
   refine (triesOf_impl _ _ _ _ e _ HO5.out).mono ?_;rintro e1 w6 ⟨rfl,hb6⟩
   rw [HV.out]
   have HB6:=Lib.hid (HB5.out.trans (hb6.mono HB5.out.size))
   have HO6:=Lib.hid (HO5.out.below hb6)
   have q0:=below_cell hb6 hz5 q0
   have q1:=below_cell hb6 hz5 q1
   have q2:=below_cell hb6 hz5 q2
   have q3:=below_cell hb6 hz5 q3
   have hz6:w4.heap.size < w6.heap.size:=by have:=hb6.size;omega
   have hzw:w.heap.size < w6.heap.size:=by have:=HB6.out.size;omega
   obtain ⟨⟨k0,k1,k2,k3⟩,-,-⟩:=HKK.out w6 HB6.out
   clear hb6 HB5 HO5 hz5
   have HKP:=Lib.hid (fun W' (hb:Below w6.heap.size w6 W')=>(⟨⟨below_cell hb hz6 q0,below_cell hb hz6 q1,below_cell hb hz6 q2,below_cell hb hz6 q3⟩,below_cell hb hzw k0,below_cell hb hzw k1,below_cell hb hzw k2,below_cell hb hzw k3⟩:(_∧_∧_∧_)∧_∧_∧_∧_))
   have HKR:=Lib.hid (HKK.out w6 HB6.out).2.1
   go_upto_region 10 with (fail)
   go_region_held3 (fun w'=>(w'.cell? ⟨w4.heap.size,0,none⟩=some (.slice x1 y1 z1)∧w'.cell? ⟨w4.heap.size,1,none⟩=some (.slice x2 y2 z2)∧w'.cell? ⟨w4.heap.size,2,none⟩=some (.slice x3 y3 z3)∧w'.cell? ⟨w4.heap.size,3,none⟩=some (.slice x4 y4 z4))∧w'.cell? ⟨w.heap.size,0,none⟩=some (.slice a1 n1 c1)∧w'.cell? ⟨w.heap.size,1,none⟩=some (.slice a2 n2 c2)∧w'.cell? ⟨w.heap.size,2,none⟩=some (.slice a3 n3 c3)∧w'.cell? ⟨w.heap.size,3,none⟩=some (.slice a4 n4 c4)) (first | exact ⟨⟨q0,q1,q2,q3⟩,k0,k1,k2,k3⟩ | exact hkp | exact hkp2 | go_keep)
    (first | (go_at_call 12;refine (toEngine_any _ _ _ _ e w6.drew (HKR.out.below (Below.refl _ _).drew) HWN.out).mono ?_;rintro e1 w7 ⟨u1,u2,u3,u4,ts7,rfl,ho7,hb7'⟩;obtain ⟨f1,g1,j1,f2,g2,j2,f3,g3,j3,f4,g4,j4,rfl,rfl,rfl,rfl⟩:=newEng_form ho7;have hb7:=(Below.refl w6.heap.size w6).drew.trans hb7';have hkp:=HKP.out _ hb7) | (go_at_call 14;refine (eqEngine_same _ _ _ _ _ _ _ _ e _ (HO6.out.below hb7) ho7.rd).mono ?_;rintro e1 w8 ⟨rfl,hb8'⟩;have hb8:=hb7.trans (hb8'.mono hb7.size);have hkp2:=HKP.out _ hb8))
   have HBF:=Lib.hid ((HKK.out _ (HB6.out.trans (hb8.mono HB6.out.size))).2.2)
   clear hkp hkp2 hb8 hb8' hb7 hb7' ho7
   go_wp2
   go_ret
   exact ⟨rfl,HBF.out⟩
 · have hs:decide (szN (wtEng e) 1048576 < 0)=true:=by rw [szN_no (by omega)];rfl
   obtain ⟨sz,hsz⟩:∃ sz,sz=szN (wtEng e) 1048576:=⟨_,rfl⟩
   rw [← hsz] at hs ⊢
   have HBF:=Lib.hid ((HKK.out _ HB1.out).2.2)
   clear hsz hw
   go_wp2
   go_ret
   exact ⟨rfl,HBF.out⟩
end Go.Proofs.YtoiblfjafjoaeabGreat
