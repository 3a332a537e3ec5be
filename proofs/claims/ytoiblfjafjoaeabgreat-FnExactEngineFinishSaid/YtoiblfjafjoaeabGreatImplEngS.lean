/- The contract of the program's EngineStep (gen14/engsr.py). -/
import Derived.Test.YtoiblfjafjoaeabGreatStepI
import Derived.Test.YtoiblfjafjoaeabGreatSpStep
namespace Go.Proofs.YtoiblfjafjoaeabGreat
open Go.RowKit
set_option linter.unusedVariables false
set_option linter.unusedSimpArgs false
set_option maxRecDepth 100000 in
set_option maxHeartbeats 8000000 in
theorem engineStep_impl (v1 v2 v3 v4:Value) (e:Eng) (n:Int) (w:World) (h:EngRd w v1 v2 v3 v4 e) :
  Calls Tryz.prog 18 #[.agg #[v1,v2,v3,v4],.int .i64 n] w (NewEngB w tEng (stepM e n)):=by
 have hb0:=((Below.refl w.heap.size w).alloc (Nat.le_refl _) (.cells #[v1,v2,v3,v4] 35)).alloc (by simp) (.cells #[.slice none 0 0,.slice none 0 0,.slice none 0 0,.slice none 0 0] 35)
 have hg0:=(egAt_new w 35 v1 v2 v3 v4).below ((Below.refl _ _).alloc (Nat.le_refl _) (.cells #[.slice none 0 0,.slice none 0 0,.slice none 0 0,.slice none 0 0] 35))
 have hg1:=egAt_new (w.alloc (.cells #[v1,v2,v3,v4] 35)) 35 (.slice none 0 0) (.slice none 0 0) (.slice none 0 0) (.slice none 0 0)
 rw [World.size_alloc] at hg1
 have HR0:=Lib.hid h
 obtain ⟨⟨a1,n1,c1,rfl,-⟩,⟨a2,n2,c2,rfl,-⟩,⟨a3,n3,c3,rfl,-⟩,a4,n4,c4,rfl,-⟩:=h
 obtain ⟨W1,hW1⟩:∃ W1,W1=(w.alloc (.cells #[.slice a1 n1 c1,.slice a2 n2 c2,.slice a3 n3 c3,.slice a4 n4 c4] 35)).alloc (.cells #[.slice none 0 0,.slice none 0 0,.slice none 0 0,.slice none 0 0] 35):=⟨_,rfl⟩
 have HZ1:Hid (W1.heap.size=w.heap.size+2):=Lib.hid (by rw [hW1];simp)
 have HW1:=Lib.hid hW1
 rw [← hW1] at hb0 hg0 hg1
 clear hW1
 have HKK:=Lib.hid (fun (W':World) (hb:Below W1.heap.size W1 W')=>(⟨hg0.below hb,hg1.below hb,(HR0.out.below hb0).below hb,hb0.trans (hb.mono hb0.size),trivial⟩:EgAt W' w.heap.size (.slice a1 n1 c1) (.slice a2 n2 c2) (.slice a3 n3 c3) (.slice a4 n4 c4)∧EgAt W' (w.heap.size+1) (.slice none 0 0) (.slice none 0 0) (.slice none 0 0) (.slice none 0 0)∧EngRd W' (.slice a1 n1 c1) (.slice a2 n2 c2) (.slice a3 n3 c3) (.slice a4 n4 c4) e∧Below w.heap.size w W'∧True))
 clear hb0 hg0 hg1 HR0
 go_enter Tryz.func18,Tryz.ntmps18
 go_upto_region 1 with (fail)
 rw [← HW1.out]
 clear HW1
 obtain ⟨⟨k0,k1,k2,k3,-,-,-,-⟩,-,kr,-⟩:=HKK.out W1 (Below.refl _ _)
 go_wp2_with fail
 refine (steppingOf_impl _ _ _ _ e _ kr).mono ?_;rintro e1 w2 ⟨hor,hb2⟩
 have HB2:=Lib.hid hb2
 clear k0 k1 k2 k3 kr hb2
 have HNO:Hid (stepM e n=(noEng,false)→EgAt (set4 w2 (w.heap.size+1) (.slice none 0 0) (.slice none 0 0) (.slice none 0 0) (.slice none 0 0)) (w.heap.size+1) (.slice none 0 0) (.slice none 0 0) (.slice none 0 0) (.slice none 0 0)∧EngOwn (set4 w2 (w.heap.size+1) (.slice none 0 0) (.slice none 0 0) (.slice none 0 0) (.slice none 0 0)) w.heap.size (set4 w2 (w.heap.size+1) (.slice none 0 0) (.slice none 0 0) (.slice none 0 0) (.slice none 0 0)).heap.size tEng (.slice none 0 0) (.slice none 0 0) (.slice none 0 0) (.slice none 0 0) (stepM e n).1 []∧Below w.heap.size w (set4 w2 (w.heap.size+1) (.slice none 0 0) (.slice none 0 0) (.slice none 0 0) (.slice none 0 0))∧(stepM e n).2=false):=Lib.hid (fun hh=>by
  have hk:=HKK.out w2 HB2.out
  have hz:=HZ1.out
  have hs:=HB2.out.size
  have hf:=fin_eng hk.2.1 (engOwn_no w2 (w.heap.size+2) (w.heap.size+2) tEng) (by omega) hk.2.2.2.1 (by omega) (by omega)
  rw [hh]
  exact ⟨hf.1,hf.2.1,hf.2.2,rfl⟩)
 rcases hor with ⟨hv,rfl⟩ | ⟨hv,G,rfl,hGW,hst⟩
 · have HV:=Lib.hid hv
   clear hv
   obtain ⟨hE,hO,hB,hF⟩:=HNO.out (stepM_no HV.out)
   obtain ⟨x0,x1,x2,x3,f0,f1,f2,f3⟩:=(HKK.out w2 HB2.out).2.1
   have HE:=Lib.hid hE
   have HO:=Lib.hid hO
   have HB:=Lib.hid hB
   have HFF:=Lib.hid hF
   unfold set4 at HE HO HB
   clear hE hO hB hF HNO
   go_wp2_with fail
   refine bodyPost_ret (results_engB Tryz.results18 _ (by rfl) HE.out _ (by rfl)) rfl ⟨_,_,_,_,_,by rw [HFF.out];rfl,HO.out,HB.out⟩
 · have HOK:=Lib.hid ((engB_iff e).1 hv)
   have HM:=Lib.hid (stepM_yes (n:=n) hv)
   have HOK2:=Lib.hid (stepL_ok HOK.out n)
   have HST:=Lib.hid hst
   have HGW:=Lib.hid hGW
   clear hv HNO hst hGW
   go_wp2_with fail
   refine (stStep_impl _ _ _ e n _ HST.out HOK.out HGW.out).mono ?_;rintro e1 w3 ⟨rfl,hst3,hb3⟩
   have HST3:=Lib.hid hst3
   have HB3:=Lib.hid (HB2.out.trans hb3)
   clear hst3 hb3 HST
   go_wp2_with fail
   refine (stEngine_impl _ _ _ _ _ HST3.out HOK2.out HB3.out.size).mono ?_;rintro e1 w4 ⟨x1,x2,x3,x4,ts,rfl,ho4,hb4⟩
   obtain ⟨b1,m1,d1,b2,m2,d2,b3,m3,d3,b4,m4,d4,rfl,rfl,rfl,rfl⟩:=newEng_formS ho4
   have HO:=Lib.hid ho4
   have HBE:=Lib.hid (HB3.out.trans (hb4.mono HB3.out.size))
   clear ho4 hb4 HST3
   obtain ⟨x0,x1,x2,x3,f0,f1,f2,f3⟩:=(HKK.out w4 HBE.out).2.1
   have HFE:Hid (EgAt (set4 w4 (w.heap.size+1) (.slice b1 m1 d1) (.slice b2 m2 d2) (.slice b3 m3 d3) (.slice b4 m4 d4)) (w.heap.size+1) (.slice b1 m1 d1) (.slice b2 m2 d2) (.slice b3 m3 d3) (.slice b4 m4 d4)∧EngOwn (set4 w4 (w.heap.size+1) (.slice b1 m1 d1) (.slice b2 m2 d2) (.slice b3 m3 d3) (.slice b4 m4 d4)) w.heap.size (set4 w4 (w.heap.size+1) (.slice b1 m1 d1) (.slice b2 m2 d2) (.slice b3 m3 d3) (.slice b4 m4 d4)).heap.size tEng (.slice b1 m1 d1) (.slice b2 m2 d2) (.slice b3 m3 d3) (.slice b4 m4 d4) (stepL e n).1 ts∧Below w.heap.size w (set4 w4 (w.heap.size+1) (.slice b1 m1 d1) (.slice b2 m2 d2) (.slice b3 m3 d3) (.slice b4 m4 d4))):=Lib.hid (by
    have hk:=HKK.out w4 HBE.out
    have hz:=HZ1.out
    have hs:=HBE.out.size
    exact fin_eng hk.2.1 HO.out (by omega) hk.2.2.2.1 (by omega) (Nat.le_refl _))
   have HEE:=Lib.hid HFE.out.1
   unfold set4 at HFE HEE
   clear HB2
   go_wp2_with fail
   refine bodyPost_ret (results_engB Tryz.results18 _ (by rfl) HEE.out _ (by rfl)) rfl ⟨_,_,_,_,_,by rw [HM.out];rfl,by rw [HM.out];exact HFE.out.2.1,HFE.out.2.2⟩
end Go.Proofs.YtoiblfjafjoaeabGreat
