/- Texts of ours that stand together: ImplEngS, ImplEngR, ImplEngF -/
import Derived.Test.YtaaffpolmecicabGreatStepI
import Derived.Test.YtaaffpolmecicabGreatSpStep
import Derived.Test.YtaaffpolmecicabGreatEngR
/- The contract of the program's EngineStep (gen14/engsr.py). -/
namespace Go.Proofs.YtaaffpolmecicabGreat
open Go.RowKit
set_option linter.unusedVariables false
set_option linter.unusedSimpArgs false
set_option maxRecDepth 100000 in
set_option maxHeartbeats 8000000 in
theorem engineStep_impl (v1 v2 v3 v4:Value) (e:Eng) (n:Int) (w:World) (h:EngRd w v1 v2 v3 v4 e) :
  Calls Tryz.prog 51 #[.agg #[v1,v2,v3,v4],.int .i64 n] w (NewEngB w tEng (stepM e n)):=by
 have hb0:=((Below.refl w.heap.size w).alloc (Nat.le_refl _) (.cells #[v1,v2,v3,v4] 57)).alloc (by simp) (.cells #[.slice none 0 0,.slice none 0 0,.slice none 0 0,.slice none 0 0] 57)
 have hg0:=(egAt_new w 57 v1 v2 v3 v4).below ((Below.refl _ _).alloc (Nat.le_refl _) (.cells #[.slice none 0 0,.slice none 0 0,.slice none 0 0,.slice none 0 0] 57))
 have hg1:=egAt_new (w.alloc (.cells #[v1,v2,v3,v4] 57)) 57 (.slice none 0 0) (.slice none 0 0) (.slice none 0 0) (.slice none 0 0)
 rw [World.size_alloc] at hg1
 have HR0:=Lib.hid h
 obtain ⟨⟨a1,n1,c1,rfl,-⟩,⟨a2,n2,c2,rfl,-⟩,⟨a3,n3,c3,rfl,-⟩,a4,n4,c4,rfl,-⟩:=h
 obtain ⟨W1,hW1⟩:∃ W1,W1=(w.alloc (.cells #[.slice a1 n1 c1,.slice a2 n2 c2,.slice a3 n3 c3,.slice a4 n4 c4] 57)).alloc (.cells #[.slice none 0 0,.slice none 0 0,.slice none 0 0,.slice none 0 0] 57):=⟨_,rfl⟩
 have HZ1:Hid (W1.heap.size=w.heap.size+2):=Lib.hid (by rw [hW1];simp)
 have HW1:=Lib.hid hW1
 rw [← hW1] at hb0 hg0 hg1
 clear hW1
 have HKK:=Lib.hid (fun (W':World) (hb:Below W1.heap.size W1 W')=>(⟨hg0.below hb,hg1.below hb,(HR0.out.below hb0).below hb,hb0.trans (hb.mono hb0.size),trivial⟩:EgAt W' w.heap.size (.slice a1 n1 c1) (.slice a2 n2 c2) (.slice a3 n3 c3) (.slice a4 n4 c4)∧EgAt W' (w.heap.size+1) (.slice none 0 0) (.slice none 0 0) (.slice none 0 0) (.slice none 0 0)∧EngRd W' (.slice a1 n1 c1) (.slice a2 n2 c2) (.slice a3 n3 c3) (.slice a4 n4 c4) e∧Below w.heap.size w W'∧True))
 clear hb0 hg0 hg1 HR0
 go_enter Tryz.func51,Tryz.ntmps51
 go_upto_region 1 with (fail)
 rw [← HW1.out]
 clear HW1
 obtain ⟨⟨k0,k1,k2,k3,-,-,-,-⟩,-,kr,-⟩:=HKK.out W1 (Below.refl _ _)
 go_wp2_with fail
 refine (steppingOf_impl _ _ _ _ e _ kr).mono ?_;rintro e1 w2 ⟨hor,hb2⟩
 have HB2:=Lib.hid hb2
 clear k0 k1 k2 k3 kr hb2
 have HNO:Hid (stepM e n=(noEng,false)→EgAt (set4 w2 (w.heap.size+1) (.slice none 0 0) (.slice none 0 0) (.slice none 0 0) (.slice none 0 0)) (w.heap.size+1) (.slice none 0 0) (.slice none 0 0) (.slice none 0 0) (.slice none 0 0)∧EngOwn (set4 w2 (w.heap.size+1) (.slice none 0 0) (.slice none 0 0) (.slice none 0 0) (.slice none 0 0)) w.heap.size (set4 w2 (w.heap.size+1) (.slice none 0 0) (.slice none 0 0) (.slice none 0 0) (.slice none 0 0)).heap.size tEng (.slice none 0 0) (.slice none 0 0) (.slice none 0 0) (.slice none 0 0) (stepM e n).1 []∧Below w.heap.size w (set4 w2 (w.heap.size+1) (.slice none 0 0) (.slice none 0 0) (.slice none 0 0) (.slice none 0 0))∧(stepM e n).2=false):=Lib.hid (fun hh=>by
  have hk:=HKK.out w2 HB2.out
  have hz:=HZ1.out
  have hs:=HB2.out.size
  have hf:=fin_eng hk.2.1 (engOwn_no w2 (w.heap.size+2) (w.heap.size+2) tEng) (by omega) hk.2.2.2.1 (by omega) (by omega)
  rw [hh]
  exact ⟨hf.1,hf.2.1,hf.2.2,rfl⟩)
 rcases hor with ⟨hv,rfl⟩ | ⟨hv,G,rfl,hGW,hst⟩
 · have HV:=Lib.hid hv
   clear hv
   obtain ⟨hE,hO,hB,hF⟩:=HNO.out (stepM_no HV.out)
   obtain ⟨x0,x1,x2,x3,f0,f1,f2,f3⟩:=(HKK.out w2 HB2.out).2.1
   have HE:=Lib.hid hE
   have HO:=Lib.hid hO
   have HB:=Lib.hid hB
   have HFF:=Lib.hid hF
   unfold set4 at HE HO HB
   clear hE hO hB hF HNO
   go_wp2_with fail
   refine bodyPost_ret (results_engB Tryz.results51 _ (by rfl) HE.out _ (by rfl)) rfl ⟨_,_,_,_,_,by rw [HFF.out];rfl,HO.out,HB.out⟩
 · have HOK:=Lib.hid ((engB_iff e).1 hv)
   have HM:=Lib.hid (stepM_yes (n:=n) hv)
   have HOK2:=Lib.hid (stepL_ok HOK.out n)
   have HST:=Lib.hid hst
   have HGW:=Lib.hid hGW
   clear hv HNO hst hGW
   go_wp2_with fail
   refine (stStep_impl _ _ _ e n _ HST.out HOK.out HGW.out).mono ?_;rintro e1 w3 ⟨rfl,hst3,hb3⟩
   have HST3:=Lib.hid hst3
   have HB3:=Lib.hid (HB2.out.trans hb3)
   clear hst3 hb3 HST
   go_wp2_with fail
   refine (stEngine_impl _ _ _ _ _ HST3.out HOK2.out HB3.out.size).mono ?_;rintro e1 w4 ⟨x1,x2,x3,x4,ts,rfl,ho4,hb4⟩
   obtain ⟨b1,m1,d1,b2,m2,d2,b3,m3,d3,b4,m4,d4,rfl,rfl,rfl,rfl⟩:=newEng_formS ho4
   have HO:=Lib.hid ho4
   have HBE:=Lib.hid (HB3.out.trans (hb4.mono HB3.out.size))
   clear ho4 hb4 HST3
   obtain ⟨x0,x1,x2,x3,f0,f1,f2,f3⟩:=(HKK.out w4 HBE.out).2.1
   have HFE:Hid (EgAt (set4 w4 (w.heap.size+1) (.slice b1 m1 d1) (.slice b2 m2 d2) (.slice b3 m3 d3) (.slice b4 m4 d4)) (w.heap.size+1) (.slice b1 m1 d1) (.slice b2 m2 d2) (.slice b3 m3 d3) (.slice b4 m4 d4)∧EngOwn (set4 w4 (w.heap.size+1) (.slice b1 m1 d1) (.slice b2 m2 d2) (.slice b3 m3 d3) (.slice b4 m4 d4)) w.heap.size (set4 w4 (w.heap.size+1) (.slice b1 m1 d1) (.slice b2 m2 d2) (.slice b3 m3 d3) (.slice b4 m4 d4)).heap.size tEng (.slice b1 m1 d1) (.slice b2 m2 d2) (.slice b3 m3 d3) (.slice b4 m4 d4) (stepL e n).1 ts∧Below w.heap.size w (set4 w4 (w.heap.size+1) (.slice b1 m1 d1) (.slice b2 m2 d2) (.slice b3 m3 d3) (.slice b4 m4 d4))):=Lib.hid (by
    have hk:=HKK.out w4 HBE.out
    have hz:=HZ1.out
    have hs:=HBE.out.size
    exact fin_eng hk.2.1 HO.out (by omega) hk.2.2.2.1 (by omega) (Nat.le_refl _))
   have HEE:=Lib.hid HFE.out.1
   unfold set4 at HFE HEE
   clear HB2
   go_wp2_with fail
   refine bodyPost_ret (results_engB Tryz.results51 _ (by rfl) HEE.out _ (by rfl)) rfl ⟨_,_,_,_,_,by rw [HM.out];rfl,by rw [HM.out];exact HFE.out.2.1,HFE.out.2.2⟩
end Go.Proofs.YtaaffpolmecicabGreat
/- The contract of the program's EngineRun (gen14/engsr.py). -/
namespace Go.Proofs.YtaaffpolmecicabGreat
open Go.RowKit
set_option linter.unusedVariables false
set_option linter.unusedSimpArgs false
end Go.Proofs.YtaaffpolmecicabGreat
/- The contract of the program's EngineFinish (gen14/engsr.py). -/
namespace Go.Proofs.YtaaffpolmecicabGreat
open Go.RowKit
set_option linter.unusedVariables false
set_option linter.unusedSimpArgs false
theorem FinAt.skip {e:Eng} {e':Eng} {n:Nat}:∀ (d k:Nat),FinAt e (e',k,n)→k+d≤chkN e'→FinAt e (e',k+d,n)
 | 0,k,h,_=>h
 | d+1,k,h,hd=>by
  have hok:EngOk e':=h.1.ok
  have hlt:k < e'.slots.length:=by have:=chkN_le e';omega
  have h2:stg e' k=2:=(chkN_iff hok hlt).2 (by omega)
  have hs:finStep (e',k,n)=(e',k+1,n):=by unfold finStep;rw [if_pos h2]
  have hn:=h.next hlt
  rw [hs] at hn
  have:=FinAt.skip d (k+1) hn (by omega)
  rwa [show k+1+d=k+(d+1) by omega] at this
theorem FinAt.toChk {e:Eng} {e':Eng} {k n:Nat} (h:FinAt e (e',k,n)):FinAt e (e',chkN e',n):=by
 have hok:EngOk e':=h.1.ok
 have hle:k≤chkN e':=by
  rcases Nat.lt_or_ge (chkN e') k with hlt | hge
  · have hl:chkN e' < e'.slots.length:=by have:k≤e'.slots.length:=h.1.le;omega
    have h2:stg e' (chkN e')=2:=h.1.chk _ hlt
    have:=(chkN_iff hok hl).1 h2
    omega
  · exact hge
 have:=FinAt.skip (chkN e' - k) k h (by omega)
 rwa [show k+(chkN e' - k)=chkN e' by omega] at this
theorem FinAt.step {e:Eng} {e':Eng} {n:Nat} (h:FinAt e (e',chkN e',n)) (hlt:chkN e' < e'.slots.length):FinAt e ((stepN e' (chkN e')).1,chkN (stepN e' (chkN e')).1,n+1):=by
 have hok:EngOk e':=h.1.ok
 have h2:¬ stg e' (chkN e')=2:=fun hh=>by have:=(chkN_iff hok hlt).1 hh;omega
 have hs:finStep (e',chkN e',n)=((stepN e' (chkN e')).1,chkN e',n+1):=by unfold finStep;rw [if_neg h2]
 have hn:=h.next hlt
 rw [hs] at hn
 exact hn.toChk
theorem fin_first {e:Eng} (h:EngOk e) (h9:le900 e):FinAt e (e,chkN e,0):=FinAt.toChk (k:=0) ⟨fin_start h h9,rfl⟩
theorem fin_last {e:Eng} {e':Eng} {n:Nat} (hb:engB e=true) (h9:le900 e) (h:FinAt e (e',chkN e',n)) (hc:¬ chkN e' < e'.slots.length):eFinM e=(e',(n:Int)):=by
 have:=h.fin hc
 unfold eFinM
 rw [if_pos ⟨hb,h9⟩,← this]
set_option maxRecDepth 100000 in
set_option maxHeartbeats 8000000 in
theorem engineFinish_impl (v1 v2 v3 v4:Value) (e:Eng) (w:World) (h:EngRd w v1 v2 v3 v4 e) :
  Calls Tryz.prog 42 #[.agg #[v1,v2,v3,v4]] w (NewEngI w tEng (eFinM e)):=by
 have hb0:=((Below.refl w.heap.size w).alloc (Nat.le_refl _) (.cells #[v1,v2,v3,v4] 57)).alloc (by simp) (.cells #[.slice none 0 0,.slice none 0 0,.slice none 0 0,.slice none 0 0] 57)
 have hg0:=(egAt_new w 57 v1 v2 v3 v4).below ((Below.refl _ _).alloc (Nat.le_refl _) (.cells #[.slice none 0 0,.slice none 0 0,.slice none 0 0,.slice none 0 0] 57))
 have hg1:=egAt_new (w.alloc (.cells #[v1,v2,v3,v4] 57)) 57 (.slice none 0 0) (.slice none 0 0) (.slice none 0 0) (.slice none 0 0)
 rw [World.size_alloc] at hg1
 have HR0:=Lib.hid h
 obtain ⟨⟨a1,n1,c1,rfl,-⟩,⟨a2,n2,c2,rfl,-⟩,⟨a3,n3,c3,rfl,-⟩,a4,n4,c4,rfl,-⟩:=h
 obtain ⟨W1,hW1⟩:∃ W1,W1=(w.alloc (.cells #[.slice a1 n1 c1,.slice a2 n2 c2,.slice a3 n3 c3,.slice a4 n4 c4] 57)).alloc (.cells #[.slice none 0 0,.slice none 0 0,.slice none 0 0,.slice none 0 0] 57):=⟨_,rfl⟩
 have HZ1:Hid (W1.heap.size=w.heap.size+2):=Lib.hid (by rw [hW1];simp)
 have HW1:=Lib.hid hW1
 rw [← hW1] at hb0 hg0 hg1
 clear hW1
 have HKK:=Lib.hid (fun (W':World) (hb:Below W1.heap.size W1 W')=>(⟨hg0.below hb,hg1.below hb,(HR0.out.below hb0).below hb,hb0.trans (hb.mono hb0.size),trivial⟩:EgAt W' w.heap.size (.slice a1 n1 c1) (.slice a2 n2 c2) (.slice a3 n3 c3) (.slice a4 n4 c4)∧EgAt W' (w.heap.size+1) (.slice none 0 0) (.slice none 0 0) (.slice none 0 0) (.slice none 0 0)∧EngRd W' (.slice a1 n1 c1) (.slice a2 n2 c2) (.slice a3 n3 c3) (.slice a4 n4 c4) e∧Below w.heap.size w W'∧True))
 clear hb0 hg0 hg1 HR0
 go_enter Tryz.func42,Tryz.ntmps42
 go_upto_region 1 with (fail)
 rw [← HW1.out]
 clear HW1
 obtain ⟨⟨k0,k1,k2,k3,-,-,-,-⟩,-,kr,-⟩:=HKK.out W1 (Below.refl _ _)
 go_wp2_with fail
 refine (steppingOf_impl _ _ _ _ e _ kr).mono ?_;rintro e1 w2 ⟨hor,hb2⟩
 have HB2:=Lib.hid hb2
 clear k0 k1 k2 k3 kr hb2
 have HNO:Hid (eFinM e=(noEng,-1)→EgAt (set4 w2 (w.heap.size+1) (.slice none 0 0) (.slice none 0 0) (.slice none 0 0) (.slice none 0 0)) (w.heap.size+1) (.slice none 0 0) (.slice none 0 0) (.slice none 0 0) (.slice none 0 0)∧EngOwn (set4 w2 (w.heap.size+1) (.slice none 0 0) (.slice none 0 0) (.slice none 0 0) (.slice none 0 0)) w.heap.size (set4 w2 (w.heap.size+1) (.slice none 0 0) (.slice none 0 0) (.slice none 0 0) (.slice none 0 0)).heap.size tEng (.slice none 0 0) (.slice none 0 0) (.slice none 0 0) (.slice none 0 0) (eFinM e).1 []∧Below w.heap.size w (set4 w2 (w.heap.size+1) (.slice none 0 0) (.slice none 0 0) (.slice none 0 0) (.slice none 0 0))∧(eFinM e).2 = -1):=Lib.hid (fun hh=>by
  have hk:=HKK.out w2 HB2.out
  have hz:=HZ1.out
  have hs:=HB2.out.size
  have hf:=fin_eng hk.2.1 (engOwn_no w2 (w.heap.size+2) (w.heap.size+2) tEng) (by omega) hk.2.2.2.1 (by omega) (by omega)
  rw [hh]
  exact ⟨hf.1,hf.2.1,hf.2.2,rfl⟩)
 rcases hor with ⟨hv,rfl⟩ | ⟨hv,G,rfl,hGW,hst⟩
 · have HV:=Lib.hid hv
   clear hv
   obtain ⟨hE,hO,hB,hF⟩:=HNO.out (by unfold eFinM;rw [if_neg (fun hh=>by rw [HV.out] at hh;cases hh.1)])
   obtain ⟨x0,x1,x2,x3,f0,f1,f2,f3⟩:=(HKK.out w2 HB2.out).2.1
   have HE:=Lib.hid hE
   have HO:=Lib.hid hO
   have HB:=Lib.hid hB
   have HFF:=Lib.hid hF
   unfold set4 at HE HO HB
   clear hE hO hB hF HNO
   go_wp2_with fail
   refine bodyPost_ret (results_engI Tryz.results42 _ (by rfl) HE.out _ (by rfl)) rfl ⟨_,_,_,_,_,by rw [HFF.out];rfl,HO.out,HB.out⟩
 · have HV:=Lib.hid hv
   have HOK:=Lib.hid ((engB_iff e).1 hv)
   have HST:=Lib.hid hst
   have HGW:=Lib.hid hGW
   clear hv hst hGW
   go_wp2_with fail
   refine (canFinish_impl _ _ _ e _ HST.out HOK.out).mono ?_;rintro e1 w3 ⟨hb3,hor⟩
   have HB3:=Lib.hid (HB2.out.trans (hb3.mono HB2.out.size))
   have HST3:=Lib.hid (HST.out.below hb3)
   have hb23:=hb3
   rcases hor with ⟨rfl,h9⟩ | ⟨rfl,h9⟩
   · have HNO3:Hid (EgAt (set4 w3 (w.heap.size+1) (.slice none 0 0) (.slice none 0 0) (.slice none 0 0) (.slice none 0 0)) (w.heap.size+1) (.slice none 0 0) (.slice none 0 0) (.slice none 0 0) (.slice none 0 0)∧EngOwn (set4 w3 (w.heap.size+1) (.slice none 0 0) (.slice none 0 0) (.slice none 0 0) (.slice none 0 0)) w.heap.size (set4 w3 (w.heap.size+1) (.slice none 0 0) (.slice none 0 0) (.slice none 0 0) (.slice none 0 0)).heap.size tEng (.slice none 0 0) (.slice none 0 0) (.slice none 0 0) (.slice none 0 0) (eFinM e).1 []∧Below w.heap.size w (set4 w3 (w.heap.size+1) (.slice none 0 0) (.slice none 0 0) (.slice none 0 0) (.slice none 0 0))∧(eFinM e).2 = -1):=Lib.hid (by
      have hh:eFinM e=(noEng,-1):=by unfold eFinM;rw [if_neg (fun hh=>h9 hh.2)]
      have hk:=HKK.out w3 HB3.out
      have hz:=HZ1.out
      have hs:=HB3.out.size
      have hf:=fin_eng hk.2.1 (engOwn_no w3 (w.heap.size+2) (w.heap.size+2) tEng) (by omega) hk.2.2.2.1 (by omega) (by omega)
      rw [hh]
      exact ⟨hf.1,hf.2.1,hf.2.2,rfl⟩)
     obtain ⟨hE,hO,hB,hF⟩:=HNO3.out
     obtain ⟨x0,x1,x2,x3,f0,f1,f2,f3⟩:=(HKK.out w3 HB3.out).2.1
     have HE:=Lib.hid hE
     have HO:=Lib.hid hO
     have HB:=Lib.hid hB
     have HFF:=Lib.hid hF
     unfold set4 at HE HO HB
     clear hE hO hB hF HNO HNO3 h9 hb3 hb23
     go_wp2_with fail
     refine bodyPost_ret (results_engI Tryz.results42 _ (by rfl) HE.out _ (by rfl)) rfl ⟨_,_,_,_,_,by rw [HFF.out];rfl,HO.out,HB.out⟩
   · have H9:Hid (le900 e):=Lib.hid h9
     have HFS:=Lib.hid (fin_first HOK.out H9.out)
     clear h9 hb3 hb23 HNO HST
     go_wp2_with fail
     go_loopw [6] (fun c wr=>∃ (e':Eng) (n:Nat),n≤50∧c = .int .i64 n∧Hid (FinAt e (e',chkN e',n))∧StAt wr G W1.heap.size 132 tEng e'∧Below W1.heap.size W1 wr) (fun c _=>60 - (intOf c).toNat)
     case atStart=>exact ⟨e,0,by omega,rfl,HFS,HST3.out,HB3.out⟩
     case round =>
      obtain ⟨e',n,hn50,rfl,HFA,hst,hb⟩:=hrel
      clear HFS HST3
      have HST:=Lib.hid hst
      have HBW:=Lib.hid hb
      have HOKK:Hid (EngOk e'):=Lib.hid HFA.out.1.ok
      have hten:=HOKK.out.ten
      have hbd:n≤34:=by
       have h1:=HFA.out.bd
       have h2:=h1.1;have h3:=h1.2.1
       simp only at h2 h3
       omega
      obtain ⟨xL,xS,xQ,qv,ts,vs,Q,d,hin⟩:=hst
      have c66:=hin.c66
      by_cases hlt:chkN e' < e'.slots.length
      · obtain ⟨b,cp,hqv,hqc,-,hqq⟩:=hin.first hlt
        subst hqv
        have hcl:(chkN e':Int)=((chkN e':Nat):Int):=rfl
        have HFN:=Lib.hid (HFA.out.step hlt)
        have HTY:=Lib.hid (stStep_impl _ _ _ e' ((chkN e':Nat):Int) wr HST.out HOKK.out HGW.out)
        rw [stepL_in hlt] at HTY
        obtain ⟨L,hL⟩:∃ L,L=e'.slots.length - chkN e':=⟨_,rfl⟩
        have hL0:0 < L:=by omega
        have hL1:L≤10:=by omega
        rw [← hL] at c66 hqc
        obtain ⟨m,hm⟩:∃ m:Nat,m=chkN e':=⟨_,rfl⟩
        rw [← hm] at hqq HTY
        have t0:decide ((0:Int) < (L:Int))=true:=decide_eq_true (by omega)
        have t1:decide (0 < L)=true:=decide_eq_true hL0
        have i0:(0:Int) < (L:Int):=by omega
        have ewc:IntKind.i64.wrap ((n:Int)+1)=(n:Int)+1:=IntWalk.i64_in _ (by omega)
        rw [hm] at HTY
        obtain ⟨p,hp⟩:∃ p,p=stepN e' (chkN e'):=⟨_,rfl⟩
        rw [← hp] at HTY HFN
        rw [← hm] at HTY
        obtain ⟨en,bn⟩:=p
        clear hin hL hm hcl HFA HST hlt hp
        go_wp2_with fail
        refine HTY.out.mono ?_;rintro e1 w4 ⟨rfl,hst4,hb4⟩
        have HST4:=Lib.hid hst4
        have HB4:=Lib.hid (HBW.out.trans hb4)
        clear hst4 hb4 HTY c66 hqq hqc hL0 hL1 t0 t1 i0
        go_wp2_with fail
        go_roundw
        case rel=>exact ⟨en,n+1,by omega,by go_num,HFN,HST4.out,HB4.out⟩
        case measure=>simp [intOf];omega
      · obtain ⟨aq,cp,hqv,hqc⟩:=hin.qlen
        have hq0:e'.slots.length - chkN e'=0:=by omega
        rw [hq0] at hqv hqc
        subst hqv
        have HF2:Hid (eFinM e=(e',(n:Int))):=Lib.hid (fin_last HV.out H9.out HFA.out hlt)
        have HBE0:=HBW
        clear hin hlt hq0 hten HFA
        go_wp2_with fail
        refine (stEngine_impl _ _ _ _ _ HST.out HOKK.out HBW.out.size).mono ?_;rintro e1 w4 ⟨x1,x2,x3,x4,ts,rfl,ho4,hb4⟩
        obtain ⟨b1,m1,d1,b2,m2,d2,b3,m3,d3,b4,m4,d4,rfl,rfl,rfl,rfl⟩:=newEng_formS ho4
        have HO:=Lib.hid ho4
        have HBE:=Lib.hid (HBW.out.trans (hb4.mono HBW.out.size))
        clear ho4 hb4 HST c66
        obtain ⟨x0,x1,x2,x3,f0,f1,f2,f3⟩:=(HKK.out w4 HBE.out).2.1
        have HFE:Hid (EgAt (set4 w4 (w.heap.size+1) (.slice b1 m1 d1) (.slice b2 m2 d2) (.slice b3 m3 d3) (.slice b4 m4 d4)) (w.heap.size+1) (.slice b1 m1 d1) (.slice b2 m2 d2) (.slice b3 m3 d3) (.slice b4 m4 d4)∧EngOwn (set4 w4 (w.heap.size+1) (.slice b1 m1 d1) (.slice b2 m2 d2) (.slice b3 m3 d3) (.slice b4 m4 d4)) w.heap.size (set4 w4 (w.heap.size+1) (.slice b1 m1 d1) (.slice b2 m2 d2) (.slice b3 m3 d3) (.slice b4 m4 d4)).heap.size tEng (.slice b1 m1 d1) (.slice b2 m2 d2) (.slice b3 m3 d3) (.slice b4 m4 d4) e' ts∧Below w.heap.size w (set4 w4 (w.heap.size+1) (.slice b1 m1 d1) (.slice b2 m2 d2) (.slice b3 m3 d3) (.slice b4 m4 d4))):=Lib.hid (by
         have hk:=HKK.out w4 HBE.out
         have hz:=HZ1.out
         have hs:=HBE.out.size
         exact fin_eng hk.2.1 HO.out (by omega) hk.2.2.2.1 (by omega) (Nat.le_refl _))
        have HEE:=Lib.hid HFE.out.1
        unfold set4 at HFE HEE
        clear HB2
        go_wp2_with fail
        refine bodyPost_ret (results_engI Tryz.results42 _ (by rfl) HEE.out _ (by rfl)) rfl ⟨_,_,_,_,_,by rw [HF2.out];rfl,by rw [HF2.out];exact HFE.out.2.1,HFE.out.2.2⟩
end Go.Proofs.YtaaffpolmecicabGreat
