/- The contract of the program's EngineRun (gen14/engsr.py). -/
import Derived.Test.YtoiblfjafjoaeabGreatImplEngS
namespace Go.Proofs.YtoiblfjafjoaeabGreat
open Go.RowKit
set_option linter.unusedVariables false
set_option linter.unusedSimpArgs false
set_option maxRecDepth 100000 in
set_option maxHeartbeats 8000000 in
theorem engineRun_impl (v1 v2 v3 v4:Value) (e:Eng) (a:Option Addr) (n c:Nat) (L:List Int) (w:World) (h:EngRd w v1 v2 v3 v4 e) (hL:RowI w a n L) :
  Calls Tryz.prog 23 #[.agg #[v1,v2,v3,v4],.slice a n c] w (NewEngI w tEng (eRunM e L)):=by
 have hb0:=((Below.refl w.heap.size w).alloc (Nat.le_refl _) (.cells #[v1,v2,v3,v4] 35)).alloc (by simp) (.cells #[.slice none 0 0,.slice none 0 0,.slice none 0 0,.slice none 0 0] 35)
 have hg0:=(egAt_new w 35 v1 v2 v3 v4).below ((Below.refl _ _).alloc (Nat.le_refl _) (.cells #[.slice none 0 0,.slice none 0 0,.slice none 0 0,.slice none 0 0] 35))
 have hg1:=egAt_new (w.alloc (.cells #[v1,v2,v3,v4] 35)) 35 (.slice none 0 0) (.slice none 0 0) (.slice none 0 0) (.slice none 0 0)
 rw [World.size_alloc] at hg1
 have HR0:=Lib.hid h
 obtain ⟨⟨a1,n1,c1,rfl,-⟩,⟨a2,n2,c2,rfl,-⟩,⟨a3,n3,c3,rfl,-⟩,a4,n4,c4,rfl,-⟩:=h
 obtain ⟨W1,hW1⟩:∃ W1,W1=(w.alloc (.cells #[.slice a1 n1 c1,.slice a2 n2 c2,.slice a3 n3 c3,.slice a4 n4 c4] 35)).alloc (.cells #[.slice none 0 0,.slice none 0 0,.slice none 0 0,.slice none 0 0] 35):=⟨_,rfl⟩
 have HZ1:Hid (W1.heap.size=w.heap.size+2):=Lib.hid (by rw [hW1];simp)
 have HW1:=Lib.hid hW1
 rw [← hW1] at hb0 hg0 hg1
 clear hW1
 have HLN:=Lib.hid hL.1
 have hm:=hL.2.1
 unfold maxLen at hm
 have HKK:=Lib.hid (fun (W':World) (hb:Below W1.heap.size W1 W')=>(⟨hg0.below hb,hg1.below hb,(HR0.out.below hb0).below hb,hb0.trans (hb.mono hb0.size),(hL.below hb0).below hb⟩:EgAt W' w.heap.size (.slice a1 n1 c1) (.slice a2 n2 c2) (.slice a3 n3 c3) (.slice a4 n4 c4)∧EgAt W' (w.heap.size+1) (.slice none 0 0) (.slice none 0 0) (.slice none 0 0) (.slice none 0 0)∧EngRd W' (.slice a1 n1 c1) (.slice a2 n2 c2) (.slice a3 n3 c3) (.slice a4 n4 c4) e∧Below w.heap.size w W'∧RowI W' a n L))
 clear hb0 hg0 hg1 HR0 hL
 go_enter Tryz.func23,Tryz.ntmps23
 go_upto_region 1 with (fail)
 rw [← HW1.out]
 clear HW1
 obtain ⟨⟨k0,k1,k2,k3,-,-,-,-⟩,-,kr,-,-⟩:=HKK.out W1 (Below.refl _ _)
 go_wp2_with fail
 refine (steppingOf_impl _ _ _ _ e _ kr).mono ?_;rintro e1 w2 ⟨hor,hb2⟩
 have HB2:=Lib.hid hb2
 clear k0 k1 k2 k3 kr hb2
 have HNO:Hid (eRunM e L=(noEng,-1)→EgAt (set4 w2 (w.heap.size+1) (.slice none 0 0) (.slice none 0 0) (.slice none 0 0) (.slice none 0 0)) (w.heap.size+1) (.slice none 0 0) (.slice none 0 0) (.slice none 0 0) (.slice none 0 0)∧EngOwn (set4 w2 (w.heap.size+1) (.slice none 0 0) (.slice none 0 0) (.slice none 0 0) (.slice none 0 0)) w.heap.size (set4 w2 (w.heap.size+1) (.slice none 0 0) (.slice none 0 0) (.slice none 0 0) (.slice none 0 0)).heap.size tEng (.slice none 0 0) (.slice none 0 0) (.slice none 0 0) (.slice none 0 0) (eRunM e L).1 []∧Below w.heap.size w (set4 w2 (w.heap.size+1) (.slice none 0 0) (.slice none 0 0) (.slice none 0 0) (.slice none 0 0))∧(eRunM e L).2 = -1):=Lib.hid (fun hh=>by
  have hk:=HKK.out w2 HB2.out
  have hz:=HZ1.out
  have hs:=HB2.out.size
  have hf:=fin_eng hk.2.1 (engOwn_no w2 (w.heap.size+2) (w.heap.size+2) tEng) (by omega) hk.2.2.2.1 (by omega) (by omega)
  rw [hh]
  exact ⟨hf.1,hf.2.1,hf.2.2,rfl⟩)
 rcases hor with ⟨hv,rfl⟩ | ⟨hv,G,rfl,hGW,hst⟩
 · have HV:=Lib.hid hv
   clear hv
   obtain ⟨hE,hO,hB,hF⟩:=HNO.out (by unfold eRunM;rw [if_neg (fun hh=>by rw [HV.out] at hh;cases hh.1)])
   obtain ⟨x0,x1,x2,x3,f0,f1,f2,f3⟩:=(HKK.out w2 HB2.out).2.1
   have HE:=Lib.hid hE
   have HO:=Lib.hid hO
   have HB:=Lib.hid hB
   have HFF:=Lib.hid hF
   unfold set4 at HE HO HB
   clear hE hO hB hF HNO
   go_wp2_with fail
   refine bodyPost_ret (results_engI Tryz.results23 _ (by rfl) HE.out _ (by rfl)) rfl ⟨_,_,_,_,_,by rw [HFF.out];rfl,HO.out,HB.out⟩
 · by_cases h200:n≤200
   · have HF:=Lib.hid (show eRunM e L=eRunTo e L L.length from by unfold eRunM;rw [if_pos ⟨hv,by rw [HLN.out];exact h200⟩])
     have HOK:=Lib.hid ((engB_iff e).1 hv)
     have HOKT:=Lib.hid (eRunTo_ok HOK.out L)
     have tn:decide ((200:Int) < (n:Int))=false:=by simp;omega
     have tn2:decide (200 < n)=false:=by simp;omega
     have HST:Hid (StAt w2 G W1.heap.size 103 tEng (eRunTo e L 0).1):=Lib.hid hst
     have HGW:=Lib.hid hGW
     clear HNO hv hst hGW
     go_wp2_with fail
     go_loopw [8,26] (fun c i wr=>∃ k:Nat,k≤n∧i = .int .i64 k∧c = .int .i64 (eRunTo e L k).2∧StAt wr G W1.heap.size 103 tEng (eRunTo e L k).1∧Below W1.heap.size W1 wr) (fun _ i=>fun _=>n - (intOf i).toNat)
     case atStart=>exact ⟨0,Nat.zero_le _,rfl,rfl,HST.out,HB2.out⟩
     case round =>
      obtain ⟨k,hk,rfl,rfl,hst,hb⟩:=hrel
      clear HST tn tn2
      have HST:=Lib.hid hst
      have HBW:=Lib.hid hb
      have hcb:=(HOKT.out k (by rw [HLN.out];exact hk)).2
      have HOKK:=Lib.hid (HOKT.out k (by rw [HLN.out];exact hk)).1
      obtain ⟨cn,hcn⟩:∃ x,x=(eRunTo e L k).2:=⟨_,rfl⟩
      rw [← hcn] at hcb ⊢
      have HCN:=Lib.hid hcn
      clear hst hb hcn
      by_cases hlt:k < n
      · obtain ⟨ab,ao,rfl,hcell⟩:=(HKK.out wr HBW.out).2.2.2.2.2.2.1 (by omega)
        have q0:=hcell k hlt
        have HNX:=Lib.hid (eRunTo_next (e:=e) (show k < L.length by rw [HLN.out];exact hlt))
        obtain ⟨ek,hek⟩:∃ x,x=(eRunTo e L k).1:=⟨_,rfl⟩
        obtain ⟨v,hvv⟩:∃ x,x=L.getD k 0:=⟨_,rfl⟩
        rw [← hek] at HST HOKK
        rw [← hvv] at q0
        have HNX2:Hid (eRunTo e L (k+1)=eStep (ek,cn) v):=Lib.hid (by rw [HNX.out,hek,HCN.out,hvv])
        clear HNX hcell hek hvv HCN
        have i1:(0:Int)≤(k:Int):=by omega
        have i2:(k:Int) < (n:Int):=by omega
        have HTY:=Lib.hid (stStep_impl _ _ _ ek v wr HST.out HOKK.out HGW.out)
        obtain ⟨st,hst⟩:∃ x,x=stepL ek v:=⟨_,rfl⟩
        rw [← hst] at HTY
        have HNX3:Hid (eRunTo e L (k+1)=(st.1,if st.2=true then cn+1 else cn)):=Lib.hid (by rw [HNX2.out,hst];rfl)
        clear HNX2 hst HST HOKK
        obtain ⟨se,sb⟩:=st
        have ewc:IntKind.i64.wrap (cn+1)=cn+1:=IntWalk.i64_in _ (by omega)
        have ewk:IntKind.i64.wrap ((k:Int)+1)=(k:Int)+1:=IntWalk.i64_in _ (by omega)
        go_wp2_with fail
        refine HTY.out.mono ?_;rintro e1 w3 ⟨rfl,hst3,hb3⟩
        have HST3:=Lib.hid hst3
        have HB3:=Lib.hid (HBW.out.trans hb3)
        clear hst3 hb3 HTY q0 hcb
        cases sb with
        | true =>
         go_wp2_with fail
         go_roundw
         case rel=>exact ⟨k+1,by omega,by go_num,by rw [HNX3.out];rfl,by rw [HNX3.out];exact HST3.out,HB3.out⟩
         case measure=>simp [intOf];omega
        | false =>
         go_wp2_with fail
         go_roundw
         case rel=>exact ⟨k+1,by omega,by go_num,by rw [HNX3.out];rfl,by rw [HNX3.out];exact HST3.out,HB3.out⟩
         case measure=>simp [intOf];omega
      · obtain rfl:k=n:=by omega
        have HF2:Hid (eRunM e L=((eRunTo e L k).1,cn)):=Lib.hid (by rw [HF.out,HLN.out,HCN.out])
        clear hcb hlt
        go_wp2_with fail
        refine (stEngine_impl _ _ _ _ _ HST.out HOKK.out HBW.out.size).mono ?_;rintro e1 w4 ⟨x1,x2,x3,x4,ts,rfl,ho4,hb4⟩
        obtain ⟨b1,m1,d1,b2,m2,d2,b3,m3,d3,b4,m4,d4,rfl,rfl,rfl,rfl⟩:=newEng_formS ho4
        have HO:=Lib.hid ho4
        have HBE:=Lib.hid (HBW.out.trans (hb4.mono HBW.out.size))
        clear ho4 hb4 HST
        obtain ⟨x0,x1,x2,x3,f0,f1,f2,f3⟩:=(HKK.out w4 HBE.out).2.1
        have HFE:Hid (EgAt (set4 w4 (w.heap.size+1) (.slice b1 m1 d1) (.slice b2 m2 d2) (.slice b3 m3 d3) (.slice b4 m4 d4)) (w.heap.size+1) (.slice b1 m1 d1) (.slice b2 m2 d2) (.slice b3 m3 d3) (.slice b4 m4 d4)∧EngOwn (set4 w4 (w.heap.size+1) (.slice b1 m1 d1) (.slice b2 m2 d2) (.slice b3 m3 d3) (.slice b4 m4 d4)) w.heap.size (set4 w4 (w.heap.size+1) (.slice b1 m1 d1) (.slice b2 m2 d2) (.slice b3 m3 d3) (.slice b4 m4 d4)).heap.size tEng (.slice b1 m1 d1) (.slice b2 m2 d2) (.slice b3 m3 d3) (.slice b4 m4 d4) (eRunTo e L k).1 ts∧Below w.heap.size w (set4 w4 (w.heap.size+1) (.slice b1 m1 d1) (.slice b2 m2 d2) (.slice b3 m3 d3) (.slice b4 m4 d4))):=Lib.hid (by
         have hk:=HKK.out w4 HBE.out
         have hz:=HZ1.out
         have hs:=HBE.out.size
         exact fin_eng hk.2.1 HO.out (by omega) hk.2.2.2.1 (by omega) (Nat.le_refl _))
        have HEE:=Lib.hid HFE.out.1
        unfold set4 at HFE HEE
        clear HB2
        go_wp2_with fail
        refine bodyPost_ret (results_engI Tryz.results23 _ (by rfl) HEE.out _ (by rfl)) rfl ⟨_,_,_,_,_,by rw [HF2.out];rfl,by rw [HF2.out];exact HFE.out.2.1,HFE.out.2.2⟩
   · have tn:decide ((200:Int) < (n:Int))=true:=by simp;omega
     have tn2:decide (200 < n)=true:=by simp;omega
     have h200':=Lib.hid h200
     clear h200
     obtain ⟨hE,hO,hB,hF⟩:=HNO.out (by unfold eRunM;rw [if_neg (fun hh=>h200'.out (by rw [← HLN.out];exact hh.2))])
     obtain ⟨x0,x1,x2,x3,f0,f1,f2,f3⟩:=(HKK.out w2 HB2.out).2.1
     have HE:=Lib.hid hE
     have HO:=Lib.hid hO
     have HB:=Lib.hid hB
     have HFF:=Lib.hid hF
     unfold set4 at HE HO HB
     clear hE hO hB hF HNO
     go_wp2_with fail
     refine bodyPost_ret (results_engI Tryz.results23 _ (by rfl) HE.out _ (by rfl)) rfl ⟨_,_,_,_,_,by rw [HFF.out];rfl,HO.out,HB.out⟩
end Go.Proofs.YtoiblfjafjoaeabGreat
