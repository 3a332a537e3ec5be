/- Texts of ours that stand together: SpecFin, EngRev -/
import Derived.Test.YtaaffpolmecicabGreatSpStep
import Derived.Test.YtaaffpolmecicabGreatStepG
import Derived.Test.YtaaffpolmecicabGreatSpecE
/- The contract of the model's EngineFinish. -/
namespace Go.Proofs.YtaaffpolmecicabGreat
open Go.RowKit
set_option linter.unusedVariables false
set_option linter.unusedSimpArgs false
def le900 (e:Eng):Prop:=∀ k,k < e.slots.length→(e.slots.getD k noSlt).tries≤900
instance (e:Eng):Decidable (le900 e):=by unfold le900;infer_instance
def finAll (e:Eng):Eng × Nat × Nat:=finIt (finMu (e,0,0)) (e,0,0)
def eFinM (e:Eng):Eng × Int:=if engB e=true∧le900 e then ((finAll e).1,((finAll e).2.2:Int)) else (noEng,-1)
theorem fin_start {e:Eng} (h:EngOk e) (h9:le900 e):FinI e (e,0,0):=by
 refine ⟨h,rfl,rfl,rfl,Nat.zero_le _,fun m hm=>absurd hm (by simp),fun m _ hm=>h9 m hm,fun hm=>.inl (h9 0 hm),?_⟩
 have:=finPh_le e 0
 show 0+(if 0 < e.slots.length then finPh e 0 else 4)≤3*0+4
 split <;> omega
theorem finIt_step {e0:Eng} {x:Eng × Nat × Nat} (h:FinI e0 x) (hk:x.2.1 < x.1.slots.length):finIt (finMu x) x=finIt (finMu (finStep x)) (finStep x):=by
 obtain ⟨h1,h2⟩:=fin_next h hk
 obtain ⟨f,hf⟩:∃ f,finMu x=f+1:=⟨finMu x - 1,by omega⟩
 rw [hf]
 show (if x.2.1 < x.1.slots.length then finIt f (finStep x) else x) = _
 rw [if_pos hk]
 exact finIt_more _ _ _ h1 (Nat.le_refl _) (by omega)
def FinAt (e:Eng) (x:Eng × Nat × Nat):Prop:=FinI e x∧finIt (finMu x) x=finAll e
theorem FinAt.next {e:Eng} {x:Eng × Nat × Nat} (h:FinAt e x) (hk:x.2.1 < x.1.slots.length):FinAt e (finStep x):=⟨(fin_next h.1 hk).1,(finIt_step h.1 hk).symm.trans h.2⟩
theorem FinAt.fin {e:Eng} {x:Eng × Nat × Nat} (h:FinAt e x) (hk:¬ x.2.1 < x.1.slots.length):x=finAll e:=by
 rw [← h.2]
 have:finMu x=0:=by unfold finMu;rw [if_neg hk]
 rw [this];rfl
theorem FinAt.bd {e:Eng} {x:Eng × Nat × Nat} (h:FinAt e x):x.2.1≤x.1.slots.length∧x.2.2≤3*x.2.1+4∧x.1.slots.length=e.slots.length:=⟨h.1.le,by have:=h.1.num;omega,h.1.len⟩
set_option maxRecDepth 100000 in
set_option maxHeartbeats 8000000 in
theorem engineFinish_spec (v1 v2 v3 v4:Value) (e:Eng) (w:World) (h:EngRd w v1 v2 v3 v4 e) :
  Calls Tryz.prog 56 #[.agg #[v1,v2,v3,v4]] w (NewEngI w tEng (eFinM e)):=by
 have hb0:=((Below.refl w.heap.size w).alloc (Nat.le_refl _) (.cells #[v1,v2,v3,v4] 57)).alloc (by simp) (.cells #[.slice none 0 0,.slice none 0 0,.slice none 0 0,.slice none 0 0] 57)
 have hg0:=(egAt_new w 57 v1 v2 v3 v4).below ((Below.refl _ _).alloc (Nat.le_refl _) (.cells #[.slice none 0 0,.slice none 0 0,.slice none 0 0,.slice none 0 0] 57))
 have hg1:=egAt_new (w.alloc (.cells #[v1,v2,v3,v4] 57)) 57 (.slice none 0 0) (.slice none 0 0) (.slice none 0 0) (.slice none 0 0)
 rw [World.size_alloc] at hg1
 have HR0:=Lib.hid h
 obtain ⟨⟨a1,n1,c1,rfl,-⟩,⟨a2,n2,c2,rfl,-⟩,⟨a3,n3,c3,rfl,-⟩,a4,n4,c4,rfl,hr4,-,-⟩:=h
 have HL4:=Lib.hid hr4.1
 have hm4:=hr4.2.1
 unfold maxLen at hm4
 have HRS:=Lib.hid (fun (W':World) (hb:Below w.heap.size w W')=>hr4.below hb)
 clear hr4
 obtain ⟨W1,hW1⟩:∃ W1,W1=(w.alloc (.cells #[.slice a1 n1 c1,.slice a2 n2 c2,.slice a3 n3 c3,.slice a4 n4 c4] 57)).alloc (.cells #[.slice none 0 0,.slice none 0 0,.slice none 0 0,.slice none 0 0] 57):=⟨_,rfl⟩
 have HZ1:Hid (W1.heap.size=w.heap.size+2):=Lib.hid (by rw [hW1];simp)
 have HW1:=Lib.hid hW1
 rw [← hW1] at hb0 hg0 hg1
 clear hW1
 have HKK:=Lib.hid (fun (W':World) (hb:Below W1.heap.size W1 W')=>(⟨hg0.below hb,hg1.below hb,(HR0.out.below hb0).below hb,hb0.trans (hb.mono hb0.size)⟩:EgAt W' w.heap.size (.slice a1 n1 c1) (.slice a2 n2 c2) (.slice a3 n3 c3) (.slice a4 n4 c4)∧EgAt W' (w.heap.size+1) (.slice none 0 0) (.slice none 0 0) (.slice none 0 0) (.slice none 0 0)∧EngRd W' (.slice a1 n1 c1) (.slice a2 n2 c2) (.slice a3 n3 c3) (.slice a4 n4 c4) e∧Below w.heap.size w W'))
 clear hb0 hg0 hg1 HR0
 go_enter Tryz.func56,Tryz.ntmps56
 go_upto_region 1 with (fail)
 rw [← HW1.out]
 clear HW1
 obtain ⟨⟨k0,k1,k2,k3,-,-,-,-⟩,-,kr,-⟩:=HKK.out W1 (Below.refl _ _)
 go_wp2_with fail
 refine (engineValid_spec _ _ _ _ e _ kr).mono ?_;rintro e1 w2 ⟨rfl,hb2⟩
 have HB2:=Lib.hid hb2
 clear k0 k1 k2 k3 kr hb2
 -- the zero engine and -1
 have HNO:Hid (eFinM e=(noEng,-1)→EgAt (set4 w2 (w.heap.size+1) (.slice none 0 0) (.slice none 0 0) (.slice none 0 0) (.slice none 0 0)) (w.heap.size+1) (.slice none 0 0) (.slice none 0 0) (.slice none 0 0) (.slice none 0 0)∧EngOwn (set4 w2 (w.heap.size+1) (.slice none 0 0) (.slice none 0 0) (.slice none 0 0) (.slice none 0 0)) w.heap.size (set4 w2 (w.heap.size+1) (.slice none 0 0) (.slice none 0 0) (.slice none 0 0) (.slice none 0 0)).heap.size tEng (.slice none 0 0) (.slice none 0 0) (.slice none 0 0) (.slice none 0 0) (eFinM e).1 []∧Below w.heap.size w (set4 w2 (w.heap.size+1) (.slice none 0 0) (.slice none 0 0) (.slice none 0 0) (.slice none 0 0))∧(eFinM e).2 = -1):=Lib.hid (fun hh=>by
  have hk:=HKK.out w2 HB2.out
  have hz:=HZ1.out
  have hs:=HB2.out.size
  have hf:=fin_eng hk.2.1 (engOwn_no w2 (w.heap.size+2) (w.heap.size+2) tEng) (by omega) hk.2.2.2 (by omega) (by omega)
  rw [hh]
  exact ⟨hf.1,hf.2.1,hf.2.2,rfl⟩)
 cases hv:engB e with
 | false =>
  obtain ⟨hE,hO,hB,hF⟩:=HNO.out (by unfold eFinM;rw [if_neg (fun hh=>by rw [hv] at hh;cases hh.1)])
  obtain ⟨x0,x1,x2,x3,f0,f1,f2,f3⟩:=(HKK.out w2 HB2.out).2.1
  have HE:=Lib.hid hE
  have HO:=Lib.hid hO
  have HB:=Lib.hid hB
  have HFF:=Lib.hid hF
  unfold set4 at HE HO HB
  clear hE hO hB hF HNO hv
  go_wp2_with fail
  refine bodyPost_ret (results_engI Tryz.results56 _ (by rfl) HE.out _ (by rfl)) rfl ⟨_,_,_,_,_,by rw [HFF.out];rfl,HO.out,HB.out⟩
 | true =>
  have HOK:=Lib.hid ((engB_iff e).1 hv)
  have hn10:n4≤10:=by rw [← HL4.out];exact HOK.out.ten
  have HVT:=Lib.hid hv
  clear hv
  have HS2:=Lib.hid (HRS.out w2 (HKK.out w2 HB2.out).2.2.2)
  go_upto_region 4 with (fail)
  go_wp2_with fail
  go_loopw [4] (fun i wr=>∃ k:Nat,k≤n4∧i = .int .i64 k∧(∀ j,j < k→(e.slots.getD j noSlt).tries≤900)∧wr=w2) (fun i _=>n4 - (intOf i).toNat)
  case atStart=>exact ⟨0,Nat.zero_le _,rfl,fun j hj=>absurd hj (Nat.not_lt_zero _),rfl⟩
  case round =>
   obtain ⟨k,hk,rfl,hle,rfl⟩:=hrel
   have HLE:=Lib.hid hle
   clear hle
   obtain ⟨⟨k0,k1,k2,k3,-,-,-,-⟩,-,-,-⟩:=HKK.out _ HB2.out
   by_cases hlt:k < n4
   · obtain ⟨b4,o4,rfl,hsl⟩:=HS2.out.at k hlt
     obtain ⟨s0,s1,-⟩:=hsl
     have i1:(0:Int)≤(k:Int):=by omega
     have i2:(k:Int) < (n4:Int):=by omega
     obtain ⟨tr,htr⟩:∃ x,x=(e.slots.getD k noSlt).tries:=⟨_,rfl⟩
     rw [← htr] at s1
     have HTR:=Lib.hid htr
     clear htr
     by_cases h9:tr≤900
     · have t1:decide ((900:Int) < tr)=false:=by simp;omega
       go_wp2_with fail
       go_roundw
       case rel=>exact ⟨k+1,by omega,by go_num,fun j hj=>(by
        rcases Nat.lt_succ_iff_lt_or_eq.1 hj with h | rfl
        · exact HLE.out j h
        · rw [← HTR.out];exact h9),by simp⟩
       case measure=>simp [intOf];omega
     · have t1:decide ((900:Int) < tr)=true:=by simp;omega
       obtain ⟨hE,hO,hB,hF⟩:=HNO.out (by unfold eFinM;rw [if_neg (fun hh=>h9 (by rw [HTR.out];exact hh.2 k (by rw [HL4.out];exact hlt)))])
       obtain ⟨x0,x1,x2,x3,f0,f1,f2,f3⟩:=(HKK.out _ HB2.out).2.1
       have HE:=Lib.hid hE
       have HO:=Lib.hid hO
       have HB:=Lib.hid hB
       have HFF:=Lib.hid hF
       unfold set4 at HE HO HB
       clear hE hO hB hF HNO h9
       go_wp2_with fail
       refine bodyPost_ret (results_engI Tryz.results56 _ (by rfl) HE.out _ (by rfl)) rfl ⟨_,_,_,_,_,by rw [HFF.out];rfl,HO.out,HB.out⟩
   · obtain rfl:k=n4:=by omega
     have HLE9:Hid (le900 e):=Lib.hid (fun j hj=>HLE.out j (by rw [HL4.out] at hj;exact hj))
     have HF:Hid (eFinM e=((finAll e).1,((finAll e).2.2:Int))):=Lib.hid (by unfold eFinM;rw [if_pos ⟨HVT.out,HLE9.out⟩])
     have HST0:Hid (FinAt e (e,0,0)):=Lib.hid ⟨fin_start HOK.out HLE9.out,rfl⟩
     have hwf:=engWf_ok HOK.out
     obtain ⟨-,-,kr,-⟩:=HKK.out _ HB2.out
     clear HNO HLE HLE9 hlt hk
     go_wp2_with fail
     refine (l10Copy_spec _ _ _ _ e _ kr hwf.blen hwf.llen hwf.vlen hwf).mono ?_;rintro e1 w3 ⟨x1,x2,x3,x4,ts,rfl,ho2,hb3⟩
     obtain ⟨b1,m1,d1,b2,m2,d2,b3,m3,d3,b4,m4,d4,rfl,rfl,rfl,rfl⟩:=newEng_formS ho2
     have HO2:=Lib.hid ho2
     have HB3:=Lib.hid (HB2.out.trans (hb3.mono HB2.out.size))
     have HS3:=Lib.hid HB2.out.size
     clear k0 k1 k2 k3 kr ho2 hb3 hwf
     go_upto_region 11 with (fail)
     have HSTART:Hid (OutAt (w3.alloc (.cells #[.slice b1 m1 d1,.slice b2 m2 d2,.slice b3 m3 d3,.slice b4 m4 d4] 57)) W1.heap.size w3.heap.size e):=Lib.hid
      ⟨b1,m1,d1,b2,m2,d2,b3,m3,d3,b4,m4,d4,ts,_,_,egAt_new w3 _ _ _ _ _,HO2.out.below ((Below.refl _ _).alloc (Nat.le_refl _) _),HS3.out,.inl (Nat.le_refl _),by simp⟩
     have HST2:Hid (Below w3.heap.size w3 (w3.alloc (.cells #[.slice b1 m1 d1,.slice b2 m2 d2,.slice b3 m3 d3,.slice b4 m4 d4] 57))):=Lib.hid ((Below.refl _ _).alloc (Nat.le_refl _) _)
     obtain ⟨Z7,hZ7⟩:∃ Z,Z=w3.heap.size:=⟨_,rfl⟩
     have HZ7:=Lib.hid hZ7
     rw [← hZ7] at HSTART ⊢
     clear hZ7 HO2
     have HLE:Hid (e.slots.length≤10):=Lib.hid HOK.out.ten
     go_wp2_with fail
     go_loopw [6,7] (fun c i wr=>∃ x:Eng × Nat × Nat,FinAt e x∧i = .int .i64 (x.2.1:Nat)∧c = .int .i64 (x.2.2:Nat)∧OutAt wr W1.heap.size Z7 x.1∧Below w3.heap.size w3 wr) (fun c i _=>100 - (intOf c).toNat - (intOf i).toNat)
     case atStart=>exact ⟨(e,0,0),HST0.out,rfl,rfl,HSTART.out,HST2.out⟩
     case round =>
      obtain ⟨x,hx,rfl,rfl,hout,hb⟩:=hrel
      clear HSTART HST2 HST0
      obtain ⟨b1,m1,d1,b2,m2,d2,b3,m3,d3,b4,m4,d4,ts,B,T,hZ,ho,hB,hBT,hT⟩:=hout
      have HX:=Lib.hid hx
      obtain ⟨hx1,hx2,hx3⟩:=hx.bd
      have hx10:=HLE.out
      have HXO:=Lib.hid hx.1.ok
      obtain ⟨ek,j,c⟩:=x
      simp only at hx1 hx2 hx3 ho HXO ⊢
      have HZ:=Lib.hid hZ
      have HO:=Lib.hid ho
      have HBW:=Lib.hid hb
      have HBT:=Lib.hid (show W1.heap.size≤B∧(T≤Z7∨Z7 < B)∧T≤wr.heap.size from ⟨hB,hBT,hT⟩)
      have HBWW:=Lib.hid (HB3.out.trans (hb.mono HB3.out.size))
      have hj10:j≤10:=by omega
      have hc34:c≤34:=by omega
      clear hZ ho hB hBT hT hb hx hx2 hx3 hx10
      obtain ⟨-,-,-,b4',m4',d4',h4e,hr4,-⟩:=HO.out.rd
      simp only [Value.slice.injEq] at h4e
      obtain ⟨rfl,rfl,rfl⟩:=h4e
      have HM4:=Lib.hid hr4.1
      obtain ⟨y0,y1,y2,y3,g0,g1,g2,g3⟩:=HZ.out
      by_cases hlt:j < m4
      · have hjl:j < ek.slots.length:=by rw [HM4.out];exact hlt
        have HNX:=Lib.hid (HX.out.next hjl)
        obtain ⟨q4,o4,rfl,hsl⟩:=hr4.at j hlt
        have s0:=hsl.1
        obtain ⟨st,hst⟩:∃ x,x=(ek.slots.getD j noSlt).stage:=⟨_,rfl⟩
        rw [← hst] at s0
        have HSTG:Hid (stg ek j=st):=Lib.hid hst.symm
        have i1:(0:Int)≤(j:Int):=by omega
        have i2:(j:Int) < (m4:Int):=by omega
        have ewj:IntKind.i64.wrap ((j:Int)+1)=(j:Int)+1:=IntWalk.i64_in _ (by omega)
        have ewc:IntKind.i64.wrap ((c:Int)+1)=(c:Int)+1:=IntWalk.i64_in _ (by omega)
        clear hst hsl hr4 hx1
        by_cases e2:st=2
        · have t2:(st == 2)=true:=by simpa using e2
          have HNS:Hid (finStep (ek,j,c)=(ek,j+1,c)):=Lib.hid (by unfold finStep;rw [if_pos (by show stg ek j=2;rw [HSTG.out];exact e2)])
          have HOUT:Hid (OutAt wr W1.heap.size Z7 ek):=Lib.hid ⟨b1,m1,d1,b2,m2,d2,b3,m3,d3,_,m4,d4,ts,B,T,HZ.out,HO.out,HBT.out.1,HBT.out.2.1,HBT.out.2.2⟩
          clear e2 g0 g1 g2 g3
          go_wp2_with fail
          go_roundw
          case rel=>exact ⟨(ek,j+1,c),by rw [← HNS.out];exact HNX.out,by go_num,rfl,HOUT.out,HBW.out⟩
          case measure=>simp [intOf];omega
        · have t2:(st == 2)=false:=by simpa using e2
          have HNS:Hid (finStep (ek,j,c)=((stepN ek j).1,j,c+1)):=Lib.hid (by unfold finStep;rw [if_neg (by show ¬ stg ek j=2;rw [HSTG.out];exact e2)])
          have HSY:=Lib.hid (stepL_yes hjl)
          have hza:=HZ.out.lt
          have hwv:(Lit.int .i64 (j:Int)).wf=true:=WalkArith.wf_i64 (by omega)
          have HTY:=Lib.hid (fun (W:World) (hb:Below wr.heap.size wr W)=>l11Step_spec _ _ _ _ ek (j:Int) W (HO.out.rd.below hb) HXO.out hwv)
          have HKP:=Lib.hid (fun W' (hb:Below wr.heap.size wr W')=>(⟨below_cs hb hza y0,below_cs hb hza y1,below_cs hb hza y2,below_cs hb hza y3⟩:(_∧_∧_∧_)))
          obtain ⟨sn,hsn⟩:∃ x:Eng × Bool,x=stepL ek (j:Int):=⟨_,rfl⟩
          rw [← hsn] at HTY
          have HNS2:Hid (finStep (ek,j,c)=(sn.1,j,c+1)):=Lib.hid (by rw [HNS.out,hsn,HSY.out])
          clear hsn hza hwv HNS HSY e2
          obtain ⟨se,sb⟩:=sn
          go_upto_region 14 with (fail)
          go_wp2_with fail
          refine (HTY.out wr (Below.refl _ _)).mono ?_;rintro e1 w7 ⟨u1,u2,u3,u4,ts7,rfl,ho7,hb7'⟩;obtain ⟨p1,r1,s1,p2,r2,s2,p3,r3,s3,p4,r4,s4,rfl,rfl,rfl,rfl⟩:=newEng_formS ho7
          have hb7:=hb7'
          go_upto_region 15 with (fail)
          have hEF:=engF_alloc (T:=57) (x1:=.slice p1 r1 s1) (x2:=.slice p2 r2 s2) (x3:=.slice p3 r3 s3) (x4:=.slice p4 r4 s4) hb7 ho7
          generalize hFw:World.alloc w7 _=F at hEF ⊢
          generalize hEe:w7.heap.size=E at hEF ⊢
          clear hb7 hb7' ho7 HTY HKP
          clear hFw hEe y0 y1 y2 y3 g0 g1 g2 g3 s0
          have HEF:=Lib.hid hEF
          obtain ⟨hbF,hea,-,-⟩:=hEF
          have HZF:=Lib.hid (HZ.out.below hbF)
          have hzz:=HB3.out.size;have hz3:=HZ7.out;have hbt:=HBT.out;have hwz:=HBWW.out.size
          have HOUT:=Lib.hid (outAt_set (B0:=W1.heap.size) HEF.out HZ.out hwz)
          have HBN:Hid (Below w3.heap.size w3 (set4 F Z7 (.slice p1 r1 s1) (.slice p2 r2 s2) (.slice p3 r3 s3) (.slice p4 r4 s4))):=Lib.hid ((set4_turn F Z7 _ _ _ _).below (HBW.out.trans (hbF.mono HBW.out.size)) (by omega) (by have:=hbF.size;have:=HBW.out.size;omega))
          unfold set4 at HOUT HBN
          clear hzz hz3 hbt hwz
          obtain ⟨z0,z1,z2,z3,-,-,-,-⟩:=hea
          obtain ⟨y0,y1,y2,y3,g0,g1,g2,g3⟩:=HZF.out
          clear hbF HEF HZ HBT HBW
          go_wp2_with fail
          go_roundw
          case rel=>exact ⟨(se,j,c+1),by have:=HNX.out;rw [HNS2.out] at this;exact this,rfl,by go_num,HOUT.out,HBN.out⟩
          case measure=>simp [intOf];omega
      · have HEQ:=Lib.hid (HX.out.fin (by show ¬ j < ek.slots.length;rw [HM4.out];exact hlt))
        have HF2:Hid (eFinM e=(ek,(c:Int))):=Lib.hid (by rw [HF.out,← HEQ.out])
        obtain ⟨x0,x1,x2,x3,f0,f1,f2,f3⟩:=(HKK.out wr HBWW.out).2.1
        have HFE:Hid (EgAt (set4 wr (w.heap.size+1) (.slice b1 m1 d1) (.slice b2 m2 d2) (.slice b3 m3 d3) (.slice b4 m4 d4)) (w.heap.size+1) (.slice b1 m1 d1) (.slice b2 m2 d2) (.slice b3 m3 d3) (.slice b4 m4 d4)∧EngOwn (set4 wr (w.heap.size+1) (.slice b1 m1 d1) (.slice b2 m2 d2) (.slice b3 m3 d3) (.slice b4 m4 d4)) w.heap.size (set4 wr (w.heap.size+1) (.slice b1 m1 d1) (.slice b2 m2 d2) (.slice b3 m3 d3) (.slice b4 m4 d4)).heap.size tEng (.slice b1 m1 d1) (.slice b2 m2 d2) (.slice b3 m3 d3) (.slice b4 m4 d4) ek ts∧Below w.heap.size w (set4 wr (w.heap.size+1) (.slice b1 m1 d1) (.slice b2 m2 d2) (.slice b3 m3 d3) (.slice b4 m4 d4))):=Lib.hid (by
         have hk:=HKK.out wr HBWW.out
         have hz:=HZ1.out
         have hbt:=HBT.out
         exact fin_eng hk.2.1 HO.out (by omega) hk.2.2.2 (by omega) hbt.2.2)
        have HEE:=Lib.hid HFE.out.1
        unfold set4 at HFE HEE
        clear hr4 g0 g1 g2 g3
        go_wp2_with fail
        refine bodyPost_ret (results_engI Tryz.results56 _ (by rfl) HEE.out _ (by rfl)) rfl ⟨_,_,_,_,_,by rw [HF2.out];rfl,by rw [HF2.out];exact HFE.out.2.1,HFE.out.2.2⟩
end Go.Proofs.YtaaffpolmecicabGreat
/- Engines tried in reverse order: finishing tries each action at most once more. Plain mathematics. No function of the program is named here. -/
namespace Go.Proofs.YtaaffpolmecicabGreat
set_option linter.unusedVariables false
set_option linter.unusedSimpArgs false
end Go.Proofs.YtaaffpolmecicabGreat
