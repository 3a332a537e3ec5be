/- The contract of the model's NextBlock and BlockRight (gen15/nextblk.py). -/
import Derived.Test.YtpnjgmgmakmgeaaGreatSpB
import Derived.Test.YtpnjgmgmakmgeaaGreatTrM
import Derived.Test.YtpnjgmgmakmgeaaGreatSpecE0
import Derived.Deep.Cut
import Derived.Deep.RegionHeld3
namespace Go.Proofs.YtpnjgmgmakmgeaaGreat
open Go.RowKit
set_option linter.unusedVariables false
set_option linter.unusedSimpArgs false
theorem wfB_ok {b:Blk} (h:blkB b=true):WfB b:=by
 obtain ⟨h1,h2,h3,h4,h5,-⟩:=blkB_true h
 exact ⟨WalkArith.wf_i64 (by omega),WalkArith.wf_i64 (by omega),WalkArith.wf_i64 (by omega),WalkArith.wf_i64 (by omega),WalkArith.wf_i64 (by omega)⟩
def set6m (w:World) (Z:Nat) (x0 x1 x2 x3 x4 x5:Value):World:=(((((w.setCell ⟨Z,0,none⟩ x0).setCell ⟨Z,1,none⟩ x1).setCell ⟨Z,2,none⟩ x2).setCell ⟨Z,3,none⟩ x3).setCell ⟨Z,4,none⟩ x4).setCell ⟨Z,5,none⟩ x5
theorem infoActM:(Tryz.prog.info? 113).map (fun i=>(i.zero,i.size,i.bytes))=some (some (.agg #[.int .i64 0,.int .i64 0,.int .i64 0,.int .i64 0]),4,32):=by kernel_rfl
set_option maxRecDepth 100000 in
set_option maxHeartbeats 8000000 in
theorem nextBlock_spec (p q r t u:Int) (a:Option Addr) (n c:Nat) (L:List Acn) (a':Option Addr) (m c':Nat) (S:List Ent) (view:Int) (a2:Option Addr) (n2 c2:Nat) (M:List Acn) (w:World)
  (h:RowA w a n L) (hS:RowE w a' m S) (hz:a'=none→c'=0) (hM:RowA w a2 n2 M) (hz2:a2=none→c2=0) (hvw:(Lit.int .i64 view).wf=true) :
  Calls Tryz.prog 90 #[.agg #[.int .i64 p,.int .i64 q,.int .i64 r,.slice a n c,.int .i64 t,.int .i64 u],.slice a' m c',.int .i64 view,.slice a2 n2 c2] w (NewBkB w 113 (nextM ⟨p,q,r,L,t,u⟩ S view M) (nextB ⟨p,q,r,L,t,u⟩ S view M)):=by
 have hb0:=((Below.refl w.heap.size w).alloc (Nat.le_refl _) (.cells #[.int .i64 p,.int .i64 q,.int .i64 r,.slice a n c,.int .i64 t,.int .i64 u] 37)).alloc (by simp) (.cells #[.int .i64 0,.int .i64 0,.int .i64 0,.slice none 0 0,.int .i64 0,.int .i64 0] 37)
 have hA:=(bkAt_new w 37 (.int .i64 p) (.int .i64 q) (.int .i64 r) (.slice a n c) (.int .i64 t) (.int .i64 u)).below ((Below.refl _ _).alloc (Nat.le_refl _) (.cells #[.int .i64 0,.int .i64 0,.int .i64 0,.slice none 0 0,.int .i64 0,.int .i64 0] 37))
 have hZ:=bkAt_new (w.alloc (.cells #[.int .i64 p,.int .i64 q,.int .i64 r,.slice a n c,.int .i64 t,.int .i64 u] 37)) 37 (.int .i64 0) (.int .i64 0) (.int .i64 0) (.slice none 0 0) (.int .i64 0) (.int .i64 0)
 rw [World.size_alloc] at hZ
 obtain ⟨W1,hW1⟩:∃ W1,W1=(w.alloc (.cells #[.int .i64 p,.int .i64 q,.int .i64 r,.slice a n c,.int .i64 t,.int .i64 u] 37)).alloc (.cells #[.int .i64 0,.int .i64 0,.int .i64 0,.slice none 0 0,.int .i64 0,.int .i64 0] 37):=⟨_,rfl⟩
 have HW1:=Lib.hid hW1
 rw [← hW1] at hb0 hA hZ
 clear hW1
 have HN:Hid (w.heap.size+1 < W1.heap.size):=Lib.hid hZ.lt
 have HA:=Lib.hid (fun (W:World) (hb:Below W1.heap.size W1 W)=>(⟨hA.below hb,hZ.below hb,hb0.trans (hb.mono hb0.size),(h.below hb0).below hb,(hS.below hb0).below hb,(hM.below hb0).below hb⟩:BkAt W w.heap.size (.int .i64 p) (.int .i64 q) (.int .i64 r) (.slice a n c) (.int .i64 t) (.int .i64 u)∧BkAt W (w.heap.size+1) (.int .i64 0) (.int .i64 0) (.int .i64 0) (.slice none 0 0) (.int .i64 0) (.int .i64 0)∧Below w.heap.size w W∧RowA W a n L∧RowE W a' m S∧RowA W a2 n2 M))
 have HVW:=Lib.hid hvw
 clear h hS hM hb0 hA hZ hvw
 have HNO:Hid (∀ W,Below W1.heap.size W1 W→nextB ⟨p,q,r,L,t,u⟩ S view M=false→∃ F,F=(((((W.setCell ⟨w.heap.size+1,0,none⟩ (.int .i64 0)).setCell ⟨w.heap.size+1,1,none⟩ (.int .i64 0)).setCell ⟨w.heap.size+1,2,none⟩ (.int .i64 0)).setCell ⟨w.heap.size+1,3,none⟩ (.slice none 0 0)).setCell ⟨w.heap.size+1,4,none⟩ (.int .i64 0)).setCell ⟨w.heap.size+1,5,none⟩ (.int .i64 0)∧BkAt F (w.heap.size+1) (.int .i64 0) (.int .i64 0) (.int .i64 0) (.slice none 0 0) (.int .i64 0) (.int .i64 0)∧NewBkB w 113 (nextM ⟨p,q,r,L,t,u⟩ S view M) (nextB ⟨p,q,r,L,t,u⟩ S view M) (.returned (.tuple #[.agg #[.int .i64 0,.int .i64 0,.int .i64 0,.slice none 0 0,.int .i64 0,.int .i64 0],.bool false])) F) :=
  Lib.hid (fun W hb hn=>⟨_,rfl,(HA.out W hb).2.1.set6 _ _ _ _ _ _,.slice none 0 0,by rw [hn,nextM_no hn];rfl,by rw [nextM_no hn];exact newBk_zero _ _ _,by rw [nextM_no hn];exact fun x hx=>(by cases hx),by rw [nextM_no hn];exact wfB_no,below_set6 (HA.out W hb).2.2.1 (by omega) _ _ _ _ _ _⟩)
 go_enter Tryz.func90,Tryz.ntmps90
 go_upto_region 1 with (fail)
 rw [← HW1.out]
 clear HW1
 obtain ⟨⟨x0,x1,x2,x3,x4,x5,-⟩,-,-,hr,-,-⟩:=HA.out W1 (Below.refl _ _)
 go_wp2_with fail
 refine (blockValid_spec p q r t u a n c L _ hr).mono ?_;rintro e w1 ⟨rfl,hb1⟩
 have HB1:=Lib.hid hb1
 clear x0 x1 x2 x3 x4 x5 hr hb1
 cases e0:blkB ⟨p,q,r,L,t,u⟩ with
 | false =>
  have hnb:nextB ⟨p,q,r,L,t,u⟩ S view M=false:=by unfold nextB befB;rw [e0];rfl
  obtain ⟨F,hFe,hF,hRet⟩:=HNO.out _ HB1.out hnb
  obtain ⟨-,⟨zc0,zc1,zc2,zc3,zc4,zc5,zf0,zf1,zf2,zf3,zf4,zf5⟩,-⟩:=HA.out _ HB1.out
  have HF:=Lib.hid hF
  have HRET:=Lib.hid hRet
  have HFE:=Lib.hid hFe
  clear hnb hF hRet hFe
  go_wp2_with fail
  rw [← HFE.out]
  exact bodyPost_ret (results_blkB Tryz.results90 _ (by rfl) HF.out (.bool false) (by rfl)) rfl HRET.out
 | true =>
  have hqr:(0≤q∧q≤100)∧0≤r∧r≤1000:=⟨(blkB_true e0).2.2.2.1,(blkB_true e0).2.2.2.2.1⟩
  have HV:=Lib.hid e0
  clear e0
  by_cases h100:q=100
  · have hq1:(q == 100)=true:=by simpa using h100
    have HH:=Lib.hid h100
    clear h100
    obtain ⟨⟨x0,x1,x2,x3,x4,x5,-⟩,-⟩:=HA.out w1 HB1.out
    have hnb:nextB ⟨p,q,r,L,t,u⟩ S view M=false:=by unfold nextB befB;simp [HH.out]
    obtain ⟨F,hFe,hF,hRet⟩:=HNO.out _ HB1.out hnb
    obtain ⟨-,⟨zc0,zc1,zc2,zc3,zc4,zc5,zf0,zf1,zf2,zf3,zf4,zf5⟩,-⟩:=HA.out _ HB1.out
    have HF:=Lib.hid hF
    have HRET:=Lib.hid hRet
    have HFE:=Lib.hid hFe
    clear hnb hF hRet hFe
    go_wp2_with fail
    rw [← HFE.out]
    exact bodyPost_ret (results_blkB Tryz.results90 _ (by rfl) HF.out (.bool false) (by rfl)) rfl HRET.out
  · have hq1:(q == 100)=false:=by simpa using h100
    have HH:=Lib.hid h100
    clear h100
    have hs1:=(HA.out w1 HB1.out).2.2.2.2.1
    obtain ⟨⟨x0,x1,x2,x3,x4,x5,-⟩,-⟩:=HA.out w1 HB1.out
    go_wp2_with fail
    refine (storeValid_spec a' m c' S _ hs1).mono ?_;rintro e w2 ⟨rfl,hd2⟩
    have HB2:=Lib.hid (HB1.out.trans ((hd2.below w1.heap.size).mono HB1.out.size))
    clear hs1 hd2 x0 x1 x2 x3 x4 x5
    cases e1:storeB S with
    | false =>
     have hnb:nextB ⟨p,q,r,L,t,u⟩ S view M=false:=by unfold nextB;rw [e1];simp
     obtain ⟨F,hFe,hF,hRet⟩:=HNO.out _ HB2.out hnb
     obtain ⟨-,⟨zc0,zc1,zc2,zc3,zc4,zc5,zf0,zf1,zf2,zf3,zf4,zf5⟩,-⟩:=HA.out _ HB2.out
     have HF:=Lib.hid hF
     have HRET:=Lib.hid hRet
     have HFE:=Lib.hid hFe
     clear hnb hF hRet hFe
     go_wp2_with fail
     rw [← HFE.out]
     exact bodyPost_ret (results_blkB Tryz.results90 _ (by rfl) HF.out (.bool false) (by rfl)) rfl HRET.out
    | true =>
     have HS1:=Lib.hid e1
     clear e1
     have hwr:IntKind.i64.wrap (r+1)=r+1:=IntWalk.i64_in _ (by omega)
     obtain ⟨⟨x0,x1,x2,x3,x4,x5,-⟩,-⟩:=HA.out w2 HB2.out
     cases ev:inB view (r+1) 1000 with
     | false =>
      have HEV:=Lib.hid ev
      go_wp2_with fail
      refine (l1In_spec_hid _ _ _ _).mono ?_;rintro e w' ⟨rfl,rfl⟩
      clear x0 x1 x2 x3 x4 x5
      have hnb:nextB ⟨p,q,r,L,t,u⟩ S view M=false:=by unfold nextB befB;rw [HEV.out];simp
      obtain ⟨F,hFe,hF,hRet⟩:=HNO.out _ HB2.out hnb
      obtain ⟨-,⟨zc0,zc1,zc2,zc3,zc4,zc5,zf0,zf1,zf2,zf3,zf4,zf5⟩,-⟩:=HA.out _ HB2.out
      have HF:=Lib.hid hF
      have HRET:=Lib.hid hRet
      have HFE:=Lib.hid hFe
      clear hnb hF hRet hFe
      go_wp2_with fail
      rw [← HFE.out]
      exact bodyPost_ret (results_blkB Tryz.results90 _ (by rfl) HF.out (.bool false) (by rfl)) rfl HRET.out
     | true =>
      have HEV:=Lib.hid ev
      have hm2:=(HA.out w2 HB2.out).2.2.2.2.2
      go_wp2_with fail
      refine (l1In_spec_hid _ _ _ _).mono ?_;rintro e w' ⟨rfl,rfl⟩
      clear x0 x1 x2 x3 x4 x5
      go_wp2_with fail
      refine (actionsValid_spec a2 n2 c2 M _ hm2).mono ?_;rintro e w3 ⟨rfl,hb3⟩
      have HB3:=Lib.hid (HB2.out.trans (hb3.mono HB2.out.size))
      clear hm2 hb3
      cases e2:actsB M with
      | false =>
       have hnb:nextB ⟨p,q,r,L,t,u⟩ S view M=false:=by unfold nextB;rw [e2];simp
       obtain ⟨F,hFe,hF,hRet⟩:=HNO.out _ HB3.out hnb
       obtain ⟨-,⟨zc0,zc1,zc2,zc3,zc4,zc5,zf0,zf1,zf2,zf3,zf4,zf5⟩,-⟩:=HA.out _ HB3.out
       have HF:=Lib.hid hF
       have HRET:=Lib.hid hRet
       have HFE:=Lib.hid hFe
       clear hnb hF hRet hFe
       go_wp2_with fail
       rw [← HFE.out]
       exact bodyPost_ret (results_blkB Tryz.results90 _ (by rfl) HF.out (.bool false) (by rfl)) rfl HRET.out
      | true =>
       have HNB:Hid (nextB ⟨p,q,r,L,t,u⟩ S view M=true):=Lib.hid (by unfold nextB befB;rw [HV.out,HS1.out,HEV.out,e2];simp [HH.out])
       have hs3:=(HA.out w3 HB3.out).2.2.2.2.1
       have hm3:=(HA.out w3 HB3.out).2.2.2.2.2
       have HL10:Hid (M.length≤10):=Lib.hid (actsB_true e2).1
       clear ev e2 hwr hq1
       go_wp2_with fail
       refine (runSerial_spec a' m c' S a2 n2 c2 M _ hs3 hz hm3).mono ?_;rintro e w4 ⟨v4,u4,rfl,hSF,hb4⟩
       have HB4:=Lib.hid (HB3.out.trans (hb4.mono HB3.out.size))
       have HXL:Hid ((serM S M).1.length≤32∧(serM S M).2.length≤10∧∀ x∈(serM S M).2,x.rds.length+x.wrs.length≤1500000):=Lib.hid ⟨serM_store S M,serM_len S M,fun x hx=>by have:=serM_eff S M x hx;omega⟩
       obtain ⟨X,hX⟩:∃ X,X=serM S M:=⟨_,rfl⟩
       have HXE:=Lib.hid hX
       rw [← hX] at hSF HXL
       obtain ⟨a4,k4,rfl,hr4,-⟩:=hSF.row (by have:=HXL.out.1;omega)
       obtain ⟨b4,d4,rfl,hf4,-,-⟩:=rowFs_of_own hSF.effs
       have HWM:=Lib.hid (HA.out w4 HB4.out).2.2.2.2.2.2.2.2
       have HLM:Hid (M.length=n2):=Lib.hid (HA.out w4 HB4.out).2.2.2.2.2.1
       have hn4:n2≤4000000:=by have:=HL10.out;have:=HLM.out;omega
       have HL2:Hid ((flatA M).length=n2*4):=Lib.hid (by rw [flatA_len,HLM.out])
       have HN2:Hid (a2=none→n2=0∧c2=0):=Lib.hid (fun he=>by
        refine ⟨?_,hz2 he⟩
        rcases Nat.eq_zero_or_pos n2 with h | h
        · exact h
        · obtain ⟨b1,o1,h3,_⟩:=hm3.2.2.1 h
          rw [he] at h3;cases h3)
       obtain ⟨bs,hbs⟩:∃ x,x=blkSumM ⟨p,q,r,L,t,u⟩:=⟨_,rfl⟩
       obtain ⟨rt,hrt⟩:∃ x,x=rootM X.1:=⟨_,rfl⟩
       obtain ⟨ef,hef⟩:∃ x,x=effsSumM X.2:=⟨_,rfl⟩
       have HBS:=Lib.hid (fun (W:World) (hb:Below w4.heap.size w4 W)=>(by have:=blockSum_spec p q r t u a n c L W (HA.out W (HB4.out.trans (hb.mono HB4.out.size))).2.2.2.1;rw [← hbs] at this;exact this:Calls Tryz.prog 86 #[.agg #[.int .i64 p,.int .i64 q,.int .i64 r,.slice a n c,.int .i64 t,.int .i64 u]] W (IntB bs W)))
       have HRO:=Lib.hid (fun (W:World) (hb:Below w4.heap.size w4 W)=>(by have:=rootOf_spec a4 X.1.length k4 X.1 W (hr4.below hb);rw [← hrt] at this;exact this:Calls Tryz.prog 145 #[.slice a4 X.1.length k4] W (IntB rt W)))
       have HEF:=Lib.hid (fun (W:World) (hb:Below w4.heap.size w4 W)=>(by have:=effectsSum_spec b4 X.2.length d4 X.2 W (hf4.below hb) HXL.out.2.2 (by have:=HXL.out.2.1;omega);rw [← hef] at this;exact this:Calls Tryz.prog 146 #[.slice b4 X.2.length d4] W (IntB ef W)))
       have HKC:=Lib.hid (fun (W:World) (hb:Below w4.heap.size w4 W)=>(HA.out W (HB4.out.trans (hb.mono HB4.out.size))).1)
       have HKZ:=Lib.hid (fun (W:World) (hb:Below w4.heap.size w4 W)=>(HA.out W (HB4.out.trans (hb.mono HB4.out.size))).2.1)
       have HNW:=Lib.hid (fun (W:World) (hb:Below w4.heap.size w4 W)=>(HA.out W (HB4.out.trans (hb.mono HB4.out.size))).2.2.2.2.2.news)
       have hwq:IntKind.i64.wrap (q+1)=q+1:=IntWalk.i64_in _ (by omega)
       have HBSE:=Lib.hid hbs
       have HRTE:=Lib.hid hrt
       have HEFE:=Lib.hid hef
       unfold IntB at HBS HRO HEF
       clear hbs hrt hef hX hSF hr4 hf4 hs3 hm3 hqr hb4
       go_upto_region 4 with (fail)
       refine wp_region_light (by kernel_rfl) (fun lt ft wt=>LastJ (fun lz fz wz=>Vals [(0,45,(.agg #[.int .i64 p,.int .i64 q,.int .i64 r,.slice a n c,.int .i64 t,.int .i64 u])),(1,46,(.int .i64 bs)),(2,47,(.pointer (some ⟨w.heap.size,1,none⟩))),(3,48,(.int .i64 q)),(4,49,(.int .i64 (q+1))),(5,50,(.int .i64 view)),(7,52,(.slice a2 n2 c2)),(9,54,(.slice a4 X.1.length k4)),(10,55,(.int .i64 rt)),(11,56,(.slice b4 X.2.length d4)),(12,57,(.int .i64 ef))] lz fz∧Deps [(⟨13,58,[(8,53)],fun f=>.agg #[.int .i64 bs,.int .i64 (q+1),.int .i64 view,f 53,.int .i64 rt,.int .i64 ef],fun f g h=>by simp at h;simp [h]⟩:DepT)] lz fz∧RowsJ w4 [(⟨6,some 8,51,113,4,0,[]⟩:RowT),(⟨8,none,53,113,4,n2,(flatA M)⟩:RowT)] lz fz wz) 14 15 (fun _ wz=>∃ (w1:World) (v:Value),OwnR w1 w4.heap.size w1.heap.size [⟨v,113,4,n2,flatA M⟩]∧Below w4.heap.size w4 w1∧wz=set6m w1 (w.heap.size+1) (.int .i64 bs) (.int .i64 (q+1)) (.int .i64 view) v (.int .i64 rt) (.int .i64 ef)) lt ft wt∧Vals [(15,9,(.bool true))] lt ft) 59 rfl [45,46,47,48,49,50,51,52,53,54,55,56,57,58,9] (by kernel_rfl) (by kernel_rfl) (by kernel_rfl) (fun f=>⟨LastJ.nothing ⟨Vals.nothing _ f,Deps.nothing _ f,RowsJ.nothing _ _ f⟩,Vals.nothing _ f⟩) ?_ ?_
       · intro i hi
         rcases (by have:i < 16:=hi;omega:i=0∨i=1∨i=2∨i=3∨i=4∨i=5∨i=6∨i=7∨i=8∨i=9∨i=10∨i=11∨i=12∨i=13∨i=14∨i=15) with rfl | rfl | rfl | rfl | rfl | rfl | rfl | rfl | rfl | rfl | rfl | rfl | rfl | rfl | rfl | rfl
         · clear hi;intro o ho lz fz w' A hJ hli ha hA K hK
           obtain ⟨hJ,hT⟩:=hJ
           obtain ⟨hv,hd,hq⟩:=hJ.now (i:=0) (by omega) hli
           obtain rfl:=Option.some.inj ho
           clear ho
           have hB:=hq.below
           have gg4:=so hA 4 _ rfl
           simp only [List.getD_cons_succ,List.getD_cons_zero] at gg4
           rw [if_pos (by rfl)]
           obtain ⟨kc0,kc1,kc2,kc3,kc4,kc5,-⟩:=HKC.out w' hB
           have hF:=hK (.agg #[.int .i64 p,.int .i64 q,.int .i64 r,.slice a n c,.int .i64 t,.int .i64 u]) w' (⟨LastJ.step hJ 0 (by omega) hli (by decide) ⟨hv.step 0 45 _ (by simp),hd.step 0 45 _ hli (by simp [allR]),hq.still 0 45 _ (Below.refl _ _) (by simp)⟩,hT.step 0 45 _ (by simp)⟩)
           clear hv hq ha hK hA hli hd hB hJ;go_simp;exact hF
         · clear hi;intro o ho lz fz w' A hJ hli ha hA K hK
           obtain ⟨hJ,hT⟩:=hJ
           obtain ⟨hv,hd,hq⟩:=hJ.now (i:=1) (by omega) hli
           obtain rfl:=Option.some.inj ho
           clear ho
           have hB:=hq.below
           have gg45:=sj hA 45 (hv (0,45,(.agg #[.int .i64 p,.int .i64 q,.int .i64 r,.slice a n c,.int .i64 t,.int .i64 u])) (by simp) (ha 0 (by decide)))
           rw [if_pos (by rfl)]
           have hh:=HBS.out w' hB
           clear hA
           go_simp
           refine hh.mono ?_
           rintro e9 w9 ⟨rfl,hb9⟩
           exact hK _ w9 (⟨LastJ.step hJ 1 (by omega) hli (by decide) ⟨hv.step 1 46 _ (by simp),hd.step 1 46 _ hli (by simp [allR]),hq.still 1 46 _ hb9 (by simp)⟩,hT.step 1 46 _ (by simp)⟩)
         · clear hi;intro o ho lz fz w' A hJ hli ha hA K hK
           obtain ⟨hJ,hT⟩:=hJ
           obtain ⟨hv,hd,hq⟩:=hJ.now (i:=2) (by omega) hli
           obtain rfl:=Option.some.inj ho
           clear ho
           have hB:=hq.below
           have gg4:=so hA 4 _ rfl
           simp only [List.getD_cons_succ,List.getD_cons_zero] at gg4
           rw [if_pos (by rfl)]
           have hF:=hK (.pointer (some ⟨w.heap.size,1,none⟩)) w' (⟨LastJ.step hJ 2 (by omega) hli (by decide) ⟨hv.step 2 47 _ (by simp),hd.step 2 47 _ hli (by simp [allR]),hq.still 2 47 _ (Below.refl _ _) (by simp)⟩,hT.step 2 47 _ (by simp)⟩)
           clear hv hq ha hK hA hli hd hB hJ;go_simp;exact hF
         · clear hi;intro o ho lz fz w' A hJ hli ha hA K hK
           obtain ⟨hJ,hT⟩:=hJ
           obtain ⟨hv,hd,hq⟩:=hJ.now (i:=3) (by omega) hli
           obtain rfl:=Option.some.inj ho
           clear ho
           have hB:=hq.below
           have gg47:=sj hA 47 (hv (2,47,(.pointer (some ⟨w.heap.size,1,none⟩))) (by simp) (ha 2 (by decide)))
           rw [if_pos (by rfl)]
           obtain ⟨kc0,kc1,kc2,kc3,kc4,kc5,-⟩:=HKC.out w' hB
           have hF:=hK (.int .i64 q) w' (⟨LastJ.step hJ 3 (by omega) hli (by decide) ⟨hv.step 3 48 _ (by simp),hd.step 3 48 _ hli (by simp [allR]),hq.still 3 48 _ (Below.refl _ _) (by simp)⟩,hT.step 3 48 _ (by simp)⟩)
           clear hv hq ha hK hA hli hd hB hJ;go_simp;exact hF
         · clear hi;intro o ho lz fz w' A hJ hli ha hA K hK
           obtain ⟨hJ,hT⟩:=hJ
           obtain ⟨hv,hd,hq⟩:=hJ.now (i:=4) (by omega) hli
           obtain rfl:=Option.some.inj ho
           clear ho
           have hB:=hq.below
           have gg48:=sj hA 48 (hv (3,48,(.int .i64 q)) (by simp) (ha 3 (by decide)))
           rw [if_pos (by rfl)]
           have hF:=hK (.int .i64 (q+1)) w' (⟨LastJ.step hJ 4 (by omega) hli (by decide) ⟨hv.step 4 49 _ (by simp),hd.step 4 49 _ hli (by simp [allR]),hq.still 4 49 _ (Below.refl _ _) (by simp)⟩,hT.step 4 49 _ (by simp)⟩)
           clear hv hq ha hK hA hli hd hB hJ;go_simp;exact hF
         · clear hi;intro o ho lz fz w' A hJ hli ha hA K hK
           obtain ⟨hJ,hT⟩:=hJ
           obtain ⟨hv,hd,hq⟩:=hJ.now (i:=5) (by omega) hli
           obtain rfl:=Option.some.inj ho
           clear ho
           have hB:=hq.below
           have gg2:=so hA 2 _ rfl
           simp only [List.getD_cons_succ,List.getD_cons_zero] at gg2
           rw [if_pos (by rfl)]
           have hF:=hK (.int .i64 view) w' (⟨LastJ.step hJ 5 (by omega) hli (by decide) ⟨hv.step 5 50 _ (by simp),hd.step 5 50 _ hli (by simp [allR]),hq.still 5 50 _ (Below.refl _ _) (by simp)⟩,hT.step 5 50 _ (by simp)⟩)
           clear hv hq ha hK hA hli hd hB hJ;go_simp;exact hF
         · clear hi;intro o ho lz fz w' A hJ hli ha hA K hK
           obtain ⟨hJ,hT⟩:=hJ
           obtain ⟨hv,hd,hq⟩:=hJ.now (i:=6) (by omega) hli
           obtain rfl:=Option.some.inj ho
           clear ho
           have hB:=hq.below
           rw [if_pos (by rfl)]
           go_simp
           exact hK _ _ (⟨LastJ.step hJ 6 (by omega) hli (by decide) ⟨hv.step 6 51 _ (by simp),hd.step 6 51 _ hli (by simp [allR]),hq.new 6 51 _ ((Below.refl w'.heap.size w').alloc (Nat.le_refl _) _) (by simp;exact owns_lit0 _ _ _)⟩,hT.step 6 51 _ (by simp)⟩)
         · clear hi;intro o ho lz fz w' A hJ hli ha hA K hK
           obtain ⟨hJ,hT⟩:=hJ
           obtain ⟨hv,hd,hq⟩:=hJ.now (i:=7) (by omega) hli
           obtain rfl:=Option.some.inj ho
           clear ho
           have hB:=hq.below
           have gg3:=so hA 3 _ rfl
           simp only [List.getD_cons_succ,List.getD_cons_zero] at gg3
           rw [if_pos (by rfl)]
           have hF:=hK (.slice a2 n2 c2) w' (⟨LastJ.step hJ 7 (by omega) hli (by decide) ⟨hv.step 7 52 _ (by simp),hd.step 7 52 _ hli (by simp [allR]),hq.still 7 52 _ (Below.refl _ _) (by simp)⟩,hT.step 7 52 _ (by simp)⟩)
           clear hv hq ha hK hA hli hd hB hJ;go_simp;exact hF
         · clear hi;intro o ho lz fz w' A hJ hli ha hA K hK
           obtain ⟨hJ,hT⟩:=hJ
           obtain ⟨hv,hd,hq⟩:=hJ.now (i:=8) (by omega) hli
           obtain rfl:=Option.some.inj ho
           clear ho
           have hB:=hq.below
           have g51:A.tmps.getD 51 undef=fz 51:=si hA 51 rfl
           have g52:=si hA 52 (hv (7,52,(.slice a2 n2 c2)) (by simp) (ha 7 (by decide)))
           have gg51:=slot_get g51
           have gg52:=slot_get g52
           rw [if_pos (by rfl)]
           have ha0:=ha 6 (by decide)
           have o0:=hq.at (t:=⟨6,some 8,51,113,4,0,[]⟩) (by simp) ha0 (by simpa using hli)
           refine wp_append_copy (.tmp 51) (.tmp 52) 35 rfl w4.heap.size 113 (.agg #[.int .i64 0,.int .i64 0,.int .i64 0,.int .i64 0]) 4 32 Tryz.underlying35 infoActM rfl (by decide) (by rw [slot_eval g51];exact o0) a2 n2 c2 (by rw [slot_eval g52]) HN2.out (flatA M) HL2.out (HNW.out w' hB) (flatA_one _) hn4 (by decide) hB.size ?_
           intro v9 w9 ho9 hg9 hl9
           rw [slot_eval g51] at hg9 hl9
           exact hK v9 w9 (⟨LastJ.step hJ 8 (by omega) hli (by decide) ⟨hv.step 8 53 _ (by simp),hd.step 8 53 _ hli (by simp [allR]),hq.repl 8 53 v9 ⟨6,some 8,51,113,4,0,[]⟩ (by simp) (by simp [RowT.live,ha0,hli]) hg9 hl9 (by simp;exact ho9)⟩,hT.step 8 53 _ (by simp)⟩)
         · clear hi;intro o ho lz fz w' A hJ hli ha hA K hK
           obtain ⟨hJ,hT⟩:=hJ
           obtain ⟨hv,hd,hq⟩:=hJ.now (i:=9) (by omega) hli
           obtain rfl:=Option.some.inj ho
           clear ho
           have hB:=hq.below
           have gg10:=so hA 10 _ rfl
           simp only [List.getD_cons_succ,List.getD_cons_zero] at gg10
           rw [if_pos (by rfl)]
           have hF:=hK (.slice a4 X.1.length k4) w' (⟨LastJ.step hJ 9 (by omega) hli (by decide) ⟨hv.step 9 54 _ (by simp),hd.step 9 54 _ hli (by simp [allR]),hq.still 9 54 _ (Below.refl _ _) (by simp)⟩,hT.step 9 54 _ (by simp)⟩)
           clear hv hq ha hK hA hli hd hB hJ;go_simp;exact hF
         · clear hi;intro o ho lz fz w' A hJ hli ha hA K hK
           obtain ⟨hJ,hT⟩:=hJ
           obtain ⟨hv,hd,hq⟩:=hJ.now (i:=10) (by omega) hli
           obtain rfl:=Option.some.inj ho
           clear ho
           have hB:=hq.below
           have gg54:=sj hA 54 (hv (9,54,(.slice a4 X.1.length k4)) (by simp) (ha 9 (by decide)))
           rw [if_pos (by rfl)]
           have hh:=HRO.out w' hB
           clear hA
           go_simp
           refine hh.mono ?_
           rintro e9 w9 ⟨rfl,hb9⟩
           exact hK _ w9 (⟨LastJ.step hJ 10 (by omega) hli (by decide) ⟨hv.step 10 55 _ (by simp),hd.step 10 55 _ hli (by simp [allR]),hq.still 10 55 _ hb9 (by simp)⟩,hT.step 10 55 _ (by simp)⟩)
         · clear hi;intro o ho lz fz w' A hJ hli ha hA K hK
           obtain ⟨hJ,hT⟩:=hJ
           obtain ⟨hv,hd,hq⟩:=hJ.now (i:=11) (by omega) hli
           obtain rfl:=Option.some.inj ho
           clear ho
           have hB:=hq.below
           have gg11:=so hA 11 _ rfl
           simp only [List.getD_cons_succ,List.getD_cons_zero] at gg11
           rw [if_pos (by rfl)]
           have hF:=hK (.slice b4 X.2.length d4) w' (⟨LastJ.step hJ 11 (by omega) hli (by decide) ⟨hv.step 11 56 _ (by simp),hd.step 11 56 _ hli (by simp [allR]),hq.still 11 56 _ (Below.refl _ _) (by simp)⟩,hT.step 11 56 _ (by simp)⟩)
           clear hv hq ha hK hA hli hd hB hJ;go_simp;exact hF
         · clear hi;intro o ho lz fz w' A hJ hli ha hA K hK
           obtain ⟨hJ,hT⟩:=hJ
           obtain ⟨hv,hd,hq⟩:=hJ.now (i:=12) (by omega) hli
           obtain rfl:=Option.some.inj ho
           clear ho
           have hB:=hq.below
           have gg56:=sj hA 56 (hv (11,56,(.slice b4 X.2.length d4)) (by simp) (ha 11 (by decide)))
           rw [if_pos (by rfl)]
           have hh:=HEF.out w' hB
           clear hA
           go_simp
           refine hh.mono ?_
           rintro e9 w9 ⟨rfl,hb9⟩
           exact hK _ w9 (⟨LastJ.step hJ 12 (by omega) hli (by decide) ⟨hv.step 12 57 _ (by simp),hd.step 12 57 _ hli (by simp [allR]),hq.still 12 57 _ hb9 (by simp)⟩,hT.step 12 57 _ (by simp)⟩)
         · clear hi;intro o ho lz fz w' A hJ hli ha hA K hK
           obtain ⟨hJ,hT⟩:=hJ
           obtain ⟨hv,hd,hq⟩:=hJ.now (i:=13) (by omega) hli
           obtain rfl:=Option.some.inj ho
           clear ho
           have hB:=hq.below
           have gg46:=sj hA 46 (hv (1,46,(.int .i64 bs)) (by simp) (ha 1 (by decide)))
           have gg49:=sj hA 49 (hv (4,49,(.int .i64 (q+1))) (by simp) (ha 4 (by decide)))
           have gg50:=sj hA 50 (hv (5,50,(.int .i64 view)) (by simp) (ha 5 (by decide)))
           have g53:A.tmps.getD 53 undef=fz 53:=si hA 53 rfl
           have gg55:=sj hA 55 (hv (10,55,(.int .i64 rt)) (by simp) (ha 10 (by decide)))
           have gg57:=sj hA 57 (hv (12,57,(.int .i64 ef)) (by simp) (ha 12 (by decide)))
           have gg53:=slot_get g53
           rw [if_pos (by rfl)]
           have hF:=hK (.agg #[.int .i64 bs,.int .i64 (q+1),.int .i64 view,fz 53,.int .i64 rt,.int .i64 ef]) w' (⟨LastJ.step hJ 13 (by omega) hli (by decide) ⟨hv.step 13 58 _ (by simp),hd.step 13 58 _ hli (by simp [allR,ha 8 (by decide)]),hq.still 13 58 _ (Below.refl _ _) (by simp)⟩,hT.step 13 58 _ (by simp)⟩)
           have o53:=hq.at (t:=⟨8,none,53,113,4,n2,(flatA M)⟩) (by simp) (ha 8 (by decide)) (by rfl)
           obtain ⟨p53,q53,k53,e53⟩:=slice_form o53
           simp only at e53
           rw [e53] at g53 gg53 hF
           clear o53
           clear hv hq ha hK hA hli hd hB hJ;go_simp;exact hF
         · clear hi;intro o ho lz fz w' A hJ hli ha hA K hK
           obtain ⟨hJ,hT⟩:=hJ
           obtain ⟨hv,hd,hq⟩:=hJ.now (i:=14) (by omega) hli
           obtain rfl:=Option.some.inj ho
           clear ho
           have hB:=hq.below
           have gg8:=so hA 8 _ rfl
           simp only [List.getD_cons_succ,List.getD_cons_zero] at gg8
           have hd58:=(hd (⟨13,58,[(8,53)],fun f=>.agg #[.int .i64 bs,.int .i64 (q+1),.int .i64 view,f 53,.int .i64 rt,.int .i64 ef],fun f g h=>by simp at h;simp [h]⟩:DepT) (by simp) (ha 13 (by decide))).2
           simp only at hd58
           have g58:A.tmps.getD 58 undef=fz 58:=si hA 58 rfl
           have gg58:=slot_get g58
           rw [if_pos (by rfl)]
           have hall:∀ k,k < 14→lz k=true:=fun k hk=>ha k (by have hk2:k < 14:=hk;rcases (by omega:k=0∨k=1∨k=2∨k=3∨k=4∨k=5∨k=6∨k=7∨k=8∨k=9∨k=10∨k=11∨k=12∨k=13) with rfl | rfl | rfl | rfl | rfl | rfl | rfl | rfl | rfl | rfl | rfl | rfl | rfl | rfl <;> simp [aftersOf,Region.binds])
           have hR:=hq.list [(⟨8,none,53,113,4,n2,(flatA M)⟩:RowT)] (by simp [RowT.live,hall 8 (by decide)]) (by simp)
           simp only [List.map_cons,List.map_nil,RowT.row] at hR
           obtain ⟨p53,q53,k53,e53⟩:=slice_form hR.head
           simp only at e53
           have hF:=hK undef _ ⟨LastJ.last (fun i hi hne=>hall i (by omega)) ⟨w',fz 53,hR,hB,rfl⟩,hT.stepN 14 undef (by simp)⟩
           obtain ⟨z0,z1,z2,z3,z4,z5,f0,f1,f2,f3,f4,f5⟩:=HKZ.out w' hB
           rw [hd58] at g58 gg58
           rw [e53] at g58 gg58 hF
           clear hv hq ha hK hA hli hd hB hJ hT hall hR hd58 e53
           unfold set6m at hF;go_simp;exact hF
         · clear hi;intro o ho lz fz w' A hJ hli ha hA K hK
           obtain ⟨hJ,hT⟩:=hJ
           obtain rfl:=Option.some.inj ho
           clear ho
           rw [if_pos (by rfl)]
           have hF:=hK ((.bool true)) w' ⟨hJ.behind 15 9 ((.bool true)) (by decide) (ha 14 (by decide)) (fun _ _ h=>h),hT.step 15 9 _ (by simp)⟩
           clear hJ hT hK hA hli ha
           go_simp
           exact hF
       · intro lz fz w5 hall hJ
         obtain ⟨hJ,hT⟩:=hJ
         have ht9:fz 9=(.bool true):=hT (15,9,(.bool true)) (by simp) (hall 15 (by decide))
         have hfin:=(hJ.2 (hall 14 (by decide))).2
         simp only [mixF,List.contains_cons,List.contains_nil]
         go_simp
         obtain ⟨w1',v,hR,hb5,hw5⟩:=hfin
         have ho4:=hR.head
         simp only at ho4
         obtain ⟨ag,ng,kg,rfl⟩:=slice_form ho4
         have hs4:=HB4.out.size
         have hn1:=HN.out
         have hB5:=HB4.out.trans (hb5.mono hs4)
         obtain ⟨-,hZ5,hbw5,-⟩:=HA.out w1' hB5
         have hne:Value.ownBlock (.slice ag ng kg)≠some (w.heap.size+1):=fun h=>by have:=(ho4.lt _ h).1;omega
         have HF:Hid (BkAt w5 (w.heap.size+1) (.int .i64 bs) (.int .i64 (q+1)) (.int .i64 view) (.slice ag ng kg) (.int .i64 rt) (.int .i64 ef)):=Lib.hid (by rw [hw5];exact hZ5.set6 _ _ _ _ _ _)
         have HBF:Hid (Below w.heap.size w w5):=Lib.hid (by rw [hw5];exact below_set6 hbw5 (by omega) _ _ _ _ _ _)
         have HO:Hid (w5.ownsRow w.heap.size 113 4 (.slice ag ng kg) n2 (flatA M)):=Lib.hid (by rw [hw5];exact owns_mono (owns_set6 ho4 hne _ _ _ _ _ _) (by omega))
         have HNK:Hid (nextM ⟨p,q,r,L,t,u⟩ S view M=⟨bs,q+1,view,M,rt,ef⟩):=Lib.hid (by rw [nextM_yes HNB.out];unfold nextK blkRun;rw [← HBSE.out,← HXE.out,← HRTE.out,← HEFE.out])
         have HWB:Hid (WfB ⟨bs,q+1,view,M,rt,ef⟩):=Lib.hid (wfB_ok (by have:=nextK_ok HNB.out;rw [← nextM_yes HNB.out,HNK.out] at this;exact this))
         clear hR hb5 hw5 ho4 hs4 hn1 hB5 hZ5 hbw5 hne hJ hT hall ht9 hwq hn4
         go_wp2_with fail
         refine bodyPost_ret (results_blkB Tryz.results90 _ (by rfl) HF.out (.bool true) (by rfl)) rfl ?_
         exact ⟨.slice ag ng kg,by rw [HNB.out,HNK.out],by rw [HNK.out,HLM.out];exact HO.out,by rw [HNK.out];exact HWM.out,by rw [HNK.out];exact HWB.out,HBF.out⟩
end Go.Proofs.YtpnjgmgmakmgeaaGreat
