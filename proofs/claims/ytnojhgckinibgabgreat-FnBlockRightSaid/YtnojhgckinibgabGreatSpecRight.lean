/- The contract of the model's BlockRight (gen15/rightblk.py). -/
import Derived.Test.YtnojhgckinibgabGreatSpB
import Derived.Test.YtnojhgckinibgabGreatTrM
import Derived.Test.YtnojhgckinibgabGreatRegJ
import Derived.Deep.Cut
namespace Go.Proofs.YtnojhgckinibgabGreat
open Go.RowKit
set_option linter.unusedVariables false
set_option linter.unusedSimpArgs false
set_option maxRecDepth 100000 in
set_option maxHeartbeats 8000000 in
theorem blockRight_spec (p q r t u:Int) (a:Option Addr) (n c:Nat) (L:List Acn) (a':Option Addr) (m c':Nat) (S:List Ent) (w:World) (h:RowA w a n L) (hS:RowE w a' m S) (hz:a'=none→c'=0) :
  Calls Tryz.prog 48 #[.agg #[.int .i64 p,.int .i64 q,.int .i64 r,.slice a n c,.int .i64 t,.int .i64 u],.slice a' m c'] w (BoolB (rightB ⟨p,q,r,L,t,u⟩ S) w):=by
 have hb0:=(Below.refl w.heap.size w).alloc (Nat.le_refl _) (.cells #[.int .i64 p,.int .i64 q,.int .i64 r,.slice a n c,.int .i64 t,.int .i64 u] 41)
 have hA:=bkAt_new w 41 (.int .i64 p) (.int .i64 q) (.int .i64 r) (.slice a n c) (.int .i64 t) (.int .i64 u)
 obtain ⟨W1,hW1⟩:∃ W1,W1=w.alloc (.cells #[.int .i64 p,.int .i64 q,.int .i64 r,.slice a n c,.int .i64 t,.int .i64 u] 41):=⟨_,rfl⟩
 have HW1:=Lib.hid hW1
 rw [← hW1] at hb0 hA
 clear hW1
 have HA:=Lib.hid (fun (W:World) (hb:Below W1.heap.size W1 W)=>(⟨hA.below hb,hb0.trans (hb.mono hb0.size),(h.below hb0).below hb,(hS.below hb0).below hb⟩:BkAt W w.heap.size (.int .i64 p) (.int .i64 q) (.int .i64 r) (.slice a n c) (.int .i64 t) (.int .i64 u)∧Below w.heap.size w W∧RowA W a n L∧RowE W a' m S))
 clear h hS hb0 hA
 go_enter Tryz.func48,Tryz.ntmps48
 go_upto_region 1 with (fail)
 rw [← HW1.out]
 clear HW1
 obtain ⟨⟨x0,x1,x2,x3,x4,x5,-⟩,-,hr,-⟩:=HA.out W1 (Below.refl _ _)
 go_wp2_with fail
 refine (blockValid_spec p q r t u a n c L _ hr).mono ?_;rintro e w1 ⟨rfl,hb1⟩
 have HB1:=Lib.hid hb1
 clear x0 x1 x2 x3 x4 x5 hr hb1
 cases e0:blkB ⟨p,q,r,L,t,u⟩ with
 | false =>
  have HE:Hid (rightB ⟨p,q,r,L,t,u⟩ S=false):=Lib.hid (by unfold rightB;rw [e0];rfl)
  have HBF:=Lib.hid (HA.out w1 HB1.out).2.1
  clear e0
  go_wp2
  go_ret
  exact ⟨by rw [HE.out];rfl,HBF.out⟩
 | true =>
  have HV:=Lib.hid e0
  have hs1:=(HA.out w1 HB1.out).2.2.2
  clear e0
  go_wp2_with fail
  refine (storeValid_spec a' m c' S _ hs1).mono ?_;rintro e w2 ⟨rfl,hd2⟩
  have HB2:=Lib.hid (HB1.out.trans ((hd2.below w1.heap.size).mono HB1.out.size))
  clear hs1 hd2
  cases e1:storeB S with
  | false =>
   have HE:Hid (rightB ⟨p,q,r,L,t,u⟩ S=false):=Lib.hid (by unfold rightB;rw [e1];simp)
   have HBF:=Lib.hid (HA.out w2 HB2.out).2.1
   clear e1
   go_wp2
   go_ret
   exact ⟨by rw [HE.out];rfl,HBF.out⟩
  | true =>
   have HRT:Hid (rightB ⟨p,q,r,L,t,u⟩ S=(decide (rootM (serM S L).1=t) && decide (effsSumM (serM S L).2=u))):=Lib.hid (by unfold rightB;rw [HV.out,e1];simp)
   clear e1
   obtain ⟨⟨x0,x1,x2,x3,x4,x5,-⟩,-,hr,hs⟩:=HA.out w2 HB2.out
   go_wp2_with fail
   refine (runSerial_spec a' m c' S a n c L _ hs hz hr).mono ?_;rintro e w4 ⟨v4,u4,rfl,hSF,hb4⟩
   have HB4:=Lib.hid (HB2.out.trans (hb4.mono HB2.out.size))
   have HXL:Hid ((serM S L).1.length≤32∧(serM S L).2.length≤10∧∀ x∈(serM S L).2,x.rds.length+x.wrs.length≤1500000):=Lib.hid ⟨serM_store S L,serM_len S L,fun x hx=>by have:=serM_eff S L x hx;omega⟩
   obtain ⟨X,hX⟩:∃ X,X=serM S L:=⟨_,rfl⟩
   rw [← hX] at hSF HXL HRT
   obtain ⟨a4,k4,rfl,hr4,-⟩:=hSF.row (by have:=HXL.out.1;omega)
   obtain ⟨b4,d4,rfl,hf4,-,-⟩:=rowFs_of_own hSF.effs
   obtain ⟨rt,hrt⟩:∃ x,x=rootM X.1:=⟨_,rfl⟩
   obtain ⟨ef,hef⟩:∃ x,x=effsSumM X.2:=⟨_,rfl⟩
   have HRO:=Lib.hid (fun (W:World) (hb:Below w4.heap.size w4 W)=>(by have:=rootOf_spec a4 X.1.length k4 X.1 W (hr4.below hb);rw [← hrt] at this;exact this:Calls Tryz.prog 113 #[.slice a4 X.1.length k4] W (IntB rt W)))
   have HEF:=Lib.hid (fun (W:World) (hb:Below w4.heap.size w4 W)=>(by have:=effectsSum_spec b4 X.2.length d4 X.2 W (hf4.below hb) HXL.out.2.2 (by have:=HXL.out.2.1;omega);rw [← hef] at this;exact this:Calls Tryz.prog 114 #[.slice b4 X.2.length d4] W (IntB ef W)))
   have HKC:=Lib.hid (fun (W:World) (hb:Below w4.heap.size w4 W)=>(HA.out W (HB4.out.trans (hb.mono HB4.out.size))).1)
   rw [← hrt,← hef] at HRT
   unfold IntB at HRO HEF
   clear hrt hef hX hSF hr4 hf4 hr hs hb4 x0 x1 x2 x3 x4 x5
   by_cases f1:rt=t
   · have g1:(rt == t)=true:=by simpa using f1
     by_cases f2:ef=u
     · have g2:(ef == u)=true:=by simpa using f2
       have HE:Hid ((decide (rt=t) && decide (ef=u))=true):=Lib.hid (by simp [f1,f2])
       clear f1 f2
       go_upto_region 4 with (fail)
       refine wp_region_light (by kernel_rfl) (fun lz fz wz=>Vals [(0,22,(.slice a4 X.1.length k4)),(1,23,(.int .i64 rt)),(2,24,(.pointer (some ⟨w.heap.size,4,none⟩))),(3,25,(.int .i64 t)),(4,26,(.bool true)),(5,27,(.bool true)),(6,28,(.slice b4 X.2.length d4)),(7,29,(.int .i64 ef)),(8,30,(.pointer (some ⟨w.heap.size,5,none⟩))),(9,31,(.int .i64 u)),(10,32,(.bool true)),(11,33,(.bool true)),(12,4,(.bool true))] lz fz∧Facts w4 [] lz fz wz) 34 rfl [22,23,24,25,26,27,28,29,30,31,32,33,4] (by kernel_rfl) (by kernel_rfl) (by kernel_rfl) (fun f=>⟨Vals.nothing _ f,Facts.nothing _ _ f⟩) ?_ ?_
       · intro i hi
         rcases (by have:i < 13:=hi;omega:i=0∨i=1∨i=2∨i=3∨i=4∨i=5∨i=6∨i=7∨i=8∨i=9∨i=10∨i=11∨i=12) with rfl | rfl | rfl | rfl | rfl | rfl | rfl | rfl | rfl | rfl | rfl | rfl | rfl
         · clear hi;intro o ho lz fz w' A hJ hli ha hA K hK
           obtain ⟨hv,hq⟩:=hJ
           obtain rfl:=Option.some.inj ho
           clear ho
           have hr:=hq
           have g5:=slot_out hA 5 _ (by decide) (by decide) rfl
           simp only [List.getD_cons_succ,List.getD_cons_zero] at g5
           have gg5:=slot_get g5
           rw [if_pos (by rfl)]
           have hF:=hK (.slice a4 X.1.length k4) w' ⟨hv.step 0 22 _ (by simp),hq.step 0 22 _ (Below.refl _ _) (by simp)⟩
           clear hv hq hr ha hK hA hli
           go_simp
           exact hF
         · clear hi;intro o ho lz fz w' A hJ hli ha hA K hK
           obtain ⟨hv,hq⟩:=hJ
           obtain rfl:=Option.some.inj ho
           clear ho
           have hr:=hq
           have g22:=slot_in hA 22 (by decide) (by decide) (hv (0,22,(.slice a4 X.1.length k4)) (by simp) (ha 0 (by simp [aftersOf,Region.binds])))
           have gg22:=slot_get g22
           rw [if_pos (by rfl)]
           clear hA
           go_simp
           refine (HRO.out w' hr.1).mono ?_
           rintro e9 w9 ⟨rfl,hb9⟩
           exact hK (.int .i64 rt) w9 ⟨hv.step 1 23 _ (by simp),hq.step 1 23 _ hb9 (by simp)⟩
         · clear hi;intro o ho lz fz w' A hJ hli ha hA K hK
           obtain ⟨hv,hq⟩:=hJ
           obtain rfl:=Option.some.inj ho
           clear ho
           have hr:=hq
           have g2:=slot_out hA 2 _ (by decide) (by decide) rfl
           simp only [List.getD_cons_succ,List.getD_cons_zero] at g2
           have gg2:=slot_get g2
           rw [if_pos (by rfl)]
           have hF:=hK (.pointer (some ⟨w.heap.size,4,none⟩)) w' ⟨hv.step 2 24 _ (by simp),hq.step 2 24 _ (Below.refl _ _) (by simp)⟩
           clear hv hq hr ha hK hA hli
           go_simp
           exact hF
         · clear hi;intro o ho lz fz w' A hJ hli ha hA K hK
           obtain ⟨hv,hq⟩:=hJ
           obtain rfl:=Option.some.inj ho
           clear ho
           have hr:=hq
           have g24:=slot_in hA 24 (by decide) (by decide) (hv (2,24,(.pointer (some ⟨w.heap.size,4,none⟩))) (by simp) (ha 2 (by simp [aftersOf,Region.binds])))
           have gg24:=slot_get g24
           rw [if_pos (by rfl)]
           have kc4:=(HKC.out w' hr.1).c4
           have hF:=hK (.int .i64 t) w' ⟨hv.step 3 25 _ (by simp),hq.step 3 25 _ (Below.refl _ _) (by simp)⟩
           clear hv hq hr ha hK hA hli
           go_simp
           exact hF
         · clear hi;intro o ho lz fz w' A hJ hli ha hA K hK
           obtain ⟨hv,hq⟩:=hJ
           obtain rfl:=Option.some.inj ho
           clear ho
           have hr:=hq
           have g23:=slot_in hA 23 (by decide) (by decide) (hv (1,23,(.int .i64 rt)) (by simp) (ha 1 (by simp [aftersOf,Region.binds])))
           have g25:=slot_in hA 25 (by decide) (by decide) (hv (3,25,(.int .i64 t)) (by simp) (ha 3 (by simp [aftersOf,Region.binds])))
           have gg23:=slot_get g23
           have gg25:=slot_get g25
           rw [if_pos (by rfl)]
           have hF:=hK (.bool true) w' ⟨hv.step 4 26 _ (by simp),hq.step 4 26 _ (Below.refl _ _) (by simp)⟩
           clear hv hq hr ha hK hA hli
           go_simp
           exact hF
         · clear hi;intro o ho lz fz w' A hJ hli ha hA K hK
           obtain ⟨hv,hq⟩:=hJ
           obtain rfl:=Option.some.inj ho
           clear ho
           have hr:=hq
           have g26:=slot_in hA 26 (by decide) (by decide) (hv (4,26,(.bool true)) (by simp) (ha 4 (by simp [aftersOf,Region.binds])))
           have gg26:=slot_get g26
           rw [if_pos (by rfl)]
           have hF:=hK (.bool true) w' ⟨hv.step 5 27 _ (by simp),hq.step 5 27 _ (Below.refl _ _) (by simp)⟩
           clear hv hq hr ha hK hA hli
           go_simp
           exact hF
         · clear hi;intro o ho lz fz w' A hJ hli ha hA K hK
           obtain ⟨hv,hq⟩:=hJ
           obtain rfl:=Option.some.inj ho
           clear ho
           have hr:=hq
           have g6:=slot_out hA 6 _ (by decide) (by decide) rfl
           simp only [List.getD_cons_succ,List.getD_cons_zero] at g6
           have g27:=slot_in hA 27 (by decide) (by decide) (hv (5,27,(.bool true)) (by simp) (ha 5 (by simp [aftersOf,Region.binds])))
           have gg6:=slot_get g6
           have gg27:=slot_get g27
           have gw:=slot_bool g27
           rw [if_pos (by simp [Region.wanted,yielded,gw])]
           clear gw
           have hF:=hK (.slice b4 X.2.length d4) w' ⟨hv.step 6 28 _ (by simp),hq.step 6 28 _ (Below.refl _ _) (by simp)⟩
           clear hv hq hr ha hK hA hli
           go_simp
           exact hF
         · clear hi;intro o ho lz fz w' A hJ hli ha hA K hK
           obtain ⟨hv,hq⟩:=hJ
           obtain rfl:=Option.some.inj ho
           clear ho
           have hr:=hq
           have g28:=slot_in hA 28 (by decide) (by decide) (hv (6,28,(.slice b4 X.2.length d4)) (by simp) (ha 6 (by simp [aftersOf,Region.binds])))
           have g27:=slot_in hA 27 (by decide) (by decide) (hv (5,27,(.bool true)) (by simp) (ha 5 (by simp [aftersOf,Region.binds])))
           have gg28:=slot_get g28
           have gg27:=slot_get g27
           have gw:=slot_bool g27
           rw [if_pos (by simp [Region.wanted,yielded,gw])]
           clear gw
           clear hA
           go_simp
           refine (HEF.out w' hr.1).mono ?_
           rintro e9 w9 ⟨rfl,hb9⟩
           exact hK (.int .i64 ef) w9 ⟨hv.step 7 29 _ (by simp),hq.step 7 29 _ hb9 (by simp)⟩
         · clear hi;intro o ho lz fz w' A hJ hli ha hA K hK
           obtain ⟨hv,hq⟩:=hJ
           obtain rfl:=Option.some.inj ho
           clear ho
           have hr:=hq
           have g2:=slot_out hA 2 _ (by decide) (by decide) rfl
           simp only [List.getD_cons_succ,List.getD_cons_zero] at g2
           have g27:=slot_in hA 27 (by decide) (by decide) (hv (5,27,(.bool true)) (by simp) (ha 5 (by simp [aftersOf,Region.binds])))
           have gg2:=slot_get g2
           have gg27:=slot_get g27
           have gw:=slot_bool g27
           rw [if_pos (by simp [Region.wanted,yielded,gw])]
           clear gw
           have hF:=hK (.pointer (some ⟨w.heap.size,5,none⟩)) w' ⟨hv.step 8 30 _ (by simp),hq.step 8 30 _ (Below.refl _ _) (by simp)⟩
           clear hv hq hr ha hK hA hli
           go_simp
           exact hF
         · clear hi;intro o ho lz fz w' A hJ hli ha hA K hK
           obtain ⟨hv,hq⟩:=hJ
           obtain rfl:=Option.some.inj ho
           clear ho
           have hr:=hq
           have g30:=slot_in hA 30 (by decide) (by decide) (hv (8,30,(.pointer (some ⟨w.heap.size,5,none⟩))) (by simp) (ha 8 (by simp [aftersOf,Region.binds])))
           have g27:=slot_in hA 27 (by decide) (by decide) (hv (5,27,(.bool true)) (by simp) (ha 5 (by simp [aftersOf,Region.binds])))
           have gg30:=slot_get g30
           have gg27:=slot_get g27
           have gw:=slot_bool g27
           rw [if_pos (by simp [Region.wanted,yielded,gw])]
           clear gw
           have kc5:=(HKC.out w' hr.1).c5
           have hF:=hK (.int .i64 u) w' ⟨hv.step 9 31 _ (by simp),hq.step 9 31 _ (Below.refl _ _) (by simp)⟩
           clear hv hq hr ha hK hA hli
           go_simp
           exact hF
         · clear hi;intro o ho lz fz w' A hJ hli ha hA K hK
           obtain ⟨hv,hq⟩:=hJ
           obtain rfl:=Option.some.inj ho
           clear ho
           have hr:=hq
           have g29:=slot_in hA 29 (by decide) (by decide) (hv (7,29,(.int .i64 ef)) (by simp) (ha 7 (by simp [aftersOf,Region.binds])))
           have g31:=slot_in hA 31 (by decide) (by decide) (hv (9,31,(.int .i64 u)) (by simp) (ha 9 (by simp [aftersOf,Region.binds])))
           have g27:=slot_in hA 27 (by decide) (by decide) (hv (5,27,(.bool true)) (by simp) (ha 5 (by simp [aftersOf,Region.binds])))
           have gg29:=slot_get g29
           have gg31:=slot_get g31
           have gg27:=slot_get g27
           have gw:=slot_bool g27
           rw [if_pos (by simp [Region.wanted,yielded,gw])]
           clear gw
           have hF:=hK (.bool true) w' ⟨hv.step 10 32 _ (by simp),hq.step 10 32 _ (Below.refl _ _) (by simp)⟩
           clear hv hq hr ha hK hA hli
           go_simp
           exact hF
         · clear hi;intro o ho lz fz w' A hJ hli ha hA K hK
           obtain ⟨hv,hq⟩:=hJ
           obtain rfl:=Option.some.inj ho
           clear ho
           have hr:=hq
           have g27:=slot_in hA 27 (by decide) (by decide) (hv (5,27,(.bool true)) (by simp) (ha 5 (by simp [aftersOf,Region.binds])))
           have g32:=slot_in hA 32 (by decide) (by decide) (hv (10,32,(.bool true)) (by simp) (ha 10 (by simp [aftersOf,Region.binds])))
           have gg27:=slot_get g27
           have gg32:=slot_get g32
           rw [if_pos (by rfl)]
           have hF:=hK (.bool true) w' ⟨hv.step 11 33 _ (by simp),hq.step 11 33 _ (Below.refl _ _) (by simp)⟩
           clear hv hq hr ha hK hA hli
           go_simp
           exact hF
         · clear hi;intro o ho lz fz w' A hJ hli ha hA K hK
           obtain ⟨hv,hq⟩:=hJ
           obtain rfl:=Option.some.inj ho
           clear ho
           have hr:=hq
           have g33:=slot_in hA 33 (by decide) (by decide) (hv (11,33,(.bool true)) (by simp) (ha 11 (by simp [aftersOf,Region.binds])))
           have gg33:=slot_get g33
           rw [if_pos (by rfl)]
           have hF:=hK (.bool true) w' ⟨hv.step 12 4 _ (by simp),hq.step 12 4 _ (Below.refl _ _) (by simp)⟩
           clear hv hq hr ha hK hA hli
           go_simp
           exact hF
       · intro lz fz w5 hall hJ
         obtain ⟨hv,hq⟩:=hJ
         have h4:fz 4=(.bool true):=hv (12,4,(.bool true)) (by simp) (hall 12 (by decide))
         have hbR:=hq.1
         clear hv hq hall
         simp only [mixF,List.contains_cons,List.contains_nil]
         go_simp
         have HBF:=Lib.hid (HA.out w5 (HB4.out.trans (hbR.mono HB4.out.size))).2.1
         clear hbR
         go_wp2_with fail
         go_ret
         exact ⟨by rw [HRT.out,HE.out];rfl,HBF.out⟩
     · have g2:(ef == u)=false:=by simpa using f2
       have HE:Hid ((decide (rt=t) && decide (ef=u))=false):=Lib.hid (by simp [f2])
       clear f1 f2
       go_upto_region 4 with (fail)
       refine wp_region_light (by kernel_rfl) (fun lz fz wz=>Vals [(0,22,(.slice a4 X.1.length k4)),(1,23,(.int .i64 rt)),(2,24,(.pointer (some ⟨w.heap.size,4,none⟩))),(3,25,(.int .i64 t)),(4,26,(.bool true)),(5,27,(.bool true)),(6,28,(.slice b4 X.2.length d4)),(7,29,(.int .i64 ef)),(8,30,(.pointer (some ⟨w.heap.size,5,none⟩))),(9,31,(.int .i64 u)),(10,32,(.bool false)),(11,33,(.bool false)),(12,4,(.bool false))] lz fz∧Facts w4 [] lz fz wz) 34 rfl [22,23,24,25,26,27,28,29,30,31,32,33,4] (by kernel_rfl) (by kernel_rfl) (by kernel_rfl) (fun f=>⟨Vals.nothing _ f,Facts.nothing _ _ f⟩) ?_ ?_
       · intro i hi
         rcases (by have:i < 13:=hi;omega:i=0∨i=1∨i=2∨i=3∨i=4∨i=5∨i=6∨i=7∨i=8∨i=9∨i=10∨i=11∨i=12) with rfl | rfl | rfl | rfl | rfl | rfl | rfl | rfl | rfl | rfl | rfl | rfl | rfl
         · clear hi;intro o ho lz fz w' A hJ hli ha hA K hK
           obtain ⟨hv,hq⟩:=hJ
           obtain rfl:=Option.some.inj ho
           clear ho
           have hr:=hq
           have g5:=slot_out hA 5 _ (by decide) (by decide) rfl
           simp only [List.getD_cons_succ,List.getD_cons_zero] at g5
           have gg5:=slot_get g5
           rw [if_pos (by rfl)]
           have hF:=hK (.slice a4 X.1.length k4) w' ⟨hv.step 0 22 _ (by simp),hq.step 0 22 _ (Below.refl _ _) (by simp)⟩
           clear hv hq hr ha hK hA hli
           go_simp
           exact hF
         · clear hi;intro o ho lz fz w' A hJ hli ha hA K hK
           obtain ⟨hv,hq⟩:=hJ
           obtain rfl:=Option.some.inj ho
           clear ho
           have hr:=hq
           have g22:=slot_in hA 22 (by decide) (by decide) (hv (0,22,(.slice a4 X.1.length k4)) (by simp) (ha 0 (by simp [aftersOf,Region.binds])))
           have gg22:=slot_get g22
           rw [if_pos (by rfl)]
           clear hA
           go_simp
           refine (HRO.out w' hr.1).mono ?_
           rintro e9 w9 ⟨rfl,hb9⟩
           exact hK (.int .i64 rt) w9 ⟨hv.step 1 23 _ (by simp),hq.step 1 23 _ hb9 (by simp)⟩
         · clear hi;intro o ho lz fz w' A hJ hli ha hA K hK
           obtain ⟨hv,hq⟩:=hJ
           obtain rfl:=Option.some.inj ho
           clear ho
           have hr:=hq
           have g2:=slot_out hA 2 _ (by decide) (by decide) rfl
           simp only [List.getD_cons_succ,List.getD_cons_zero] at g2
           have gg2:=slot_get g2
           rw [if_pos (by rfl)]
           have hF:=hK (.pointer (some ⟨w.heap.size,4,none⟩)) w' ⟨hv.step 2 24 _ (by simp),hq.step 2 24 _ (Below.refl _ _) (by simp)⟩
           clear hv hq hr ha hK hA hli
           go_simp
           exact hF
         · clear hi;intro o ho lz fz w' A hJ hli ha hA K hK
           obtain ⟨hv,hq⟩:=hJ
           obtain rfl:=Option.some.inj ho
           clear ho
           have hr:=hq
           have g24:=slot_in hA 24 (by decide) (by decide) (hv (2,24,(.pointer (some ⟨w.heap.size,4,none⟩))) (by simp) (ha 2 (by simp [aftersOf,Region.binds])))
           have gg24:=slot_get g24
           rw [if_pos (by rfl)]
           have kc4:=(HKC.out w' hr.1).c4
           have hF:=hK (.int .i64 t) w' ⟨hv.step 3 25 _ (by simp),hq.step 3 25 _ (Below.refl _ _) (by simp)⟩
           clear hv hq hr ha hK hA hli
           go_simp
           exact hF
         · clear hi;intro o ho lz fz w' A hJ hli ha hA K hK
           obtain ⟨hv,hq⟩:=hJ
           obtain rfl:=Option.some.inj ho
           clear ho
           have hr:=hq
           have g23:=slot_in hA 23 (by decide) (by decide) (hv (1,23,(.int .i64 rt)) (by simp) (ha 1 (by simp [aftersOf,Region.binds])))
           have g25:=slot_in hA 25 (by decide) (by decide) (hv (3,25,(.int .i64 t)) (by simp) (ha 3 (by simp [aftersOf,Region.binds])))
           have gg23:=slot_get g23
           have gg25:=slot_get g25
           rw [if_pos (by rfl)]
           have hF:=hK (.bool true) w' ⟨hv.step 4 26 _ (by simp),hq.step 4 26 _ (Below.refl _ _) (by simp)⟩
           clear hv hq hr ha hK hA hli
           go_simp
           exact hF
         · clear hi;intro o ho lz fz w' A hJ hli ha hA K hK
           obtain ⟨hv,hq⟩:=hJ
           obtain rfl:=Option.some.inj ho
           clear ho
           have hr:=hq
           have g26:=slot_in hA 26 (by decide) (by decide) (hv (4,26,(.bool true)) (by simp) (ha 4 (by simp [aftersOf,Region.binds])))
           have gg26:=slot_get g26
           rw [if_pos (by rfl)]
           have hF:=hK (.bool true) w' ⟨hv.step 5 27 _ (by simp),hq.step 5 27 _ (Below.refl _ _) (by simp)⟩
           clear hv hq hr ha hK hA hli
           go_simp
           exact hF
         · clear hi;intro o ho lz fz w' A hJ hli ha hA K hK
           obtain ⟨hv,hq⟩:=hJ
           obtain rfl:=Option.some.inj ho
           clear ho
           have hr:=hq
           have g6:=slot_out hA 6 _ (by decide) (by decide) rfl
           simp only [List.getD_cons_succ,List.getD_cons_zero] at g6
           have g27:=slot_in hA 27 (by decide) (by decide) (hv (5,27,(.bool true)) (by simp) (ha 5 (by simp [aftersOf,Region.binds])))
           have gg6:=slot_get g6
           have gg27:=slot_get g27
           have gw:=slot_bool g27
           rw [if_pos (by simp [Region.wanted,yielded,gw])]
           clear gw
           have hF:=hK (.slice b4 X.2.length d4) w' ⟨hv.step 6 28 _ (by simp),hq.step 6 28 _ (Below.refl _ _) (by simp)⟩
           clear hv hq hr ha hK hA hli
           go_simp
           exact hF
         · clear hi;intro o ho lz fz w' A hJ hli ha hA K hK
           obtain ⟨hv,hq⟩:=hJ
           obtain rfl:=Option.some.inj ho
           clear ho
           have hr:=hq
           have g28:=slot_in hA 28 (by decide) (by decide) (hv (6,28,(.slice b4 X.2.length d4)) (by simp) (ha 6 (by simp [aftersOf,Region.binds])))
           have g27:=slot_in hA 27 (by decide) (by decide) (hv (5,27,(.bool true)) (by simp) (ha 5 (by simp [aftersOf,Region.binds])))
           have gg28:=slot_get g28
           have gg27:=slot_get g27
           have gw:=slot_bool g27
           rw [if_pos (by simp [Region.wanted,yielded,gw])]
           clear gw
           clear hA
           go_simp
           refine (HEF.out w' hr.1).mono ?_
           rintro e9 w9 ⟨rfl,hb9⟩
           exact hK (.int .i64 ef) w9 ⟨hv.step 7 29 _ (by simp),hq.step 7 29 _ hb9 (by simp)⟩
         · clear hi;intro o ho lz fz w' A hJ hli ha hA K hK
           obtain ⟨hv,hq⟩:=hJ
           obtain rfl:=Option.some.inj ho
           clear ho
           have hr:=hq
           have g2:=slot_out hA 2 _ (by decide) (by decide) rfl
           simp only [List.getD_cons_succ,List.getD_cons_zero] at g2
           have g27:=slot_in hA 27 (by decide) (by decide) (hv (5,27,(.bool true)) (by simp) (ha 5 (by simp [aftersOf,Region.binds])))
           have gg2:=slot_get g2
           have gg27:=slot_get g27
           have gw:=slot_bool g27
           rw [if_pos (by simp [Region.wanted,yielded,gw])]
           clear gw
           have hF:=hK (.pointer (some ⟨w.heap.size,5,none⟩)) w' ⟨hv.step 8 30 _ (by simp),hq.step 8 30 _ (Below.refl _ _) (by simp)⟩
           clear hv hq hr ha hK hA hli
           go_simp
           exact hF
         · clear hi;intro o ho lz fz w' A hJ hli ha hA K hK
           obtain ⟨hv,hq⟩:=hJ
           obtain rfl:=Option.some.inj ho
           clear ho
           have hr:=hq
           have g30:=slot_in hA 30 (by decide) (by decide) (hv (8,30,(.pointer (some ⟨w.heap.size,5,none⟩))) (by simp) (ha 8 (by simp [aftersOf,Region.binds])))
           have g27:=slot_in hA 27 (by decide) (by decide) (hv (5,27,(.bool true)) (by simp) (ha 5 (by simp [aftersOf,Region.binds])))
           have gg30:=slot_get g30
           have gg27:=slot_get g27
           have gw:=slot_bool g27
           rw [if_pos (by simp [Region.wanted,yielded,gw])]
           clear gw
           have kc5:=(HKC.out w' hr.1).c5
           have hF:=hK (.int .i64 u) w' ⟨hv.step 9 31 _ (by simp),hq.step 9 31 _ (Below.refl _ _) (by simp)⟩
           clear hv hq hr ha hK hA hli
           go_simp
           exact hF
         · clear hi;intro o ho lz fz w' A hJ hli ha hA K hK
           obtain ⟨hv,hq⟩:=hJ
           obtain rfl:=Option.some.inj ho
           clear ho
           have hr:=hq
           have g29:=slot_in hA 29 (by decide) (by decide) (hv (7,29,(.int .i64 ef)) (by simp) (ha 7 (by simp [aftersOf,Region.binds])))
           have g31:=slot_in hA 31 (by decide) (by decide) (hv (9,31,(.int .i64 u)) (by simp) (ha 9 (by simp [aftersOf,Region.binds])))
           have g27:=slot_in hA 27 (by decide) (by decide) (hv (5,27,(.bool true)) (by simp) (ha 5 (by simp [aftersOf,Region.binds])))
           have gg29:=slot_get g29
           have gg31:=slot_get g31
           have gg27:=slot_get g27
           have gw:=slot_bool g27
           rw [if_pos (by simp [Region.wanted,yielded,gw])]
           clear gw
           have hF:=hK (.bool false) w' ⟨hv.step 10 32 _ (by simp),hq.step 10 32 _ (Below.refl _ _) (by simp)⟩
           clear hv hq hr ha hK hA hli
           go_simp
           exact hF
         · clear hi;intro o ho lz fz w' A hJ hli ha hA K hK
           obtain ⟨hv,hq⟩:=hJ
           obtain rfl:=Option.some.inj ho
           clear ho
           have hr:=hq
           have g27:=slot_in hA 27 (by decide) (by decide) (hv (5,27,(.bool true)) (by simp) (ha 5 (by simp [aftersOf,Region.binds])))
           have g32:=slot_in hA 32 (by decide) (by decide) (hv (10,32,(.bool false)) (by simp) (ha 10 (by simp [aftersOf,Region.binds])))
           have gg27:=slot_get g27
           have gg32:=slot_get g32
           rw [if_pos (by rfl)]
           have hF:=hK (.bool false) w' ⟨hv.step 11 33 _ (by simp),hq.step 11 33 _ (Below.refl _ _) (by simp)⟩
           clear hv hq hr ha hK hA hli
           go_simp
           exact hF
         · clear hi;intro o ho lz fz w' A hJ hli ha hA K hK
           obtain ⟨hv,hq⟩:=hJ
           obtain rfl:=Option.some.inj ho
           clear ho
           have hr:=hq
           have g33:=slot_in hA 33 (by decide) (by decide) (hv (11,33,(.bool false)) (by simp) (ha 11 (by simp [aftersOf,Region.binds])))
           have gg33:=slot_get g33
           rw [if_pos (by rfl)]
           have hF:=hK (.bool false) w' ⟨hv.step 12 4 _ (by simp),hq.step 12 4 _ (Below.refl _ _) (by simp)⟩
           clear hv hq hr ha hK hA hli
           go_simp
           exact hF
       · intro lz fz w5 hall hJ
         obtain ⟨hv,hq⟩:=hJ
         have h4:fz 4=(.bool false):=hv (12,4,(.bool false)) (by simp) (hall 12 (by decide))
         have hbR:=hq.1
         clear hv hq hall
         simp only [mixF,List.contains_cons,List.contains_nil]
         go_simp
         have HBF:=Lib.hid (HA.out w5 (HB4.out.trans (hbR.mono HB4.out.size))).2.1
         clear hbR
         go_wp2_with fail
         go_ret
         exact ⟨by rw [HRT.out,HE.out];rfl,HBF.out⟩
   · have g1:(rt == t)=false:=by simpa using f1
     have HE:Hid ((decide (rt=t) && decide (ef=u))=false):=Lib.hid (by simp [f1])
     clear f1
     go_upto_region 4 with (fail)
     refine wp_region_light (by kernel_rfl) (fun lz fz wz=>Vals [(0,22,(.slice a4 X.1.length k4)),(1,23,(.int .i64 rt)),(2,24,(.pointer (some ⟨w.heap.size,4,none⟩))),(3,25,(.int .i64 t)),(4,26,(.bool false)),(5,27,(.bool false)),(11,33,(.bool false)),(12,4,(.bool false))] lz fz∧Facts w4 [] lz fz wz) 34 rfl [22,23,24,25,26,27,28,29,30,31,32,33,4] (by kernel_rfl) (by kernel_rfl) (by kernel_rfl) (fun f=>⟨Vals.nothing _ f,Facts.nothing _ _ f⟩) ?_ ?_
     · intro i hi
       rcases (by have:i < 13:=hi;omega:i=0∨i=1∨i=2∨i=3∨i=4∨i=5∨i=6∨i=7∨i=8∨i=9∨i=10∨i=11∨i=12) with rfl | rfl | rfl | rfl | rfl | rfl | rfl | rfl | rfl | rfl | rfl | rfl | rfl
       · clear hi;intro o ho lz fz w' A hJ hli ha hA K hK
         obtain ⟨hv,hq⟩:=hJ
         obtain rfl:=Option.some.inj ho
         clear ho
         have hr:=hq
         have g5:=slot_out hA 5 _ (by decide) (by decide) rfl
         simp only [List.getD_cons_succ,List.getD_cons_zero] at g5
         have gg5:=slot_get g5
         rw [if_pos (by rfl)]
         have hF:=hK (.slice a4 X.1.length k4) w' ⟨hv.step 0 22 _ (by simp),hq.step 0 22 _ (Below.refl _ _) (by simp)⟩
         clear hv hq hr ha hK hA hli
         go_simp
         exact hF
       · clear hi;intro o ho lz fz w' A hJ hli ha hA K hK
         obtain ⟨hv,hq⟩:=hJ
         obtain rfl:=Option.some.inj ho
         clear ho
         have hr:=hq
         have g22:=slot_in hA 22 (by decide) (by decide) (hv (0,22,(.slice a4 X.1.length k4)) (by simp) (ha 0 (by simp [aftersOf,Region.binds])))
         have gg22:=slot_get g22
         rw [if_pos (by rfl)]
         clear hA
         go_simp
         refine (HRO.out w' hr.1).mono ?_
         rintro e9 w9 ⟨rfl,hb9⟩
         exact hK (.int .i64 rt) w9 ⟨hv.step 1 23 _ (by simp),hq.step 1 23 _ hb9 (by simp)⟩
       · clear hi;intro o ho lz fz w' A hJ hli ha hA K hK
         obtain ⟨hv,hq⟩:=hJ
         obtain rfl:=Option.some.inj ho
         clear ho
         have hr:=hq
         have g2:=slot_out hA 2 _ (by decide) (by decide) rfl
         simp only [List.getD_cons_succ,List.getD_cons_zero] at g2
         have gg2:=slot_get g2
         rw [if_pos (by rfl)]
         have hF:=hK (.pointer (some ⟨w.heap.size,4,none⟩)) w' ⟨hv.step 2 24 _ (by simp),hq.step 2 24 _ (Below.refl _ _) (by simp)⟩
         clear hv hq hr ha hK hA hli
         go_simp
         exact hF
       · clear hi;intro o ho lz fz w' A hJ hli ha hA K hK
         obtain ⟨hv,hq⟩:=hJ
         obtain rfl:=Option.some.inj ho
         clear ho
         have hr:=hq
         have g24:=slot_in hA 24 (by decide) (by decide) (hv (2,24,(.pointer (some ⟨w.heap.size,4,none⟩))) (by simp) (ha 2 (by simp [aftersOf,Region.binds])))
         have gg24:=slot_get g24
         rw [if_pos (by rfl)]
         have kc4:=(HKC.out w' hr.1).c4
         have hF:=hK (.int .i64 t) w' ⟨hv.step 3 25 _ (by simp),hq.step 3 25 _ (Below.refl _ _) (by simp)⟩
         clear hv hq hr ha hK hA hli
         go_simp
         exact hF
       · clear hi;intro o ho lz fz w' A hJ hli ha hA K hK
         obtain ⟨hv,hq⟩:=hJ
         obtain rfl:=Option.some.inj ho
         clear ho
         have hr:=hq
         have g23:=slot_in hA 23 (by decide) (by decide) (hv (1,23,(.int .i64 rt)) (by simp) (ha 1 (by simp [aftersOf,Region.binds])))
         have g25:=slot_in hA 25 (by decide) (by decide) (hv (3,25,(.int .i64 t)) (by simp) (ha 3 (by simp [aftersOf,Region.binds])))
         have gg23:=slot_get g23
         have gg25:=slot_get g25
         rw [if_pos (by rfl)]
         have hF:=hK (.bool false) w' ⟨hv.step 4 26 _ (by simp),hq.step 4 26 _ (Below.refl _ _) (by simp)⟩
         clear hv hq hr ha hK hA hli
         go_simp
         exact hF
       · clear hi;intro o ho lz fz w' A hJ hli ha hA K hK
         obtain ⟨hv,hq⟩:=hJ
         obtain rfl:=Option.some.inj ho
         clear ho
         have hr:=hq
         have g26:=slot_in hA 26 (by decide) (by decide) (hv (4,26,(.bool false)) (by simp) (ha 4 (by simp [aftersOf,Region.binds])))
         have gg26:=slot_get g26
         rw [if_pos (by rfl)]
         have hF:=hK (.bool false) w' ⟨hv.step 5 27 _ (by simp),hq.step 5 27 _ (Below.refl _ _) (by simp)⟩
         clear hv hq hr ha hK hA hli
         go_simp
         exact hF
       · clear hi;intro o ho lz fz w' A hJ hli ha hA K hK
         obtain ⟨hv,hq⟩:=hJ
         obtain rfl:=Option.some.inj ho
         clear ho
         have hr:=hq
         have g27:=slot_in hA 27 (by decide) (by decide) (hv (5,27,(.bool false)) (by simp) (ha 5 (by simp [aftersOf,Region.binds])))
         have gg27:=slot_get g27
         have gw:=slot_bool g27
         rw [if_neg (by simp [Region.wanted,yielded,gw])]
         clear gw
         exact hK undef w' ⟨hv.step 6 28 _ (by simp),hq.step 6 28 _ (Below.refl _ _) (by simp)⟩
       · clear hi;intro o ho lz fz w' A hJ hli ha hA K hK
         obtain ⟨hv,hq⟩:=hJ
         obtain rfl:=Option.some.inj ho
         clear ho
         have hr:=hq
         have g27:=slot_in hA 27 (by decide) (by decide) (hv (5,27,(.bool false)) (by simp) (ha 5 (by simp [aftersOf,Region.binds])))
         have gg27:=slot_get g27
         have gw:=slot_bool g27
         rw [if_neg (by simp [Region.wanted,yielded,gw])]
         clear gw
         exact hK undef w' ⟨hv.step 7 29 _ (by simp),hq.step 7 29 _ (Below.refl _ _) (by simp)⟩
       · clear hi;intro o ho lz fz w' A hJ hli ha hA K hK
         obtain ⟨hv,hq⟩:=hJ
         obtain rfl:=Option.some.inj ho
         clear ho
         have hr:=hq
         have g27:=slot_in hA 27 (by decide) (by decide) (hv (5,27,(.bool false)) (by simp) (ha 5 (by simp [aftersOf,Region.binds])))
         have gg27:=slot_get g27
         have gw:=slot_bool g27
         rw [if_neg (by simp [Region.wanted,yielded,gw])]
         clear gw
         exact hK undef w' ⟨hv.step 8 30 _ (by simp),hq.step 8 30 _ (Below.refl _ _) (by simp)⟩
       · clear hi;intro o ho lz fz w' A hJ hli ha hA K hK
         obtain ⟨hv,hq⟩:=hJ
         obtain rfl:=Option.some.inj ho
         clear ho
         have hr:=hq
         have g27:=slot_in hA 27 (by decide) (by decide) (hv (5,27,(.bool false)) (by simp) (ha 5 (by simp [aftersOf,Region.binds])))
         have gg27:=slot_get g27
         have gw:=slot_bool g27
         rw [if_neg (by simp [Region.wanted,yielded,gw])]
         clear gw
         exact hK undef w' ⟨hv.step 9 31 _ (by simp),hq.step 9 31 _ (Below.refl _ _) (by simp)⟩
       · clear hi;intro o ho lz fz w' A hJ hli ha hA K hK
         obtain ⟨hv,hq⟩:=hJ
         obtain rfl:=Option.some.inj ho
         clear ho
         have hr:=hq
         have g27:=slot_in hA 27 (by decide) (by decide) (hv (5,27,(.bool false)) (by simp) (ha 5 (by simp [aftersOf,Region.binds])))
         have gg27:=slot_get g27
         have gw:=slot_bool g27
         rw [if_neg (by simp [Region.wanted,yielded,gw])]
         clear gw
         exact hK undef w' ⟨hv.step 10 32 _ (by simp),hq.step 10 32 _ (Below.refl _ _) (by simp)⟩
       · clear hi;intro o ho lz fz w' A hJ hli ha hA K hK
         obtain ⟨hv,hq⟩:=hJ
         obtain rfl:=Option.some.inj ho
         clear ho
         have hr:=hq
         have g27:=slot_in hA 27 (by decide) (by decide) (hv (5,27,(.bool false)) (by simp) (ha 5 (by simp [aftersOf,Region.binds])))
         have gg27:=slot_get g27
         rw [if_pos (by rfl)]
         have hF:=hK (.bool false) w' ⟨hv.step 11 33 _ (by simp),hq.step 11 33 _ (Below.refl _ _) (by simp)⟩
         clear hv hq hr ha hK hA hli
         go_simp
         exact hF
       · clear hi;intro o ho lz fz w' A hJ hli ha hA K hK
         obtain ⟨hv,hq⟩:=hJ
         obtain rfl:=Option.some.inj ho
         clear ho
         have hr:=hq
         have g33:=slot_in hA 33 (by decide) (by decide) (hv (11,33,(.bool false)) (by simp) (ha 11 (by simp [aftersOf,Region.binds])))
         have gg33:=slot_get g33
         rw [if_pos (by rfl)]
         have hF:=hK (.bool false) w' ⟨hv.step 12 4 _ (by simp),hq.step 12 4 _ (Below.refl _ _) (by simp)⟩
         clear hv hq hr ha hK hA hli
         go_simp
         exact hF
     · intro lz fz w5 hall hJ
       obtain ⟨hv,hq⟩:=hJ
       have h4:fz 4=(.bool false):=hv (12,4,(.bool false)) (by simp) (hall 12 (by decide))
       have hbR:=hq.1
       clear hv hq hall
       simp only [mixF,List.contains_cons,List.contains_nil]
       go_simp
       have HBF:=Lib.hid (HA.out w5 (HB4.out.trans (hbR.mono HB4.out.size))).2.1
       clear hbR
       go_wp2_with fail
       go_ret
       exact ⟨by rw [HRT.out,HE.out];rfl,HBF.out⟩
end Go.Proofs.YtnojhgckinibgabGreat
