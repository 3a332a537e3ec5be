/- The walks of the exact laws of CertValid,CertCounts,JoinCerts (gen18/cert.py). -/
import Derived.Test.YtolhdacbahgfgaaImplCt
import Derived.Test.YtolhdacbahgfgaaSpecCt
import Derived.Test.YtolhdacbahgfgaaConvCt
import Derived.Test.YtolhdacbahgfgaaInCt
import Derived.Test.YtolhdacbahgfgaaRegionBox
namespace Go.Proofs.Ytolhdacbahgfgaa
open Go.RowKit
set_option linter.unusedVariables false
set_option linter.unusedSimpArgs false
set_option maxHeartbeats 4000000 in
theorem lawExactCertValid (p q r:Int) (w:World) (hw:WfC ⟨p,q,r⟩) :
  Calls Try.prog 7 #[.agg #[.int .i64 p,.int .i64 q,.int .i64 r]] w (LawTrue w):=by
 clear hw
 have HA:=Lib.hid (trAt_new w 34 (.int .i64 p) (.int .i64 q) (.int .i64 r))
 have HB0:=Lib.hid ((Below.refl w.heap.size w).alloc (Nat.le_refl _) (.cells #[.int .i64 p,.int .i64 q,.int .i64 r] 34))
 go_enter Try.func7,Try.ntmps7
 go_wp2_with fail
 refine (toCert_any p q r _).mono ?_;rintro e w1 ⟨rfl,hb1'⟩
 have HA1:=Lib.hid (HA.out.below hb1')
 have hb1:=HB0.out.trans (hb1'.mono HB0.out.size)
 clear hb1'
 go_wp2_with fail
 refine (certValid_spec p q r _).mono ?_;rintro e w2 ⟨rfl,hb2'⟩
 obtain ⟨c1,c2,c3,-⟩:=HA1.out.below hb2'
 have hb2:=hb1.trans (hb2'.mono hb1.size)
 obtain ⟨v,hv⟩:∃ v,v=crtB ⟨p,q,r⟩:=⟨_,rfl⟩
 rw [← hv]
 have HV:=Lib.hid hv
 have hvv:(v != v)=false:=by simp
 clear hb2' hb1 hv
 go_wp2_with fail
 refine (toCert_any p q r _).mono ?_;rintro e w3 ⟨rfl,hb3'⟩
 have hb3:=hb2.trans (hb3'.mono hb2.size)
 clear c1 c2 c3 hb3' hb2
 go_wp2_with fail
 refine (certValid_impl p q r _).mono ?_;rintro e w4 ⟨rfl,hb4'⟩
 rw [← HV.out]
 have hb4:=hb3.trans (hb4'.mono hb3.size)
 clear hb4' hb3
 go_wp2
 go_ret
 exact ⟨rfl,hb4⟩
set_option maxHeartbeats 4000000 in
theorem lawExactCertCounts (p q r:Int) (w:World) (hw:WfC ⟨p,q,r⟩) :
  Calls Try.prog 8 #[.agg #[.int .i64 p,.int .i64 q,.int .i64 r]] w (LawTrue w):=by
 clear hw
 have HA:=Lib.hid (trAt_new w 34 (.int .i64 p) (.int .i64 q) (.int .i64 r))
 have HB0:=Lib.hid ((Below.refl w.heap.size w).alloc (Nat.le_refl _) (.cells #[.int .i64 p,.int .i64 q,.int .i64 r] 34))
 go_enter Try.func8,Try.ntmps8
 go_wp2_with fail
 refine (toCert_any p q r _).mono ?_;rintro e w1 ⟨rfl,hb1'⟩
 have HA1:=Lib.hid (HA.out.below hb1')
 have hb1:=HB0.out.trans (hb1'.mono HB0.out.size)
 clear hb1'
 go_wp2_with fail
 refine (certCounts_spec p q r _).mono ?_;rintro e w2 ⟨rfl,hb2'⟩
 obtain ⟨c1,c2,c3,-⟩:=HA1.out.below hb2'
 have hb2:=hb1.trans (hb2'.mono hb1.size)
 obtain ⟨v,hv⟩:∃ v,v=cntB ⟨p,q,r⟩:=⟨_,rfl⟩
 rw [← hv]
 have HV:=Lib.hid hv
 have hvv:(v != v)=false:=by simp
 clear hb2' hb1 hv
 go_wp2_with fail
 refine (toCert_any p q r _).mono ?_;rintro e w3 ⟨rfl,hb3'⟩
 have hb3:=hb2.trans (hb3'.mono hb2.size)
 clear c1 c2 c3 hb3' hb2
 go_wp2_with fail
 refine (certCounts_impl p q r _).mono ?_;rintro e w4 ⟨rfl,hb4'⟩
 rw [← HV.out]
 have hb4:=hb3.trans (hb4'.mono hb3.size)
 clear hb4' hb3
 go_wp2
 go_ret
 exact ⟨rfl,hb4⟩
set_option maxHeartbeats 4000000 in
theorem lawExactJoinCerts (p q r p' q' r':Int) (w:World) (hw:WfC ⟨p,q,r⟩) (hw':WfC ⟨p',q',r'⟩) :
  Calls Try.prog 9 #[.agg #[.int .i64 p,.int .i64 q,.int .i64 r],.agg #[.int .i64 p',.int .i64 q',.int .i64 r']] w (LawTrue w):=by
 clear hw hw'
 have hb0:=((Below.refl w.heap.size w).alloc (Nat.le_refl _) (.cells #[.int .i64 p,.int .i64 q,.int .i64 r] 34)).alloc (by simp) (.cells #[.int .i64 p',.int .i64 q',.int .i64 r'] 34)
 have hA:=(trAt_new w 34 (.int .i64 p) (.int .i64 q) (.int .i64 r)).below ((Below.refl _ _).alloc (Nat.le_refl _) (.cells #[.int .i64 p',.int .i64 q',.int .i64 r'] 34))
 have hA':=trAt_new (w.alloc (.cells #[.int .i64 p,.int .i64 q,.int .i64 r] 34)) 34 (.int .i64 p') (.int .i64 q') (.int .i64 r')
 rw [World.size_alloc] at hA'
 obtain ⟨W1,hW1⟩:∃ W1,W1=(w.alloc (.cells #[.int .i64 p,.int .i64 q,.int .i64 r] 34)).alloc (.cells #[.int .i64 p',.int .i64 q',.int .i64 r'] 34):=⟨_,rfl⟩
 have HW1:=Lib.hid hW1
 rw [← hW1] at hb0 hA hA'
 clear hW1
 have HA:=Lib.hid hA
 have HA':=Lib.hid hA'
 have HB:=Lib.hid hb0
 clear hA hA' hb0
 obtain ⟨m,hm⟩:∃ m,m=joinM ⟨p,q,r⟩ ⟨p',q',r'⟩:=⟨_,rfl⟩
 obtain ⟨j,hj⟩:∃ j,j=joinB ⟨p,q,r⟩ ⟨p',q',r'⟩:=⟨_,rfl⟩
 have HM:=Lib.hid hm.symm
 have HJ:=Lib.hid hj.symm
 clear hm hj
 have HK:=Lib.hid (fun (W:World) (hb:Below W1.heap.size W1 W)=>(⟨HA.out.below hb,HA'.out.below hb,HB.out.trans (hb.mono HB.out.size)⟩:TrAt W w.heap.size (.int .i64 p) (.int .i64 q) (.int .i64 r)∧TrAt W (w.heap.size+1) (.int .i64 p') (.int .i64 q') (.int .i64 r')∧Below w.heap.size w W))
 have HJCspec:=Lib.hid (fun (W:World)=>(by have h:=joinCerts_spec p q r p' q' r' W;rw [HM.out,HJ.out] at h;exact h:Calls Try.prog 19 #[.agg #[.int .i64 p,.int .i64 q,.int .i64 r],.agg #[.int .i64 p',.int .i64 q',.int .i64 r']] W (GotCrtB m j W)))
 have HJCimpl:=Lib.hid (fun (W:World)=>(by have h:=joinCerts_impl p q r p' q' r' W;rw [HM.out,HJ.out] at h;exact h:Calls Try.prog 18 #[.agg #[.int .i64 p,.int .i64 q,.int .i64 r],.agg #[.int .i64 p',.int .i64 q',.int .i64 r']] W (GotCrtB m j W)))
 have hjj:(j != j)=false:=by cases j <;> rfl
 go_enter Try.func9,Try.ntmps9
 go_upto_region 1 with (fail)
 rw [← HW1.out]
 clear HW1
 refine wp_region_light (by kernel_rfl) (fun lz fz wz=>Vals [(0,10,(.agg #[.int .i64 p,.int .i64 q,.int .i64 r])),(1,11,(.agg #[.int .i64 p,.int .i64 q,.int .i64 r])),(2,12,(.agg #[.int .i64 p',.int .i64 q',.int .i64 r'])),(3,13,(.agg #[.int .i64 p',.int .i64 q',.int .i64 r'])),(4,14,(.tuple #[.agg #[.int .i64 m.sum,.int .i64 m.view,.int .i64 m.sig],.bool j])),(5,9,(.tuple #[.agg #[.int .i64 m.sum,.int .i64 m.view,.int .i64 m.sig],.bool j])),(6,15,(.agg #[.int .i64 m.sum,.int .i64 m.view,.int .i64 m.sig])),(7,16,(.bool j)),(10,6,(.bool j))] lz fz∧BxJ W1 8 9 5 (.int .i64 m.sum) (.int .i64 m.view) (.int .i64 m.sig) lz fz wz) 34 rfl [10,11,12,13,14,9,15,16,5,6] (by kernel_rfl) (by kernel_rfl) (by kernel_rfl) (fun f=>⟨Vals.nothing _ f,BxJ.nothing _ _ _ _ _ _ _ f⟩) ?_ ?_
 · intro i hi
   rcases (by have:i < 11:=hi;omega:i=0∨i=1∨i=2∨i=3∨i=4∨i=5∨i=6∨i=7∨i=8∨i=9∨i=10) with rfl | rfl | rfl | rfl | rfl | rfl | rfl | rfl | rfl | rfl | rfl
   all_goals (clear hi;intro o ho lz fz w' A ⟨hv,hr⟩ hli ha hA K hK;obtain rfl:=Option.some.inj ho;clear ho)
   · have g2:=slot_out hA 2 _ (by decide) (by decide) rfl
     simp only [List.getD_cons_succ,List.getD_cons_zero] at g2
     have gg2:=slot_get g2
     rw [if_pos (by rfl)]
     obtain ⟨x0,x1,x2,-⟩:=(HK.out w' (hr.bel)).1
     have hF:=hK (.agg #[.int .i64 p,.int .i64 q,.int .i64 r]) w' ⟨hv.step _ _ _ (by simp),hr.still 0 10 _ (Below.refl _ _) (by decide) (by decide) (by decide)⟩
     clear hv hr ha hK hA hli
     go_simp
     exact hF
   · have g10:=si hA 10 (hv.at 0 rfl (ha 0 (by decide)))
     have gg10:=slot_get g10
     rw [if_pos (by rfl)]
     clear hA
     go_simp
     refine (toCert_any p q r w').mono ?_
     rintro e9 w9 ⟨rfl,hb9⟩
     exact hK (.agg #[.int .i64 p,.int .i64 q,.int .i64 r]) w9 ⟨hv.step _ _ _ (by simp),hr.still 1 11 _ hb9 (by decide) (by decide) (by decide)⟩
   · have g3:=slot_out hA 3 _ (by decide) (by decide) rfl
     simp only [List.getD_cons_succ,List.getD_cons_zero] at g3
     have gg3:=slot_get g3
     rw [if_pos (by rfl)]
     obtain ⟨y0,y1,y2,-⟩:=(HK.out w' (hr.bel)).2.1
     have hF:=hK (.agg #[.int .i64 p',.int .i64 q',.int .i64 r']) w' ⟨hv.step _ _ _ (by simp),hr.still 2 12 _ (Below.refl _ _) (by decide) (by decide) (by decide)⟩
     clear hv hr ha hK hA hli
     go_simp
     exact hF
   · have g12:=si hA 12 (hv.at 2 rfl (ha 2 (by decide)))
     have gg12:=slot_get g12
     rw [if_pos (by rfl)]
     clear hA
     go_simp
     refine (toCert_any p' q' r' w').mono ?_
     rintro e9 w9 ⟨rfl,hb9⟩
     exact hK (.agg #[.int .i64 p',.int .i64 q',.int .i64 r']) w9 ⟨hv.step _ _ _ (by simp),hr.still 3 13 _ hb9 (by decide) (by decide) (by decide)⟩
   · have g11:=si hA 11 (hv.at 1 rfl (ha 1 (by decide)))
     have g13:=si hA 13 (hv.at 3 rfl (ha 3 (by decide)))
     have gg11:=slot_get g11
     have gg13:=slot_get g13
     rw [if_pos (by rfl)]
     clear hA
     go_simp
     refine (HJCspec.out w').mono ?_
     rintro e9 w9 ⟨rfl,hb9⟩
     exact hK (.tuple #[.agg #[.int .i64 m.sum,.int .i64 m.view,.int .i64 m.sig],.bool j]) w9 ⟨hv.step _ _ _ (by simp),hr.still 4 14 _ hb9 (by decide) (by decide) (by decide)⟩
   · have g14:=si hA 14 (hv.at 4 rfl (ha 4 (by decide)))
     have gg14:=slot_get g14
     rw [if_pos (by rfl)]
     have hF:=hK (.tuple #[.agg #[.int .i64 m.sum,.int .i64 m.view,.int .i64 m.sig],.bool j]) w' ⟨hv.step _ _ _ (by simp),hr.still 5 9 _ (Below.refl _ _) (by decide) (by decide) (by decide)⟩
     clear hv hr ha hK hA hli
     go_simp
     exact hF
   · have g9:=si hA 9 (hv.at 5 rfl (ha 5 (by decide)))
     have gg9:=slot_get g9
     rw [if_pos (by rfl)]
     have hF:=hK (.agg #[.int .i64 m.sum,.int .i64 m.view,.int .i64 m.sig]) w' ⟨hv.step _ _ _ (by simp),hr.still 6 15 _ (Below.refl _ _) (by decide) (by decide) (by decide)⟩
     clear hv hr ha hK hA hli
     go_simp
     exact hF
   · have g9:=si hA 9 (hv.at 5 rfl (ha 5 (by decide)))
     have gg9:=slot_get g9
     rw [if_pos (by rfl)]
     have hF:=hK (.bool j) w' ⟨hv.step _ _ _ (by simp),hr.still 7 16 _ (Below.refl _ _) (by decide) (by decide) (by decide)⟩
     clear hv hr ha hK hA hli
     go_simp
     exact hF
   · rw [if_pos (by rfl)]
     have hF:=hK (.pointer (some ⟨w'.heap.size,0,none⟩)) (w'.alloc (.cells #[(.int .i64 0),(.int .i64 0),(.int .i64 0)] 24)) ⟨hv.step _ _ _ (by simp),hr.make hli (.int .i64 0) (.int .i64 0) (.int .i64 0) _ (by decide)⟩
     clear hv hr ha hK hA hli
     go_simp
     exact hF
   · obtain ⟨b,u1,u2,u3,he,hbb,htr,-⟩:=hr.box (ha 8 (by decide))
     have hF:=hK undef (set3b w' b (.int .i64 m.sum) (.int .i64 m.view) (.int .i64 m.sig)) ⟨hv.stepN _ _ (by simp),hr.store (ha 8 (by decide)) he hbb htr (set3b_below hr.bel hbb (.int .i64 m.sum) (.int .i64 m.view) (.int .i64 m.sig)) _⟩
     obtain ⟨t0,t1,t2,f0,f1,f2⟩:=htr
     have g5:=si hA 5 he
     have g15:=si hA 15 (hv.at 6 rfl (ha 6 (by decide)))
     have gg5:=slot_get g5
     have gg15:=slot_get g15
     rw [if_pos (by rfl)]
     unfold set3b at hF
     clear hv hr ha hK hA hli he
     go_simp
     exact hF
   · have g16:=si hA 16 (hv.at 7 rfl (ha 7 (by decide)))
     have gg16:=slot_get g16
     rw [if_pos (by rfl)]
     have hF:=hK (.bool j) w' ⟨hv.step _ _ _ (by simp),hr.still 10 6 _ (Below.refl _ _) (by decide) (by decide) (by decide)⟩
     clear hv hr ha hK hA hli
     go_simp
     exact hF
 · intro lz fz w2 hall ⟨hv,hq⟩
   have h6:=hv.at 8 rfl (hall 10 (by decide))
   have hbR:=hq.bel
   obtain ⟨B,u1,u2,u3,hB,hBl,hBx,hBv⟩:=hq.box (hall 8 (by decide))
   obtain ⟨rfl,rfl,rfl⟩:=hBv (hall 9 (by decide))
   clear hv hq hall hBv
   simp only [mixF,List.contains_cons,List.contains_nil]
   go_simp
   have HB2:=Lib.hid hbR
   have HX:=Lib.hid hBx
   clear hbR hBx hBl
   go_upto_region 2 with (fail)
   refine wp_region_light (by kernel_rfl) (fun lz fz wz=>Vals [(0,18,(.agg #[.int .i64 p,.int .i64 q,.int .i64 r])),(1,19,(.agg #[.int .i64 p,.int .i64 q,.int .i64 r])),(2,20,(.agg #[.int .i64 p',.int .i64 q',.int .i64 r'])),(3,21,(.agg #[.int .i64 p',.int .i64 q',.int .i64 r'])),(4,22,(.tuple #[.agg #[.int .i64 m.sum,.int .i64 m.view,.int .i64 m.sig],.bool j])),(5,17,(.tuple #[.agg #[.int .i64 m.sum,.int .i64 m.view,.int .i64 m.sig],.bool j])),(6,23,(.agg #[.int .i64 m.sum,.int .i64 m.view,.int .i64 m.sig])),(7,24,(.bool j)),(10,8,(.bool j))] lz fz∧BxJ w2 8 9 7 (.int .i64 m.sum) (.int .i64 m.view) (.int .i64 m.sig) lz fz wz) 34 rfl [18,19,20,21,22,17,23,24,7,8] (by kernel_rfl) (by kernel_rfl) (by kernel_rfl) (fun f=>⟨Vals.nothing _ f,BxJ.nothing _ _ _ _ _ _ _ f⟩) ?_ ?_
   · intro i hi
     rcases (by have:i < 11:=hi;omega:i=0∨i=1∨i=2∨i=3∨i=4∨i=5∨i=6∨i=7∨i=8∨i=9∨i=10) with rfl | rfl | rfl | rfl | rfl | rfl | rfl | rfl | rfl | rfl | rfl
     all_goals (clear hi;intro o ho lz fz w' A ⟨hv,hr⟩ hli ha hA K hK;obtain rfl:=Option.some.inj ho;clear ho)
     · have g2:=slot_out hA 2 _ (by decide) (by decide) rfl
       simp only [List.getD_cons_succ,List.getD_cons_zero] at g2
       have gg2:=slot_get g2
       rw [if_pos (by rfl)]
       obtain ⟨x0,x1,x2,-⟩:=(HK.out w' (HB2.out.trans (hr.bel.mono HB2.out.size))).1
       have hF:=hK (.agg #[.int .i64 p,.int .i64 q,.int .i64 r]) w' ⟨hv.step _ _ _ (by simp),hr.still 0 18 _ (Below.refl _ _) (by decide) (by decide) (by decide)⟩
       clear hv hr ha hK hA hli
       go_simp
       exact hF
     · have g18:=si hA 18 (hv.at 0 rfl (ha 0 (by decide)))
       have gg18:=slot_get g18
       rw [if_pos (by rfl)]
       clear hA
       go_simp
       refine (toCert_any p q r w').mono ?_
       rintro e9 w9 ⟨rfl,hb9⟩
       exact hK (.agg #[.int .i64 p,.int .i64 q,.int .i64 r]) w9 ⟨hv.step _ _ _ (by simp),hr.still 1 19 _ hb9 (by decide) (by decide) (by decide)⟩
     · have g3:=slot_out hA 3 _ (by decide) (by decide) rfl
       simp only [List.getD_cons_succ,List.getD_cons_zero] at g3
       have gg3:=slot_get g3
       rw [if_pos (by rfl)]
       obtain ⟨y0,y1,y2,-⟩:=(HK.out w' (HB2.out.trans (hr.bel.mono HB2.out.size))).2.1
       have hF:=hK (.agg #[.int .i64 p',.int .i64 q',.int .i64 r']) w' ⟨hv.step _ _ _ (by simp),hr.still 2 20 _ (Below.refl _ _) (by decide) (by decide) (by decide)⟩
       clear hv hr ha hK hA hli
       go_simp
       exact hF
     · have g20:=si hA 20 (hv.at 2 rfl (ha 2 (by decide)))
       have gg20:=slot_get g20
       rw [if_pos (by rfl)]
       clear hA
       go_simp
       refine (toCert_any p' q' r' w').mono ?_
       rintro e9 w9 ⟨rfl,hb9⟩
       exact hK (.agg #[.int .i64 p',.int .i64 q',.int .i64 r']) w9 ⟨hv.step _ _ _ (by simp),hr.still 3 21 _ hb9 (by decide) (by decide) (by decide)⟩
     · have g19:=si hA 19 (hv.at 1 rfl (ha 1 (by decide)))
       have g21:=si hA 21 (hv.at 3 rfl (ha 3 (by decide)))
       have gg19:=slot_get g19
       have gg21:=slot_get g21
       rw [if_pos (by rfl)]
       clear hA
       go_simp
       refine (HJCimpl.out w').mono ?_
       rintro e9 w9 ⟨rfl,hb9⟩
       exact hK (.tuple #[.agg #[.int .i64 m.sum,.int .i64 m.view,.int .i64 m.sig],.bool j]) w9 ⟨hv.step _ _ _ (by simp),hr.still 4 22 _ hb9 (by decide) (by decide) (by decide)⟩
     · have g22:=si hA 22 (hv.at 4 rfl (ha 4 (by decide)))
       have gg22:=slot_get g22
       rw [if_pos (by rfl)]
       have hF:=hK (.tuple #[.agg #[.int .i64 m.sum,.int .i64 m.view,.int .i64 m.sig],.bool j]) w' ⟨hv.step _ _ _ (by simp),hr.still 5 17 _ (Below.refl _ _) (by decide) (by decide) (by decide)⟩
       clear hv hr ha hK hA hli
       go_simp
       exact hF
     · have g17:=si hA 17 (hv.at 5 rfl (ha 5 (by decide)))
       have gg17:=slot_get g17
       rw [if_pos (by rfl)]
       have hF:=hK (.agg #[.int .i64 m.sum,.int .i64 m.view,.int .i64 m.sig]) w' ⟨hv.step _ _ _ (by simp),hr.still 6 23 _ (Below.refl _ _) (by decide) (by decide) (by decide)⟩
       clear hv hr ha hK hA hli
       go_simp
       exact hF
     · have g17:=si hA 17 (hv.at 5 rfl (ha 5 (by decide)))
       have gg17:=slot_get g17
       rw [if_pos (by rfl)]
       have hF:=hK (.bool j) w' ⟨hv.step _ _ _ (by simp),hr.still 7 24 _ (Below.refl _ _) (by decide) (by decide) (by decide)⟩
       clear hv hr ha hK hA hli
       go_simp
       exact hF
     · rw [if_pos (by rfl)]
       have hF:=hK (.pointer (some ⟨w'.heap.size,0,none⟩)) (w'.alloc (.cells #[(.int .i64 0),(.int .i64 0),(.int .i64 0)] 24)) ⟨hv.step _ _ _ (by simp),hr.make hli (.int .i64 0) (.int .i64 0) (.int .i64 0) _ (by decide)⟩
       clear hv hr ha hK hA hli
       go_simp
       exact hF
     · obtain ⟨b,u1,u2,u3,he,hbb,htr,-⟩:=hr.box (ha 8 (by decide))
       have hF:=hK undef (set3b w' b (.int .i64 m.sum) (.int .i64 m.view) (.int .i64 m.sig)) ⟨hv.stepN _ _ (by simp),hr.store (ha 8 (by decide)) he hbb htr (set3b_below hr.bel hbb (.int .i64 m.sum) (.int .i64 m.view) (.int .i64 m.sig)) _⟩
       obtain ⟨t0,t1,t2,f0,f1,f2⟩:=htr
       have g7:=si hA 7 he
       have g23:=si hA 23 (hv.at 6 rfl (ha 6 (by decide)))
       have gg7:=slot_get g7
       have gg23:=slot_get g23
       rw [if_pos (by rfl)]
       unfold set3b at hF
       clear hv hr ha hK hA hli he
       go_simp
       exact hF
     · have g24:=si hA 24 (hv.at 7 rfl (ha 7 (by decide)))
       have gg24:=slot_get g24
       rw [if_pos (by rfl)]
       have hF:=hK (.bool j) w' ⟨hv.step _ _ _ (by simp),hr.still 10 8 _ (Below.refl _ _) (by decide) (by decide) (by decide)⟩
       clear hv hr ha hK hA hli
       go_simp
       exact hF
   · intro lz fz w3 hall ⟨hv,hq⟩
     have h8:=hv.at 8 rfl (hall 10 (by decide))
     have hbR:=hq.bel
     obtain ⟨B2,u1,u2,u3,hB2,hBl2,hBx2,hBv⟩:=hq.box (hall 8 (by decide))
     obtain ⟨rfl,rfl,rfl⟩:=hBv (hall 9 (by decide))
     clear hv hq hall hBv
     simp only [mixF,List.contains_cons,List.contains_nil]
     go_simp
     have HB3:=Lib.hid (HB2.out.trans (hbR.mono HB2.out.size))
     have HBF:=Lib.hid (HK.out w3 HB3.out).2.2
     obtain ⟨a0,a1,a2,-⟩:=HX.out.below hbR
     obtain ⟨b0,b1,b2,-⟩:=hBx2
     clear hbR hBl2
     go_wp2_with fail
     refine (eqCert_same m.sum m.view m.sig w3).mono ?_;rintro e9 w9 ⟨rfl,hb9⟩
     have HBG:=Lib.hid (HBF.out.trans (hb9.mono HBF.out.size))
     clear hb9
     go_wp2
     go_ret
     exact ⟨rfl,HBG.out⟩
end Go.Proofs.Ytolhdacbahgfgaa
