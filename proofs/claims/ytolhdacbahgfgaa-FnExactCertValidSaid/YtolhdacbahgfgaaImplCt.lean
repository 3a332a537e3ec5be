/- The contracts of the program's CertValid,CertCounts,JoinCerts,and what they call (gen18/cert.py). -/
import Derived.Test.YtolhdacbahgfgaaCertMath
import Derived.Test.YtolhdacbahgfgaaImplVw
import Derived.Test.YtolhdacbahgfgaaTwo
import Derived.Deep.Cut
namespace Go.Proofs.Ytolhdacbahgfgaa
open Go.RowKit
set_option linter.unusedVariables false
set_option linter.unusedSimpArgs false
theorem areMembers_impl (n:Int) (w:World) :
  Calls Try.prog 27 #[.int .i64 n] w fun e w'=>e = .returned (.bool (inB n 0 15))∧w=w':=by
 by_cases h1:0≤n
 · by_cases h2:n≤15
   · rw [inB_yes h1 h2]
     have h3:decide (n < 16)=true:=by simp;omega
     go_enter Try.func27,Try.ntmps27
     go_wp2
     go_ret
     exact ⟨rfl,rfl⟩
   · rw [inB_no (by omega)]
     have h3:decide (n < 16)=false:=by simp;omega
     go_enter Try.func27,Try.ntmps27
     go_wp2
     go_ret
     exact ⟨rfl,rfl⟩
 · rw [inB_no (by omega)]
   go_enter Try.func27,Try.ntmps27
   go_wp2
   go_ret
   exact ⟨rfl,rfl⟩
theorem onesCount64_any (n:Int) (w:World) (h0:0≤n) (h1:n≤15) :
  Calls Try.prog 64 #[.int .u64 n] w fun e w'=>e = .returned (.int .i64 (manyM n))∧w=w':=by
 rcases (by omega:n=0∨n=1∨n=2∨n=3∨n=4∨n=5∨n=6∨n=7∨n=8∨n=9∨n=10∨n=11∨n=12∨n=13∨n=14∨n=15) with rfl | rfl | rfl | rfl | rfl | rfl | rfl | rfl | rfl | rfl | rfl | rfl | rfl | rfl | rfl | rfl
 all_goals
  go_enter Try.func64,Try.ntmps64
  go_wp2
  go_ret
  exact ⟨by kernel_rfl,rfl⟩
theorem onesCount_any (n:Int) (w:World) (h0:0≤n) (h1:n≤15) :
  Calls Try.prog 46 #[.int .u64 n] w fun e w'=>e = .returned (.int .i64 (manyM n))∧w=w':=by
 have HC:=Lib.hid (onesCount64_any n w h0 h1)
 go_enter Try.func46,Try.ntmps46
 go_wp2_with fail
 refine HC.out.mono ?_;rintro e w' ⟨rfl,rfl⟩
 go_wp2_with fail
 go_ret
 exact ⟨rfl,rfl⟩
theorem areQuorum_impl (n:Int) (w:World) (h0:0≤n) (h1:n≤15) :
  Calls Try.prog 30 #[.int .i64 n] w fun e w'=>e = .returned (.bool (decide (3≤manyM n)))∧w=w':=by
 have HC:=Lib.hid (onesCount_any n w h0 h1)
 go_enter Try.func30,Try.ntmps30
 go_wp2_with fail
 refine HC.out.mono ?_
 rintro e w' ⟨rfl,rfl⟩
 go_wp2_with fail
 go_ret
 exact ⟨by simp,rfl⟩
set_option maxHeartbeats 1000000 in
theorem certValid_impl (s v g:Int) (w:World) :
  Calls Try.prog 11 #[.agg #[.int .i64 s,.int .i64 v,.int .i64 g]] w (BoolB (crtB ⟨s,v,g⟩) w):=by
 have HB:=Lib.hid ((Below.refl w.heap.size w).alloc (Nat.le_refl _) (.cells #[.int .i64 s,.int .i64 v,.int .i64 g] 24))
 cases e0:inB s 0 1000002 with
 | false =>
  have HE:Hid (crtB ⟨s,v,g⟩=false):=Lib.hid (by simp [crtB,e0])
  go_enter Try.func11,Try.ntmps11
  go_wp2_with (first | (go_at_call 25;refine (isSum_impl _ _).mono ?_;rintro e w' ⟨rfl,rfl⟩) | (go_at_call 26;refine (isView_impl _ _).mono ?_;rintro e w' ⟨rfl,rfl⟩) | (go_at_call 27;refine (areMembers_impl _ _).mono ?_;rintro e w' ⟨rfl,rfl⟩))
  go_ret
  exact ⟨by rw [HE.out];rfl,HB.out⟩
 | true =>
 cases e1:inB v 0 1000 with
 | false =>
  have HE:Hid (crtB ⟨s,v,g⟩=false):=Lib.hid (by simp [crtB,e1])
  go_enter Try.func11,Try.ntmps11
  go_wp2_with (first | (go_at_call 25;refine (isSum_impl _ _).mono ?_;rintro e w' ⟨rfl,rfl⟩) | (go_at_call 26;refine (isView_impl _ _).mono ?_;rintro e w' ⟨rfl,rfl⟩) | (go_at_call 27;refine (areMembers_impl _ _).mono ?_;rintro e w' ⟨rfl,rfl⟩))
  go_ret
  exact ⟨by rw [HE.out];rfl,HB.out⟩
 | true =>
 have HE:Hid (crtB ⟨s,v,g⟩=inB g 0 15):=Lib.hid (by simp [crtB,e0,e1])
 go_enter Try.func11,Try.ntmps11
 go_wp2_with (first | (go_at_call 25;refine (isSum_impl _ _).mono ?_;rintro e w' ⟨rfl,rfl⟩) | (go_at_call 26;refine (isView_impl _ _).mono ?_;rintro e w' ⟨rfl,rfl⟩) | (go_at_call 27;refine (areMembers_impl _ _).mono ?_;rintro e w' ⟨rfl,rfl⟩))
 go_ret
 exact ⟨by rw [HE.out];rfl,HB.out⟩
set_option maxHeartbeats 1000000 in
theorem certCounts_impl (s v g:Int) (w:World) :
  Calls Try.prog 15 #[.agg #[.int .i64 s,.int .i64 v,.int .i64 g]] w (BoolB (cntB ⟨s,v,g⟩) w):=by
 have HB:=Lib.hid ((Below.refl w.heap.size w).alloc (Nat.le_refl _) (.cells #[.int .i64 s,.int .i64 v,.int .i64 g] 24))
 have HG:=Lib.hid (trAt_new w 24 (.int .i64 s) (.int .i64 v) (.int .i64 g))
 obtain ⟨x,hx⟩:∃ x,x=crtB ⟨s,v,g⟩:=⟨_,rfl⟩
 have HX:=Lib.hid hx.symm
 clear hx
 cases x with
 | false =>
  have HE:Hid (cntB ⟨s,v,g⟩=false):=Lib.hid (cntB_no HX.out)
  go_enter Try.func15,Try.ntmps15
  go_wp2_with fail
  refine (certValid_impl s v g _).mono ?_;rintro e w1 ⟨rfl,hb1⟩
  rw [HX.out]
  obtain ⟨c0,c1,c2,-⟩:=HG.out.below hb1
  have HB1:=Lib.hid (HB.out.trans (hb1.mono HB.out.size))
  clear hb1
  go_wp2_with fail
  go_ret
  exact ⟨by rw [HE.out];rfl,HB1.out⟩
 | true =>
  have HE:Hid (cntB ⟨s,v,g⟩=decide (3≤manyM g)):=Lib.hid (cntB_yes HX.out)
  have HS:=Lib.hid (crtB_true HX.out).2.2
  go_enter Try.func15,Try.ntmps15
  go_wp2_with fail
  refine (certValid_impl s v g _).mono ?_;rintro e w1 ⟨rfl,hb1⟩
  rw [HX.out]
  obtain ⟨c0,c1,c2,-⟩:=HG.out.below hb1
  have HB1:=Lib.hid (HB.out.trans (hb1.mono HB.out.size))
  clear hb1
  go_wp2_with fail
  refine (areQuorum_impl g _ HS.out.1 HS.out.2).mono ?_;rintro e w2 ⟨rfl,rfl⟩
  go_wp2_with fail
  go_ret
  exact ⟨by rw [HE.out];rfl,HB1.out⟩
set_option maxHeartbeats 2000000 in
theorem joinCerts_impl (s v g s' v' g':Int) (w:World) :
  Calls Try.prog 18 #[.agg #[.int .i64 s,.int .i64 v,.int .i64 g],.agg #[.int .i64 s',.int .i64 v',.int .i64 g']] w (GotCrtB (joinM ⟨s,v,g⟩ ⟨s',v',g'⟩) (joinB ⟨s,v,g⟩ ⟨s',v',g'⟩) w):=by
 have hb0:=(((Below.refl w.heap.size w).alloc (Nat.le_refl _) (.cells #[.int .i64 s,.int .i64 v,.int .i64 g] 24)).alloc (by simp) (.cells #[.int .i64 s',.int .i64 v',.int .i64 g'] 24)).alloc (by simp;omega) (.cells #[.int .i64 0,.int .i64 0,.int .i64 0] 24)
 have hA:=((trAt_new w 24 (.int .i64 s) (.int .i64 v) (.int .i64 g)).below ((Below.refl _ _).alloc (Nat.le_refl _) (.cells #[.int .i64 s',.int .i64 v',.int .i64 g'] 24))).below ((Below.refl _ _).alloc (Nat.le_refl _) (.cells #[.int .i64 0,.int .i64 0,.int .i64 0] 24))
 have hA':=(trAt_new (w.alloc (.cells #[.int .i64 s,.int .i64 v,.int .i64 g] 24)) 24 (.int .i64 s') (.int .i64 v') (.int .i64 g')).below ((Below.refl _ _).alloc (Nat.le_refl _) (.cells #[.int .i64 0,.int .i64 0,.int .i64 0] 24))
 have hZ:=trAt_new ((w.alloc (.cells #[.int .i64 s,.int .i64 v,.int .i64 g] 24)).alloc (.cells #[.int .i64 s',.int .i64 v',.int .i64 g'] 24)) 24 (.int .i64 0) (.int .i64 0) (.int .i64 0)
 rw [World.size_alloc] at hA'
 rw [World.size_alloc,World.size_alloc] at hZ
 obtain ⟨W1,hW1⟩:∃ W1,W1=((w.alloc (.cells #[.int .i64 s,.int .i64 v,.int .i64 g] 24)).alloc (.cells #[.int .i64 s',.int .i64 v',.int .i64 g'] 24)).alloc (.cells #[.int .i64 0,.int .i64 0,.int .i64 0] 24):=⟨_,rfl⟩
 have HW1:=Lib.hid hW1
 rw [← hW1] at hb0 hA hA' hZ
 clear hW1
 have HA:=Lib.hid hA
 have HA':=Lib.hid hA'
 have HZ:=Lib.hid hZ
 have HB:=Lib.hid hb0
 clear hA hA' hb0 hZ
 obtain ⟨x,hx⟩:∃ x,x=crtB ⟨s,v,g⟩:=⟨_,rfl⟩
 obtain ⟨y,hy⟩:∃ y,y=crtB ⟨s',v',g'⟩:=⟨_,rfl⟩
 have HX:=Lib.hid hx.symm
 have HY:=Lib.hid hy.symm
 clear hx hy
 cases x with
 | false =>
  have hj:joinB ⟨s,v,g⟩ ⟨s',v',g'⟩=false:=by simp [joinB,HX.out]
  have HJ:Hid (joinM ⟨s,v,g⟩ ⟨s',v',g'⟩=noCrt∧joinB ⟨s,v,g⟩ ⟨s',v',g'⟩=false):=Lib.hid ⟨joinM_no hj,hj⟩
  clear hj
  go_enter Try.func18,Try.ntmps18
  go_upto_region 1 with (fail)
  rw [← HW1.out]
  clear HW1
  obtain ⟨c0,c1,c2,-⟩:=HA.out
  obtain ⟨d0,d1,d2,-⟩:=HA'.out
  go_wp2_with fail
  refine (certValid_impl s v g _).mono ?_;rintro e w1 ⟨rfl,hb1⟩
  rw [HX.out]
  have HB1:=Lib.hid (HB.out.trans (hb1.mono HB.out.size))
  have HC1:=Lib.hid (HA.out.below hb1)
  have HD1:=Lib.hid (HA'.out.below hb1)
  have HZ1:=Lib.hid (HZ.out.below hb1)
  clear c0 c1 c2 d0 d1 d2 hb1 HB
  obtain ⟨c0,c1,c2,-⟩:=HC1.out
  obtain ⟨d0,d1,d2,-⟩:=HD1.out
  have HF:=Lib.hid (HZ1.out.set3b (.int .i64 0) (.int .i64 0) (.int .i64 0))
  have HBF:=Lib.hid ((HB1.out).grown (set3b_grown3 _ (w.heap.size+1+1) (.int .i64 0) (.int .i64 0) (.int .i64 0)) (by have:=HB1.out.size;omega) (fun k hk=>by simp only [Option.some.injEq] at hk;omega))
  obtain ⟨z0,z1,z2,f0,f1,f2⟩:=HZ1.out
  unfold set3b at HF HBF
  go_wp2_with fail
  exact bodyPost_ret (results_crtB Try.results18 _ (by rfl) HF.out _ (by rfl)) rfl ⟨by rw [HJ.out.1,HJ.out.2];rfl,HBF.out⟩
 | true =>
 cases y with
 | false =>
  have hj:joinB ⟨s,v,g⟩ ⟨s',v',g'⟩=false:=by simp [joinB,HY.out]
  have HJ:Hid (joinM ⟨s,v,g⟩ ⟨s',v',g'⟩=noCrt∧joinB ⟨s,v,g⟩ ⟨s',v',g'⟩=false):=Lib.hid ⟨joinM_no hj,hj⟩
  clear hj
  go_enter Try.func18,Try.ntmps18
  go_upto_region 1 with (fail)
  rw [← HW1.out]
  clear HW1
  obtain ⟨c0,c1,c2,-⟩:=HA.out
  obtain ⟨d0,d1,d2,-⟩:=HA'.out
  go_wp2_with fail
  refine (certValid_impl s v g _).mono ?_;rintro e w1 ⟨rfl,hb1⟩
  rw [HX.out]
  have HB1:=Lib.hid (HB.out.trans (hb1.mono HB.out.size))
  have HC1:=Lib.hid (HA.out.below hb1)
  have HD1:=Lib.hid (HA'.out.below hb1)
  have HZ1:=Lib.hid (HZ.out.below hb1)
  clear c0 c1 c2 d0 d1 d2 hb1 HB
  obtain ⟨c0,c1,c2,-⟩:=HC1.out
  obtain ⟨d0,d1,d2,-⟩:=HD1.out
  go_wp2_with fail
  refine (certValid_impl s' v' g' _).mono ?_;rintro e w2 ⟨rfl,hb2⟩
  rw [HY.out]
  have HB2:=Lib.hid (HB1.out.trans (hb2.mono HB1.out.size))
  have HC2:=Lib.hid (HC1.out.below hb2)
  have HD2:=Lib.hid (HD1.out.below hb2)
  have HZ2:=Lib.hid (HZ1.out.below hb2)
  clear c0 c1 c2 d0 d1 d2 hb2 HB1 HC1 HD1
  obtain ⟨c0,c1,c2,-⟩:=HC2.out
  obtain ⟨d0,d1,d2,-⟩:=HD2.out
  have HF:=Lib.hid (HZ2.out.set3b (.int .i64 0) (.int .i64 0) (.int .i64 0))
  have HBF:=Lib.hid ((HB2.out).grown (set3b_grown3 _ (w.heap.size+1+1) (.int .i64 0) (.int .i64 0) (.int .i64 0)) (by have:=HB2.out.size;omega) (fun k hk=>by simp only [Option.some.injEq] at hk;omega))
  obtain ⟨z0,z1,z2,f0,f1,f2⟩:=HZ2.out
  unfold set3b at HF HBF
  go_wp2_with fail
  exact bodyPost_ret (results_crtB Try.results18 _ (by rfl) HF.out _ (by rfl)) rfl ⟨by rw [HJ.out.1,HJ.out.2];rfl,HBF.out⟩
 | true =>
 by_cases h1:s=s'
 case neg =>
  have hj:joinB ⟨s,v,g⟩ ⟨s',v',g'⟩=false:=by simp [joinB,h1]
  have HJ:Hid (joinM ⟨s,v,g⟩ ⟨s',v',g'⟩=noCrt∧joinB ⟨s,v,g⟩ ⟨s',v',g'⟩=false):=Lib.hid ⟨joinM_no hj,hj⟩
  clear hj
  have e1:(s != s')=true:=by simp [h1]
  clear h1
  go_enter Try.func18,Try.ntmps18
  go_upto_region 1 with (fail)
  rw [← HW1.out]
  clear HW1
  obtain ⟨c0,c1,c2,-⟩:=HA.out
  obtain ⟨d0,d1,d2,-⟩:=HA'.out
  go_wp2_with fail
  refine (certValid_impl s v g _).mono ?_;rintro e w1 ⟨rfl,hb1⟩
  rw [HX.out]
  have HB1:=Lib.hid (HB.out.trans (hb1.mono HB.out.size))
  have HC1:=Lib.hid (HA.out.below hb1)
  have HD1:=Lib.hid (HA'.out.below hb1)
  have HZ1:=Lib.hid (HZ.out.below hb1)
  clear c0 c1 c2 d0 d1 d2 hb1 HB
  obtain ⟨c0,c1,c2,-⟩:=HC1.out
  obtain ⟨d0,d1,d2,-⟩:=HD1.out
  go_wp2_with fail
  refine (certValid_impl s' v' g' _).mono ?_;rintro e w2 ⟨rfl,hb2⟩
  rw [HY.out]
  have HB2:=Lib.hid (HB1.out.trans (hb2.mono HB1.out.size))
  have HC2:=Lib.hid (HC1.out.below hb2)
  have HD2:=Lib.hid (HD1.out.below hb2)
  have HZ2:=Lib.hid (HZ1.out.below hb2)
  clear c0 c1 c2 d0 d1 d2 hb2 HB1 HC1 HD1
  obtain ⟨c0,c1,c2,-⟩:=HC2.out
  obtain ⟨d0,d1,d2,-⟩:=HD2.out
  have HF:=Lib.hid (HZ2.out.set3b (.int .i64 0) (.int .i64 0) (.int .i64 0))
  have HBF:=Lib.hid ((HB2.out).grown (set3b_grown3 _ (w.heap.size+1+1) (.int .i64 0) (.int .i64 0) (.int .i64 0)) (by have:=HB2.out.size;omega) (fun k hk=>by simp only [Option.some.injEq] at hk;omega))
  obtain ⟨z0,z1,z2,f0,f1,f2⟩:=HZ2.out
  unfold set3b at HF HBF
  go_wp2_with fail
  exact bodyPost_ret (results_crtB Try.results18 _ (by rfl) HF.out _ (by rfl)) rfl ⟨by rw [HJ.out.1,HJ.out.2];rfl,HBF.out⟩
 by_cases h2:v=v'
 case neg =>
  have hj:joinB ⟨s,v,g⟩ ⟨s',v',g'⟩=false:=by simp [joinB,h2]
  have HJ:Hid (joinM ⟨s,v,g⟩ ⟨s',v',g'⟩=noCrt∧joinB ⟨s,v,g⟩ ⟨s',v',g'⟩=false):=Lib.hid ⟨joinM_no hj,hj⟩
  clear hj
  have e1:(s != s')=false:=by simp [h1]
  have e2:(v != v')=true:=by simp [h2]
  clear h1 h2
  go_enter Try.func18,Try.ntmps18
  go_upto_region 1 with (fail)
  rw [← HW1.out]
  clear HW1
  obtain ⟨c0,c1,c2,-⟩:=HA.out
  obtain ⟨d0,d1,d2,-⟩:=HA'.out
  go_wp2_with fail
  refine (certValid_impl s v g _).mono ?_;rintro e w1 ⟨rfl,hb1⟩
  rw [HX.out]
  have HB1:=Lib.hid (HB.out.trans (hb1.mono HB.out.size))
  have HC1:=Lib.hid (HA.out.below hb1)
  have HD1:=Lib.hid (HA'.out.below hb1)
  have HZ1:=Lib.hid (HZ.out.below hb1)
  clear c0 c1 c2 d0 d1 d2 hb1 HB
  obtain ⟨c0,c1,c2,-⟩:=HC1.out
  obtain ⟨d0,d1,d2,-⟩:=HD1.out
  go_wp2_with fail
  refine (certValid_impl s' v' g' _).mono ?_;rintro e w2 ⟨rfl,hb2⟩
  rw [HY.out]
  have HB2:=Lib.hid (HB1.out.trans (hb2.mono HB1.out.size))
  have HC2:=Lib.hid (HC1.out.below hb2)
  have HD2:=Lib.hid (HD1.out.below hb2)
  have HZ2:=Lib.hid (HZ1.out.below hb2)
  clear c0 c1 c2 d0 d1 d2 hb2 HB1 HC1 HD1
  obtain ⟨c0,c1,c2,-⟩:=HC2.out
  obtain ⟨d0,d1,d2,-⟩:=HD2.out
  have HF:=Lib.hid (HZ2.out.set3b (.int .i64 0) (.int .i64 0) (.int .i64 0))
  have HBF:=Lib.hid ((HB2.out).grown (set3b_grown3 _ (w.heap.size+1+1) (.int .i64 0) (.int .i64 0) (.int .i64 0)) (by have:=HB2.out.size;omega) (fun k hk=>by simp only [Option.some.injEq] at hk;omega))
  obtain ⟨z0,z1,z2,f0,f1,f2⟩:=HZ2.out
  unfold set3b at HF HBF
  go_wp2_with fail
  exact bodyPost_ret (results_crtB Try.results18 _ (by rfl) HF.out _ (by rfl)) rfl ⟨by rw [HJ.out.1,HJ.out.2];rfl,HBF.out⟩
 have hj:joinB ⟨s,v,g⟩ ⟨s',v',g'⟩=true:=by unfold joinB;rw [HX.out,HY.out];simp [h1,h2]
 have HJ:Hid (joinM ⟨s,v,g⟩ ⟨s',v',g'⟩=⟨s,v,orM g g'⟩∧joinB ⟨s,v,g⟩ ⟨s',v',g'⟩=true):=Lib.hid ⟨joinM_yes hj,hj⟩
 clear hj
 have e1:(s != s')=false:=by simp [h1]
 have e2:(v != v')=false:=by simp [h2]
 clear h1 h2
 go_enter Try.func18,Try.ntmps18
 go_upto_region 1 with (fail)
 rw [← HW1.out]
 clear HW1
 obtain ⟨c0,c1,c2,-⟩:=HA.out
 obtain ⟨d0,d1,d2,-⟩:=HA'.out
 go_wp2_with fail
 refine (certValid_impl s v g _).mono ?_;rintro e w1 ⟨rfl,hb1⟩
 rw [HX.out]
 have HB1:=Lib.hid (HB.out.trans (hb1.mono HB.out.size))
 have HC1:=Lib.hid (HA.out.below hb1)
 have HD1:=Lib.hid (HA'.out.below hb1)
 have HZ1:=Lib.hid (HZ.out.below hb1)
 clear c0 c1 c2 d0 d1 d2 hb1 HB
 obtain ⟨c0,c1,c2,-⟩:=HC1.out
 obtain ⟨d0,d1,d2,-⟩:=HD1.out
 go_wp2_with fail
 refine (certValid_impl s' v' g' _).mono ?_;rintro e w2 ⟨rfl,hb2⟩
 rw [HY.out]
 have HB2:=Lib.hid (HB1.out.trans (hb2.mono HB1.out.size))
 have HC2:=Lib.hid (HC1.out.below hb2)
 have HD2:=Lib.hid (HD1.out.below hb2)
 have HZ2:=Lib.hid (HZ1.out.below hb2)
 clear c0 c1 c2 d0 d1 d2 hb2 HB1 HC1 HD1
 obtain ⟨c0,c1,c2,-⟩:=HC2.out
 obtain ⟨d0,d1,d2,-⟩:=HD2.out
 have HF:=Lib.hid (HZ2.out.set3b (.int .i64 s) (.int .i64 v) (.int .i64 (bits .or .i64 g g')))
 have HBF:=Lib.hid ((HB2.out).grown (set3b_grown3 _ (w.heap.size+1+1) (.int .i64 s) (.int .i64 v) (.int .i64 (bits .or .i64 g g'))) (by have:=HB2.out.size;omega) (fun k hk=>by simp only [Option.some.injEq] at hk;omega))
 obtain ⟨z0,z1,z2,f0,f1,f2⟩:=HZ2.out
 unfold set3b at HF HBF
 go_wp2_with fail
 exact bodyPost_ret (results_crtB Try.results18 _ (by rfl) HF.out _ (by rfl)) rfl ⟨by rw [HJ.out.1,HJ.out.2];rfl,HBF.out⟩
end Go.Proofs.Ytolhdacbahgfgaa
