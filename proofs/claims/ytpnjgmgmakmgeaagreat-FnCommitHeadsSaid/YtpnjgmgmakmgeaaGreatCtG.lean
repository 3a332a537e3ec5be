/- Texts of ours that stand together: CertMath, SpecCt, ImplCt, CertTr -/
import Derived.Test.YtpnjgmgmakmgeaaGreatTrM
import Derived.Test.YtpnjgmgmakmgeaaGreatSpecAct
import Derived.Test.YtpnjgmgmakmgeaaGreatTwo
import Derived.Deep.Cut
import Derived.Test.YtpnjgmgmakmgeaaGreatBkI
import Derived.Test.YtpnjgmgmakmgeaaGreatImT
import Derived.Test.YtpnjgmgmakmgeaaGreatSpecTr2
import Derived.Test.YtpnjgmgmakmgeaaGreatRegJ
import Derived.Test.YtpnjgmgmakmgeaaGreatRegO
/- Certificates: plain mathematics,and a certificate in a box. No function of the program is named here. -/
namespace Go.Proofs.YtpnjgmgmakmgeaaGreat
open Go.RowKit
set_option linter.unusedVariables false
structure Crt where
 sum:Int
 view:Int
 sig:Int
def crtB (c:Crt):Bool:=inB c.sum 0 1000002 && inB c.view 0 1000 && inB c.sig 0 15
def manyM (n:Int):Int:=n % 2+n / 2 % 2+n / 4 % 2+n / 8 % 2
def cntB (c:Crt):Bool:=crtB c && decide (3≤manyM c.sig)
theorem crtB_true {c:Crt} (h:crtB c=true):(0≤c.sum∧c.sum≤1000002)∧(0≤c.view∧c.view≤1000)∧(0≤c.sig∧c.sig≤15):=by
 simp only [crtB,Bool.and_eq_true] at h
 exact ⟨inB_true h.1.1,inB_true h.1.2,inB_true h.2⟩
theorem cntB_no {c:Crt} (h:crtB c=false):cntB c=false:=by simp [cntB,h]
theorem cntB_yes {c:Crt} (h:crtB c=true):cntB c=decide (3≤manyM c.sig):=by simp [cntB,h]
def Crt.v (c:Crt):Value:=.agg #[.int .i64 c.sum,.int .i64 c.view,.int .i64 c.sig]
theorem results_crt {fn:Func} {p:Tmp} (h:fn.results=#[.cell p 29]) (tmps:Array Value) {F:World} {Z:Nat} (hp:tmps.getD p undef = .pointer (some ⟨Z,0,none⟩)) {v1 v2 v3:Value} (hc:TrAt F Z v1 v2 v3):(results fn tmps).run Tryz.prog F = .ok (.agg #[v1,v2,v3]) F:=by
 have hp':tmps[p]?.getD undef = .pointer (some ⟨Z,0,none⟩):=by simpa using hp
 obtain ⟨c0,c1,c2,-⟩:=hc
 simp [results,h,hp',asAddr,go_sem,c0,c1,c2]
set_option linter.unusedSimpArgs false
def partM (n:Int):Nat→Int
 | 0=>0
 | 1=>n % 2
 | 2=>n % 2+n / 2 % 2
 | 3=>n % 2+n / 2 % 2+n / 4 % 2
 | _=>manyM n
theorem l15Many_spec (n:Int) (w:World) (h0:0≤n) (h1:n≤15) :
  Calls Tryz.prog 129 #[.int .i64 n] w fun e w'=>e = .returned (.int .i64 (manyM n))∧w=w':=by
 go_enter Tryz.func129,Tryz.ntmps129
 go_wp2
 go_loopw [3,4] (fun a i wr=>∃ k:Nat,k≤4∧i = .int .i64 k∧a = .int .i64 (partM n k)∧wr=w) (fun _ i _=>4 - (intOf i).toNat)
 case atStart=>exact ⟨0,by omega,rfl,rfl,rfl⟩
 case round =>
  obtain ⟨k,hk,rfl,rfl,rfl⟩:=hrel
  rcases (by omega:k=0∨k=1∨k=2∨k=3∨k=4) with rfl | rfl | rfl | rfl | rfl
  · simp only [partM]
    go_wp2
    go_roundw
    case rel=>exact ⟨1,by omega,rfl,by simp [partM],by first | rfl | trivial⟩
    case measure=>simp [intOf]
  · simp only [partM]
    go_wp2
    go_roundw
    case rel=>exact ⟨2,by omega,rfl,by simp [partM],by first | rfl | trivial⟩
    case measure=>simp [intOf]
  · simp only [partM]
    go_wp2
    go_roundw
    case rel=>exact ⟨3,by omega,rfl,by simp [partM],by first | rfl | trivial⟩
    case measure=>simp [intOf]
  · simp only [partM]
    go_wp2
    go_roundw
    case rel=>exact ⟨4,by omega,rfl,by simp [partM,manyM],by first | rfl | trivial⟩
    case measure=>simp [intOf]
  · simp only [partM]
    go_wp2
    go_ret
    exact ⟨rfl,rfl⟩
set_option maxHeartbeats 1000000 in
theorem certValid_spec (s v g:Int) (w:World) :
  Calls Tryz.prog 128 #[.agg #[.int .i64 s,.int .i64 v,.int .i64 g]] w (BoolB (crtB ⟨s,v,g⟩) w):=by
 have HB:=Lib.hid ((Below.refl w.heap.size w).alloc (Nat.le_refl _) (.cells #[.int .i64 s,.int .i64 v,.int .i64 g] 29))
 cases e0:inB s 0 1000002 with
 | false =>
  have HE:Hid (crtB ⟨s,v,g⟩=false):=Lib.hid (by simp [crtB,e0])
  go_enter Tryz.func128,Tryz.ntmps128
  go_wp2_with (first | (go_at_call 84;refine (l1In_spec_hid _ _ _ _).mono ?_;rintro e w' ⟨rfl,rfl⟩))
  go_ret
  exact ⟨by rw [HE.out];rfl,HB.out⟩
 | true =>
 cases e1:inB v 0 1000 with
 | false =>
  have HE:Hid (crtB ⟨s,v,g⟩=false):=Lib.hid (by simp [crtB,e1])
  go_enter Tryz.func128,Tryz.ntmps128
  go_wp2_with (first | (go_at_call 84;refine (l1In_spec_hid _ _ _ _).mono ?_;rintro e w' ⟨rfl,rfl⟩))
  go_ret
  exact ⟨by rw [HE.out];rfl,HB.out⟩
 | true =>
 have HE:Hid (crtB ⟨s,v,g⟩=inB g 0 15):=Lib.hid (by simp [crtB,e0,e1])
 go_enter Tryz.func128,Tryz.ntmps128
 go_wp2_with (first | (go_at_call 84;refine (l1In_spec_hid _ _ _ _).mono ?_;rintro e w' ⟨rfl,rfl⟩))
 go_ret
 exact ⟨by rw [HE.out];rfl,HB.out⟩
set_option maxHeartbeats 1000000 in
theorem certCounts_spec (s v g:Int) (w:World) :
  Calls Tryz.prog 71 #[.agg #[.int .i64 s,.int .i64 v,.int .i64 g]] w (BoolB (cntB ⟨s,v,g⟩) w):=by
 have HB:=Lib.hid ((Below.refl w.heap.size w).alloc (Nat.le_refl _) (.cells #[.int .i64 s,.int .i64 v,.int .i64 g] 29))
 have HG:=Lib.hid (trAt_new w 29 (.int .i64 s) (.int .i64 v) (.int .i64 g))
 obtain ⟨x,hx⟩:∃ x,x=crtB ⟨s,v,g⟩:=⟨_,rfl⟩
 have HX:=Lib.hid hx.symm
 clear hx
 cases x with
 | false =>
  have HE:Hid (cntB ⟨s,v,g⟩=false):=Lib.hid (cntB_no HX.out)
  go_enter Tryz.func71,Tryz.ntmps71
  go_wp2_with fail
  refine (certValid_spec s v g _).mono ?_;rintro e w1 ⟨rfl,hb1⟩
  rw [HX.out]
  obtain ⟨c0,c1,c2,-⟩:=HG.out.below hb1
  have HB1:=Lib.hid (HB.out.trans (hb1.mono HB.out.size))
  clear hb1
  go_wp2_with fail
  go_ret
  exact ⟨by rw [HE.out];rfl,HB1.out⟩
 | true =>
  have HE:Hid (cntB ⟨s,v,g⟩=decide (3≤manyM g)):=Lib.hid (cntB_yes HX.out)
  have HS:=Lib.hid (crtB_true HX.out).2.2
  go_enter Tryz.func71,Tryz.ntmps71
  go_wp2_with fail
  refine (certValid_spec s v g _).mono ?_;rintro e w1 ⟨rfl,hb1⟩
  rw [HX.out]
  obtain ⟨c0,c1,c2,-⟩:=HG.out.below hb1
  have HB1:=Lib.hid (HB.out.trans (hb1.mono HB.out.size))
  clear hb1
  go_wp2_with fail
  refine (l15Many_spec g _ HS.out.1 HS.out.2).mono ?_;rintro e w2 ⟨rfl,rfl⟩
  go_wp2_with fail
  go_ret
  exact ⟨by rw [HE.out];rfl,HB1.out⟩
theorem areMembers_impl (n:Int) (w:World) :
  Calls Tryz.prog 138 #[.int .i64 n] w fun e w'=>e = .returned (.bool (inB n 0 15))∧w=w':=by
 by_cases h1:0≤n
 · by_cases h2:n≤15
   · rw [inB_yes h1 h2]
     have h3:decide (n < 16)=true:=by simp;omega
     go_enter Tryz.func138,Tryz.ntmps138
     go_wp2
     go_ret
     exact ⟨rfl,rfl⟩
   · rw [inB_no (by omega)]
     have h3:decide (n < 16)=false:=by simp;omega
     go_enter Tryz.func138,Tryz.ntmps138
     go_wp2
     go_ret
     exact ⟨rfl,rfl⟩
 · rw [inB_no (by omega)]
   go_enter Tryz.func138,Tryz.ntmps138
   go_wp2
   go_ret
   exact ⟨rfl,rfl⟩
theorem onesCount64_any (n:Int) (w:World) (h0:0≤n) (h1:n≤15) :
  Calls Tryz.prog 168 #[.int .u64 n] w fun e w'=>e = .returned (.int .i64 (manyM n))∧w=w':=by
 rcases (by omega:n=0∨n=1∨n=2∨n=3∨n=4∨n=5∨n=6∨n=7∨n=8∨n=9∨n=10∨n=11∨n=12∨n=13∨n=14∨n=15) with rfl | rfl | rfl | rfl | rfl | rfl | rfl | rfl | rfl | rfl | rfl | rfl | rfl | rfl | rfl | rfl
 all_goals
  go_enter Tryz.func168,Tryz.ntmps168
  go_wp2
  go_ret
  exact ⟨by kernel_rfl,rfl⟩
theorem onesCount_any (n:Int) (w:World) (h0:0≤n) (h1:n≤15) :
  Calls Tryz.prog 139 #[.int .u64 n] w fun e w'=>e = .returned (.int .i64 (manyM n))∧w=w':=by
 have HC:=Lib.hid (onesCount64_any n w h0 h1)
 go_enter Tryz.func139,Tryz.ntmps139
 go_wp2_with fail
 refine HC.out.mono ?_;rintro e w' ⟨rfl,rfl⟩
 go_wp2_with fail
 go_ret
 exact ⟨rfl,rfl⟩
theorem areQuorum_impl (n:Int) (w:World) (h0:0≤n) (h1:n≤15) :
  Calls Tryz.prog 77 #[.int .i64 n] w fun e w'=>e = .returned (.bool (decide (3≤manyM n)))∧w=w':=by
 have HC:=Lib.hid (onesCount_any n w h0 h1)
 go_enter Tryz.func77,Tryz.ntmps77
 go_wp2_with fail
 refine HC.out.mono ?_
 rintro e w' ⟨rfl,rfl⟩
 go_wp2_with fail
 go_ret
 exact ⟨by simp,rfl⟩
set_option maxHeartbeats 1000000 in
theorem certValid_impl (s v g:Int) (w:World) :
  Calls Tryz.prog 76 #[.agg #[.int .i64 s,.int .i64 v,.int .i64 g]] w (BoolB (crtB ⟨s,v,g⟩) w):=by
 have HB:=Lib.hid ((Below.refl w.heap.size w).alloc (Nat.le_refl _) (.cells #[.int .i64 s,.int .i64 v,.int .i64 g] 29))
 cases e0:inB s 0 1000002 with
 | false =>
  have HE:Hid (crtB ⟨s,v,g⟩=false):=Lib.hid (by simp [crtB,e0])
  go_enter Tryz.func76,Tryz.ntmps76
  go_wp2_with (first | (go_at_call 134;refine (isSum_impl _ _).mono ?_;rintro e w' ⟨rfl,rfl⟩) | (go_at_call 136;refine (isView_impl _ _).mono ?_;rintro e w' ⟨rfl,rfl⟩) | (go_at_call 138;refine (areMembers_impl _ _).mono ?_;rintro e w' ⟨rfl,rfl⟩))
  go_ret
  exact ⟨by rw [HE.out];rfl,HB.out⟩
 | true =>
 cases e1:inB v 0 1000 with
 | false =>
  have HE:Hid (crtB ⟨s,v,g⟩=false):=Lib.hid (by simp [crtB,e1])
  go_enter Tryz.func76,Tryz.ntmps76
  go_wp2_with (first | (go_at_call 134;refine (isSum_impl _ _).mono ?_;rintro e w' ⟨rfl,rfl⟩) | (go_at_call 136;refine (isView_impl _ _).mono ?_;rintro e w' ⟨rfl,rfl⟩) | (go_at_call 138;refine (areMembers_impl _ _).mono ?_;rintro e w' ⟨rfl,rfl⟩))
  go_ret
  exact ⟨by rw [HE.out];rfl,HB.out⟩
 | true =>
 have HE:Hid (crtB ⟨s,v,g⟩=inB g 0 15):=Lib.hid (by simp [crtB,e0,e1])
 go_enter Tryz.func76,Tryz.ntmps76
 go_wp2_with (first | (go_at_call 134;refine (isSum_impl _ _).mono ?_;rintro e w' ⟨rfl,rfl⟩) | (go_at_call 136;refine (isView_impl _ _).mono ?_;rintro e w' ⟨rfl,rfl⟩) | (go_at_call 138;refine (areMembers_impl _ _).mono ?_;rintro e w' ⟨rfl,rfl⟩))
 go_ret
 exact ⟨by rw [HE.out];rfl,HB.out⟩
set_option maxHeartbeats 1000000 in
theorem certCounts_impl (s v g:Int) (w:World) :
  Calls Tryz.prog 20 #[.agg #[.int .i64 s,.int .i64 v,.int .i64 g]] w (BoolB (cntB ⟨s,v,g⟩) w):=by
 have HB:=Lib.hid ((Below.refl w.heap.size w).alloc (Nat.le_refl _) (.cells #[.int .i64 s,.int .i64 v,.int .i64 g] 29))
 have HG:=Lib.hid (trAt_new w 29 (.int .i64 s) (.int .i64 v) (.int .i64 g))
 obtain ⟨x,hx⟩:∃ x,x=crtB ⟨s,v,g⟩:=⟨_,rfl⟩
 have HX:=Lib.hid hx.symm
 clear hx
 cases x with
 | false =>
  have HE:Hid (cntB ⟨s,v,g⟩=false):=Lib.hid (cntB_no HX.out)
  go_enter Tryz.func20,Tryz.ntmps20
  go_wp2_with fail
  refine (certValid_impl s v g _).mono ?_;rintro e w1 ⟨rfl,hb1⟩
  rw [HX.out]
  obtain ⟨c0,c1,c2,-⟩:=HG.out.below hb1
  have HB1:=Lib.hid (HB.out.trans (hb1.mono HB.out.size))
  clear hb1
  go_wp2_with fail
  go_ret
  exact ⟨by rw [HE.out];rfl,HB1.out⟩
 | true =>
  have HE:Hid (cntB ⟨s,v,g⟩=decide (3≤manyM g)):=Lib.hid (cntB_yes HX.out)
  have HS:=Lib.hid (crtB_true HX.out).2.2
  go_enter Tryz.func20,Tryz.ntmps20
  go_wp2_with fail
  refine (certValid_impl s v g _).mono ?_;rintro e w1 ⟨rfl,hb1⟩
  rw [HX.out]
  obtain ⟨c0,c1,c2,-⟩:=HG.out.below hb1
  have HB1:=Lib.hid (HB.out.trans (hb1.mono HB.out.size))
  clear hb1
  go_wp2_with fail
  refine (areQuorum_impl g _ HS.out.1 HS.out.2).mono ?_;rintro e w2 ⟨rfl,rfl⟩
  go_wp2_with fail
  go_ret
  exact ⟨by rw [HE.out];rfl,HB1.out⟩
def cbL (L:List Blk) (c:Crt):Int:=if findL L c.sum = -1 then -1 else if (blkAt L (findL L c.sum).toNat).view=c.view then findL L c.sum else -1
def cbN (L:List Blk) (c:Crt):Int:=if cntB c then cbL L c else -1
def cbM (t:Tre) (c:Crt):Int:=if treB t then cbN t.blocks c else -1
theorem cbM_no {t:Tre} {c:Crt} (h:treB t=false):cbM t c = -1:=by simp [cbM,h]
theorem cbM_yes {t:Tre} {c:Crt} (h:treB t=true):cbM t c=cbN t.blocks c:=by simp [cbM,h]
theorem cbN_cnt {L:List Blk} {c:Crt} (h:cntB c=false):cbN L c = -1:=by simp [cbN,h]
theorem cbN_none {L:List Blk} {c:Crt} (h:findL L c.sum = -1):cbN L c = -1:=by simp [cbN,cbL,h]
theorem cbN_view {L:List Blk} {c:Crt} {k:Nat} (h:findL L c.sum=k) (hv:(blkAt L k).view≠c.view):cbN L c = -1:=by
 have:(findL L c.sum).toNat=k:=by omega
 simp [cbN,cbL,this,hv]
theorem cbN_yes {L:List Blk} {c:Crt} {k:Nat} (hc:cntB c=true) (h:findL L c.sum=k) (hv:(blkAt L k).view=c.view):cbN L c=k:=by
 have h1:(findL L c.sum).toNat=k:=by omega
 have h2:¬ (findL L c.sum = -1):=by omega
 unfold cbN cbL
 rw [if_pos hc,if_neg h2,h1,if_pos hv,h]
set_option maxRecDepth 100000 in
set_option maxHeartbeats 8000000 in
theorem numberOfCertified_impl (Z m k2:Nat) (v1 v2 v3:Value) (t:Tre) (s v g:Int) (w:World) (hb:IxAt w Z v1 v2 v3 (.map (some m))) (hm:MapF w m k2 (idxF t.blocks)) (hr:TreRd w v1 v2 v3 t) (hs:(Lit.int .i64 s).wf=true) :
  Calls Tryz.prog 70 #[.pointer (some ⟨Z,0,none⟩),.agg #[.int .i64 s,.int .i64 v,.int .i64 g]] w (IntB (cbN t.blocks ⟨s,v,g⟩) w):=by
 obtain ⟨-,⟨a2,n2,c2,rfl,r2,-,-⟩,-⟩:=hr
 have hl2:t.blocks.length=n2:=r2.1
 have hm2:=r2.2.1
 unfold maxLen at hm2
 have hb0:=(Below.refl w.heap.size w).alloc (Nat.le_refl _) (.cells #[.int .i64 s,.int .i64 v,.int .i64 g] 29)
 have hg0:=trAt_new w 29 (.int .i64 s) (.int .i64 v) (.int .i64 g)
 have hbx:=hb.below hb0
 have hmp:=hm.below hb0
 have hr2:=r2.below hb0
 obtain ⟨w1,hw1⟩:∃ W1,W1=w.alloc (.cells #[.int .i64 s,.int .i64 v,.int .i64 g] 29):=⟨_,rfl⟩
 have HW1:=Lib.hid hw1
 rw [← hw1] at hb0 hg0 hbx hmp hr2
 have HB:=Lib.hid hb0
 have HG:=Lib.hid hg0
 have HBX:=Lib.hid hbx
 have HMP:=Lib.hid hmp
 have HS:=Lib.hid hs
 clear hb hm r2 hs hb0 hg0 hbx hmp hw1
 rcases findL_cases t.blocks s with ⟨hf,-⟩ | ⟨k,hk,hf,-,-⟩
 · have HE:=Lib.hid (cbN_none (L:=t.blocks) (c:=⟨s,v,g⟩) hf)
   go_enter Tryz.func70,Tryz.ntmps70
   go_upto_region 1 with (fail)
   rw [← HW1.out]
   clear HW1
   obtain ⟨d0,d1,d2,-⟩:=HG.out
   go_wp2_with fail
   refine (numberOf_impl Z m _ _ _ _ t.blocks s _ HBX.out HMP.out HS.out).mono ?_;rintro e w1x ⟨rfl,rfl⟩
   rw [hf]
   clear d0 d1 d2 hr2
   go_upto_region 2 with (fail)
   refine wp_region_light (by kernel_rfl) (fun lz fz wz=>Vals [(0,10,(.int .i64 (-1))),(1,11,(.bool true)),(2,12,(.bool true)),(15,25,(.bool true)),(16,26,(.bool true)),(20,30,(.bool true))] lz fz∧Facts w1 [] lz fz wz) 32 rfl [10,11,12,13,14,15,16,17,18,19,20,21,22,23,24,25,26,27,28,29,30] (by kernel_rfl) (by kernel_rfl) (by kernel_rfl) (fun f=>⟨Vals.nothing _ f,Facts.nothing _ _ f⟩) ?_ ?_
   · intro i hi
     rcases (by have:i < 21:=hi;omega:i=0∨i=1∨i=2∨i=3∨i=4∨i=5∨i=6∨i=7∨i=8∨i=9∨i=10∨i=11∨i=12∨i=13∨i=14∨i=15∨i=16∨i=17∨i=18∨i=19∨i=20) with rfl | rfl | rfl | rfl | rfl | rfl | rfl | rfl | rfl | rfl | rfl | rfl | rfl | rfl | rfl | rfl | rfl | rfl | rfl | rfl | rfl
     all_goals (clear hi;intro o ho lz fz w' A ⟨hv,hr⟩ hli ha hA K hK;obtain rfl:=Option.some.inj ho;clear ho)
     · have gg5:=so hA 5 _ rfl
       simp only [List.getD_cons_succ,List.getD_cons_zero] at gg5
       rw [if_pos (by rfl)]
       have hF:=hK _ w' ⟨hv.put 0 0 10 rfl rfl rfl,hr.nil⟩
       clear hv hr ha hK hA hli;go_simp;exact hF
     · have gg10:=sj hA 10 (hv.at 0 rfl (ha 0 (by decide)))
       rw [if_pos (by rfl)]
       have hF:=hK _ w' ⟨hv.put 1 1 11 rfl rfl rfl,hr.nil⟩
       clear hv hr ha hK hA hli;go_simp;exact hF
     · have gg11:=sj hA 11 (hv.at 1 rfl (ha 1 (by decide)))
       rw [if_pos (by rfl)]
       have hF:=hK _ w' ⟨hv.put 2 2 12 rfl rfl rfl,hr.nil⟩
       clear hv hr ha hK hA hli;go_simp;exact hF
     iterate 12
      · have g12:=si hA 12 (hv.at 2 rfl (ha 2 (by decide)))
        have gw:=slot_bool g12
        rw [if_neg (by simp [Region.wanted,yielded,gw])]
        exact hK undef w' ⟨hv.step _ _ _ (by simp),hr.step _ _ _ (Below.refl _ _) (by simp)⟩
     · have gg12:=sj hA 12 (hv.at 2 rfl (ha 2 (by decide)))
       rw [if_pos (by rfl)]
       have hF:=hK _ w' ⟨hv.put 3 15 25 rfl rfl rfl,hr.nil⟩
       clear hv hr ha hK hA hli;go_simp;exact hF
     · have gg25:=sj hA 25 (hv.at 3 rfl (ha 15 (by decide)))
       rw [if_pos (by rfl)]
       have hF:=hK _ w' ⟨hv.put 4 16 26 rfl rfl rfl,hr.nil⟩
       clear hv hr ha hK hA hli;go_simp;exact hF
     iterate 3
      · have g26:=si hA 26 (hv.at 4 rfl (ha 16 (by decide)))
        have gw:=slot_bool g26
        rw [if_neg (by simp [Region.wanted,yielded,gw])]
        exact hK undef w' ⟨hv.step _ _ _ (by simp),hr.step _ _ _ (Below.refl _ _) (by simp)⟩
     · have gg26:=sj hA 26 (hv.at 4 rfl (ha 16 (by decide)))
       rw [if_pos (by rfl)]
       have hF:=hK _ w' ⟨hv.put 5 20 30 rfl rfl rfl,hr.nil⟩
       clear hv hr ha hK hA hli;go_simp;exact hF
   · intro lz fz w2 hall ⟨hv,hq⟩
     have h30:=hv.at 5 rfl (hall 20 (by decide))
     have hbR:=hq.1
     clear hv hq hall
     simp only [mixF,List.contains_cons,List.contains_nil]
     go_simp
     have HBF:=Lib.hid (HB.out.trans (hbR.mono HB.out.size))
     clear hbR
     go_wp2_with fail
     go_ret
     exact ⟨by rw [HE.out];rfl,HBF.out⟩
 · obtain ⟨b,off,rfl,g0,g1,g2,g3,g4,g5⟩:=hr2.at k (by omega)
   obtain ⟨xv,hxv⟩:∃ xv,xv=(t.blocks.getD k noBlk).view:=⟨_,rfl⟩
   rw [← hxv] at g2
   have HXV:Hid ((blkAt t.blocks k).view=xv):=Lib.hid hxv.symm
   have HF:=Lib.hid hf
   have hkn:k < n2:=by omega
   have HKB:=Lib.hid (fun (W:World) (hb:Below w1.heap.size w1 W)=>(⟨HBX.out.below hb,(hb.cell (p:=⟨b,off+k*6+2,none⟩) (World.block_lt_of_cell? w1 ⟨b,off+k*6+2,none⟩ g2)).trans g2,HG.out.below hb⟩:IxAt W Z v1 (.slice (some ⟨b,off,none⟩) n2 c2) v3 (.map (some m))∧W.cell? ⟨b,off+k*6+2,none⟩=some (.int .i64 xv)∧TrAt W w.heap.size (.int .i64 s) (.int .i64 v) (.int .i64 g)))
   clear g0 g1 g2 g3 g4 g5 hxv hf hk hr2
   by_cases hv:xv=v
   · have e0:(xv != v)=false:=by simp [hv]
     obtain ⟨y,hy⟩:∃ y,y=cntB ⟨s,v,g⟩:=⟨_,rfl⟩
     have HY:=Lib.hid hy.symm
     have HXV2:=Lib.hid (HXV.out.trans hv)
     clear hv hy
     go_enter Tryz.func70,Tryz.ntmps70
     go_upto_region 1 with (fail)
     rw [← HW1.out]
     clear HW1
     obtain ⟨d0,d1,d2,-⟩:=HG.out
     go_wp2_with fail
     refine (numberOf_impl Z m _ _ _ _ t.blocks s _ HBX.out HMP.out HS.out).mono ?_;rintro e w1x ⟨rfl,rfl⟩
     rw [HF.out]
     clear d0 d1 d2
     go_upto_region 2 with (fail)
     refine wp_region_light (by kernel_rfl) (fun lz fz wz=>Vals [(0,10,(.int .i64 (k:Int))),(1,11,(.bool false)),(2,12,(.bool false)),(3,13,(.pointer (some ⟨Z,0,none⟩))),(4,14,(.pointer (some ⟨Z,0,none⟩))),(5,15,(.pointer (some ⟨Z,0,none⟩))),(6,16,(.pointer (some ⟨Z,1,none⟩))),(7,17,(.slice (some ⟨b,off,none⟩) n2 c2)),(8,18,(.int .i64 (k:Int))),(9,19,(.pointer (some ⟨b,off+k*6,none⟩))),(10,20,(.pointer (some ⟨b,off+k*6+2,none⟩))),(11,21,(.int .i64 xv)),(12,22,(.pointer (some ⟨w.heap.size,1,none⟩))),(13,23,(.int .i64 v)),(14,24,(.bool false)),(15,25,(.bool false)),(16,26,(.bool false)),(17,27,(.agg #[.int .i64 s,.int .i64 v,.int .i64 g])),(18,28,(.bool y)),(19,29,(.bool (!y))),(20,30,(.bool (!y)))] lz fz∧Facts w1 [] lz fz wz) 32 rfl [10,11,12,13,14,15,16,17,18,19,20,21,22,23,24,25,26,27,28,29,30] (by kernel_rfl) (by kernel_rfl) (by kernel_rfl) (fun f=>⟨Vals.nothing _ f,Facts.nothing _ _ f⟩) ?_ ?_
     · intro i hi
       rcases (by have:i < 21:=hi;omega:i=0∨i=1∨i=2∨i=3∨i=4∨i=5∨i=6∨i=7∨i=8∨i=9∨i=10∨i=11∨i=12∨i=13∨i=14∨i=15∨i=16∨i=17∨i=18∨i=19∨i=20) with rfl | rfl | rfl | rfl | rfl | rfl | rfl | rfl | rfl | rfl | rfl | rfl | rfl | rfl | rfl | rfl | rfl | rfl | rfl | rfl | rfl
       all_goals (clear hi;intro o ho lz fz w' A ⟨hv,hr⟩ hli ha hA K hK;obtain rfl:=Option.some.inj ho;clear ho)
       · have gg5:=so hA 5 _ rfl
         simp only [List.getD_cons_succ,List.getD_cons_zero] at gg5
         rw [if_pos (by rfl)]
         have hF:=hK _ w' ⟨hv.put 0 0 10 rfl rfl rfl,hr.nil⟩
         clear hv hr ha hK hA hli;go_simp;exact hF
       · have gg10:=sj hA 10 (hv.at 0 rfl (ha 0 (by decide)))
         rw [if_pos (by rfl)]
         have hF:=hK _ w' ⟨hv.put 1 1 11 rfl rfl rfl,hr.nil⟩
         clear hv hr ha hK hA hli;go_simp;exact hF
       · have gg11:=sj hA 11 (hv.at 1 rfl (ha 1 (by decide)))
         rw [if_pos (by rfl)]
         have hF:=hK _ w' ⟨hv.put 2 2 12 rfl rfl rfl,hr.nil⟩
         clear hv hr ha hK hA hli;go_simp;exact hF
       · have gg0:=so hA 0 _ rfl
         simp only [List.getD_cons_succ,List.getD_cons_zero] at gg0
         have g12:=si hA 12 (hv.at 2 rfl (ha 2 (by decide)))
         have gg12:=slot_get g12
         rw [if_pos (by simp [Region.wanted,yielded,slot_bool g12])]
         have hF:=hK _ w' ⟨hv.put 3 3 13 rfl rfl rfl,hr.nil⟩
         clear hv hr ha hK hA hli;go_simp;exact hF
       · have gg13:=sj hA 13 (hv.at 3 rfl (ha 3 (by decide)))
         have g12:=si hA 12 (hv.at 2 rfl (ha 2 (by decide)))
         have gg12:=slot_get g12
         rw [if_pos (by simp [Region.wanted,yielded,slot_bool g12])]
         have hF:=hK _ w' ⟨hv.put 4 4 14 rfl rfl rfl,hr.nil⟩
         clear hv hr ha hK hA hli;go_simp;exact hF
       · have gg14:=sj hA 14 (hv.at 4 rfl (ha 4 (by decide)))
         have g12:=si hA 12 (hv.at 2 rfl (ha 2 (by decide)))
         have gg12:=slot_get g12
         rw [if_pos (by simp [Region.wanted,yielded,slot_bool g12])]
         have hF:=hK _ w' ⟨hv.put 5 5 15 rfl rfl rfl,hr.nil⟩
         clear hv hr ha hK hA hli;go_simp;exact hF
       · have gg15:=sj hA 15 (hv.at 5 rfl (ha 5 (by decide)))
         have g12:=si hA 12 (hv.at 2 rfl (ha 2 (by decide)))
         have gg12:=slot_get g12
         rw [if_pos (by simp [Region.wanted,yielded,slot_bool g12])]
         have hF:=hK _ w' ⟨hv.put 6 6 16 rfl rfl rfl,hr.nil⟩
         clear hv hr ha hK hA hli;go_simp;exact hF
       · have gg16:=sj hA 16 (hv.at 6 rfl (ha 6 (by decide)))
         have g12:=si hA 12 (hv.at 2 rfl (ha 2 (by decide)))
         have gg12:=slot_get g12
         rw [if_pos (by simp [Region.wanted,yielded,slot_bool g12])]
         obtain ⟨x0,x1,x2,x3,-⟩:=(HKB.out w' hr.1).1
         have hF:=hK _ w' ⟨hv.put 7 7 17 rfl rfl rfl,hr.nil⟩
         clear hv hr ha hK hA hli;go_simp;exact hF
       · have gg5:=so hA 5 _ rfl
         simp only [List.getD_cons_succ,List.getD_cons_zero] at gg5
         have g12:=si hA 12 (hv.at 2 rfl (ha 2 (by decide)))
         have gg12:=slot_get g12
         rw [if_pos (by simp [Region.wanted,yielded,slot_bool g12])]
         have hF:=hK _ w' ⟨hv.put 8 8 18 rfl rfl rfl,hr.nil⟩
         clear hv hr ha hK hA hli;go_simp;exact hF
       · have gg17:=sj hA 17 (hv.at 7 rfl (ha 7 (by decide)))
         have gg18:=sj hA 18 (hv.at 8 rfl (ha 8 (by decide)))
         have g12:=si hA 12 (hv.at 2 rfl (ha 2 (by decide)))
         have gg12:=slot_get g12
         rw [if_pos (by simp [Region.wanted,yielded,slot_bool g12])]
         have hF:=hK _ w' ⟨hv.put 9 9 19 rfl rfl rfl,hr.nil⟩
         clear hv hr ha hK hA hli;go_simp;exact hF
       · have gg19:=sj hA 19 (hv.at 9 rfl (ha 9 (by decide)))
         have g12:=si hA 12 (hv.at 2 rfl (ha 2 (by decide)))
         have gg12:=slot_get g12
         rw [if_pos (by simp [Region.wanted,yielded,slot_bool g12])]
         have hF:=hK _ w' ⟨hv.put 10 10 20 rfl rfl rfl,hr.nil⟩
         clear hv hr ha hK hA hli;go_simp;exact hF
       · have gg20:=sj hA 20 (hv.at 10 rfl (ha 10 (by decide)))
         have g12:=si hA 12 (hv.at 2 rfl (ha 2 (by decide)))
         have gg12:=slot_get g12
         rw [if_pos (by simp [Region.wanted,yielded,slot_bool g12])]
         have g2':=(HKB.out w' hr.1).2.1
         have hF:=hK _ w' ⟨hv.put 11 11 21 rfl rfl rfl,hr.nil⟩
         clear hv hr ha hK hA hli;go_simp;exact hF
       · have gg3:=so hA 3 _ rfl
         simp only [List.getD_cons_succ,List.getD_cons_zero] at gg3
         have g12:=si hA 12 (hv.at 2 rfl (ha 2 (by decide)))
         have gg12:=slot_get g12
         rw [if_pos (by simp [Region.wanted,yielded,slot_bool g12])]
         have hF:=hK _ w' ⟨hv.put 12 12 22 rfl rfl rfl,hr.nil⟩
         clear hv hr ha hK hA hli;go_simp;exact hF
       · have gg22:=sj hA 22 (hv.at 12 rfl (ha 12 (by decide)))
         have g12:=si hA 12 (hv.at 2 rfl (ha 2 (by decide)))
         have gg12:=slot_get g12
         rw [if_pos (by simp [Region.wanted,yielded,slot_bool g12])]
         obtain ⟨y0,y1,y2,-⟩:=(HKB.out w' hr.1).2.2
         have hF:=hK _ w' ⟨hv.put 13 13 23 rfl rfl rfl,hr.nil⟩
         clear hv hr ha hK hA hli;go_simp;exact hF
       · have gg21:=sj hA 21 (hv.at 11 rfl (ha 11 (by decide)))
         have gg23:=sj hA 23 (hv.at 13 rfl (ha 13 (by decide)))
         have g12:=si hA 12 (hv.at 2 rfl (ha 2 (by decide)))
         have gg12:=slot_get g12
         rw [if_pos (by simp [Region.wanted,yielded,slot_bool g12])]
         have hF:=hK _ w' ⟨hv.put 14 14 24 rfl rfl rfl,hr.nil⟩
         clear hv hr ha hK hA hli;go_simp;exact hF
       · have gg12:=sj hA 12 (hv.at 2 rfl (ha 2 (by decide)))
         have gg24:=sj hA 24 (hv.at 14 rfl (ha 14 (by decide)))
         rw [if_pos (by rfl)]
         have hF:=hK _ w' ⟨hv.put 15 15 25 rfl rfl rfl,hr.nil⟩
         clear hv hr ha hK hA hli;go_simp;exact hF
       · have gg25:=sj hA 25 (hv.at 15 rfl (ha 15 (by decide)))
         rw [if_pos (by rfl)]
         have hF:=hK _ w' ⟨hv.put 16 16 26 rfl rfl rfl,hr.nil⟩
         clear hv hr ha hK hA hli;go_simp;exact hF
       · have gg3:=so hA 3 _ rfl
         simp only [List.getD_cons_succ,List.getD_cons_zero] at gg3
         have g26:=si hA 26 (hv.at 16 rfl (ha 16 (by decide)))
         have gg26:=slot_get g26
         rw [if_pos (by simp [Region.wanted,yielded,slot_bool g26])]
         obtain ⟨y0,y1,y2,-⟩:=(HKB.out w' hr.1).2.2
         have hF:=hK _ w' ⟨hv.put 17 17 27 rfl rfl rfl,hr.nil⟩
         clear hv hr ha hK hA hli;go_simp;exact hF
       · have gg27:=sj hA 27 (hv.at 17 rfl (ha 17 (by decide)))
         have g26:=si hA 26 (hv.at 16 rfl (ha 16 (by decide)))
         have gg26:=slot_get g26
         rw [if_pos (by simp [Region.wanted,yielded,slot_bool g26])]
         clear hA
         go_simp
         refine (certCounts_impl s v g w').mono ?_
         rintro e9 w9 ⟨rfl,hb9⟩
         rw [HY.out]
         exact hK (.bool y) w9 ⟨hv.step 18 28 _ (by simp),hr.step 18 28 _ hb9 (by simp)⟩
       · have gg28:=sj hA 28 (hv.at 18 rfl (ha 18 (by decide)))
         have g26:=si hA 26 (hv.at 16 rfl (ha 16 (by decide)))
         have gg26:=slot_get g26
         rw [if_pos (by simp [Region.wanted,yielded,slot_bool g26])]
         have hF:=hK _ w' ⟨hv.put 19 19 29 rfl rfl rfl,hr.nil⟩
         clear hv hr ha hK hA hli;go_simp;exact hF
       · have gg26:=sj hA 26 (hv.at 16 rfl (ha 16 (by decide)))
         have gg29:=sj hA 29 (hv.at 19 rfl (ha 19 (by decide)))
         rw [if_pos (by rfl)]
         have hF:=hK _ w' ⟨hv.put 20 20 30 rfl rfl rfl,hr.nil⟩
         clear hv hr ha hK hA hli;go_simp;exact hF
     · intro lz fz w2 hall ⟨hv,hq⟩
       have h30:=hv.at 20 rfl (hall 20 (by decide))
       have hbR:=hq.1
       clear hv hq hall
       simp only [mixF,List.contains_cons,List.contains_nil]
       go_simp
       have HBF:=Lib.hid (HB.out.trans (hbR.mono HB.out.size))
       clear hbR
       cases y with
       | false =>
        have HE:=Lib.hid (cbN_cnt (L:=t.blocks) HY.out)
        go_wp2_with fail
        go_ret
        exact ⟨by rw [HE.out];rfl,HBF.out⟩
       | true =>
        have HE:=Lib.hid (cbN_yes (L:=t.blocks) HY.out HF.out HXV2.out)
        go_wp2_with fail
        go_ret
        exact ⟨by rw [HE.out];rfl,HBF.out⟩
   · have e0:(xv != v)=true:=by simp [hv]
     have HE:=Lib.hid (cbN_view (L:=t.blocks) (c:=⟨s,v,g⟩) HF.out (by rw [HXV.out];exact hv))
     clear hv
     go_enter Tryz.func70,Tryz.ntmps70
     go_upto_region 1 with (fail)
     rw [← HW1.out]
     clear HW1
     obtain ⟨d0,d1,d2,-⟩:=HG.out
     go_wp2_with fail
     refine (numberOf_impl Z m _ _ _ _ t.blocks s _ HBX.out HMP.out HS.out).mono ?_;rintro e w1x ⟨rfl,rfl⟩
     rw [HF.out]
     clear d0 d1 d2
     go_upto_region 2 with (fail)
     refine wp_region_light (by kernel_rfl) (fun lz fz wz=>Vals [(0,10,(.int .i64 (k:Int))),(1,11,(.bool false)),(2,12,(.bool false)),(3,13,(.pointer (some ⟨Z,0,none⟩))),(4,14,(.pointer (some ⟨Z,0,none⟩))),(5,15,(.pointer (some ⟨Z,0,none⟩))),(6,16,(.pointer (some ⟨Z,1,none⟩))),(7,17,(.slice (some ⟨b,off,none⟩) n2 c2)),(8,18,(.int .i64 (k:Int))),(9,19,(.pointer (some ⟨b,off+k*6,none⟩))),(10,20,(.pointer (some ⟨b,off+k*6+2,none⟩))),(11,21,(.int .i64 xv)),(12,22,(.pointer (some ⟨w.heap.size,1,none⟩))),(13,23,(.int .i64 v)),(14,24,(.bool true)),(15,25,(.bool true)),(16,26,(.bool true)),(20,30,(.bool true))] lz fz∧Facts w1 [] lz fz wz) 32 rfl [10,11,12,13,14,15,16,17,18,19,20,21,22,23,24,25,26,27,28,29,30] (by kernel_rfl) (by kernel_rfl) (by kernel_rfl) (fun f=>⟨Vals.nothing _ f,Facts.nothing _ _ f⟩) ?_ ?_
     · intro i hi
       rcases (by have:i < 21:=hi;omega:i=0∨i=1∨i=2∨i=3∨i=4∨i=5∨i=6∨i=7∨i=8∨i=9∨i=10∨i=11∨i=12∨i=13∨i=14∨i=15∨i=16∨i=17∨i=18∨i=19∨i=20) with rfl | rfl | rfl | rfl | rfl | rfl | rfl | rfl | rfl | rfl | rfl | rfl | rfl | rfl | rfl | rfl | rfl | rfl | rfl | rfl | rfl
       all_goals (clear hi;intro o ho lz fz w' A ⟨hv,hr⟩ hli ha hA K hK;obtain rfl:=Option.some.inj ho;clear ho)
       · have gg5:=so hA 5 _ rfl
         simp only [List.getD_cons_succ,List.getD_cons_zero] at gg5
         rw [if_pos (by rfl)]
         have hF:=hK _ w' ⟨hv.put 0 0 10 rfl rfl rfl,hr.nil⟩
         clear hv hr ha hK hA hli;go_simp;exact hF
       · have gg10:=sj hA 10 (hv.at 0 rfl (ha 0 (by decide)))
         rw [if_pos (by rfl)]
         have hF:=hK _ w' ⟨hv.put 1 1 11 rfl rfl rfl,hr.nil⟩
         clear hv hr ha hK hA hli;go_simp;exact hF
       · have gg11:=sj hA 11 (hv.at 1 rfl (ha 1 (by decide)))
         rw [if_pos (by rfl)]
         have hF:=hK _ w' ⟨hv.put 2 2 12 rfl rfl rfl,hr.nil⟩
         clear hv hr ha hK hA hli;go_simp;exact hF
       · have gg0:=so hA 0 _ rfl
         simp only [List.getD_cons_succ,List.getD_cons_zero] at gg0
         have g12:=si hA 12 (hv.at 2 rfl (ha 2 (by decide)))
         have gg12:=slot_get g12
         rw [if_pos (by simp [Region.wanted,yielded,slot_bool g12])]
         have hF:=hK _ w' ⟨hv.put 3 3 13 rfl rfl rfl,hr.nil⟩
         clear hv hr ha hK hA hli;go_simp;exact hF
       · have gg13:=sj hA 13 (hv.at 3 rfl (ha 3 (by decide)))
         have g12:=si hA 12 (hv.at 2 rfl (ha 2 (by decide)))
         have gg12:=slot_get g12
         rw [if_pos (by simp [Region.wanted,yielded,slot_bool g12])]
         have hF:=hK _ w' ⟨hv.put 4 4 14 rfl rfl rfl,hr.nil⟩
         clear hv hr ha hK hA hli;go_simp;exact hF
       · have gg14:=sj hA 14 (hv.at 4 rfl (ha 4 (by decide)))
         have g12:=si hA 12 (hv.at 2 rfl (ha 2 (by decide)))
         have gg12:=slot_get g12
         rw [if_pos (by simp [Region.wanted,yielded,slot_bool g12])]
         have hF:=hK _ w' ⟨hv.put 5 5 15 rfl rfl rfl,hr.nil⟩
         clear hv hr ha hK hA hli;go_simp;exact hF
       · have gg15:=sj hA 15 (hv.at 5 rfl (ha 5 (by decide)))
         have g12:=si hA 12 (hv.at 2 rfl (ha 2 (by decide)))
         have gg12:=slot_get g12
         rw [if_pos (by simp [Region.wanted,yielded,slot_bool g12])]
         have hF:=hK _ w' ⟨hv.put 6 6 16 rfl rfl rfl,hr.nil⟩
         clear hv hr ha hK hA hli;go_simp;exact hF
       · have gg16:=sj hA 16 (hv.at 6 rfl (ha 6 (by decide)))
         have g12:=si hA 12 (hv.at 2 rfl (ha 2 (by decide)))
         have gg12:=slot_get g12
         rw [if_pos (by simp [Region.wanted,yielded,slot_bool g12])]
         obtain ⟨x0,x1,x2,x3,-⟩:=(HKB.out w' hr.1).1
         have hF:=hK _ w' ⟨hv.put 7 7 17 rfl rfl rfl,hr.nil⟩
         clear hv hr ha hK hA hli;go_simp;exact hF
       · have gg5:=so hA 5 _ rfl
         simp only [List.getD_cons_succ,List.getD_cons_zero] at gg5
         have g12:=si hA 12 (hv.at 2 rfl (ha 2 (by decide)))
         have gg12:=slot_get g12
         rw [if_pos (by simp [Region.wanted,yielded,slot_bool g12])]
         have hF:=hK _ w' ⟨hv.put 8 8 18 rfl rfl rfl,hr.nil⟩
         clear hv hr ha hK hA hli;go_simp;exact hF
       · have gg17:=sj hA 17 (hv.at 7 rfl (ha 7 (by decide)))
         have gg18:=sj hA 18 (hv.at 8 rfl (ha 8 (by decide)))
         have g12:=si hA 12 (hv.at 2 rfl (ha 2 (by decide)))
         have gg12:=slot_get g12
         rw [if_pos (by simp [Region.wanted,yielded,slot_bool g12])]
         have hF:=hK _ w' ⟨hv.put 9 9 19 rfl rfl rfl,hr.nil⟩
         clear hv hr ha hK hA hli;go_simp;exact hF
       · have gg19:=sj hA 19 (hv.at 9 rfl (ha 9 (by decide)))
         have g12:=si hA 12 (hv.at 2 rfl (ha 2 (by decide)))
         have gg12:=slot_get g12
         rw [if_pos (by simp [Region.wanted,yielded,slot_bool g12])]
         have hF:=hK _ w' ⟨hv.put 10 10 20 rfl rfl rfl,hr.nil⟩
         clear hv hr ha hK hA hli;go_simp;exact hF
       · have gg20:=sj hA 20 (hv.at 10 rfl (ha 10 (by decide)))
         have g12:=si hA 12 (hv.at 2 rfl (ha 2 (by decide)))
         have gg12:=slot_get g12
         rw [if_pos (by simp [Region.wanted,yielded,slot_bool g12])]
         have g2':=(HKB.out w' hr.1).2.1
         have hF:=hK _ w' ⟨hv.put 11 11 21 rfl rfl rfl,hr.nil⟩
         clear hv hr ha hK hA hli;go_simp;exact hF
       · have gg3:=so hA 3 _ rfl
         simp only [List.getD_cons_succ,List.getD_cons_zero] at gg3
         have g12:=si hA 12 (hv.at 2 rfl (ha 2 (by decide)))
         have gg12:=slot_get g12
         rw [if_pos (by simp [Region.wanted,yielded,slot_bool g12])]
         have hF:=hK _ w' ⟨hv.put 12 12 22 rfl rfl rfl,hr.nil⟩
         clear hv hr ha hK hA hli;go_simp;exact hF
       · have gg22:=sj hA 22 (hv.at 12 rfl (ha 12 (by decide)))
         have g12:=si hA 12 (hv.at 2 rfl (ha 2 (by decide)))
         have gg12:=slot_get g12
         rw [if_pos (by simp [Region.wanted,yielded,slot_bool g12])]
         obtain ⟨y0,y1,y2,-⟩:=(HKB.out w' hr.1).2.2
         have hF:=hK _ w' ⟨hv.put 13 13 23 rfl rfl rfl,hr.nil⟩
         clear hv hr ha hK hA hli;go_simp;exact hF
       · have gg21:=sj hA 21 (hv.at 11 rfl (ha 11 (by decide)))
         have gg23:=sj hA 23 (hv.at 13 rfl (ha 13 (by decide)))
         have g12:=si hA 12 (hv.at 2 rfl (ha 2 (by decide)))
         have gg12:=slot_get g12
         rw [if_pos (by simp [Region.wanted,yielded,slot_bool g12])]
         have hF:=hK _ w' ⟨hv.put 14 14 24 rfl rfl rfl,hr.nil⟩
         clear hv hr ha hK hA hli;go_simp;exact hF
       · have gg12:=sj hA 12 (hv.at 2 rfl (ha 2 (by decide)))
         have gg24:=sj hA 24 (hv.at 14 rfl (ha 14 (by decide)))
         rw [if_pos (by rfl)]
         have hF:=hK _ w' ⟨hv.put 15 15 25 rfl rfl rfl,hr.nil⟩
         clear hv hr ha hK hA hli;go_simp;exact hF
       · have gg25:=sj hA 25 (hv.at 15 rfl (ha 15 (by decide)))
         rw [if_pos (by rfl)]
         have hF:=hK _ w' ⟨hv.put 16 16 26 rfl rfl rfl,hr.nil⟩
         clear hv hr ha hK hA hli;go_simp;exact hF
       iterate 3
        · have g26:=si hA 26 (hv.at 16 rfl (ha 16 (by decide)))
          have gw:=slot_bool g26
          rw [if_neg (by simp [Region.wanted,yielded,gw])]
          exact hK undef w' ⟨hv.step _ _ _ (by simp),hr.step _ _ _ (Below.refl _ _) (by simp)⟩
       · have gg26:=sj hA 26 (hv.at 16 rfl (ha 16 (by decide)))
         rw [if_pos (by rfl)]
         have hF:=hK _ w' ⟨hv.put 17 20 30 rfl rfl rfl,hr.nil⟩
         clear hv hr ha hK hA hli;go_simp;exact hF
     · intro lz fz w2 hall ⟨hv,hq⟩
       have h30:=hv.at 17 rfl (hall 20 (by decide))
       have hbR:=hq.1
       clear hv hq hall
       simp only [mixF,List.contains_cons,List.contains_nil]
       go_simp
       have HBF:=Lib.hid (HB.out.trans (hbR.mono HB.out.size))
       clear hbR
       go_wp2_with fail
       go_ret
       exact ⟨by rw [HE.out];rfl,HBF.out⟩
set_option maxHeartbeats 4000000 in
theorem certBlock_spec (v1 v2 v3:Value) (t:Tre) (s v g:Int) (w:World) (h:TreRd w v1 v2 v3 t) (hs:(Lit.int .i64 s).wf=true) :
  Calls Tryz.prog 17 #[.agg #[v1,v2,v3],.agg #[.int .i64 s,.int .i64 v,.int .i64 g]] w (IntB (cbM t ⟨s,v,g⟩) w):=by
 have hrd:=h
 obtain ⟨⟨a1,n1,c1,rfl,-⟩,⟨a2,n2,c2,rfl,-⟩,a3,n3,c3,rfl,-⟩:=h
 have hb0:=((Below.refl w.heap.size w).alloc (Nat.le_refl _) (.cells #[.slice a1 n1 c1,.slice a2 n2 c2,.slice a3 n3 c3] 27)).alloc (by simp) (.cells #[.int .i64 s,.int .i64 v,.int .i64 g] 29)
 have hg0:=(trAt_new w 27 (.slice a1 n1 c1) (.slice a2 n2 c2) (.slice a3 n3 c3)).below ((Below.refl _ _).alloc (Nat.le_refl _) (.cells #[.int .i64 s,.int .i64 v,.int .i64 g] 29))
 have hc0:=trAt_new (w.alloc (.cells #[.slice a1 n1 c1,.slice a2 n2 c2,.slice a3 n3 c3] 27)) 29 (.int .i64 s) (.int .i64 v) (.int .i64 g)
 rw [World.size_alloc] at hc0
 have hr0:=hrd.below hb0
 obtain ⟨W1,hW1⟩:∃ W1,W1=(w.alloc (.cells #[.slice a1 n1 c1,.slice a2 n2 c2,.slice a3 n3 c3] 27)).alloc (.cells #[.int .i64 s,.int .i64 v,.int .i64 g] 29):=⟨_,rfl⟩
 have HW1:=Lib.hid hW1
 rw [← hW1] at hb0 hg0 hr0 hc0
 clear hW1 hrd
 have HB:=Lib.hid hb0
 have HRD:=Lib.hid hr0
 have HG:=Lib.hid hg0
 have HC:=Lib.hid hc0
 have HS:=Lib.hid hs
 obtain ⟨x0,x1,x2,-⟩:=hg0
 obtain ⟨y0,y1,y2,-⟩:=hc0
 clear hb0 hr0 hs
 go_enter Tryz.func17,Tryz.ntmps17
 go_upto_region 1 with (fail)
 rw [← HW1.out]
 clear HW1
 go_wp2_with fail
 refine (blockTreeValid_spec _ _ _ t _ HRD.out).mono ?_;rintro e w2 ⟨rfl,hb2⟩
 have HB2:=Lib.hid (HB.out.trans (hb2.mono HB.out.size))
 have HRD2:=Lib.hid (HRD.out.below hb2)
 have HC2:=Lib.hid (HC.out.below hb2)
 have HG2:=Lib.hid (HG.out.below hb2)
 clear x0 x1 x2 y0 y1 y2 hb2 HRD HC HG
 cases ht:treB t with
 | false =>
  have HF:=Lib.hid (cbM_no (c:=⟨s,v,g⟩) ht)
  clear ht
  go_wp2_with fail
  go_ret
  exact ⟨by rw [HF.out];rfl,HB2.out⟩
 | true =>
  have HF:=Lib.hid (cbM_yes (c:=⟨s,v,g⟩) ht)
  clear ht
  obtain ⟨y0,y1,y2,-⟩:=HC2.out
  go_wp2_with fail
  refine (certCounts_spec s v g _).mono ?_;rintro e w3 ⟨rfl,hb3⟩
  have HB3:=Lib.hid (HB2.out.trans (hb3.mono HB2.out.size))
  have HRD3:=Lib.hid (HRD2.out.below hb3)
  have HC3:=Lib.hid (HC2.out.below hb3)
  have HG3:=Lib.hid (HG2.out.below hb3)
  clear y0 y1 y2 hb3 HRD2 HC2 HG2
  cases hc:cntB ⟨s,v,g⟩ with
  | false =>
   have HE:=Lib.hid (cbN_cnt (L:=t.blocks) hc)
   clear hc
   go_wp2_with fail
   go_ret
   exact ⟨by rw [HF.out,HE.out];rfl,HB3.out⟩
  | true =>
   have HCN:=Lib.hid hc
   clear hc
   obtain ⟨y0,y1,y2,-⟩:=HC3.out
   obtain ⟨x0,x1,x2,-⟩:=HG3.out
   go_wp2_with fail
   refine (l13Find_spec _ _ _ t s _ HRD3.out).mono ?_;rintro e w4 ⟨rfl,hb4⟩
   have HB4:=Lib.hid (HB3.out.trans (hb4.mono HB3.out.size))
   have hrd4:=HRD3.out.below hb4
   have HC4:=Lib.hid (HC3.out.below hb4)
   have HG4:=Lib.hid (HG3.out.below hb4)
   clear y0 y1 y2 x0 x1 x2 hb4 HRD3 HC3 HG3
   rcases findL_cases t.blocks s with ⟨hf,-⟩ | ⟨k,hk,hf,-,-⟩
   · have HE:=Lib.hid (cbN_none (L:=t.blocks) (c:=⟨s,v,g⟩) hf)
     rw [hf]
     clear hrd4 hf
     go_upto_region 4 with (fail)
     refine wp_region_light (by kernel_rfl) (fun lz fz wz=>Vals [(0,18,(.int .i64 (-1))),(1,19,(.bool true)),(2,20,(.bool true)),(12,30,(.bool true))] lz fz∧Facts w4 [] lz fz wz) 32 rfl [18,19,20,21,22,23,24,25,26,27,28,29,30] (by kernel_rfl) (by kernel_rfl) (by kernel_rfl) (fun f=>⟨Vals.nothing _ f,Facts.nothing _ _ f⟩) ?_ ?_
     · intro i hi
       rcases (by have:i < 13:=hi;omega:i=0∨i=1∨i=2∨i=3∨i=4∨i=5∨i=6∨i=7∨i=8∨i=9∨i=10∨i=11∨i=12) with rfl | rfl | rfl | rfl | rfl | rfl | rfl | rfl | rfl | rfl | rfl | rfl | rfl
       all_goals (clear hi;intro o ho lz fz w' A ⟨hv,hr⟩ hli ha hA K hK;obtain rfl:=Option.some.inj ho;clear ho)
       · have gg5:=so hA 5 _ rfl
         simp only [List.getD_cons_succ,List.getD_cons_zero] at gg5
         rw [if_pos (by rfl)]
         have hF:=hK _ w' ⟨hv.put 0 0 18 rfl rfl rfl,hr.nil⟩
         clear hv hr ha hK hA hli;go_simp;exact hF
       · have gg18:=sj hA 18 (hv.at 0 rfl (ha 0 (by decide)))
         rw [if_pos (by rfl)]
         have hF:=hK _ w' ⟨hv.put 1 1 19 rfl rfl rfl,hr.nil⟩
         clear hv hr ha hK hA hli;go_simp;exact hF
       · have gg19:=sj hA 19 (hv.at 1 rfl (ha 1 (by decide)))
         rw [if_pos (by rfl)]
         have hF:=hK _ w' ⟨hv.put 2 2 20 rfl rfl rfl,hr.nil⟩
         clear hv hr ha hK hA hli;go_simp;exact hF
       iterate 9
        · have g20:=si hA 20 (hv.at 2 rfl (ha 2 (by decide)))
          have gw:=slot_bool g20
          rw [if_neg (by simp [Region.wanted,yielded,gw])]
          exact hK undef w' ⟨hv.step _ _ _ (by simp),hr.step _ _ _ (Below.refl _ _) (by simp)⟩
       · have gg20:=sj hA 20 (hv.at 2 rfl (ha 2 (by decide)))
         rw [if_pos (by rfl)]
         have hF:=hK _ w' ⟨hv.put 3 12 30 rfl rfl rfl,hr.nil⟩
         clear hv hr ha hK hA hli;go_simp;exact hF
     · intro lz fz w5 hall ⟨hv,hq⟩
       have h30:=hv.at 3 rfl (hall 12 (by decide))
       have hbR:=hq.1
       clear hv hq hall
       simp only [mixF,List.contains_cons,List.contains_nil]
       go_simp
       have HBF:=Lib.hid (HB4.out.trans (hbR.mono HB4.out.size))
       clear hbR
       go_wp2_with fail
       go_ret
       exact ⟨by rw [HF.out,HE.out];rfl,HBF.out⟩
   · obtain ⟨-,⟨a2',n2',c2',hq,r2,-,-⟩,-⟩:=hrd4
     obtain ⟨rfl,rfl,rfl⟩:a2'=a2∧n2'=n2∧c2'=c2:=by simp only [Value.slice.injEq] at hq;exact ⟨hq.1.symm,hq.2.1.symm,hq.2.2.symm⟩
     have hl2:t.blocks.length=n2':=r2.1
     have hm2:=r2.2.1
     unfold maxLen at hm2
     obtain ⟨b,off,rfl,g0,g1,g2,g3,g4,g5⟩:=r2.at k (by omega)
     obtain ⟨xv,hxv⟩:∃ xv,xv=(t.blocks.getD k noBlk).view:=⟨_,rfl⟩
     rw [← hxv] at g2
     have HXV:Hid ((blkAt t.blocks k).view=xv):=Lib.hid hxv.symm
     have HFK:=Lib.hid hf
     have hkn:k < n2':=by omega
     rw [hf]
     clear g0 g1 g3 g4 g5 hq r2 hxv hf hk hl2
     have HKB:=Lib.hid (fun (W:World) (hb:Below w4.heap.size w4 W)=>(⟨(HG4.out.below hb).c1,(hb.cell (p:=⟨b,off+k*6+2,none⟩) (World.block_lt_of_cell? w4 ⟨b,off+k*6+2,none⟩ g2)).trans g2,(HC4.out.below hb).c1⟩:W.cell? ⟨w.heap.size,1,none⟩=some (.slice (some ⟨b,off,none⟩) n2' c2')∧W.cell? ⟨b,off+k*6+2,none⟩=some (.int .i64 xv)∧W.cell? ⟨w.heap.size+1,1,none⟩=some (.int .i64 v)))
     clear g2
     by_cases hv:xv=v
     · have HE:=Lib.hid (cbN_yes (L:=t.blocks) HCN.out HFK.out (by rw [HXV.out];exact hv))
       have e0:(xv != v)=false:=by simp [hv]
       clear hv
       go_upto_region 4 with (fail)
       refine wp_region_light (by kernel_rfl) (fun lz fz wz=>Vals [(0,18,(.int .i64 (k:Int))),(1,19,(.bool false)),(2,20,(.bool false)),(3,21,(.pointer (some ⟨w.heap.size,1,none⟩))),(4,22,(.slice (some ⟨b,off,none⟩) n2' c2')),(5,23,(.int .i64 (k:Int))),(6,24,(.pointer (some ⟨b,off+k*6,none⟩))),(7,25,(.pointer (some ⟨b,off+k*6+2,none⟩))),(8,26,(.int .i64 xv)),(9,27,(.pointer (some ⟨w.heap.size+1,1,none⟩))),(10,28,(.int .i64 v)),(11,29,(.bool false)),(12,30,(.bool false))] lz fz∧Facts w4 [] lz fz wz) 32 rfl [18,19,20,21,22,23,24,25,26,27,28,29,30] (by kernel_rfl) (by kernel_rfl) (by kernel_rfl) (fun f=>⟨Vals.nothing _ f,Facts.nothing _ _ f⟩) ?_ ?_
       · intro i hi
         rcases (by have:i < 13:=hi;omega:i=0∨i=1∨i=2∨i=3∨i=4∨i=5∨i=6∨i=7∨i=8∨i=9∨i=10∨i=11∨i=12) with rfl | rfl | rfl | rfl | rfl | rfl | rfl | rfl | rfl | rfl | rfl | rfl | rfl
         all_goals (clear hi;intro o ho lz fz w' A ⟨hv,hr⟩ hli ha hA K hK;obtain rfl:=Option.some.inj ho;clear ho)
         · have gg5:=so hA 5 _ rfl
           simp only [List.getD_cons_succ,List.getD_cons_zero] at gg5
           rw [if_pos (by rfl)]
           have hF:=hK _ w' ⟨hv.put 0 0 18 rfl rfl rfl,hr.nil⟩
           clear hv hr ha hK hA hli;go_simp;exact hF
         · have gg18:=sj hA 18 (hv.at 0 rfl (ha 0 (by decide)))
           rw [if_pos (by rfl)]
           have hF:=hK _ w' ⟨hv.put 1 1 19 rfl rfl rfl,hr.nil⟩
           clear hv hr ha hK hA hli;go_simp;exact hF
         · have gg19:=sj hA 19 (hv.at 1 rfl (ha 1 (by decide)))
           rw [if_pos (by rfl)]
           have hF:=hK _ w' ⟨hv.put 2 2 20 rfl rfl rfl,hr.nil⟩
           clear hv hr ha hK hA hli;go_simp;exact hF
         · have gg2:=so hA 2 _ rfl
           simp only [List.getD_cons_succ,List.getD_cons_zero] at gg2
           have g20:=si hA 20 (hv.at 2 rfl (ha 2 (by decide)))
           have gg20:=slot_get g20
           rw [if_pos (by simp [Region.wanted,yielded,slot_bool g20])]
           have hF:=hK _ w' ⟨hv.put 3 3 21 rfl rfl rfl,hr.nil⟩
           clear hv hr ha hK hA hli;go_simp;exact hF
         · have gg21:=sj hA 21 (hv.at 3 rfl (ha 3 (by decide)))
           have g20:=si hA 20 (hv.at 2 rfl (ha 2 (by decide)))
           have gg20:=slot_get g20
           rw [if_pos (by simp [Region.wanted,yielded,slot_bool g20])]
           have x1':=(HKB.out w' hr.1).1
           have hF:=hK _ w' ⟨hv.put 4 4 22 rfl rfl rfl,hr.nil⟩
           clear hv hr ha hK hA hli;go_simp;exact hF
         · have gg5:=so hA 5 _ rfl
           simp only [List.getD_cons_succ,List.getD_cons_zero] at gg5
           have g20:=si hA 20 (hv.at 2 rfl (ha 2 (by decide)))
           have gg20:=slot_get g20
           rw [if_pos (by simp [Region.wanted,yielded,slot_bool g20])]
           have hF:=hK _ w' ⟨hv.put 5 5 23 rfl rfl rfl,hr.nil⟩
           clear hv hr ha hK hA hli;go_simp;exact hF
         · have gg22:=sj hA 22 (hv.at 4 rfl (ha 4 (by decide)))
           have gg23:=sj hA 23 (hv.at 5 rfl (ha 5 (by decide)))
           have g20:=si hA 20 (hv.at 2 rfl (ha 2 (by decide)))
           have gg20:=slot_get g20
           rw [if_pos (by simp [Region.wanted,yielded,slot_bool g20])]
           have hF:=hK _ w' ⟨hv.put 6 6 24 rfl rfl rfl,hr.nil⟩
           clear hv hr ha hK hA hli;go_simp;exact hF
         · have gg24:=sj hA 24 (hv.at 6 rfl (ha 6 (by decide)))
           have g20:=si hA 20 (hv.at 2 rfl (ha 2 (by decide)))
           have gg20:=slot_get g20
           rw [if_pos (by simp [Region.wanted,yielded,slot_bool g20])]
           have hF:=hK _ w' ⟨hv.put 7 7 25 rfl rfl rfl,hr.nil⟩
           clear hv hr ha hK hA hli;go_simp;exact hF
         · have gg25:=sj hA 25 (hv.at 7 rfl (ha 7 (by decide)))
           have g20:=si hA 20 (hv.at 2 rfl (ha 2 (by decide)))
           have gg20:=slot_get g20
           rw [if_pos (by simp [Region.wanted,yielded,slot_bool g20])]
           have g2':=(HKB.out w' hr.1).2.1
           have hF:=hK _ w' ⟨hv.put 8 8 26 rfl rfl rfl,hr.nil⟩
           clear hv hr ha hK hA hli;go_simp;exact hF
         · have gg3:=so hA 3 _ rfl
           simp only [List.getD_cons_succ,List.getD_cons_zero] at gg3
           have g20:=si hA 20 (hv.at 2 rfl (ha 2 (by decide)))
           have gg20:=slot_get g20
           rw [if_pos (by simp [Region.wanted,yielded,slot_bool g20])]
           have hF:=hK _ w' ⟨hv.put 9 9 27 rfl rfl rfl,hr.nil⟩
           clear hv hr ha hK hA hli;go_simp;exact hF
         · have gg27:=sj hA 27 (hv.at 9 rfl (ha 9 (by decide)))
           have g20:=si hA 20 (hv.at 2 rfl (ha 2 (by decide)))
           have gg20:=slot_get g20
           rw [if_pos (by simp [Region.wanted,yielded,slot_bool g20])]
           have y1':=(HKB.out w' hr.1).2.2
           have hF:=hK _ w' ⟨hv.put 10 10 28 rfl rfl rfl,hr.nil⟩
           clear hv hr ha hK hA hli;go_simp;exact hF
         · have gg26:=sj hA 26 (hv.at 8 rfl (ha 8 (by decide)))
           have gg28:=sj hA 28 (hv.at 10 rfl (ha 10 (by decide)))
           have g20:=si hA 20 (hv.at 2 rfl (ha 2 (by decide)))
           have gg20:=slot_get g20
           rw [if_pos (by simp [Region.wanted,yielded,slot_bool g20])]
           have hF:=hK _ w' ⟨hv.put 11 11 29 rfl rfl rfl,hr.nil⟩
           clear hv hr ha hK hA hli;go_simp;exact hF
         · have gg20:=sj hA 20 (hv.at 2 rfl (ha 2 (by decide)))
           have gg29:=sj hA 29 (hv.at 11 rfl (ha 11 (by decide)))
           rw [if_pos (by rfl)]
           have hF:=hK _ w' ⟨hv.put 12 12 30 rfl rfl rfl,hr.nil⟩
           clear hv hr ha hK hA hli;go_simp;exact hF
       · intro lz fz w5 hall ⟨hv,hq⟩
         have h30:=hv.at 12 rfl (hall 12 (by decide))
         have hbR:=hq.1
         clear hv hq hall
         simp only [mixF,List.contains_cons,List.contains_nil]
         go_simp
         have HBF:=Lib.hid (HB4.out.trans (hbR.mono HB4.out.size))
         clear hbR
         go_wp2_with fail
         go_ret
         exact ⟨by rw [HF.out,HE.out];rfl,HBF.out⟩
     · have HE:=Lib.hid (cbN_view (L:=t.blocks) (c:=⟨s,v,g⟩) HFK.out (by rw [HXV.out];exact hv))
       have e0:(xv != v)=true:=by simp [hv]
       clear hv
       go_upto_region 4 with (fail)
       refine wp_region_light (by kernel_rfl) (fun lz fz wz=>Vals [(0,18,(.int .i64 (k:Int))),(1,19,(.bool false)),(2,20,(.bool false)),(3,21,(.pointer (some ⟨w.heap.size,1,none⟩))),(4,22,(.slice (some ⟨b,off,none⟩) n2' c2')),(5,23,(.int .i64 (k:Int))),(6,24,(.pointer (some ⟨b,off+k*6,none⟩))),(7,25,(.pointer (some ⟨b,off+k*6+2,none⟩))),(8,26,(.int .i64 xv)),(9,27,(.pointer (some ⟨w.heap.size+1,1,none⟩))),(10,28,(.int .i64 v)),(11,29,(.bool true)),(12,30,(.bool true))] lz fz∧Facts w4 [] lz fz wz) 32 rfl [18,19,20,21,22,23,24,25,26,27,28,29,30] (by kernel_rfl) (by kernel_rfl) (by kernel_rfl) (fun f=>⟨Vals.nothing _ f,Facts.nothing _ _ f⟩) ?_ ?_
       · intro i hi
         rcases (by have:i < 13:=hi;omega:i=0∨i=1∨i=2∨i=3∨i=4∨i=5∨i=6∨i=7∨i=8∨i=9∨i=10∨i=11∨i=12) with rfl | rfl | rfl | rfl | rfl | rfl | rfl | rfl | rfl | rfl | rfl | rfl | rfl
         all_goals (clear hi;intro o ho lz fz w' A ⟨hv,hr⟩ hli ha hA K hK;obtain rfl:=Option.some.inj ho;clear ho)
         · have gg5:=so hA 5 _ rfl
           simp only [List.getD_cons_succ,List.getD_cons_zero] at gg5
           rw [if_pos (by rfl)]
           have hF:=hK _ w' ⟨hv.put 0 0 18 rfl rfl rfl,hr.nil⟩
           clear hv hr ha hK hA hli;go_simp;exact hF
         · have gg18:=sj hA 18 (hv.at 0 rfl (ha 0 (by decide)))
           rw [if_pos (by rfl)]
           have hF:=hK _ w' ⟨hv.put 1 1 19 rfl rfl rfl,hr.nil⟩
           clear hv hr ha hK hA hli;go_simp;exact hF
         · have gg19:=sj hA 19 (hv.at 1 rfl (ha 1 (by decide)))
           rw [if_pos (by rfl)]
           have hF:=hK _ w' ⟨hv.put 2 2 20 rfl rfl rfl,hr.nil⟩
           clear hv hr ha hK hA hli;go_simp;exact hF
         · have gg2:=so hA 2 _ rfl
           simp only [List.getD_cons_succ,List.getD_cons_zero] at gg2
           have g20:=si hA 20 (hv.at 2 rfl (ha 2 (by decide)))
           have gg20:=slot_get g20
           rw [if_pos (by simp [Region.wanted,yielded,slot_bool g20])]
           have hF:=hK _ w' ⟨hv.put 3 3 21 rfl rfl rfl,hr.nil⟩
           clear hv hr ha hK hA hli;go_simp;exact hF
         · have gg21:=sj hA 21 (hv.at 3 rfl (ha 3 (by decide)))
           have g20:=si hA 20 (hv.at 2 rfl (ha 2 (by decide)))
           have gg20:=slot_get g20
           rw [if_pos (by simp [Region.wanted,yielded,slot_bool g20])]
           have x1':=(HKB.out w' hr.1).1
           have hF:=hK _ w' ⟨hv.put 4 4 22 rfl rfl rfl,hr.nil⟩
           clear hv hr ha hK hA hli;go_simp;exact hF
         · have gg5:=so hA 5 _ rfl
           simp only [List.getD_cons_succ,List.getD_cons_zero] at gg5
           have g20:=si hA 20 (hv.at 2 rfl (ha 2 (by decide)))
           have gg20:=slot_get g20
           rw [if_pos (by simp [Region.wanted,yielded,slot_bool g20])]
           have hF:=hK _ w' ⟨hv.put 5 5 23 rfl rfl rfl,hr.nil⟩
           clear hv hr ha hK hA hli;go_simp;exact hF
         · have gg22:=sj hA 22 (hv.at 4 rfl (ha 4 (by decide)))
           have gg23:=sj hA 23 (hv.at 5 rfl (ha 5 (by decide)))
           have g20:=si hA 20 (hv.at 2 rfl (ha 2 (by decide)))
           have gg20:=slot_get g20
           rw [if_pos (by simp [Region.wanted,yielded,slot_bool g20])]
           have hF:=hK _ w' ⟨hv.put 6 6 24 rfl rfl rfl,hr.nil⟩
           clear hv hr ha hK hA hli;go_simp;exact hF
         · have gg24:=sj hA 24 (hv.at 6 rfl (ha 6 (by decide)))
           have g20:=si hA 20 (hv.at 2 rfl (ha 2 (by decide)))
           have gg20:=slot_get g20
           rw [if_pos (by simp [Region.wanted,yielded,slot_bool g20])]
           have hF:=hK _ w' ⟨hv.put 7 7 25 rfl rfl rfl,hr.nil⟩
           clear hv hr ha hK hA hli;go_simp;exact hF
         · have gg25:=sj hA 25 (hv.at 7 rfl (ha 7 (by decide)))
           have g20:=si hA 20 (hv.at 2 rfl (ha 2 (by decide)))
           have gg20:=slot_get g20
           rw [if_pos (by simp [Region.wanted,yielded,slot_bool g20])]
           have g2':=(HKB.out w' hr.1).2.1
           have hF:=hK _ w' ⟨hv.put 8 8 26 rfl rfl rfl,hr.nil⟩
           clear hv hr ha hK hA hli;go_simp;exact hF
         · have gg3:=so hA 3 _ rfl
           simp only [List.getD_cons_succ,List.getD_cons_zero] at gg3
           have g20:=si hA 20 (hv.at 2 rfl (ha 2 (by decide)))
           have gg20:=slot_get g20
           rw [if_pos (by simp [Region.wanted,yielded,slot_bool g20])]
           have hF:=hK _ w' ⟨hv.put 9 9 27 rfl rfl rfl,hr.nil⟩
           clear hv hr ha hK hA hli;go_simp;exact hF
         · have gg27:=sj hA 27 (hv.at 9 rfl (ha 9 (by decide)))
           have g20:=si hA 20 (hv.at 2 rfl (ha 2 (by decide)))
           have gg20:=slot_get g20
           rw [if_pos (by simp [Region.wanted,yielded,slot_bool g20])]
           have y1':=(HKB.out w' hr.1).2.2
           have hF:=hK _ w' ⟨hv.put 10 10 28 rfl rfl rfl,hr.nil⟩
           clear hv hr ha hK hA hli;go_simp;exact hF
         · have gg26:=sj hA 26 (hv.at 8 rfl (ha 8 (by decide)))
           have gg28:=sj hA 28 (hv.at 10 rfl (ha 10 (by decide)))
           have g20:=si hA 20 (hv.at 2 rfl (ha 2 (by decide)))
           have gg20:=slot_get g20
           rw [if_pos (by simp [Region.wanted,yielded,slot_bool g20])]
           have hF:=hK _ w' ⟨hv.put 11 11 29 rfl rfl rfl,hr.nil⟩
           clear hv hr ha hK hA hli;go_simp;exact hF
         · have gg20:=sj hA 20 (hv.at 2 rfl (ha 2 (by decide)))
           have gg29:=sj hA 29 (hv.at 11 rfl (ha 11 (by decide)))
           rw [if_pos (by rfl)]
           have hF:=hK _ w' ⟨hv.put 12 12 30 rfl rfl rfl,hr.nil⟩
           clear hv hr ha hK hA hli;go_simp;exact hF
       · intro lz fz w5 hall ⟨hv,hq⟩
         have h30:=hv.at 12 rfl (hall 12 (by decide))
         have hbR:=hq.1
         clear hv hq hall
         simp only [mixF,List.contains_cons,List.contains_nil]
         go_simp
         have HBF:=Lib.hid (HB4.out.trans (hbR.mono HB4.out.size))
         clear hbR
         go_wp2_with fail
         go_ret
         exact ⟨by rw [HF.out,HE.out];rfl,HBF.out⟩
end Go.Proofs.YtpnjgmgmakmgeaaGreat
