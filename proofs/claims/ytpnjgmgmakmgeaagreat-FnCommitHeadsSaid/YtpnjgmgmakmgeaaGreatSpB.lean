/- Texts of ours that stand together: SpecBlk, SpecBlk2, SpecTr -/
import Derived.Test.YtpnjgmgmakmgeaaGreatTrM
import Derived.Test.YtpnjgmgmakmgeaaGreatSpecAct
import Derived.Test.YtpnjgmgmakmgeaaGreatSpecEff4
import Derived.Test.YtpnjgmgmakmgeaaGreatSr2
import Derived.Test.YtpnjgmgmakmgeaaGreatTreeS
import Derived.Deep.RegionHeld3
import Derived.Deep.QuietTactic
import Derived.BigQuiet
import Derived.Deep.Cut
/- The contract of the model's BlockValid. -/
namespace Go.Proofs.YtpnjgmgmakmgeaaGreat
open Go.RowKit
set_option linter.unusedVariables false
set_option maxHeartbeats 4000000 in
theorem blockValid_spec (p q r t u:Int) (a:Option Addr) (n c:Nat) (L:List Acn) (w:World) (h:RowA w a n L) :
  Calls Tryz.prog 85 #[.agg #[.int .i64 p,.int .i64 q,.int .i64 r,.slice a n c,.int .i64 t,.int .i64 u]] w (BoolS (blkB ⟨p,q,r,L,t,u⟩) w):=by
 have hb0:=(Below.refl w.heap.size w).alloc (Nat.le_refl _) (.cells #[.int .i64 p,.int .i64 q,.int .i64 r,.slice a n c,.int .i64 t,.int .i64 u] 37)
 have H:=Lib.hid (h.below hb0)
 have HB:=Lib.hid hb0
 clear h hb0
 cases e0:inB p 0 1000002 with
 | false =>
  have HE:Hid (blkB ⟨p,q,r,L,t,u⟩=false):=Lib.hid (by simp [blkB,e0])
  go_enter Tryz.func85,Tryz.ntmps85
  go_wp2_with (first | (go_at_call 84;refine (l1In_spec_hid _ _ _ _).mono ?_;rintro e w' ⟨rfl,rfl⟩))
  go_ret
  exact ⟨by rw [HE.out];rfl,HB.out⟩
 | true =>
 cases e1:inB t 0 1000002 with
 | false =>
  have HE:Hid (blkB ⟨p,q,r,L,t,u⟩=false):=Lib.hid (by simp [blkB,e1])
  go_enter Tryz.func85,Tryz.ntmps85
  go_wp2_with (first | (go_at_call 84;refine (l1In_spec_hid _ _ _ _).mono ?_;rintro e w' ⟨rfl,rfl⟩))
  go_ret
  exact ⟨by rw [HE.out];rfl,HB.out⟩
 | true =>
 cases e2:inB u 0 1000002 with
 | false =>
  have HE:Hid (blkB ⟨p,q,r,L,t,u⟩=false):=Lib.hid (by simp [blkB,e2])
  go_enter Tryz.func85,Tryz.ntmps85
  go_wp2_with (first | (go_at_call 84;refine (l1In_spec_hid _ _ _ _).mono ?_;rintro e w' ⟨rfl,rfl⟩))
  go_ret
  exact ⟨by rw [HE.out];rfl,HB.out⟩
 | true =>
 cases e3:inB q 0 100 with
 | false =>
  have HE:Hid (blkB ⟨p,q,r,L,t,u⟩=false):=Lib.hid (by simp [blkB,e3])
  go_enter Tryz.func85,Tryz.ntmps85
  go_wp2_with (first | (go_at_call 84;refine (l1In_spec_hid _ _ _ _).mono ?_;rintro e w' ⟨rfl,rfl⟩))
  go_ret
  exact ⟨by rw [HE.out];rfl,HB.out⟩
 | true =>
 cases e4:inB r 0 1000 with
 | false =>
  have HE:Hid (blkB ⟨p,q,r,L,t,u⟩=false):=Lib.hid (by simp [blkB,e4])
  go_enter Tryz.func85,Tryz.ntmps85
  go_wp2_with (first | (go_at_call 84;refine (l1In_spec_hid _ _ _ _).mono ?_;rintro e w' ⟨rfl,rfl⟩))
  go_ret
  exact ⟨by rw [HE.out];rfl,HB.out⟩
 | true =>
 have HE:Hid (blkB ⟨p,q,r,L,t,u⟩=actsB L):=Lib.hid (by simp [blkB,e0,e1,e2,e3,e4])
 go_enter Tryz.func85,Tryz.ntmps85
 go_wp2_with (first | (first | (go_at_call 84;refine (l1In_spec_hid _ _ _ _).mono ?_;rintro e w' ⟨rfl,rfl⟩)) | (go_at_call 143;refine (actionsValid_spec a n c L _ H.out).mono ?_;rintro e w1 ⟨rfl,hb1⟩;have HB1:=Lib.hid (HB.out.trans (hb1.mono HB.out.size));clear hb1))
 go_ret
 exact ⟨by rw [HE.out];rfl,HB1.out⟩
set_option linter.unusedSimpArgs false
set_option maxRecDepth 100000 in
set_option maxHeartbeats 8000000 in
theorem blockSum_spec (p q r t u:Int) (a:Option Addr) (n c:Nat) (L:List Acn) (w:World) (h:RowA w a n L) :
  Calls Tryz.prog 86 #[.agg #[.int .i64 p,.int .i64 q,.int .i64 r,.slice a n c,.int .i64 t,.int .i64 u]] w (IntB (blkSumM ⟨p,q,r,L,t,u⟩) w):=by
 have hA0:=bkAt_new w 37 (.int .i64 p) (.int .i64 q) (.int .i64 r) (.slice a n c) (.int .i64 t) (.int .i64 u)
 have hb0:=(Below.refl w.heap.size w).alloc (Nat.le_refl _) (.cells #[.int .i64 p,.int .i64 q,.int .i64 r,.slice a n c,.int .i64 t,.int .i64 u] 37)
 have H:=Lib.hid (h.below hb0)
 have HB:=Lib.hid hb0
 have HA:=Lib.hid hA0
 have HC:=Lib.hid h
 clear h hb0 hA0
 go_enter Tryz.func86,Tryz.ntmps86
 go_wp2_with fail
 refine (blockValid_spec p q r t u a n c L _ H.out).mono ?_;rintro e w1 ⟨rfl,hb1⟩
 have HB1:=Lib.hid (HB.out.trans (hb1.mono HB.out.size))
 have hA1:=HA.out.below hb1
 have HX1:Hid (w.heap.size+1≤w1.heap.size):=Lib.hid (by have:=hb1.size;simp at this;exact this)
 clear hb1
 cases hv:blkB ⟨p,q,r,L,t,u⟩ with
 | false =>
  have HE:=Lib.hid (blkSumM_no hv)
  obtain ⟨c0,c1,c2,c3,c4,c5,-⟩:=hA1
  clear hv
  go_wp2
  go_ret
  exact ⟨ret_int HE.out.symm,HB1.out⟩
 | true =>
  have HE:Hid (sumFold (17+5) (blkNums ⟨p,q,r,L,t,u⟩)=blkSumM ⟨p,q,r,L,t,u⟩):=Lib.hid (blkSumM_yes hv).symm
  have HOK:=Lib.hid (blkNums_ok hv)
  have HWF:Hid (∀ x∈blkNums ⟨p,q,r,L,t,u⟩,(Lit.int .i64 x).wf=true):=Lib.hid (fun x hx=>by have:=blkNums_bd hv x hx;exact WalkArith.wf_i64 (by omega))
  have hL10:=(actsB_true (blkB_true hv).2.2.2.2.2).1
  have hn:L.length=n:=HC.out.1
  have hn10:n≤10:=by simp only at hL10;omega
  have HNX:Hid (∀ k,k < n→blkTo ⟨p,q,r,L,t,u⟩ k++numA (L.getD k noA)=blkTo ⟨p,q,r,L,t,u⟩ (k+1)):=Lib.hid (fun k hk=>blkTo_next ⟨p,q,r,L,t,u⟩ k (by simp only;omega))
  have HEND:Hid (blkTo ⟨p,q,r,L,t,u⟩ n++[t,u]=blkNums ⟨p,q,r,L,t,u⟩):=Lib.hid (by unfold blkNums;simp only;rw [hn])
  have HLN:Hid ((blkNums ⟨p,q,r,L,t,u⟩).length=n*4+4+2):=Lib.hid (by unfold blkNums;rw [List.length_append,blkTo_len _ _ (Nat.le_refl _)];simp only [List.length_cons,List.length_nil];omega)
  have ho0:=(own_lit (w:=w1) (B:=w.heap.size+1) 3 1 #[.int .i64 p,.int .i64 q,.int .i64 r,.int .i64 (n:Int)] 4 HX1.out (by unfold maxLen;omega) rfl).1
  have hb2:=HB1.out.alloc HB1.out.size (.cells #[.int .i64 p,.int .i64 q,.int .i64 r,.int .i64 (n:Int)] 3)
  have hA2:=hA1.below ((Below.refl _ _).alloc (Nat.le_refl _) (.cells #[.int .i64 p,.int .i64 q,.int .i64 r,.int .i64 (n:Int)] 3))
  have hst:(w1.alloc (.cells #[.int .i64 p,.int .i64 q,.int .i64 r,.int .i64 (n:Int)] 3)).ownsRow (w.heap.size+1) 3 1 (.slice (some ⟨w1.heap.size,0,none⟩) 4 4) (0*4+4) ((blkTo ⟨p,q,r,L,t,u⟩ 0).map (Value.int .i64)):=by
   rw [blkTo_zero];simp only;rw [hn];exact ho0
  have hsz2:w.heap.size+1≤(w1.alloc (.cells #[.int .i64 p,.int .i64 q,.int .i64 r,.int .i64 (n:Int)] 3)).heap.size:=by have:=HX1.out;simp;omega
  obtain ⟨x0,x1,x2,x3,x4,x5,-⟩:=hA1
  clear hv hL10 hn ho0 HB1
  go_wp2_with fail
  generalize hw2:World.alloc w1 _=w2 at hA2 hb2 hst hsz2 ⊢
  have HB2:=Lib.hid hb2
  have HA2:=Lib.hid hA2
  have HS2:=Lib.hid hsz2
  clear hw2 x0 x1 x2 x3 x4 x5 hb2 hA2 hsz2
  obtain ⟨X,hX⟩:∃ X,X=w.heap.size:=⟨_,rfl⟩
  have HXE:=Lib.hid hX
  rw [← hX] at hst HA2 HS2 ⊢
  clear hX
  go_loopw [3,4] (fun v i wr=>∃ k:Nat,k≤n∧i = .int .i64 k∧wr.ownsRow (X+1) 3 1 v (k*4+4) ((blkTo ⟨p,q,r,L,t,u⟩ k).map (Value.int .i64))∧Below (X+1) w2 wr) (fun _ i _=>n - (intOf i).toNat)
  case atStart=>exact ⟨0,Nat.zero_le _,rfl,hst,Below.refl _ _⟩
  case round =>
   clear hst
   obtain ⟨k,hk,rfl,hown,hb⟩:=hrel
   have hX1:X < X+1:=Nat.lt_succ_self X
   obtain ⟨x0,x1,x2,x3,x4,x5,-⟩:=HA2.out
   have y3:=below_ch hb hX1 x3
   have y4:=below_ch hb hX1 x4
   have y5:=below_ch hb hX1 x5
   have hbwr:=HB2.out.trans (hb.mono (by rw [HXE.out];omega))
   clear x0 x1 x2 x3 x4 x5
   by_cases hlt:k < n
   · have hr:=HC.out.below hbwr
     obtain ⟨b',of,rfl,hcc⟩:=hr.2.2.1 (by omega)
     obtain ⟨e1,e2,e3,e4⟩:=hcc k hlt
     obtain ⟨b'',of'',he'',hcc''⟩:=HC.out.2.2.1 (by omega)
     have hbX0:b' < X:=by
      cases he''
      rw [HXE.out];exact World.block_lt_of_cell? w ⟨b',of+k*4,none⟩ (hcc'' k hlt).1
     have HN:=Lib.hid (HNX.out k hlt)
     clear hcc hr hcc'' he''
     obtain ⟨x,hx⟩:∃ x,x=L.getD k noA:=⟨_,rfl⟩
     rw [← hx] at e1 e2 e3 e4 HN
     clear hx
     obtain ⟨m1,m2,m3,m4⟩:=x
     simp only at e1 e2 e3 e4
     have hXw:X+1≤wr.heap.size:=Nat.le_trans HS2.out hb.size
     have hbX:b' < X+1:=by omega
     have q1:(0:Int)≤(k:Int):=by omega
     have q2:(k:Int) < (n:Int):=by omega
     have HBW:=Lib.hid hbwr
     clear hbwr
     go_upto_region 7 with (fail)
     go_region_held3 (fun w'=>w'.cell? ⟨X,3,none⟩=some (.slice (some ⟨b',of,none⟩) n c)∧w'.cell? ⟨b',of+k*4,none⟩=some (.int .i64 m1)∧w'.cell? ⟨b',of+k*4+1,none⟩=some (.int .i64 m2)∧w'.cell? ⟨b',of+k*4+2,none⟩=some (.int .i64 m3)∧w'.cell? ⟨b',of+k*4+3,none⟩=some (.int .i64 m4)) (first | exact ⟨y3,e1,e2,e3,e4⟩ | exact ⟨g1,g2,g3,g4,g5⟩ | exact ⟨below_ch (Below.refl (X+1) wr |>.alloc hXw _) hX1 y3,below_ch (Below.refl (X+1) wr |>.alloc hXw _) hbX e1,below_ch (Below.refl (X+1) wr |>.alloc hXw _) hbX e2,below_ch (Below.refl (X+1) wr |>.alloc hXw _) hbX e3,below_ch (Below.refl (X+1) wr |>.alloc hXw _) hbX e4⟩ | go_keep)
      (first
       | (refine step_lit rfl (.tmp 25) (.tmp 50) 25 (by rfl) (X+1) 3 _ (.int .i64 0) 1 8 4 Tryz.underlying25 infoInt rfl (by decide) _ (k*4+4) _ [.int .i64 m1,.int .i64 m2,.int .i64 m3,.int .i64 m4] (by rfl) hown (by rfl) rfl (by intro u hu;simp at hu;rcases hu with rfl | rfl | rfl | rfl <;> rfl) (by decide) (by omega) (by decide) hXw ?_;intro v2 w3 ho2 hnn2 hg2;have hb2:Below (X+1) wr w3:=((Below.refl (X+1) wr).alloc hXw _).grown hg2 (by simp;omega) (fun q hq=>(hown.lt q hq).1);have g1:=below_ch hb2 hX1 y3;have g2:=below_ch hb2 hbX e1;have g3:=below_ch hb2 hbX e2;have g4:=below_ch hb2 hbX e3;have g5:=below_ch hb2 hbX e4)
       | (refine step_litd rfl (.tmp 25) (.tmp 50) 25 (by rfl) (X+1) 3 _ (.int .i64 0) 1 8 4 Tryz.underlying25 infoInt rfl (by decide) _ (k*4+4) _ [.int .i64 m1,.int .i64 m2,.int .i64 m3,.int .i64 m4] (by rfl) hown (by rfl) rfl (by intro u hu;simp at hu;rcases hu with rfl | rfl | rfl | rfl <;> rfl) (by decide) (by omega) (by decide) hXw ?_;intro v2 w3 ho2 hnn2 hg2;have hb2:Below (X+1) wr w3:=((Below.refl (X+1) wr).alloc hXw _).grown hg2 (by simp;omega) (fun q hq=>(hown.lt q hq).1);have g1:=below_ch hb2 hX1 y3;have g2:=below_ch hb2 hbX e1;have g3:=below_ch hb2 hbX e2;have g4:=below_ch hb2 hbX e3;have g5:=below_ch hb2 hbX e4))
     all_goals
      have HO2:=Lib.hid ho2
      have HB3:=Lib.hid (hb.trans hb2)
      clear ho2 hg2 hb2 hown hb g1 g2 g3 g4 g5 e1 e2 e3 e4 y3 y4 y5
      go_wp2
      go_roundw
      case rel=>exact ⟨k+1,by omega,by go_num,by have hq:=HO2.out;rw [show k*4+4+4=(k+1)*4+4 by omega] at hq;rw [← HN.out,List.map_append];exact hq,HB3.out⟩
      case measure=>simp [intOf];omega
   · obtain rfl:k=n:=by omega
     have HBW:=Lib.hid hbwr
     have hXw:X+1≤wr.heap.size:=Nat.le_trans HS2.out hb.size
     clear hbwr
     go_wp2_with (first | (at_builtin;refine wpList_append_lit (W:=wr) rfl _ _ 25 rfl (X+1) 3 3 (.int .i64 0) 1 8 2 Tryz.underlying25 infoInt rfl (by decide) _ (k*4+4) _ [.int .i64 t,.int .i64 u] (by rfl) hown (by simp [Act.eval]) rfl ?c12 (by decide) ?c22 (by decide) ?c32 ?_))
     case c12=>intro u hu;simp at hu;rcases hu with rfl | rfl <;> rfl
     case c22=>omega
     case c32=>exact hXw
     intro v2 w3 ho2 hnn2 hg2 hat
     have HB3:=Lib.hid (HBW.out.trans ((((Below.refl (X+1) wr).alloc hXw (.cells #[.int .i64 t,.int .i64 u] 3)).grown hg2 (by simp;omega) (fun q hq=>(hown.lt q hq).1)).mono (show w.heap.size≤X+1 by rw [HXE.out];omega)))
     have ho3:w3.ownsRow (X+1) 3 1 v2 (blkNums ⟨p,q,r,L,t,u⟩).length ((blkNums ⟨p,q,r,L,t,u⟩).map (Value.int .i64)):=by rw [HLN.out,← HEND.out,List.map_append];exact ho2
     obtain ⟨g,kk,rfl,hr⟩:=rowI_of_owns ho3 (by rw [HLN.out];unfold maxLen;omega) HWF.out
     obtain ⟨l,hl⟩:∃ l,l=blkNums ⟨p,q,r,L,t,u⟩:=⟨_,rfl⟩
     rw [← hl] at hr HE HOK ⊢
     clear hg2 hat hown hb ho2 ho3 hl y3 y4 y5
     go_wp2_with fail
     refine (l1Sum_any 5 _ _ kk l _ hr (by omega) (by omega) HOK.out).mono ?_;rintro e w' ⟨rfl,rfl⟩
     go_wp2
     go_ret
     exact ⟨ret_int HE.out,HB3.out⟩
set_option maxRecDepth 100000 in
set_option maxHeartbeats 4000000 in
theorem firstBlock_spec (a:Option Addr) (n c:Nat) (S:List Ent) (w:World) (h:RowE w a n S) :
  Calls Tryz.prog 88 #[.slice a n c] w (NewBk w 113 (firstM S)):=by
 have hb0:=(Below.refl w.heap.size w).alloc (Nat.le_refl _) (.cells #[.int .i64 0,.int .i64 0,.int .i64 0,.slice none 0 0,.int .i64 0,.int .i64 0] 37)
 have hA:=bkAt_new w 37 (.int .i64 0) (.int .i64 0) (.int .i64 0) (.slice none 0 0) (.int .i64 0) (.int .i64 0)
 obtain ⟨W1,hW1⟩:∃ W1,W1=w.alloc (.cells #[.int .i64 0,.int .i64 0,.int .i64 0,.slice none 0 0,.int .i64 0,.int .i64 0] 37):=⟨_,rfl⟩
 have HW1:=Lib.hid hW1
 rw [← hW1] at hb0 hA
 clear hW1
 have HA:=Lib.hid (fun (W:World) (hb:Below W1.heap.size W1 W)=>(⟨hA.below hb,hb0.trans (hb.mono hb0.size)⟩:BkAt W w.heap.size (.int .i64 0) (.int .i64 0) (.int .i64 0) (.slice none 0 0) (.int .i64 0) (.int .i64 0)∧Below w.heap.size w W))
 have HS:=Lib.hid (h.below hb0)
 clear h hb0 hA
 go_enter Tryz.func88,Tryz.ntmps88
 go_upto_region 1 with (fail)
 rw [← HW1.out]
 clear HW1
 go_wp2_with fail
 refine (storeValid_spec a n c S _ HS.out).mono ?_;rintro e w2 ⟨rfl,hd2⟩
 have hb2:=hd2.below W1.heap.size
 have HB2:=Lib.hid hb2
 clear hd2
 cases hs:storeB S with
 | false =>
  have HE:=Lib.hid (firstM_no hs)
  obtain ⟨hA2,hB2⟩:=HA.out w2 hb2
  have HF:=Lib.hid (hA2.set6 (.int .i64 0) (.int .i64 0) (.int .i64 0) (.slice none 0 0) (.int .i64 0) (.int .i64 0))
  have HBF:=Lib.hid (below_set6 hB2 (Nat.le_refl w.heap.size) (.int .i64 0) (.int .i64 0) (.int .i64 0) (.slice none 0 0) (.int .i64 0) (.int .i64 0))
  obtain ⟨c0,c1,c2,c3,c4,c5,f0,f1,f2,f3,f4,f5⟩:=hA2
  clear hs hb2 hB2
  go_wp2_with fail
  refine bodyPost_ret (results_blk Tryz.results88 _ (by rfl) HF.out) rfl ?_
  exact ⟨.slice none 0 0,by rw [HE.out];rfl,by rw [HE.out];exact newBk_zero _ _ _,by rw [HE.out];exact fun x hx=>(by cases hx),by rw [HE.out];exact wfB_no,HBF.out⟩
 | true =>
  have HE:=Lib.hid (firstM_yes hs)
  have HWB:Hid (WfB ⟨0,0,0,[],rootM S,effsSumM []⟩):=Lib.hid (by have:=wfB_run (b:=noBlk) S wfB_no;have hf:=firstM_yes hs;unfold firstM at hf;rw [if_pos hs] at hf;rw [hf] at this;exact this)
  have HS2:=Lib.hid (HS.out.below hb2)
  clear hs hb2
  go_wp2_with fail
  refine (rootOf_spec a n c S _ HS2.out).mono ?_;rintro e w3 ⟨rfl,hb3⟩
  have HB3:=Lib.hid (HB2.out.trans (hb3.mono HB2.out.size))
  obtain ⟨rt,hrt⟩:∃ x,x=rootM S:=⟨_,rfl⟩
  rw [← hrt] at HE HWB ⊢
  clear hrt hb3
  go_wp2_with fail
  refine (effectsSum_spec _ 0 0 [] _ (⟨rfl,by simp,fun h=>absurd h (by omega)⟩:RowFs _ _ 0 []) (fun x hx=>by cases hx) (by omega)).mono ?_;rintro e w4 ⟨rfl,hb4⟩
  obtain ⟨ef,hef⟩:∃ x,x=effsSumM []:=⟨_,rfl⟩
  rw [← hef] at HE HWB ⊢
  obtain ⟨hA4,hB4⟩:=HA.out w4 (HB3.out.trans ((((Below.refl w3.heap.size w3).alloc (Nat.le_refl _) _).trans (hb4.mono (by simp))).mono HB3.out.size))
  have HF:=Lib.hid (hA4.set6 (.int .i64 0) (.int .i64 0) (.int .i64 0) (.slice none 0 0) (.int .i64 rt) (.int .i64 ef))
  have HBF:=Lib.hid (below_set6 hB4 (Nat.le_refl w.heap.size) (.int .i64 0) (.int .i64 0) (.int .i64 0) (.slice none 0 0) (.int .i64 rt) (.int .i64 ef))
  obtain ⟨c0,c1,c2,c3,c4,c5,f0,f1,f2,f3,f4,f5⟩:=hA4
  clear hef hb4 hB4
  go_wp2_with fail
  refine bodyPost_ret (results_blk Tryz.results88 _ (by rfl) HF.out) rfl ?_
  exact ⟨.slice none 0 0,by rw [HE.out],by rw [HE.out];exact World.ownsRow_nil _ _ _ _,by rw [HE.out];exact fun x hx=>(by cases hx),by rw [HE.out];exact HWB.out,HBF.out⟩
theorem blockSum_specV (x:Blk) (a:Option Addr) (n c:Nat) (w:World) (h:RowA w a n x.acts) :
  Calls Tryz.prog 86 #[.agg #[.int .i64 x.bef,.int .i64 x.hgt,.int .i64 x.view,.slice a n c,.int .i64 x.root,.int .i64 x.effs]] w (IntB (blkSumM x) w):=blockSum_spec x.bef x.hgt x.view x.root x.effs a n c x.acts w h
set_option maxRecDepth 100000 in
set_option maxHeartbeats 4000000 in
theorem l13Find_spec (v1 v2 v3:Value) (t:Tre) (s:Int) (w:World) (h:TreRd w v1 v2 v3 t) :
  Calls Tryz.prog 72 #[.agg #[v1,v2,v3],.int .i64 s] w (IntB (findL t.blocks s) w):=by
 obtain ⟨⟨a1,n1,c1,rfl,-⟩,⟨a2,n2,c2,rfl,r2,-,-⟩,a3,n3,c3,rfl,-⟩:=h
 obtain ⟨L,hLe⟩:∃ L,L=t.blocks:=⟨_,rfl⟩
 rw [← hLe] at r2 ⊢
 clear hLe
 have hl:=r2.1
 have hm:=r2.2.1
 unfold maxLen at hm
 have HF:=Lib.hid (fun (k:Nat) (hk:k < n2) (h:NoneTo L s k) (he:blkSumM (L.getD k noBlk)=s)=>(findL_hit (by omega) h he:findL L s=k))
 have HM:=Lib.hid (fun (h:NoneTo L s n2)=>(findL_miss (by rw [hl];exact h):findL L s = -1))
 have hb0:=(Below.refl w.heap.size w).alloc (Nat.le_refl _) (.cells #[.slice a1 n1 c1,.slice a2 n2 c2,.slice a3 n3 c3] 27)
 have hg0:=trAt_new w 27 (.slice a1 n1 c1) (.slice a2 n2 c2) (.slice a3 n3 c3)
 obtain ⟨W1,hW1⟩:∃ W1,W1=w.alloc (.cells #[.slice a1 n1 c1,.slice a2 n2 c2,.slice a3 n3 c3] 27):=⟨_,rfl⟩
 have HW1:=Lib.hid hW1
 rw [← hW1] at hb0 hg0
 clear hW1
 have HK:=Lib.hid (fun (W:World) (hb:Below W1.heap.size W1 W)=>(⟨hg0.below hb,(r2.below hb0).below hb,hb0.trans (hb.mono hb0.size)⟩:TrAt W w.heap.size (.slice a1 n1 c1) (.slice a2 n2 c2) (.slice a3 n3 c3)∧RowBs W a2 n2 L∧Below w.heap.size w W))
 clear hb0 hg0 r2 hl
 go_enter Tryz.func72,Tryz.ntmps72
 go_wp2_with fail
 rw [← HW1.out]
 clear HW1
 go_loopw [5] (fun i wr=>∃ k:Nat,k≤n2∧i = .int .i64 k∧NoneTo L s k∧Below W1.heap.size W1 wr) (fun i _=>n2 - (intOf i).toNat)
 case atStart=>exact ⟨0,Nat.zero_le _,rfl,fun j hj=>absurd hj (by omega),Below.refl _ _⟩
 case round =>
  obtain ⟨k,hk,rfl,hto,hb⟩:=hrel
  have HTO:=Lib.hid hto
  have HB:=Lib.hid hb
  clear hto hb
  obtain ⟨⟨-,x1,-⟩,hr,hbw⟩:=HK.out wr HB.out
  by_cases hlt:k < n2
  · obtain ⟨b,off,rfl,g0,g1,g2,⟨v,g3,a',n',c',rfl,ra,-,-⟩,g4,g5⟩:=hr.at k hlt
    have HF1:=Lib.hid (fun he=>HF.out k hlt HTO.out he)
    have HN1:=Lib.hid (fun he=>HTO.out.next (k:=k) he)
    clear hr hbw
    simp only [blkAt] at HN1
    obtain ⟨x,hx⟩:∃ x,x=L.getD k noBlk:=⟨_,rfl⟩
    rw [← hx] at g0 g1 g2 g4 g5 ra HF1 HN1
    clear hx
    have HR:=Lib.hid ra
    clear ra
    go_wp2_with fail
    refine (blockSum_specV x a' n' c' _ HR.out).mono ?_;rintro e w2 ⟨rfl,hb2⟩
    have HB2:=Lib.hid (HB.out.trans (hb2.mono HB.out.size))
    clear g0 g1 g2 g3 g4 g5 x1 hb2
    obtain ⟨m,hm1⟩:∃ m,m=blkSumM x:=⟨_,rfl⟩
    rw [← hm1] at HF1 HN1 ⊢
    clear hm1
    obtain ⟨⟨-,x1,-⟩,-,hbw⟩:=HK.out w2 HB2.out
    have HBW:=Lib.hid hbw
    clear hbw
    cases e0:(m == s) with
    | true =>
     have HR1:=Lib.hid (HF1.out (by simpa using e0))
     go_wp2_with fail
     go_ret
     exact ⟨by rw [HR1.out];rfl,HBW.out⟩
    | false =>
     have HR1:=Lib.hid (HN1.out (by simpa using e0))
     go_wp2_with fail
     go_roundw
     case rel=>exact ⟨k+1,by omega,by go_num,HR1.out,HB2.out⟩
     case measure=>simp [intOf];omega
  · obtain rfl:k=n2:=by omega
    have HR1:=Lib.hid (HM.out HTO.out)
    have HBW:=Lib.hid hbw
    clear hr hbw
    go_wp2_with fail
    go_ret
    exact ⟨by rw [HR1.out];rfl,HBW.out⟩
theorem blk_ne {x y:Blk} (h:x.bef≠y.bef∨x.hgt≠y.hgt∨x.view≠y.view∨x.root≠y.root∨x.effs≠y.effs∨x.acts≠y.acts):decide (x=y)=false:=by
 refine decide_eq_false (fun e=>?_)
 subst e;simp at h
set_option maxRecDepth 100000 in
set_option maxHeartbeats 4000000 in
theorem l13SameBlock_spec (p q r t u p' q' r' t' u':Int) (a a':Option Addr) (n c n' c':Nat) (L L':List Acn) (w:World) (h:RowA w a n L) (h':RowA w a' n' L') :
  Calls Tryz.prog 87 #[.agg #[.int .i64 p,.int .i64 q,.int .i64 r,.slice a n c,.int .i64 t,.int .i64 u],.agg #[.int .i64 p',.int .i64 q',.int .i64 r',.slice a' n' c',.int .i64 t',.int .i64 u']] w (BoolB (decide ((⟨p,q,r,L,t,u⟩:Blk)=⟨p',q',r',L',t',u'⟩)) w):=by
 obtain ⟨vv,hvv⟩:∃ vv,vv=decide ((⟨p,q,r,L,t,u⟩:Blk)=⟨p',q',r',L',t',u'⟩):=⟨_,rfl⟩
 have HV:=Lib.hid hvv
 rw [← hvv]
 clear hvv
 have hm:=h.2.1
 have hm':=h'.2.1
 unfold maxLen at hm hm'
 have hl:=h.1
 have hl':=h'.1
 have hb0:=((Below.refl w.heap.size w).alloc (Nat.le_refl _) (.cells #[.int .i64 p,.int .i64 q,.int .i64 r,.slice a n c,.int .i64 t,.int .i64 u] 37)).alloc (by simp) (.cells #[.int .i64 p',.int .i64 q',.int .i64 r',.slice a' n' c',.int .i64 t',.int .i64 u'] 37)
 have hA:=(bkAt_new w 37 (.int .i64 p) (.int .i64 q) (.int .i64 r) (.slice a n c) (.int .i64 t) (.int .i64 u)).below ((Below.refl _ _).alloc (Nat.le_refl _) (.cells #[.int .i64 p',.int .i64 q',.int .i64 r',.slice a' n' c',.int .i64 t',.int .i64 u'] 37))
 have hA':=bkAt_new (w.alloc (.cells #[.int .i64 p,.int .i64 q,.int .i64 r,.slice a n c,.int .i64 t,.int .i64 u] 37)) 37 (.int .i64 p') (.int .i64 q') (.int .i64 r') (.slice a' n' c') (.int .i64 t') (.int .i64 u')
 rw [World.size_alloc] at hA'
 obtain ⟨W1,hW1⟩:∃ W1,W1=(w.alloc (.cells #[.int .i64 p,.int .i64 q,.int .i64 r,.slice a n c,.int .i64 t,.int .i64 u] 37)).alloc (.cells #[.int .i64 p',.int .i64 q',.int .i64 r',.slice a' n' c',.int .i64 t',.int .i64 u'] 37):=⟨_,rfl⟩
 have HW1:=Lib.hid hW1
 rw [← hW1] at hb0 hA hA'
 clear hW1
 have HA:=Lib.hid (fun (W:World) (hb:Below W1.heap.size W1 W)=>(⟨hA.below hb,hA'.below hb,hb0.trans (hb.mono hb0.size)⟩:BkAt W w.heap.size (.int .i64 p) (.int .i64 q) (.int .i64 r) (.slice a n c) (.int .i64 t) (.int .i64 u)∧BkAt W (w.heap.size+1) (.int .i64 p') (.int .i64 q') (.int .i64 r') (.slice a' n' c') (.int .i64 t') (.int .i64 u')∧Below w.heap.size w W))
 have HR2:=Lib.hid (fun (W:World) (hb:Below W1.heap.size W1 W)=>(⟨(h.below hb0).below hb,(h'.below hb0).below hb⟩:RowA W a n L∧RowA W a' n' L'))
 have HLN:Hid (n≠n'→L≠L'):=Lib.hid (fun hne e=>hne (by rw [← hl,← hl',e]))
 have HEQ:=Lib.hid (fun (hn:n=n') (h:EqToT noA L L' n)=>(of_decide_eq_true (h.all hl (by rw [hl',hn])):L=L'))
 clear h h' hb0 hA hA' hl hl'
 by_cases h0:p=p'
 case neg =>
  have HD:=Lib.hid (blk_ne (x:=⟨p,q,r,L,t,u⟩) (y:=⟨p',q',r',L',t',u'⟩) (by simp [h0]))
  have e0:(p != p')=true:=by simp [h0]
  clear h0
  go_enter Tryz.func87,Tryz.ntmps87
  go_upto_region 1 with (fail)
  rw [← HW1.out]
  clear HW1
  obtain ⟨⟨x0,x1,x2,x3,x4,x5,-⟩,⟨y0,y1,y2,y3,y4,y5,-⟩,hbf⟩:=HA.out W1 (Below.refl _ _)
  have HBF:=Lib.hid hbf
  clear hbf
  go_wp2_with fail
  go_ret
  exact ⟨by rw [HV.out,HD.out];rfl,HBF.out⟩
 have e0:(p != p')=false:=by simp [h0]
 have H0:=Lib.hid h0
 clear h0
 by_cases h1:q=q'
 case neg =>
  have HD:=Lib.hid (blk_ne (x:=⟨p,q,r,L,t,u⟩) (y:=⟨p',q',r',L',t',u'⟩) (by simp [h1]))
  have e1:(q != q')=true:=by simp [h1]
  clear h1
  go_enter Tryz.func87,Tryz.ntmps87
  go_upto_region 1 with (fail)
  rw [← HW1.out]
  clear HW1
  obtain ⟨⟨x0,x1,x2,x3,x4,x5,-⟩,⟨y0,y1,y2,y3,y4,y5,-⟩,hbf⟩:=HA.out W1 (Below.refl _ _)
  have HBF:=Lib.hid hbf
  clear hbf
  go_wp2_with fail
  go_ret
  exact ⟨by rw [HV.out,HD.out];rfl,HBF.out⟩
 have e1:(q != q')=false:=by simp [h1]
 have H1:=Lib.hid h1
 clear h1
 by_cases h2:r=r'
 case neg =>
  have HD:=Lib.hid (blk_ne (x:=⟨p,q,r,L,t,u⟩) (y:=⟨p',q',r',L',t',u'⟩) (by simp [h2]))
  have e2:(r != r')=true:=by simp [h2]
  clear h2
  go_enter Tryz.func87,Tryz.ntmps87
  go_upto_region 1 with (fail)
  rw [← HW1.out]
  clear HW1
  obtain ⟨⟨x0,x1,x2,x3,x4,x5,-⟩,⟨y0,y1,y2,y3,y4,y5,-⟩,hbf⟩:=HA.out W1 (Below.refl _ _)
  have HBF:=Lib.hid hbf
  clear hbf
  go_wp2_with fail
  go_ret
  exact ⟨by rw [HV.out,HD.out];rfl,HBF.out⟩
 have e2:(r != r')=false:=by simp [h2]
 have H2:=Lib.hid h2
 clear h2
 by_cases h3:t=t'
 case neg =>
  have HD:=Lib.hid (blk_ne (x:=⟨p,q,r,L,t,u⟩) (y:=⟨p',q',r',L',t',u'⟩) (by simp [h3]))
  have e3:(t != t')=true:=by simp [h3]
  clear h3
  go_enter Tryz.func87,Tryz.ntmps87
  go_upto_region 1 with (fail)
  rw [← HW1.out]
  clear HW1
  obtain ⟨⟨x0,x1,x2,x3,x4,x5,-⟩,⟨y0,y1,y2,y3,y4,y5,-⟩,hbf⟩:=HA.out W1 (Below.refl _ _)
  have HBF:=Lib.hid hbf
  clear hbf
  go_wp2_with fail
  go_ret
  exact ⟨by rw [HV.out,HD.out];rfl,HBF.out⟩
 have e3:(t != t')=false:=by simp [h3]
 have H3:=Lib.hid h3
 clear h3
 by_cases h4:u=u'
 case neg =>
  have HD:=Lib.hid (blk_ne (x:=⟨p,q,r,L,t,u⟩) (y:=⟨p',q',r',L',t',u'⟩) (by simp [h4]))
  have e4:(u != u')=true:=by simp [h4]
  clear h4
  go_enter Tryz.func87,Tryz.ntmps87
  go_upto_region 1 with (fail)
  rw [← HW1.out]
  clear HW1
  obtain ⟨⟨x0,x1,x2,x3,x4,x5,-⟩,⟨y0,y1,y2,y3,y4,y5,-⟩,hbf⟩:=HA.out W1 (Below.refl _ _)
  have HBF:=Lib.hid hbf
  clear hbf
  go_wp2_with fail
  go_ret
  exact ⟨by rw [HV.out,HD.out];rfl,HBF.out⟩
 have e4:(u != u')=false:=by simp [h4]
 have H4:=Lib.hid h4
 clear h4
 by_cases h5:n=n'
 case neg =>
  have HD:=Lib.hid (blk_ne (x:=⟨p,q,r,L,t,u⟩) (y:=⟨p',q',r',L',t',u'⟩) (by simp [HLN.out h5]))
  have e5:((n:Int) != (n':Int))=true:=by simp;omega
  clear h5
  go_enter Tryz.func87,Tryz.ntmps87
  go_upto_region 1 with (fail)
  rw [← HW1.out]
  clear HW1
  obtain ⟨⟨x0,x1,x2,x3,x4,x5,-⟩,⟨y0,y1,y2,y3,y4,y5,-⟩,hbf⟩:=HA.out W1 (Below.refl _ _)
  have HBF:=Lib.hid hbf
  clear hbf
  go_wp2_with fail
  go_ret
  exact ⟨by rw [HV.out,HD.out];rfl,HBF.out⟩
 have e5:((n:Int) != (n':Int))=false:=by simp;omega
 have HD:=Lib.hid (fun (e:L=L')=>(by obtain rfl:=H0.out;obtain rfl:=H1.out;obtain rfl:=H2.out;obtain rfl:=H3.out;obtain rfl:=H4.out;subst e;simp:decide ((⟨p,q,r,L,t,u⟩:Blk)=⟨p',q',r',L',t',u'⟩)=true))
 have HX:=Lib.hid (fun (e:L≠L')=>blk_ne (x:=⟨p,q,r,L,t,u⟩) (y:=⟨p',q',r',L',t',u'⟩) (by simp [e]))
 have HEQ1:=Lib.hid (HEQ.out h5)
 subst h5
 go_enter Tryz.func87,Tryz.ntmps87
 go_upto_region 1 with (fail)
 rw [← HW1.out]
 clear HW1
 obtain ⟨⟨x0,x1,x2,x3,x4,x5,-⟩,⟨y0,y1,y2,y3,y4,y5,-⟩,hbf⟩:=HA.out W1 (Below.refl _ _)
 have HBF:=Lib.hid hbf
 clear hbf
 clear HBF
 go_wp2_with fail
 clear x0 x1 x2 x3 x4 x5 y0 y1 y2 y3 y4 y5 e0 e1 e2 e3 e4 e5
 go_loopw [5] (fun i wr=>∃ k:Nat,k≤n∧i = .int .i64 k∧EqToT noA L L' k∧Below W1.heap.size W1 wr) (fun i _=>n - (intOf i).toNat)
 case atStart=>exact ⟨0,Nat.zero_le _,rfl,fun j hj=>absurd hj (by omega),Below.refl _ _⟩
 case round =>
  obtain ⟨k,hk,rfl,hto,hb⟩:=hrel
  have HB:=Lib.hid hb
  have HTO:=Lib.hid hto
  clear hto hb
  obtain ⟨⟨-,-,-,x3,-⟩,⟨-,-,-,y3,-⟩,hbf⟩:=HA.out wr HB.out
  by_cases hlt:k < n
  · obtain ⟨b,off,rfl,hcc⟩:=(HR2.out wr HB.out).1.2.2.1 (by omega)
    obtain ⟨b',off',rfl,hcc'⟩:=(HR2.out wr HB.out).2.2.2.1 (by omega)
    obtain ⟨c1',c2',c3',c4'⟩:=hcc k hlt
    obtain ⟨d1',d2',d3',d4'⟩:=hcc' k hlt
    have HN:=Lib.hid (fun hh=>EqToT.next (k:=k) HTO.out hh)
    have HNE:=Lib.hid (fun (hh:L.getD k noA≠L'.getD k noA)=>HX.out (fun e=>hh (by rw [e])))
    clear hcc hcc' hbf
    obtain ⟨x,hx⟩:∃ x,x=L.getD k noA:=⟨_,rfl⟩
    obtain ⟨y,hy⟩:∃ y,y=L'.getD k noA:=⟨_,rfl⟩
    rw [← hx] at c1' c2' c3' c4' HN HNE
    rw [← hy] at d1' d2' d3' d4' HN HNE
    clear hx hy
    obtain ⟨k1,k2,k3,k4⟩:=x
    obtain ⟨l1,l2,l3,l4⟩:=y
    simp only at c1' c2' c3' c4' d1' d2' d3' d4'
    have i1:(0:Int)≤(k:Int):=by omega
    have i2:(k:Int) < (n:Int):=by omega
    cases e1:(k1 == l1) with
    | false =>
     have HF:=Lib.hid (HNE.out (by simp at e1;simp [e1]))
     go_upto_region 6 with (fail)
     go_quiet (fail)
     go_wp2_with fail
     go_ret
     exact ⟨by rw [HV.out,HF.out];rfl,by first | exact (HA.out _ HB.out).2.2 | exact (HA.out _ HB.out.drew).2.2 | exact (HA.out _ (below_drewN' HB.out _)).2.2⟩
    | true =>
     cases e2:(k2 == l2) with
     | false =>
      have HF:=Lib.hid (HNE.out (by simp at e2;simp [e2]))
      go_upto_region 6 with (fail)
      go_quiet (fail)
      go_wp2_with fail
      go_ret
      exact ⟨by rw [HV.out,HF.out];rfl,by first | exact (HA.out _ HB.out).2.2 | exact (HA.out _ HB.out.drew).2.2 | exact (HA.out _ (below_drewN' HB.out _)).2.2⟩
     | true =>
      cases e3:(k3 == l3) with
      | false =>
       have HF:=Lib.hid (HNE.out (by simp at e3;simp [e3]))
       go_upto_region 6 with (fail)
       go_quiet (fail)
       go_wp2_with fail
       go_ret
       exact ⟨by rw [HV.out,HF.out];rfl,by first | exact (HA.out _ HB.out).2.2 | exact (HA.out _ HB.out.drew).2.2 | exact (HA.out _ (below_drewN' HB.out _)).2.2⟩
      | true =>
       cases e4:(k4 == l4) with
       | false =>
        have HF:=Lib.hid (HNE.out (by simp at e4;simp [e4]))
        go_upto_region 6 with (fail)
        go_quiet (fail)
        go_wp2_with fail
        go_ret
        exact ⟨by rw [HV.out,HF.out];rfl,by first | exact (HA.out _ HB.out).2.2 | exact (HA.out _ HB.out.drew).2.2 | exact (HA.out _ (below_drewN' HB.out _)).2.2⟩
       | true =>
        have HF:=Lib.hid (HN.out (by simp at e1 e2 e3 e4;simp [e1,e2,e3,e4]))
        go_upto_region 6 with (fail)
        go_quiet (fail)
        go_wp2_with fail
        go_roundw
        case rel=>exact ⟨k+1,by omega,by go_num,HF.out,by first | exact HB.out | exact HB.out.drew | exact below_drewN' HB.out _⟩
        case measure=>simp [intOf];omega
  · obtain rfl:k=n:=by omega
    have HF:=Lib.hid (HD.out (HEQ1.out HTO.out))
    have HBF:=Lib.hid hbf
    clear hlt hbf
    go_wp2_with fail
    go_ret
    exact ⟨by rw [HV.out,HF.out];rfl,HBF.out⟩
end Go.Proofs.YtpnjgmgmakmgeaaGreat
