/- Texts of ours that stand together: ImplBlk, ImplBlk2, ImplBlk3 -/
import Derived.Test.YtpnjgmgmakmgeaaGreatTrM
import Derived.Test.YtpnjgmgmakmgeaaGreatFive
import Derived.Test.YtpnjgmgmakmgeaaGreatTree
import Derived.Test.YtpnjgmgmakmgeaaGreatImplVw
import Derived.Test.YtpnjgmgmakmgeaaGreatImplNum
import Derived.Test.YtpnjgmgmakmgeaaGreatSr2
import Derived.Test.YtpnjgmgmakmgeaaGreatImplSer
import Derived.Test.YtpnjgmgmakmgeaaGreatTwo
import Derived.Test.YtpnjgmgmakmgeaaGreatCloneA
import Derived.Test.YtpnjgmgmakmgeaaGreatRegO
import Derived.Deep.Cut
/- The contracts of the program's isHeight,isView,BlockValid. -/
namespace Go.Proofs.YtpnjgmgmakmgeaaGreat
open Go.RowKit
set_option linter.unusedVariables false
set_option maxHeartbeats 4000000 in
theorem blockValid_impl (p q r t u:Int) (a:Option Addr) (n c:Nat) (L:List Acn) (w:World) (h:RowA w a n L) :
  Calls Tryz.prog 74 #[.agg #[.int .i64 p,.int .i64 q,.int .i64 r,.slice a n c,.int .i64 t,.int .i64 u]] w (BoolB (blkB ⟨p,q,r,L,t,u⟩) w):=by
 have hb0:=(Below.refl w.heap.size w).alloc (Nat.le_refl _) (.cells #[.int .i64 p,.int .i64 q,.int .i64 r,.slice a n c,.int .i64 t,.int .i64 u] 37)
 have H:=Lib.hid (h.below hb0)
 have HB:=Lib.hid hb0
 clear h hb0
 cases e0:inB p 0 1000002 with
 | false =>
  have HE:Hid (blkB ⟨p,q,r,L,t,u⟩=false):=Lib.hid (by simp [blkB,e0])
  go_enter Tryz.func74,Tryz.ntmps74
  go_wp2_with (first | (go_at_call 134;refine (isSum_impl _ _).mono ?_;rintro e w' ⟨rfl,rfl⟩) | (go_at_call 135;refine (isHeight_impl _ _).mono ?_;rintro e w' ⟨rfl,rfl⟩) | (go_at_call 136;refine (isView_impl _ _).mono ?_;rintro e w' ⟨rfl,rfl⟩))
  go_ret
  exact ⟨by rw [HE.out];rfl,HB.out⟩
 | true =>
 cases e1:inB t 0 1000002 with
 | false =>
  have HE:Hid (blkB ⟨p,q,r,L,t,u⟩=false):=Lib.hid (by simp [blkB,e1])
  go_enter Tryz.func74,Tryz.ntmps74
  go_wp2_with (first | (go_at_call 134;refine (isSum_impl _ _).mono ?_;rintro e w' ⟨rfl,rfl⟩) | (go_at_call 135;refine (isHeight_impl _ _).mono ?_;rintro e w' ⟨rfl,rfl⟩) | (go_at_call 136;refine (isView_impl _ _).mono ?_;rintro e w' ⟨rfl,rfl⟩))
  go_ret
  exact ⟨by rw [HE.out];rfl,HB.out⟩
 | true =>
 cases e2:inB u 0 1000002 with
 | false =>
  have HE:Hid (blkB ⟨p,q,r,L,t,u⟩=false):=Lib.hid (by simp [blkB,e2])
  go_enter Tryz.func74,Tryz.ntmps74
  go_wp2_with (first | (go_at_call 134;refine (isSum_impl _ _).mono ?_;rintro e w' ⟨rfl,rfl⟩) | (go_at_call 135;refine (isHeight_impl _ _).mono ?_;rintro e w' ⟨rfl,rfl⟩) | (go_at_call 136;refine (isView_impl _ _).mono ?_;rintro e w' ⟨rfl,rfl⟩))
  go_ret
  exact ⟨by rw [HE.out];rfl,HB.out⟩
 | true =>
 cases e3:inB q 0 100 with
 | false =>
  have HE:Hid (blkB ⟨p,q,r,L,t,u⟩=false):=Lib.hid (by simp [blkB,e3])
  go_enter Tryz.func74,Tryz.ntmps74
  go_wp2_with (first | (go_at_call 134;refine (isSum_impl _ _).mono ?_;rintro e w' ⟨rfl,rfl⟩) | (go_at_call 135;refine (isHeight_impl _ _).mono ?_;rintro e w' ⟨rfl,rfl⟩) | (go_at_call 136;refine (isView_impl _ _).mono ?_;rintro e w' ⟨rfl,rfl⟩))
  go_ret
  exact ⟨by rw [HE.out];rfl,HB.out⟩
 | true =>
 cases e4:inB r 0 1000 with
 | false =>
  have HE:Hid (blkB ⟨p,q,r,L,t,u⟩=false):=Lib.hid (by simp [blkB,e4])
  go_enter Tryz.func74,Tryz.ntmps74
  go_wp2_with (first | (go_at_call 134;refine (isSum_impl _ _).mono ?_;rintro e w' ⟨rfl,rfl⟩) | (go_at_call 135;refine (isHeight_impl _ _).mono ?_;rintro e w' ⟨rfl,rfl⟩) | (go_at_call 136;refine (isView_impl _ _).mono ?_;rintro e w' ⟨rfl,rfl⟩))
  go_ret
  exact ⟨by rw [HE.out];rfl,HB.out⟩
 | true =>
 have HE:Hid (blkB ⟨p,q,r,L,t,u⟩=actsB L):=Lib.hid (by simp [blkB,e0,e1,e2,e3,e4])
 go_enter Tryz.func74,Tryz.ntmps74
 go_wp2_with (first | (first | (go_at_call 134;refine (isSum_impl _ _).mono ?_;rintro e w' ⟨rfl,rfl⟩) | (go_at_call 135;refine (isHeight_impl _ _).mono ?_;rintro e w' ⟨rfl,rfl⟩) | (go_at_call 136;refine (isView_impl _ _).mono ?_;rintro e w' ⟨rfl,rfl⟩)) | (go_at_call 137;refine (actionsValid_impl a n c L _ H.out).mono ?_;rintro e w1 ⟨rfl,hb1⟩;have HB1:=Lib.hid (HB.out.trans (hb1.mono HB.out.size));clear hb1))
 go_ret
 exact ⟨by rw [HE.out];rfl,HB1.out⟩
set_option linter.unusedSimpArgs false
set_option maxRecDepth 100000 in
set_option maxHeartbeats 4000000 in
theorem blkNumbers_impl (p q r t u:Int) (a:Option Addr) (n c:Nat) (L:List Acn) (w:World) (h:RowA w a n L) (hv:blkB ⟨p,q,r,L,t,u⟩=true) :
  Calls Tryz.prog 75 #[.agg #[.int .i64 p,.int .i64 q,.int .i64 r,.slice a n c,.int .i64 t,.int .i64 u]] w (NewLN w (blkNums ⟨p,q,r,L,t,u⟩)):=by
 have HWF:Hid (∀ x∈blkNums ⟨p,q,r,L,t,u⟩,(Lit.int .i64 x).wf=true):=Lib.hid (fun x hx=>by have:=blkNums_bd hv x hx;exact WalkArith.wf_i64 (by omega))
 have hL10:=(actsB_true (blkB_true hv).2.2.2.2.2).1
 have hn:L.length=n:=h.1
 have hn10:n≤10:=by simp only at hL10;omega
 have HNX:Hid (∀ k,k < n→blkTo ⟨p,q,r,L,t,u⟩ k++numA (L.getD k noA)=blkTo ⟨p,q,r,L,t,u⟩ (k+1)):=Lib.hid (fun k hk=>blkTo_next ⟨p,q,r,L,t,u⟩ k (by simp only;omega))
 have HEND:Hid (blkTo ⟨p,q,r,L,t,u⟩ n++[t,u]=blkNums ⟨p,q,r,L,t,u⟩):=Lib.hid (by unfold blkNums;simp only;rw [hn])
 have HLN:Hid ((blkNums ⟨p,q,r,L,t,u⟩).length=n*4+4+2):=Lib.hid (by unfold blkNums;rw [List.length_append,blkTo_len _ _ (Nat.le_refl _)];simp only [List.length_cons,List.length_nil];omega)
 have hA0:=bkAt_new w 37 (.int .i64 p) (.int .i64 q) (.int .i64 r) (.slice a n c) (.int .i64 t) (.int .i64 u)
 have hb0:=(Below.refl w.heap.size w).alloc (Nat.le_refl _) (.cells #[.int .i64 p,.int .i64 q,.int .i64 r,.slice a n c,.int .i64 t,.int .i64 u] 37)
 have ho0:=(own_lit (w:=w.alloc (.cells #[.int .i64 p,.int .i64 q,.int .i64 r,.slice a n c,.int .i64 t,.int .i64 u] 37)) (B:=w.heap.size) 3 1 #[.int .i64 p,.int .i64 q,.int .i64 r,.int .i64 (n:Int)] 4 (by simp) (by unfold maxLen;omega) rfl).1
 have hb1:=hb0.alloc hb0.size (.cells #[.int .i64 p,.int .i64 q,.int .i64 r,.int .i64 (n:Int)] 3)
 have hA1:=hA0.below ((Below.refl _ _).alloc (Nat.le_refl _) (.cells #[.int .i64 p,.int .i64 q,.int .i64 r,.int .i64 (n:Int)] 3))
 have hst:((w.alloc (.cells #[.int .i64 p,.int .i64 q,.int .i64 r,.slice a n c,.int .i64 t,.int .i64 u] 37)).alloc (.cells #[.int .i64 p,.int .i64 q,.int .i64 r,.int .i64 (n:Int)] 3)).ownsRow w.heap.size 3 1 (.slice (some ⟨w.heap.size+1,0,none⟩) 4 4) (0*4+4) ((blkTo ⟨p,q,r,L,t,u⟩ 0).map (Value.int .i64)):=by
  rw [blkTo_zero];simp only;rw [hn];rw [World.size_alloc] at ho0;exact ho0
 have HR:=Lib.hid h
 obtain ⟨hl,hm,hc,-⟩:=h
 clear hA0 hb0 ho0 hv hL10 hl hm hn
 have HC:=Lib.hid hc
 clear hc
 go_enter Tryz.func75,Tryz.ntmps75
 go_wp2_with fail
 obtain ⟨A,hAe⟩:∃ A,A=w.heap.size:=⟨_,rfl⟩
 have HAe:=Lib.hid hAe
 generalize hw1:World.alloc (World.alloc w _) _=w1 at hA1 hb1 hst ⊢
 clear hw1
 go_loopw [3,19] (fun v i wr=>∃ k:Nat,k≤n∧i = .int .i64 k∧wr.ownsRow w.heap.size 3 1 v (k*4+4) ((blkTo ⟨p,q,r,L,t,u⟩ k).map (Value.int .i64))∧v.ownBlock≠some w.heap.size∧BkAt wr w.heap.size (.int .i64 p) (.int .i64 q) (.int .i64 r) (.slice a n c) (.int .i64 t) (.int .i64 u)∧Below w.heap.size w wr) (fun _ i _=>n - (intOf i).toNat)
 case atStart=>exact ⟨0,Nat.zero_le _,rfl,hst,by simp [Value.ownBlock],hA1,hb1⟩
 case round =>
  clear hst hA1 hb1
  obtain ⟨k,hk,rfl,hown,hne,hA,hb⟩:=hrel
  by_cases hlt:k < n
  · obtain ⟨b,off,rfl,hcc⟩:=HC.out (by omega)
    obtain ⟨d1,d2,d3,d4⟩:=hcc k hlt
    have hbB:b < w.heap.size:=World.block_lt_of_cell? w ⟨b,off+k*4,none⟩ d1
    have c1:=(hb.cell (p:=⟨b,off+k*4,none⟩) hbB).trans d1
    have c2:=(hb.cell (p:=⟨b,off+k*4+1,none⟩) hbB).trans d2
    have c3:=(hb.cell (p:=⟨b,off+k*4+2,none⟩) hbB).trans d3
    have c4:=(hb.cell (p:=⟨b,off+k*4+3,none⟩) hbB).trans d4
    have HN:=Lib.hid (HNX.out k hlt)
    clear hcc d1 d2 d3 d4
    obtain ⟨x,hx⟩:∃ x,x=L.getD k noA:=⟨_,rfl⟩
    rw [← hx] at c1 c2 c3 c4 HN
    clear hx
    obtain ⟨x1,x2,x3,x4⟩:=x
    simp only at c1 c2 c3 c4
    have hbe:=hb.alloc hb.size (.cells #[.int .i64 x1,.int .i64 x2,.int .i64 x3,.int .i64 x4] 113)
    go_wp2_with (first | (at_builtin;refine wpList_append_lit (W:=wr.alloc (.cells #[.int .i64 x1,.int .i64 x2,.int .i64 x3,.int .i64 x4] 113)) rfl _ _ 25 rfl w.heap.size 3 3 (.int .i64 0) 1 8 4 Tryz.underlying25 infoInt rfl (by decide) _ (k*4+4) _ [.int .i64 x1,.int .i64 x2,.int .i64 x3,.int .i64 x4] (by rfl) (hown.alloc (.cells #[.int .i64 x1,.int .i64 x2,.int .i64 x3,.int .i64 x4] 113)) (by simp [Act.eval]) rfl ?c11 (by decide) ?c21 (by decide) ?c31 ?_))
    case c11=>intro u hu;simp at hu;rcases hu with rfl | rfl | rfl | rfl <;> rfl
    case c21=>omega
    case c31=>exact hbe.size
    intro v2 w2 ho2 hnn2 hg2 hat
    have hal:=(Below.refl wr.heap.size wr).alloc (Nat.le_refl _) (.cells #[.int .i64 x1,.int .i64 x2,.int .i64 x3,.int .i64 x4] 113)
    have hal2:=hal.alloc hal.size (.cells #[.int .i64 x1,.int .i64 x2,.int .i64 x3,.int .i64 x4] 3)
    have hA2:=(hA.below hal2).grown hg2 (fun e=>hne e.symm)
    have hAlt:=hA.lt
    have hne2:v2.ownBlock≠some w.heap.size:=by
     rcases hat with e | e
     · rw [e];exact hne
     · rw [e];simp;omega
    have hb2:=(hbe.alloc hbe.size (.cells #[.int .i64 x1,.int .i64 x2,.int .i64 x3,.int .i64 x4] 3)).grown hg2 (by have:=hbe.size;simp at this ⊢;omega) (fun q hq=>(hown.lt q hq).1)
    have HO2:=Lib.hid ho2
    clear hal hal2 hg2 hat hbe hown hb ho2 hA hAlt
    go_wp2
    go_roundw
    case rel=>exact ⟨k+1,by omega,by go_num,by have hq:=HO2.out;rw [show k*4+4+4=(k+1)*4+4 by omega] at hq;rw [← HN.out,List.map_append];exact hq,hne2,hA2,hb2⟩
    case measure=>simp [intOf];omega
  · obtain rfl:k=n:=by omega
    have hbs:=hb.size
    obtain ⟨-,-,-,-,e4,e5,-⟩:=hA
    go_wp2_with (first | (at_builtin;refine wpList_append_lit (W:=wr) rfl _ _ 25 rfl w.heap.size 3 3 (.int .i64 0) 1 8 2 Tryz.underlying25 infoInt rfl (by decide) _ (k*4+4) _ [.int .i64 t,.int .i64 u] (by rfl) hown (by simp [Act.eval]) rfl ?c12 (by decide) ?c22 (by decide) ?c32 ?_))
    case c12=>intro u hu;simp at hu;rcases hu with rfl | rfl <;> rfl
    case c22=>omega
    case c32=>exact hbs
    intro v2 w2 ho2 hnn2 hg2 hat
    have hb2:=(hb.alloc hbs (.cells #[.int .i64 t,.int .i64 u] 3)).grown hg2 (by simp;omega) (fun q hq=>(hown.lt q hq).1)
    have HO2:=Lib.hid ho2
    clear hg2 hat hown hb ho2
    go_wp2
    go_ret
    exact ⟨_,rfl,by rw [← HEND.out,List.map_append];rw [HEND.out,HLN.out];exact HO2.out,HWF.out,hb2⟩
set_option maxHeartbeats 1000000 in
theorem blockSum_impl (p q r t u:Int) (a:Option Addr) (n c:Nat) (L:List Acn) (w:World) (h:RowA w a n L) :
  Calls Tryz.prog 19 #[.agg #[.int .i64 p,.int .i64 q,.int .i64 r,.slice a n c,.int .i64 t,.int .i64 u]] w (IntB (blkSumM ⟨p,q,r,L,t,u⟩) w):=by
 have hA0:=bkAt_new w 37 (.int .i64 p) (.int .i64 q) (.int .i64 r) (.slice a n c) (.int .i64 t) (.int .i64 u)
 have hb0:=(Below.refl w.heap.size w).alloc (Nat.le_refl _) (.cells #[.int .i64 p,.int .i64 q,.int .i64 r,.slice a n c,.int .i64 t,.int .i64 u] 37)
 have H:=Lib.hid (h.below hb0)
 have HB:=Lib.hid hb0
 have HA:=Lib.hid hA0
 clear h hb0 hA0
 go_enter Tryz.func19,Tryz.ntmps19
 go_wp2_with fail
 refine (blockValid_impl p q r t u a n c L _ H.out).mono ?_;rintro e w1 ⟨rfl,hb1⟩
 have HB1:=Lib.hid (HB.out.trans (hb1.mono HB.out.size))
 have H1:=Lib.hid (H.out.below hb1)
 obtain ⟨c0,c1,c2,c3,c4,c5,-⟩:=HA.out.below hb1
 clear hb1
 cases hv:blkB ⟨p,q,r,L,t,u⟩ with
 | false =>
  have HE:=Lib.hid (blkSumM_no hv)
  clear hv
  go_wp2
  go_ret
  exact ⟨ret_int HE.out.symm,HB1.out⟩
 | true =>
  have HE:Hid (sumOfM 5 (blkNums ⟨p,q,r,L,t,u⟩)=blkSumM ⟨p,q,r,L,t,u⟩):=Lib.hid (by unfold blkSumM;rw [if_pos hv])
  have HV:=Lib.hid hv
  have HLN:Hid ((blkNums ⟨p,q,r,L,t,u⟩).length≤4000000):=Lib.hid (by
   have:=(actsB_true (blkB_true hv).2.2.2.2.2).1
   unfold blkNums;rw [List.length_append,blkTo_len _ _ (Nat.le_refl _)];simp only [List.length_cons,List.length_nil] at this ⊢;omega)
  clear hv
  go_wp2_with fail
  refine (blkNumbers_impl p q r t u a n c L _ H1.out HV.out).mono ?_;rintro e w2 ⟨v,rfl,ho,hw,hb2⟩
  obtain ⟨g,k,rfl,hr⟩:=rowI_of_owns ho (by have:=HLN.out;unfold maxLen;omega) hw
  have HB2:=Lib.hid (HB1.out.trans (hb2.mono HB1.out.size))
  obtain ⟨l,hl⟩:∃ l,l=blkNums ⟨p,q,r,L,t,u⟩:=⟨_,rfl⟩
  rw [← hl] at hr HE ⊢
  clear hl ho hw hb2 HLN c0 c1 c2 c3 c4 c5
  go_wp2_with fail
  refine (sumOf_impl 5 _ _ k l _ hr).mono ?_;rintro e w' ⟨rfl,rfl⟩
  go_wp2
  go_ret
  exact ⟨ret_int HE.out,HB2.out⟩
def RunBk (w:World) (b:Blk) (v:Value) (e:Ending) (w':World):Prop:=e = .returned (blkV b v)∧Below w.heap.size w w'
set_option maxRecDepth 100000 in
set_option maxHeartbeats 4000000 in
theorem blkRun_impl (p q r t u:Int) (a:Option Addr) (n c:Nat) (L:List Acn) (a':Option Addr) (m c':Nat) (S:List Ent) (w:World) (h:RowA w a n L) (hS:RowE w a' m S) (hz:a'=none→c'=0) :
  Calls Tryz.prog 177 #[.agg #[.int .i64 p,.int .i64 q,.int .i64 r,.slice a n c,.int .i64 t,.int .i64 u],.slice a' m c'] w (RunBk w (blkRun ⟨p,q,r,L,t,u⟩ S) (.slice a n c)):=by
 have hb0:=((Below.refl w.heap.size w).alloc (Nat.le_refl _) (.cells #[.int .i64 p,.int .i64 q,.int .i64 r,.slice a n c,.int .i64 t,.int .i64 u] 37)).alloc (by simp) (.cells #[.int .i64 0,.int .i64 0,.int .i64 0,.slice none 0 0,.int .i64 0,.int .i64 0] 37)
 have hA:=(bkAt_new w 37 (.int .i64 p) (.int .i64 q) (.int .i64 r) (.slice a n c) (.int .i64 t) (.int .i64 u)).below ((Below.refl _ _).alloc (Nat.le_refl _) (.cells #[.int .i64 0,.int .i64 0,.int .i64 0,.slice none 0 0,.int .i64 0,.int .i64 0] 37))
 have hZ:=bkAt_new (w.alloc (.cells #[.int .i64 p,.int .i64 q,.int .i64 r,.slice a n c,.int .i64 t,.int .i64 u] 37)) 37 (.int .i64 0) (.int .i64 0) (.int .i64 0) (.slice none 0 0) (.int .i64 0) (.int .i64 0)
 rw [World.size_alloc] at hZ
 obtain ⟨W1,hW1⟩:∃ W1,W1=(w.alloc (.cells #[.int .i64 p,.int .i64 q,.int .i64 r,.slice a n c,.int .i64 t,.int .i64 u] 37)).alloc (.cells #[.int .i64 0,.int .i64 0,.int .i64 0,.slice none 0 0,.int .i64 0,.int .i64 0] 37):=⟨_,rfl⟩
 have HW1:=Lib.hid hW1
 rw [← hW1] at hb0 hA hZ
 clear hW1
 have HA:=Lib.hid (fun (W:World) (hb:Below W1.heap.size W1 W)=>(⟨hA.below hb,hZ.below hb,hb0.trans (hb.mono hb0.size)⟩:BkAt W w.heap.size (.int .i64 p) (.int .i64 q) (.int .i64 r) (.slice a n c) (.int .i64 t) (.int .i64 u)∧BkAt W (w.heap.size+1) (.int .i64 0) (.int .i64 0) (.int .i64 0) (.slice none 0 0) (.int .i64 0) (.int .i64 0)∧Below w.heap.size w W))
 have HR:=Lib.hid (h.below hb0)
 have HS:=Lib.hid (hS.below hb0)
 have HX:Hid ((serM S L).1.length≤32∧(serM S L).2.length≤10∧∀ x∈(serM S L).2,x.rds.length+x.wrs.length≤1500000):=Lib.hid ⟨serM_store S L,serM_len S L,fun x hx=>by have:=serM_eff S L x hx;omega⟩
 clear h hS hb0 hA hZ
 go_enter Tryz.func177,Tryz.ntmps177
 go_upto_region 1 with (fail)
 rw [← HW1.out]
 clear HW1
 obtain ⟨⟨x0,x1,x2,x3,x4,x5,-⟩,-,-⟩:=HA.out W1 (Below.refl _ _)
 go_wp2_with fail
 refine (runSerial_impl a' m c' S a n c L _ HS.out hz HR.out).mono ?_;rintro e w2 ⟨v2,u2,rfl,hSF,hb2⟩
 have HB2:=Lib.hid hb2
 obtain ⟨X,hX⟩:∃ X,X=serM S L:=⟨_,rfl⟩
 have HXE:=Lib.hid hX
 rw [← hX] at hSF HX
 obtain ⟨a2,k2,rfl,hr2,-⟩:=hSF.row (by have:=HX.out.1;omega)
 obtain ⟨b2,d2,rfl,hf2,-,-⟩:=rowFs_of_own hSF.effs
 have HF2:=Lib.hid hf2
 clear x0 x1 x2 x3 x4 x5 hb2 hX hSF hf2
 go_wp2_with fail
 refine (rootOf_impl a2 _ k2 X.1 _ hr2).mono ?_;rintro e w3 ⟨rfl,hb3⟩
 have HF3:=Lib.hid (HF2.out.below hb3)
 have HB3:=Lib.hid (HB2.out.trans (hb3.mono HB2.out.size))
 clear hb3 hr2
 have hx10:X.2.length≤2000000:=by have:=HX.out.2.1;omega
 go_wp2_with fail
 refine (effectsSum_impl b2 _ d2 X.2 _ HF3.out HX.out.2.2 hx10).mono ?_;rintro e w4 ⟨rfl,hb4⟩
 have HB4:=Lib.hid (HB3.out.trans (hb4.mono HB3.out.size))
 clear hb4 hx10
 have hres:Hid (blkRun ⟨p,q,r,L,t,u⟩ S=⟨p,q,r,L,rootM X.1,effsSumM X.2⟩):=Lib.hid (by rw [HXE.out];rfl)
 obtain ⟨rt,hrt⟩:∃ x,x=rootM X.1:=⟨_,rfl⟩
 obtain ⟨ef,hef⟩:∃ x,x=effsSumM X.2:=⟨_,rfl⟩
 rw [← hrt,← hef] at hres
 rw [← hrt,← hef]
 clear hrt hef
 obtain ⟨hA4,hZ4,hb4⟩:=HA.out w4 HB4.out
 have hAs:=hA4.set45 (.int .i64 rt) (.int .i64 ef)
 have hg45:w4.grownBy ((w4.setCell ⟨w.heap.size,4,none⟩ (.int .i64 rt)).setCell ⟨w.heap.size,5,none⟩ (.int .i64 ef)) (some w.heap.size):=grownBy_trans (grownBy_set w4 w.heap.size 4 _) (grownBy_set _ w.heap.size 5 _)
 have hZs:=hZ4.grown hg45 (by simp)
 have hbs:=(hb4.setCell (p:=⟨w.heap.size,4,none⟩) (Nat.le_refl _) (.int .i64 rt)).setCell (p:=⟨w.heap.size,5,none⟩) (Nat.le_refl _) (.int .i64 ef)
 obtain ⟨z0,z1,z2,z3,z4,z5,g0,g1,g2,g3,g4,g5⟩:=hA4
 have HAS:=Lib.hid hAs
 have HZF:=Lib.hid (hZs.set6 (.int .i64 p) (.int .i64 q) (.int .i64 r) (.slice a n c) (.int .i64 rt) (.int .i64 ef))
 have HBF:=Lib.hid (below_set6 hbs (Z:=w.heap.size+1) (by omega) (.int .i64 p) (.int .i64 q) (.int .i64 r) (.slice a n c) (.int .i64 rt) (.int .i64 ef))
 obtain ⟨zc0,zc1,zc2,zc3,zc4,zc5,zf0,zf1,zf2,zf3,zf4,zf5⟩:=hZ4
 clear hAs hg45 hZs hbs hb4
 go_wp2_with fail
 refine bodyPost_ret (results_blk Tryz.results177 _ (by rfl) HZF.out) rfl ?_
 exact ⟨by rw [hres.out],HBF.out⟩
theorem rowA_nil (w:World):RowA w none 0 []:=⟨rfl,by unfold maxLen;omega,fun h=>absurd h (by omega),fun x hx=>by cases hx⟩
set_option maxRecDepth 100000 in
set_option maxHeartbeats 4000000 in
theorem firstBlock_impl (a:Option Addr) (n c:Nat) (S:List Ent) (w:World) (h:RowE w a n S) (hz:a=none→c=0) :
  Calls Tryz.prog 163 #[.slice a n c] w (NewBk w 113 (firstM S)):=by
 have hb0:=(Below.refl w.heap.size w).alloc (Nat.le_refl _) (.cells #[.int .i64 0,.int .i64 0,.int .i64 0,.slice none 0 0,.int .i64 0,.int .i64 0] 37)
 have hA:=bkAt_new w 37 (.int .i64 0) (.int .i64 0) (.int .i64 0) (.slice none 0 0) (.int .i64 0) (.int .i64 0)
 obtain ⟨W1,hW1⟩:∃ W1,W1=w.alloc (.cells #[.int .i64 0,.int .i64 0,.int .i64 0,.slice none 0 0,.int .i64 0,.int .i64 0] 37):=⟨_,rfl⟩
 have HW1:=Lib.hid hW1
 rw [← hW1] at hb0 hA
 clear hW1
 have HA:=Lib.hid (fun (W:World) (hb:Below W1.heap.size W1 W)=>(⟨hA.below hb,hb0.trans (hb.mono hb0.size)⟩:BkAt W w.heap.size (.int .i64 0) (.int .i64 0) (.int .i64 0) (.slice none 0 0) (.int .i64 0) (.int .i64 0)∧Below w.heap.size w W))
 have HS:=Lib.hid (h.below hb0)
 clear h hb0 hA
 go_enter Tryz.func163,Tryz.ntmps163
 go_upto_region 1 with (fail)
 rw [← HW1.out]
 clear HW1
 go_wp2_with fail
 refine (storeValid_impl a n c S _ HS.out).mono ?_;rintro e w2 ⟨rfl,hb2⟩
 have HB2:=Lib.hid hb2
 cases hs:storeB S with
 | false =>
  have HE:=Lib.hid (firstM_no hs)
  obtain ⟨hA2,hB2⟩:=HA.out w2 hb2
  have HF:=Lib.hid (hA2.set6 (.int .i64 0) (.int .i64 0) (.int .i64 0) (.slice none 0 0) (.int .i64 0) (.int .i64 0))
  have HBF:=Lib.hid (below_set6 hB2 (Nat.le_refl w.heap.size) (.int .i64 0) (.int .i64 0) (.int .i64 0) (.slice none 0 0) (.int .i64 0) (.int .i64 0))
  obtain ⟨c0,c1,c2,c3,c4,c5,f0,f1,f2,f3,f4,f5⟩:=hA2
  clear hs hb2 hB2
  go_wp2_with fail
  refine bodyPost_ret (results_blk Tryz.results163 _ (by rfl) HF.out) rfl ?_
  exact ⟨.slice none 0 0,by rw [HE.out];rfl,by rw [HE.out];exact newBk_zero _ _ _,by rw [HE.out];exact fun x hx=>(by cases hx),by rw [HE.out];exact wfB_no,HBF.out⟩
 | true =>
  have HE:Hid (firstM S=blkRun ⟨0,0,0,[],0,0⟩ S):=Lib.hid (by unfold firstM;rw [if_pos hs];rfl)
  have HS2:=Lib.hid (HS.out.below hb2)
  clear hs hb2
  go_wp2_with fail
  refine (blkRun_impl 0 0 0 0 0 none 0 0 [] a n c S _ (rowA_nil _) HS2.out hz).mono ?_;rintro e w3 ⟨rfl,hb3⟩
  obtain ⟨hA3,hB3⟩:=HA.out w3 (HB2.out.trans (hb3.mono HB2.out.size))
  have HW:=Lib.hid (wfB_run (b:=⟨0,0,0,[],0,0⟩) S wfB_no)
  obtain ⟨x,hx⟩:∃ x,x=blkRun ⟨0,0,0,[],0,0⟩ S:=⟨_,rfl⟩
  have HX:Hid (x.bef=0∧x.hgt=0∧x.view=0∧x.acts=[]):=Lib.hid (by rw [hx];exact ⟨rfl,rfl,rfl,rfl⟩)
  rw [← hx] at HE HW ⊢
  clear hx
  have HF:=Lib.hid (hA3.set6 (.int .i64 x.bef) (.int .i64 x.hgt) (.int .i64 x.view) (.slice none 0 0) (.int .i64 x.root) (.int .i64 x.effs))
  have HBF:=Lib.hid (below_set6 hB3 (Nat.le_refl w.heap.size) (.int .i64 x.bef) (.int .i64 x.hgt) (.int .i64 x.view) (.slice none 0 0) (.int .i64 x.root) (.int .i64 x.effs))
  obtain ⟨c0,c1,c2,c3,c4,c5,f0,f1,f2,f3,f4,f5⟩:=hA3
  clear hb3 hB3
  go_wp2_with fail
  refine bodyPost_ret (results_blk Tryz.results163 _ (by rfl) HF.out) rfl ?_
  exact ⟨.slice none 0 0,by rw [HE.out],by rw [HE.out,HX.out.2.2.2];exact World.ownsRow_nil _ _ _ _,by rw [HE.out,HX.out.2.2.2];exact fun x hx=>(by cases hx),by rw [HE.out];exact HW.out,HBF.out⟩
end Go.Proofs.YtpnjgmgmakmgeaaGreat
