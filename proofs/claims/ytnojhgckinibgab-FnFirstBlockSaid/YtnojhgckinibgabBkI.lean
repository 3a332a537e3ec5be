/- Texts of ours that stand together: ImplBlk, ImplBlk2, ImplBlk3 -/
import Derived.Test.YtnojhgckinibgabTrM
import Derived.Test.YtnojhgckinibgabFive
import Derived.Test.YtnojhgckinibgabTree
import Derived.Test.YtnojhgckinibgabImplNum
import Derived.Test.YtnojhgckinibgabSr2
import Derived.Test.YtnojhgckinibgabImplSer
import Derived.Test.YtnojhgckinibgabTwo
import Derived.Test.YtnojhgckinibgabCloneA
import Derived.Test.YtnojhgckinibgabRegO
import Derived.Deep.Cut
/- The contracts of the program's isHeight,isView,BlockValid. -/
namespace Go.Proofs.Ytnojhgckinibgab
open Go.RowKit
set_option linter.unusedVariables false
theorem isHeight_impl (n:Int) (w:World) :
  Calls Try.prog 21 #[.int .i64 n] w fun e w'=>e = .returned (.bool (inB n 0 100))∧w=w':=by
 by_cases h1:0≤n
 · by_cases h2:n≤100
   · rw [inB_yes h1 h2]
     go_enter Try.func21,Try.ntmps21
     go_wp2
     go_ret
     exact ⟨rfl,rfl⟩
   · rw [inB_no (by omega)]
     go_enter Try.func21,Try.ntmps21
     go_wp2
     go_ret
     exact ⟨rfl,rfl⟩
 · rw [inB_no (by omega)]
   go_enter Try.func21,Try.ntmps21
   go_wp2
   go_ret
   exact ⟨rfl,rfl⟩
theorem isView_impl (n:Int) (w:World) :
  Calls Try.prog 22 #[.int .i64 n] w fun e w'=>e = .returned (.bool (inB n 0 1000))∧w=w':=by
 by_cases h1:0≤n
 · by_cases h2:n≤1000
   · rw [inB_yes h1 h2]
     go_enter Try.func22,Try.ntmps22
     go_wp2
     go_ret
     exact ⟨rfl,rfl⟩
   · rw [inB_no (by omega)]
     go_enter Try.func22,Try.ntmps22
     go_wp2
     go_ret
     exact ⟨rfl,rfl⟩
 · rw [inB_no (by omega)]
   go_enter Try.func22,Try.ntmps22
   go_wp2
   go_ret
   exact ⟨rfl,rfl⟩
set_option maxHeartbeats 4000000 in
theorem blockValid_impl (p q r t u:Int) (a:Option Addr) (n c:Nat) (L:List Acn) (w:World) (h:RowA w a n L) :
  Calls Try.prog 10 #[.agg #[.int .i64 p,.int .i64 q,.int .i64 r,.slice a n c,.int .i64 t,.int .i64 u]] w (BoolB (blkB ⟨p,q,r,L,t,u⟩) w):=by
 have hb0:=(Below.refl w.heap.size w).alloc (Nat.le_refl _) (.cells #[.int .i64 p,.int .i64 q,.int .i64 r,.slice a n c,.int .i64 t,.int .i64 u] 27)
 have H:=Lib.hid (h.below hb0)
 have HB:=Lib.hid hb0
 clear h hb0
 cases e0:inB p 0 1000002 with
 | false =>
  have HE:Hid (blkB ⟨p,q,r,L,t,u⟩=false):=Lib.hid (by simp [blkB,e0])
  go_enter Try.func10,Try.ntmps10
  go_wp2_with (first | (go_at_call 20;refine (isSum_impl _ _).mono ?_;rintro e w' ⟨rfl,rfl⟩) | (go_at_call 21;refine (isHeight_impl _ _).mono ?_;rintro e w' ⟨rfl,rfl⟩) | (go_at_call 22;refine (isView_impl _ _).mono ?_;rintro e w' ⟨rfl,rfl⟩))
  go_ret
  exact ⟨by rw [HE.out];rfl,HB.out⟩
 | true =>
 cases e1:inB t 0 1000002 with
 | false =>
  have HE:Hid (blkB ⟨p,q,r,L,t,u⟩=false):=Lib.hid (by simp [blkB,e1])
  go_enter Try.func10,Try.ntmps10
  go_wp2_with (first | (go_at_call 20;refine (isSum_impl _ _).mono ?_;rintro e w' ⟨rfl,rfl⟩) | (go_at_call 21;refine (isHeight_impl _ _).mono ?_;rintro e w' ⟨rfl,rfl⟩) | (go_at_call 22;refine (isView_impl _ _).mono ?_;rintro e w' ⟨rfl,rfl⟩))
  go_ret
  exact ⟨by rw [HE.out];rfl,HB.out⟩
 | true =>
 cases e2:inB u 0 1000002 with
 | false =>
  have HE:Hid (blkB ⟨p,q,r,L,t,u⟩=false):=Lib.hid (by simp [blkB,e2])
  go_enter Try.func10,Try.ntmps10
  go_wp2_with (first | (go_at_call 20;refine (isSum_impl _ _).mono ?_;rintro e w' ⟨rfl,rfl⟩) | (go_at_call 21;refine (isHeight_impl _ _).mono ?_;rintro e w' ⟨rfl,rfl⟩) | (go_at_call 22;refine (isView_impl _ _).mono ?_;rintro e w' ⟨rfl,rfl⟩))
  go_ret
  exact ⟨by rw [HE.out];rfl,HB.out⟩
 | true =>
 cases e3:inB q 0 100 with
 | false =>
  have HE:Hid (blkB ⟨p,q,r,L,t,u⟩=false):=Lib.hid (by simp [blkB,e3])
  go_enter Try.func10,Try.ntmps10
  go_wp2_with (first | (go_at_call 20;refine (isSum_impl _ _).mono ?_;rintro e w' ⟨rfl,rfl⟩) | (go_at_call 21;refine (isHeight_impl _ _).mono ?_;rintro e w' ⟨rfl,rfl⟩) | (go_at_call 22;refine (isView_impl _ _).mono ?_;rintro e w' ⟨rfl,rfl⟩))
  go_ret
  exact ⟨by rw [HE.out];rfl,HB.out⟩
 | true =>
 cases e4:inB r 0 1000 with
 | false =>
  have HE:Hid (blkB ⟨p,q,r,L,t,u⟩=false):=Lib.hid (by simp [blkB,e4])
  go_enter Try.func10,Try.ntmps10
  go_wp2_with (first | (go_at_call 20;refine (isSum_impl _ _).mono ?_;rintro e w' ⟨rfl,rfl⟩) | (go_at_call 21;refine (isHeight_impl _ _).mono ?_;rintro e w' ⟨rfl,rfl⟩) | (go_at_call 22;refine (isView_impl _ _).mono ?_;rintro e w' ⟨rfl,rfl⟩))
  go_ret
  exact ⟨by rw [HE.out];rfl,HB.out⟩
 | true =>
 have HE:Hid (blkB ⟨p,q,r,L,t,u⟩=actsB L):=Lib.hid (by simp [blkB,e0,e1,e2,e3,e4])
 go_enter Try.func10,Try.ntmps10
 go_wp2_with (first | (first | (go_at_call 20;refine (isSum_impl _ _).mono ?_;rintro e w' ⟨rfl,rfl⟩) | (go_at_call 21;refine (isHeight_impl _ _).mono ?_;rintro e w' ⟨rfl,rfl⟩) | (go_at_call 22;refine (isView_impl _ _).mono ?_;rintro e w' ⟨rfl,rfl⟩)) | (go_at_call 23;refine (actionsValid_impl a n c L _ H.out).mono ?_;rintro e w1 ⟨rfl,hb1⟩;have HB1:=Lib.hid (HB.out.trans (hb1.mono HB.out.size));clear hb1))
 go_ret
 exact ⟨by rw [HE.out];rfl,HB1.out⟩
end Go.Proofs.Ytnojhgckinibgab
/- The contracts of the program's Block.numbers,BlockSum,Block.run and FirstBlock. -/
namespace Go.Proofs.Ytnojhgckinibgab
open Go.RowKit
set_option linter.unusedVariables false
set_option linter.unusedSimpArgs false
def RunBk (w:World) (b:Blk) (v:Value) (e:Ending) (w':World):Prop:=e = .returned (blkV b v)∧Below w.heap.size w w'
set_option maxRecDepth 100000 in
set_option maxHeartbeats 4000000 in
theorem blkRun_impl (p q r t u:Int) (a:Option Addr) (n c:Nat) (L:List Acn) (a':Option Addr) (m c':Nat) (S:List Ent) (w:World) (h:RowA w a n L) (hS:RowE w a' m S) (hz:a'=none→c'=0) :
  Calls Try.prog 15 #[.agg #[.int .i64 p,.int .i64 q,.int .i64 r,.slice a n c,.int .i64 t,.int .i64 u],.slice a' m c'] w (RunBk w (blkRun ⟨p,q,r,L,t,u⟩ S) (.slice a n c)):=by
 have hb0:=((Below.refl w.heap.size w).alloc (Nat.le_refl _) (.cells #[.int .i64 p,.int .i64 q,.int .i64 r,.slice a n c,.int .i64 t,.int .i64 u] 27)).alloc (by simp) (.cells #[.int .i64 0,.int .i64 0,.int .i64 0,.slice none 0 0,.int .i64 0,.int .i64 0] 27)
 have hA:=(bkAt_new w 27 (.int .i64 p) (.int .i64 q) (.int .i64 r) (.slice a n c) (.int .i64 t) (.int .i64 u)).below ((Below.refl _ _).alloc (Nat.le_refl _) (.cells #[.int .i64 0,.int .i64 0,.int .i64 0,.slice none 0 0,.int .i64 0,.int .i64 0] 27))
 have hZ:=bkAt_new (w.alloc (.cells #[.int .i64 p,.int .i64 q,.int .i64 r,.slice a n c,.int .i64 t,.int .i64 u] 27)) 27 (.int .i64 0) (.int .i64 0) (.int .i64 0) (.slice none 0 0) (.int .i64 0) (.int .i64 0)
 rw [World.size_alloc] at hZ
 obtain ⟨W1,hW1⟩:∃ W1,W1=(w.alloc (.cells #[.int .i64 p,.int .i64 q,.int .i64 r,.slice a n c,.int .i64 t,.int .i64 u] 27)).alloc (.cells #[.int .i64 0,.int .i64 0,.int .i64 0,.slice none 0 0,.int .i64 0,.int .i64 0] 27):=⟨_,rfl⟩
 have HW1:=Lib.hid hW1
 rw [← hW1] at hb0 hA hZ
 clear hW1
 have HA:=Lib.hid (fun (W:World) (hb:Below W1.heap.size W1 W)=>(⟨hA.below hb,hZ.below hb,hb0.trans (hb.mono hb0.size)⟩:BkAt W w.heap.size (.int .i64 p) (.int .i64 q) (.int .i64 r) (.slice a n c) (.int .i64 t) (.int .i64 u)∧BkAt W (w.heap.size+1) (.int .i64 0) (.int .i64 0) (.int .i64 0) (.slice none 0 0) (.int .i64 0) (.int .i64 0)∧Below w.heap.size w W))
 have HR:=Lib.hid (h.below hb0)
 have HS:=Lib.hid (hS.below hb0)
 have HX:Hid ((serM S L).1.length≤32∧(serM S L).2.length≤10∧∀ x∈(serM S L).2,x.rds.length+x.wrs.length≤1500000):=Lib.hid ⟨serM_store S L,serM_len S L,fun x hx=>by have:=serM_eff S L x hx;omega⟩
 clear h hS hb0 hA hZ
 go_enter Try.func15,Try.ntmps15
 go_upto_region 1 with (fail)
 rw [← HW1.out]
 clear HW1
 obtain ⟨⟨x0,x1,x2,x3,x4,x5,-⟩,-,-⟩:=HA.out W1 (Below.refl _ _)
 go_wp2_with fail
 refine (runSerial_impl a' m c' S a n c L _ HS.out hz HR.out).mono ?_;rintro e w2 ⟨v2,u2,rfl,hSF,hb2⟩
 have HB2:=Lib.hid hb2
 obtain ⟨X,hX⟩:∃ X,X=serM S L:=⟨_,rfl⟩
 have HXE:=Lib.hid hX
 rw [← hX] at hSF HX
 obtain ⟨a2,k2,rfl,hr2,-⟩:=hSF.row (by have:=HX.out.1;omega)
 obtain ⟨b2,d2,rfl,hf2,-,-⟩:=rowFs_of_own hSF.effs
 have HF2:=Lib.hid hf2
 clear x0 x1 x2 x3 x4 x5 hb2 hX hSF hf2
 go_wp2_with fail
 refine (rootOf_impl a2 _ k2 X.1 _ hr2).mono ?_;rintro e w3 ⟨rfl,hb3⟩
 have HF3:=Lib.hid (HF2.out.below hb3)
 have HB3:=Lib.hid (HB2.out.trans (hb3.mono HB2.out.size))
 clear hb3 hr2
 have hx10:X.2.length≤2000000:=by have:=HX.out.2.1;omega
 go_wp2_with fail
 refine (effectsSum_impl b2 _ d2 X.2 _ HF3.out HX.out.2.2 hx10).mono ?_;rintro e w4 ⟨rfl,hb4⟩
 have HB4:=Lib.hid (HB3.out.trans (hb4.mono HB3.out.size))
 clear hb4 hx10
 have hres:Hid (blkRun ⟨p,q,r,L,t,u⟩ S=⟨p,q,r,L,rootM X.1,effsSumM X.2⟩):=Lib.hid (by rw [HXE.out];rfl)
 obtain ⟨rt,hrt⟩:∃ x,x=rootM X.1:=⟨_,rfl⟩
 obtain ⟨ef,hef⟩:∃ x,x=effsSumM X.2:=⟨_,rfl⟩
 rw [← hrt,← hef] at hres
 rw [← hrt,← hef]
 clear hrt hef
 obtain ⟨hA4,hZ4,hb4⟩:=HA.out w4 HB4.out
 have hAs:=hA4.set45 (.int .i64 rt) (.int .i64 ef)
 have hg45:w4.grownBy ((w4.setCell ⟨w.heap.size,4,none⟩ (.int .i64 rt)).setCell ⟨w.heap.size,5,none⟩ (.int .i64 ef)) (some w.heap.size):=grownBy_trans (grownBy_set w4 w.heap.size 4 _) (grownBy_set _ w.heap.size 5 _)
 have hZs:=hZ4.grown hg45 (by simp)
 have hbs:=(hb4.setCell (p:=⟨w.heap.size,4,none⟩) (Nat.le_refl _) (.int .i64 rt)).setCell (p:=⟨w.heap.size,5,none⟩) (Nat.le_refl _) (.int .i64 ef)
 obtain ⟨z0,z1,z2,z3,z4,z5,g0,g1,g2,g3,g4,g5⟩:=hA4
 have HAS:=Lib.hid hAs
 have HZF:=Lib.hid (hZs.set6 (.int .i64 p) (.int .i64 q) (.int .i64 r) (.slice a n c) (.int .i64 rt) (.int .i64 ef))
 have HBF:=Lib.hid (below_set6 hbs (Z:=w.heap.size+1) (by omega) (.int .i64 p) (.int .i64 q) (.int .i64 r) (.slice a n c) (.int .i64 rt) (.int .i64 ef))
 obtain ⟨zc0,zc1,zc2,zc3,zc4,zc5,zf0,zf1,zf2,zf3,zf4,zf5⟩:=hZ4
 clear hAs hg45 hZs hbs hb4
 go_wp2_with fail
 refine bodyPost_ret (results_blk Try.results15 _ (by rfl) HZF.out) rfl ?_
 exact ⟨by rw [hres.out],HBF.out⟩
end Go.Proofs.Ytnojhgckinibgab
/- The contracts of the program's FirstBlock,canBeBefore,NextBlock and BlockRight. -/
namespace Go.Proofs.Ytnojhgckinibgab
open Go.RowKit
set_option linter.unusedVariables false
set_option linter.unusedSimpArgs false
theorem rowA_nil (w:World):RowA w none 0 []:=⟨rfl,by unfold maxLen;omega,fun h=>absurd h (by omega),fun x hx=>by cases hx⟩
set_option maxRecDepth 100000 in
set_option maxHeartbeats 4000000 in
theorem firstBlock_impl (a:Option Addr) (n c:Nat) (S:List Ent) (w:World) (h:RowE w a n S) (hz:a=none→c=0) :
  Calls Try.prog 5 #[.slice a n c] w (NewBk w 39 (firstM S)):=by
 have hb0:=(Below.refl w.heap.size w).alloc (Nat.le_refl _) (.cells #[.int .i64 0,.int .i64 0,.int .i64 0,.slice none 0 0,.int .i64 0,.int .i64 0] 27)
 have hA:=bkAt_new w 27 (.int .i64 0) (.int .i64 0) (.int .i64 0) (.slice none 0 0) (.int .i64 0) (.int .i64 0)
 obtain ⟨W1,hW1⟩:∃ W1,W1=w.alloc (.cells #[.int .i64 0,.int .i64 0,.int .i64 0,.slice none 0 0,.int .i64 0,.int .i64 0] 27):=⟨_,rfl⟩
 have HW1:=Lib.hid hW1
 rw [← hW1] at hb0 hA
 clear hW1
 have HA:=Lib.hid (fun (W:World) (hb:Below W1.heap.size W1 W)=>(⟨hA.below hb,hb0.trans (hb.mono hb0.size)⟩:BkAt W w.heap.size (.int .i64 0) (.int .i64 0) (.int .i64 0) (.slice none 0 0) (.int .i64 0) (.int .i64 0)∧Below w.heap.size w W))
 have HS:=Lib.hid (h.below hb0)
 clear h hb0 hA
 go_enter Try.func5,Try.ntmps5
 go_upto_region 1 with (fail)
 rw [← HW1.out]
 clear HW1
 go_wp2_with fail
 refine (storeValid_impl a n c S _ HS.out).mono ?_;rintro e w2 ⟨rfl,hb2⟩
 have HB2:=Lib.hid hb2
 cases hs:storeB S with
 | false =>
  have HE:=Lib.hid (firstM_no hs)
  obtain ⟨hA2,hB2⟩:=HA.out w2 hb2
  have HF:=Lib.hid (hA2.set6 (.int .i64 0) (.int .i64 0) (.int .i64 0) (.slice none 0 0) (.int .i64 0) (.int .i64 0))
  have HBF:=Lib.hid (below_set6 hB2 (Nat.le_refl w.heap.size) (.int .i64 0) (.int .i64 0) (.int .i64 0) (.slice none 0 0) (.int .i64 0) (.int .i64 0))
  obtain ⟨c0,c1,c2,c3,c4,c5,f0,f1,f2,f3,f4,f5⟩:=hA2
  clear hs hb2 hB2
  go_wp2_with fail
  refine bodyPost_ret (results_blk Try.results5 _ (by rfl) HF.out) rfl ?_
  exact ⟨.slice none 0 0,by rw [HE.out];rfl,by rw [HE.out];exact newBk_zero _ _ _,by rw [HE.out];exact fun x hx=>(by cases hx),by rw [HE.out];exact wfB_no,HBF.out⟩
 | true =>
  have HE:Hid (firstM S=blkRun ⟨0,0,0,[],0,0⟩ S):=Lib.hid (by unfold firstM;rw [if_pos hs];rfl)
  have HS2:=Lib.hid (HS.out.below hb2)
  clear hs hb2
  go_wp2_with fail
  refine (blkRun_impl 0 0 0 0 0 none 0 0 [] a n c S _ (rowA_nil _) HS2.out hz).mono ?_;rintro e w3 ⟨rfl,hb3⟩
  obtain ⟨hA3,hB3⟩:=HA.out w3 (HB2.out.trans (hb3.mono HB2.out.size))
  have HW:=Lib.hid (wfB_run (b:=⟨0,0,0,[],0,0⟩) S wfB_no)
  obtain ⟨x,hx⟩:∃ x,x=blkRun ⟨0,0,0,[],0,0⟩ S:=⟨_,rfl⟩
  have HX:Hid (x.bef=0∧x.hgt=0∧x.view=0∧x.acts=[]):=Lib.hid (by rw [hx];exact ⟨rfl,rfl,rfl,rfl⟩)
  rw [← hx] at HE HW ⊢
  clear hx
  have HF:=Lib.hid (hA3.set6 (.int .i64 x.bef) (.int .i64 x.hgt) (.int .i64 x.view) (.slice none 0 0) (.int .i64 x.root) (.int .i64 x.effs))
  have HBF:=Lib.hid (below_set6 hB3 (Nat.le_refl w.heap.size) (.int .i64 x.bef) (.int .i64 x.hgt) (.int .i64 x.view) (.slice none 0 0) (.int .i64 x.root) (.int .i64 x.effs))
  obtain ⟨c0,c1,c2,c3,c4,c5,f0,f1,f2,f3,f4,f5⟩:=hA3
  clear hb3 hB3
  go_wp2_with fail
  refine bodyPost_ret (results_blk Try.results5 _ (by rfl) HF.out) rfl ?_
  exact ⟨.slice none 0 0,by rw [HE.out],by rw [HE.out,HX.out.2.2.2];exact World.ownsRow_nil _ _ _ _,by rw [HE.out,HX.out.2.2.2];exact fun x hx=>(by cases hx),by rw [HE.out];exact HW.out,HBF.out⟩
set_option maxRecDepth 100000 in
set_option maxHeartbeats 4000000 in
theorem hasSums_impl (p q r t u:Int) (a:Option Addr) (n c:Nat) (a':Option Addr) (m c':Nat) (S:List Ent) (b2:Option Addr) (n2 d2:Nat) (E:List Eff) (w:World) (hS:RowE w a' m S) (hE:RowFs w b2 n2 E) (hs:∀ x∈E,x.rds.length+x.wrs.length≤1500000) (hn:n2≤2000000) :
  Calls Try.prog 25 #[.agg #[.int .i64 p,.int .i64 q,.int .i64 r,.slice a n c,.int .i64 t,.int .i64 u],.slice a' m c',.slice b2 n2 d2] w (BoolB (decide (t=rootM S) && decide (u=effsSumM E)) w):=by
 have hA0:=bkAt_new w 27 (.int .i64 p) (.int .i64 q) (.int .i64 r) (.slice a n c) (.int .i64 t) (.int .i64 u)
 have hb0:=(Below.refl w.heap.size w).alloc (Nat.le_refl _) (.cells #[.int .i64 p,.int .i64 q,.int .i64 r,.slice a n c,.int .i64 t,.int .i64 u] 27)
 obtain ⟨w1,hw1⟩:∃ W,W=w.alloc (.cells #[.int .i64 p,.int .i64 q,.int .i64 r,.slice a n c,.int .i64 t,.int .i64 u] 27):=⟨_,rfl⟩
 have HW1:=Lib.hid hw1
 rw [← hw1] at hA0 hb0
 clear hw1
 obtain ⟨rt,hrt⟩:∃ x,x=rootM S:=⟨_,rfl⟩
 obtain ⟨ef,hef⟩:∃ x,x=effsSumM E:=⟨_,rfl⟩
 have HC1:=Lib.hid (fun (W:World) (hb:Below w1.heap.size w1 W)=>(by rw [hrt];exact rootOf_impl a' m c' S W ((hS.below hb0).below hb):Calls Try.prog 33 #[.slice a' m c'] W (IntB rt W)))
 have HC2:=Lib.hid (fun (W:World) (hb:Below w1.heap.size w1 W)=>(by rw [hef];exact effectsSum_impl b2 n2 d2 E W ((hE.below hb0).below hb) hs hn:Calls Try.prog 34 #[.slice b2 n2 d2] W (IntB ef W)))
 unfold IntB at HC1 HC2
 have HAK:=Lib.hid (fun (W:World) (hb:Below w1.heap.size w1 W)=>hA0.below hb)
 have HB:=Lib.hid hb0
 rw [← hrt,← hef]
 clear hb0 hA0 hS hE hs hrt hef
 go_enter Try.func25,Try.ntmps25
 go_upto_region 1 with (fail)
 rw [← HW1.out]
 clear HW1
 by_cases h1:t=rt
 · have hd:(t == rt)=true:=by simpa using h1
   have HD:Hid (decide (t=rt)=true):=Lib.hid (by simpa using h1)
   have HD2:Hid ((u == ef)=decide (u=ef)):=Lib.hid (by by_cases h:u=ef <;> simp [h])
   clear h1
   refine wp_region_light (by kernel_rfl) (fun lz fz wz=>Vals [(0,7,(.pointer (some ⟨w.heap.size,4,none⟩))),(1,8,(.int .i64 t)),(2,9,(.slice a' m c')),(3,10,(.int .i64 rt)),(4,11,(.bool true)),(5,12,(.bool true)),(6,13,(.pointer (some ⟨w.heap.size,5,none⟩))),(7,14,(.int .i64 u)),(8,15,(.slice b2 n2 d2)),(9,16,(.int .i64 ef)),(10,17,(.bool (u == ef))),(11,18,(.bool (u == ef))),(12,6,(.bool (u == ef)))] lz fz∧Facts w1 [] lz fz wz) 19 rfl [7,8,9,10,11,12,13,14,15,16,17,18,6] (by kernel_rfl) (by kernel_rfl) (by kernel_rfl) (fun f=>⟨Vals.nothing _ f,Facts.nothing _ _ f⟩) ?_ ?_
   · intro i hi
     rcases (by have:i < 13:=hi;omega:i=0∨i=1∨i=2∨i=3∨i=4∨i=5∨i=6∨i=7∨i=8∨i=9∨i=10∨i=11∨i=12) with rfl | rfl | rfl | rfl | rfl | rfl | rfl | rfl | rfl | rfl | rfl | rfl | rfl
     all_goals (clear hi;intro o ho lz fz w' A ⟨hv,hr⟩ hli ha hA K hK;obtain rfl:=Option.some.inj ho;clear ho)
     · have g3:=slot_out hA 3 _ (by decide) (by decide) rfl
       simp only [List.getD_cons_succ,List.getD_cons_zero] at g3
       have gg3:=slot_get g3
       rw [if_pos (by rfl)]
       have hF:=hK (.pointer (some ⟨w.heap.size,4,none⟩)) w' ⟨hv.step 0 7 _ (by simp),hr.step 0 7 _ (Below.refl _ _) (by simp)⟩
       clear hv hr ha hK hA hli
       go_simp
       exact hF
     · have g7:=slot_in hA 7 (by decide) (by decide) (hv.at 0 rfl (ha 0 (by simp [aftersOf,Region.binds])))
       have gg7:=slot_get g7
       rw [if_pos (by rfl)]
       obtain ⟨c0,c1,c2,c3,c4,c5,-⟩:=HAK.out w' hr.1
       have hF:=hK (.int .i64 t) w' ⟨hv.step 1 8 _ (by simp),hr.step 1 8 _ (Below.refl _ _) (by simp)⟩
       clear hv hr ha hK hA hli
       go_simp
       exact hF
     · have g1:=slot_out hA 1 _ (by decide) (by decide) rfl
       simp only [List.getD_cons_succ,List.getD_cons_zero] at g1
       have gg1:=slot_get g1
       rw [if_pos (by rfl)]
       have hF:=hK (.slice a' m c') w' ⟨hv.step 2 9 _ (by simp),hr.step 2 9 _ (Below.refl _ _) (by simp)⟩
       clear hv hr ha hK hA hli
       go_simp
       exact hF
     · have g9:=slot_in hA 9 (by decide) (by decide) (hv.at 2 rfl (ha 2 (by simp [aftersOf,Region.binds])))
       have gg9:=slot_get g9
       rw [if_pos (by rfl)]
       clear hA
       go_simp
       refine (HC1.out w' hr.1).mono ?_
       rintro e9 w9 ⟨rfl,hb9⟩
       exact hK (.int .i64 rt) w9 ⟨hv.step 3 10 _ (by simp),hr.step 3 10 _ hb9 (by simp)⟩
     · have g8:=slot_in hA 8 (by decide) (by decide) (hv.at 1 rfl (ha 1 (by simp [aftersOf,Region.binds])))
       have g10:=slot_in hA 10 (by decide) (by decide) (hv.at 3 rfl (ha 3 (by simp [aftersOf,Region.binds])))
       have gg8:=slot_get g8
       have gg10:=slot_get g10
       rw [if_pos (by rfl)]
       have hF:=hK (.bool true) w' ⟨hv.step 4 11 _ (by simp),hr.step 4 11 _ (Below.refl _ _) (by simp)⟩
       clear hv hr ha hK hA hli
       go_simp
       exact hF
     · have g11:=slot_in hA 11 (by decide) (by decide) (hv.at 4 rfl (ha 4 (by simp [aftersOf,Region.binds])))
       have gg11:=slot_get g11
       rw [if_pos (by rfl)]
       have hF:=hK (.bool true) w' ⟨hv.step 5 12 _ (by simp),hr.step 5 12 _ (Below.refl _ _) (by simp)⟩
       clear hv hr ha hK hA hli
       go_simp
       exact hF
     · have g3:=slot_out hA 3 _ (by decide) (by decide) rfl
       simp only [List.getD_cons_succ,List.getD_cons_zero] at g3
       have g12:=slot_in hA 12 (by decide) (by decide) (hv.at 5 rfl (ha 5 (by simp [aftersOf,Region.binds])))
       have gg3:=slot_get g3
       have gg12:=slot_get g12
       rw [if_pos (by simp [Region.wanted,yielded,slot_bool g12])]
       have hF:=hK (.pointer (some ⟨w.heap.size,5,none⟩)) w' ⟨hv.step 6 13 _ (by simp),hr.step 6 13 _ (Below.refl _ _) (by simp)⟩
       clear hv hr ha hK hA hli
       go_simp
       exact hF
     · have g13:=slot_in hA 13 (by decide) (by decide) (hv.at 6 rfl (ha 6 (by simp [aftersOf,Region.binds])))
       have g12:=slot_in hA 12 (by decide) (by decide) (hv.at 5 rfl (ha 5 (by simp [aftersOf,Region.binds])))
       have gg13:=slot_get g13
       have gg12:=slot_get g12
       rw [if_pos (by simp [Region.wanted,yielded,slot_bool g12])]
       obtain ⟨c0,c1,c2,c3,c4,c5,-⟩:=HAK.out w' hr.1
       have hF:=hK (.int .i64 u) w' ⟨hv.step 7 14 _ (by simp),hr.step 7 14 _ (Below.refl _ _) (by simp)⟩
       clear hv hr ha hK hA hli
       go_simp
       exact hF
     · have g2:=slot_out hA 2 _ (by decide) (by decide) rfl
       simp only [List.getD_cons_succ,List.getD_cons_zero] at g2
       have g12:=slot_in hA 12 (by decide) (by decide) (hv.at 5 rfl (ha 5 (by simp [aftersOf,Region.binds])))
       have gg2:=slot_get g2
       have gg12:=slot_get g12
       rw [if_pos (by simp [Region.wanted,yielded,slot_bool g12])]
       have hF:=hK (.slice b2 n2 d2) w' ⟨hv.step 8 15 _ (by simp),hr.step 8 15 _ (Below.refl _ _) (by simp)⟩
       clear hv hr ha hK hA hli
       go_simp
       exact hF
     · have g15:=slot_in hA 15 (by decide) (by decide) (hv.at 8 rfl (ha 8 (by simp [aftersOf,Region.binds])))
       have g12:=slot_in hA 12 (by decide) (by decide) (hv.at 5 rfl (ha 5 (by simp [aftersOf,Region.binds])))
       have gg15:=slot_get g15
       have gg12:=slot_get g12
       rw [if_pos (by simp [Region.wanted,yielded,slot_bool g12])]
       clear hA
       go_simp
       refine (HC2.out w' hr.1).mono ?_
       rintro e9 w9 ⟨rfl,hb9⟩
       exact hK (.int .i64 ef) w9 ⟨hv.step 9 16 _ (by simp),hr.step 9 16 _ hb9 (by simp)⟩
     · have g14:=slot_in hA 14 (by decide) (by decide) (hv.at 7 rfl (ha 7 (by simp [aftersOf,Region.binds])))
       have g16:=slot_in hA 16 (by decide) (by decide) (hv.at 9 rfl (ha 9 (by simp [aftersOf,Region.binds])))
       have g12:=slot_in hA 12 (by decide) (by decide) (hv.at 5 rfl (ha 5 (by simp [aftersOf,Region.binds])))
       have gg14:=slot_get g14
       have gg16:=slot_get g16
       have gg12:=slot_get g12
       rw [if_pos (by simp [Region.wanted,yielded,slot_bool g12])]
       have hF:=hK (.bool (u == ef)) w' ⟨hv.step 10 17 _ (by simp),hr.step 10 17 _ (Below.refl _ _) (by simp)⟩
       clear hv hr ha hK hA hli
       go_simp
       exact hF
     · have g12:=slot_in hA 12 (by decide) (by decide) (hv.at 5 rfl (ha 5 (by simp [aftersOf,Region.binds])))
       have g17:=slot_in hA 17 (by decide) (by decide) (hv.at 10 rfl (ha 10 (by simp [aftersOf,Region.binds])))
       have gg12:=slot_get g12
       have gg17:=slot_get g17
       rw [if_pos (by rfl)]
       have hF:=hK (.bool (u == ef)) w' ⟨hv.step 11 18 _ (by simp),hr.step 11 18 _ (Below.refl _ _) (by simp)⟩
       clear hv hr ha hK hA hli
       go_simp
       exact hF
     · have g18:=slot_in hA 18 (by decide) (by decide) (hv.at 11 rfl (ha 11 (by simp [aftersOf,Region.binds])))
       have gg18:=slot_get g18
       rw [if_pos (by rfl)]
       have hF:=hK (.bool (u == ef)) w' ⟨hv.step 12 6 _ (by simp),hr.step 12 6 _ (Below.refl _ _) (by simp)⟩
       clear hv hr ha hK hA hli
       go_simp
       exact hF
   · intro lz fz w5 hall ⟨hv,hq⟩
     have h6:=hv.at 12 rfl (hall 12 (by decide))
     have hbR:=hq.1
     clear hv hq hall
     simp only [mixF,List.contains_cons,List.contains_nil]
     go_simp
     have HBF:=Lib.hid (HB.out.trans (hbR.mono HB.out.size))
     clear hbR hd
     go_wp2_with fail
     go_ret
     exact ⟨by rw [HD.out,Bool.true_and,← HD2.out];rfl,HBF.out⟩
 · have hd:(t == rt)=false:=by simpa using h1
   have HD:Hid (decide (t=rt)=false):=Lib.hid (by simpa using h1)
   clear h1
   refine wp_region_light (by kernel_rfl) (fun lz fz wz=>Vals [(0,7,(.pointer (some ⟨w.heap.size,4,none⟩))),(1,8,(.int .i64 t)),(2,9,(.slice a' m c')),(3,10,(.int .i64 rt)),(4,11,(.bool false)),(5,12,(.bool false)),(11,18,(.bool false)),(12,6,(.bool false))] lz fz∧Facts w1 [] lz fz wz) 19 rfl [7,8,9,10,11,12,13,14,15,16,17,18,6] (by kernel_rfl) (by kernel_rfl) (by kernel_rfl) (fun f=>⟨Vals.nothing _ f,Facts.nothing _ _ f⟩) ?_ ?_
   · intro i hi
     rcases (by have:i < 13:=hi;omega:i=0∨i=1∨i=2∨i=3∨i=4∨i=5∨i=6∨i=7∨i=8∨i=9∨i=10∨i=11∨i=12) with rfl | rfl | rfl | rfl | rfl | rfl | rfl | rfl | rfl | rfl | rfl | rfl | rfl
     all_goals (clear hi;intro o ho lz fz w' A ⟨hv,hr⟩ hli ha hA K hK;obtain rfl:=Option.some.inj ho;clear ho)
     · have g3:=slot_out hA 3 _ (by decide) (by decide) rfl
       simp only [List.getD_cons_succ,List.getD_cons_zero] at g3
       have gg3:=slot_get g3
       rw [if_pos (by rfl)]
       have hF:=hK (.pointer (some ⟨w.heap.size,4,none⟩)) w' ⟨hv.step 0 7 _ (by simp),hr.step 0 7 _ (Below.refl _ _) (by simp)⟩
       clear hv hr ha hK hA hli
       go_simp
       exact hF
     · have g7:=slot_in hA 7 (by decide) (by decide) (hv.at 0 rfl (ha 0 (by simp [aftersOf,Region.binds])))
       have gg7:=slot_get g7
       rw [if_pos (by rfl)]
       obtain ⟨c0,c1,c2,c3,c4,c5,-⟩:=HAK.out w' hr.1
       have hF:=hK (.int .i64 t) w' ⟨hv.step 1 8 _ (by simp),hr.step 1 8 _ (Below.refl _ _) (by simp)⟩
       clear hv hr ha hK hA hli
       go_simp
       exact hF
     · have g1:=slot_out hA 1 _ (by decide) (by decide) rfl
       simp only [List.getD_cons_succ,List.getD_cons_zero] at g1
       have gg1:=slot_get g1
       rw [if_pos (by rfl)]
       have hF:=hK (.slice a' m c') w' ⟨hv.step 2 9 _ (by simp),hr.step 2 9 _ (Below.refl _ _) (by simp)⟩
       clear hv hr ha hK hA hli
       go_simp
       exact hF
     · have g9:=slot_in hA 9 (by decide) (by decide) (hv.at 2 rfl (ha 2 (by simp [aftersOf,Region.binds])))
       have gg9:=slot_get g9
       rw [if_pos (by rfl)]
       clear hA
       go_simp
       refine (HC1.out w' hr.1).mono ?_
       rintro e9 w9 ⟨rfl,hb9⟩
       exact hK (.int .i64 rt) w9 ⟨hv.step 3 10 _ (by simp),hr.step 3 10 _ hb9 (by simp)⟩
     · have g8:=slot_in hA 8 (by decide) (by decide) (hv.at 1 rfl (ha 1 (by simp [aftersOf,Region.binds])))
       have g10:=slot_in hA 10 (by decide) (by decide) (hv.at 3 rfl (ha 3 (by simp [aftersOf,Region.binds])))
       have gg8:=slot_get g8
       have gg10:=slot_get g10
       rw [if_pos (by rfl)]
       have hF:=hK (.bool false) w' ⟨hv.step 4 11 _ (by simp),hr.step 4 11 _ (Below.refl _ _) (by simp)⟩
       clear hv hr ha hK hA hli
       go_simp
       exact hF
     · have g11:=slot_in hA 11 (by decide) (by decide) (hv.at 4 rfl (ha 4 (by simp [aftersOf,Region.binds])))
       have gg11:=slot_get g11
       rw [if_pos (by rfl)]
       have hF:=hK (.bool false) w' ⟨hv.step 5 12 _ (by simp),hr.step 5 12 _ (Below.refl _ _) (by simp)⟩
       clear hv hr ha hK hA hli
       go_simp
       exact hF
     iterate 5
      · have g12:=slot_in hA 12 (by decide) (by decide) (hv.at 5 rfl (ha 5 (by simp [aftersOf,Region.binds])))
        have gw:=slot_bool g12
        rw [if_neg (by simp [Region.wanted,yielded,gw])]
        exact hK undef w' ⟨hv.step _ _ _ (by simp),hr.step _ _ _ (Below.refl _ _) (by simp)⟩
     · have g12:=slot_in hA 12 (by decide) (by decide) (hv.at 5 rfl (ha 5 (by simp [aftersOf,Region.binds])))
       have gg12:=slot_get g12
       rw [if_pos (by rfl)]
       have hF:=hK (.bool false) w' ⟨hv.step 11 18 _ (by simp),hr.step 11 18 _ (Below.refl _ _) (by simp)⟩
       clear hv hr ha hK hA hli
       go_simp
       exact hF
     · have g18:=slot_in hA 18 (by decide) (by decide) (hv.at 6 rfl (ha 11 (by simp [aftersOf,Region.binds])))
       have gg18:=slot_get g18
       rw [if_pos (by rfl)]
       have hF:=hK (.bool false) w' ⟨hv.step 12 6 _ (by simp),hr.step 12 6 _ (Below.refl _ _) (by simp)⟩
       clear hv hr ha hK hA hli
       go_simp
       exact hF
   · intro lz fz w5 hall ⟨hv,hq⟩
     have h6:=hv.at 7 rfl (hall 12 (by decide))
     have hbR:=hq.1
     clear hv hq hall
     simp only [mixF,List.contains_cons,List.contains_nil]
     go_simp
     have HBF:=Lib.hid (HB.out.trans (hbR.mono HB.out.size))
     clear hbR hd
     go_wp2_with fail
     go_ret
     exact ⟨by rw [HD.out];rfl,HBF.out⟩
set_option maxRecDepth 100000 in
set_option maxHeartbeats 4000000 in
theorem blockRight_impl (p q r t u:Int) (a:Option Addr) (n c:Nat) (L:List Acn) (a':Option Addr) (m c':Nat) (S:List Ent) (w:World) (h:RowA w a n L) (hS:RowE w a' m S) (hz:a'=none→c'=0) :
  Calls Try.prog 11 #[.agg #[.int .i64 p,.int .i64 q,.int .i64 r,.slice a n c,.int .i64 t,.int .i64 u],.slice a' m c'] w (BoolB (rightB ⟨p,q,r,L,t,u⟩ S) w):=by
 have hA0:=bkAt_new w 27 (.int .i64 p) (.int .i64 q) (.int .i64 r) (.slice a n c) (.int .i64 t) (.int .i64 u)
 have hb0:=(Below.refl w.heap.size w).alloc (Nat.le_refl _) (.cells #[.int .i64 p,.int .i64 q,.int .i64 r,.slice a n c,.int .i64 t,.int .i64 u] 27)
 have H:=Lib.hid (h.below hb0)
 have HS:=Lib.hid (hS.below hb0)
 have HB:=Lib.hid hb0
 have HA:=Lib.hid hA0
 clear h hb0 hA0 hS
 go_enter Try.func11,Try.ntmps11
 go_wp2_with fail
 refine (blockValid_impl p q r t u a n c L _ H.out).mono ?_;rintro e w1 ⟨rfl,hb1⟩
 have HB1:=Lib.hid (HB.out.trans (hb1.mono HB.out.size))
 have HA1:=Lib.hid (HA.out.below hb1)
 have H1:=Lib.hid (H.out.below hb1)
 have HS1:=Lib.hid (HS.out.below hb1)
 clear hb1
 cases e0:blkB ⟨p,q,r,L,t,u⟩ with
 | false =>
  have HE:Hid (rightB ⟨p,q,r,L,t,u⟩ S=false):=Lib.hid (by unfold rightB;rw [e0];rfl)
  clear e0
  go_wp2
  go_ret
  exact ⟨by rw [HE.out];rfl,HB1.out⟩
 | true =>
  have HV:=Lib.hid e0
  clear e0
  go_wp2_with fail
  refine (storeValid_impl a' m c' S _ HS1.out).mono ?_;rintro e w2 ⟨rfl,hb2⟩
  have HB2:=Lib.hid (HB1.out.trans (hb2.mono HB1.out.size))
  have HA2:=Lib.hid (HA1.out.below hb2)
  have H2:=Lib.hid (H1.out.below hb2)
  have HS2:=Lib.hid (HS1.out.below hb2)
  clear hb2
  cases e1:storeB S with
  | false =>
   have HE:Hid (rightB ⟨p,q,r,L,t,u⟩ S=false):=Lib.hid (by unfold rightB;rw [e1];simp)
   clear e1
   go_wp2
   go_ret
   exact ⟨by rw [HE.out];rfl,HB2.out⟩
  | true =>
   have HRT:Hid (rightB ⟨p,q,r,L,t,u⟩ S=(decide (rootM (serM S L).1=t) && decide (effsSumM (serM S L).2=u))):=Lib.hid (by unfold rightB;rw [HV.out,e1];simp)
   clear e1
   have HX:Hid ((serM S L).1.length≤32∧(serM S L).2.length≤10∧∀ x∈(serM S L).2,x.rds.length+x.wrs.length≤1500000):=Lib.hid ⟨serM_store S L,serM_len S L,fun x hx=>by have:=serM_eff S L x hx;omega⟩
   obtain ⟨c0,c1,c2,c3,c4,c5,-⟩:=HA2.out
   go_wp2_with fail
   refine (runSerial_impl a' m c' S a n c L _ HS2.out hz H2.out).mono ?_;rintro e w3 ⟨v3,u3,rfl,hSF,hb3⟩
   obtain ⟨X,hX⟩:∃ X,X=serM S L:=⟨_,rfl⟩
   rw [← hX] at hSF HX HRT
   obtain ⟨a3,k3,rfl,hr3,-⟩:=hSF.row (by have:=HX.out.1;omega)
   obtain ⟨b3,d3,rfl,hf3,-,-⟩:=rowFs_of_own hSF.effs
   have HB3:=Lib.hid (HB2.out.trans (hb3.mono HB2.out.size))
   have HA3:=Lib.hid (HA2.out.below hb3)
   clear hb3 hX hSF c0 c1 c2 c3 c4 c5
   obtain ⟨c0,c1,c2,c3,c4,c5,-⟩:=HA3.out
   have hx10:X.2.length≤2000000:=by have:=HX.out.2.1;omega
   go_wp2_with fail
   refine (hasSums_impl p q r t u a n c a3 _ k3 X.1 b3 _ d3 X.2 _ hr3 hf3 HX.out.2.2 hx10).mono ?_;rintro e w4 ⟨rfl,hb4⟩
   have HB4:=Lib.hid (HB3.out.trans (hb4.mono HB3.out.size))
   have HC:Hid ((decide (t=rootM X.1) && decide (u=effsSumM X.2))=(decide (rootM X.1=t) && decide (effsSumM X.2=u))):=Lib.hid (by rw [Bool.eq_iff_iff];simp only [Bool.and_eq_true,decide_eq_true_eq];exact ⟨fun h=>⟨h.1.symm,h.2.symm⟩,fun h=>⟨h.1.symm,h.2.symm⟩⟩)
   obtain ⟨rb,hrb⟩:∃ x,x=(decide (t=rootM X.1) && decide (u=effsSumM X.2)):=⟨_,rfl⟩
   have HRB:=Lib.hid hrb
   rw [← hrb]
   clear hb4 hr3 hf3 hx10 hrb c0 c1 c2 c3 c4 c5
   go_wp2
   go_ret
   exact ⟨by rw [HRT.out,HRB.out,HC.out];rfl,HB4.out⟩
end Go.Proofs.Ytnojhgckinibgab
