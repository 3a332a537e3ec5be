/- Texts of ours that stand together: ImplVw, CloneA, ImplBlk, ImplBlk2, ImplBk0, ImplBlk3 -/
import Derived.Test.YtpnjgmgmakmgeaaGreatTrM
import Derived.Test.YtpnjgmgmakmgeaaGreatTree
import Derived.Test.YtpnjgmgmakmgeaaGreatActs
import Derived.Lib.BufferMore
import Derived.Test.YtpnjgmgmakmgeaaGreatFive
import Derived.Test.YtpnjgmgmakmgeaaGreatImplNum
import Derived.Test.YtpnjgmgmakmgeaaGreatSr2
import Derived.Test.YtpnjgmgmakmgeaaGreatImplSer
import Derived.Test.YtpnjgmgmakmgeaaGreatTwo
import Derived.Test.YtpnjgmgmakmgeaaGreatRegO
import Derived.Deep.Cut
/- The contracts of the program's isHeight and isView. -/
namespace Go.Proofs.YtpnjgmgmakmgeaaGreat
open Go.RowKit
set_option linter.unusedVariables false
theorem isHeight_impl (n:Int) (w:World) :
  Calls Tryz.prog 135 #[.int .i64 n] w fun e w'=>e = .returned (.bool (inB n 0 100))∧w=w':=by
 by_cases h1:0≤n
 · by_cases h2:n≤100
   · rw [inB_yes h1 h2]
     go_enter Tryz.func135,Tryz.ntmps135
     go_wp2
     go_ret
     exact ⟨rfl,rfl⟩
   · rw [inB_no (by omega)]
     go_enter Tryz.func135,Tryz.ntmps135
     go_wp2
     go_ret
     exact ⟨rfl,rfl⟩
 · rw [inB_no (by omega)]
   go_enter Tryz.func135,Tryz.ntmps135
   go_wp2
   go_ret
   exact ⟨rfl,rfl⟩
theorem isView_impl (n:Int) (w:World) :
  Calls Tryz.prog 136 #[.int .i64 n] w fun e w'=>e = .returned (.bool (inB n 0 1000))∧w=w':=by
 by_cases h1:0≤n
 · by_cases h2:n≤1000
   · rw [inB_yes h1 h2]
     go_enter Tryz.func136,Tryz.ntmps136
     go_wp2
     go_ret
     exact ⟨rfl,rfl⟩
   · rw [inB_no (by omega)]
     go_enter Tryz.func136,Tryz.ntmps136
     go_wp2
     go_ret
     exact ⟨rfl,rfl⟩
 · rw [inB_no (by omega)]
   go_enter Tryz.func136,Tryz.ntmps136
   go_wp2
   go_ret
   exact ⟨rfl,rfl⟩
theorem infoActN:(Tryz.prog.info? 113).map (fun i=>(i.zero,i.size,i.bytes))=some (some (.agg #[.int .i64 0,.int .i64 0,.int .i64 0,.int .i64 0]),4,32):=by kernel_rfl
def CopyA (w:World) (e0:TypeId) (size n:Nat) (cs:List Value) (e:Ending) (w':World):Prop:=∃ v,e = .returned v∧w'.ownsRow w.heap.size e0 size v n cs∧Below w.heap.size w w'
set_option maxRecDepth 100000 in
set_option maxHeartbeats 1000000 in
theorem cloneAct_any (a:Option Addr) (n cap:Nat) (S:List Acn) (w:World) (h:RowA w a n S) (hz:a=none→cap=0) (hn:n≤3000000) :
  Calls Tryz.prog 175 #[.slice a n cap] w (CopyA w 113 4 n (flatA S)):=by
 have hl:=h.1
 cases a with
 | none =>
  have h0:n=0:=by
   rcases Nat.eq_zero_or_pos n with e | e
   · exact e
   · obtain ⟨b,o,he,-⟩:=h.2.2.1 e;cases he
  obtain rfl:cap=0:=hz rfl
  subst h0
  obtain rfl:S=[]:=List.eq_nil_of_length_eq_zero hl
  clear h hz hl
  have hnil:∀ W,(binOp .eql 35 (.slice none 0 0) (.slice none 0 0)).run Tryz.prog W = .ok (.bool true) W:=fun W=>Lib.run_eql_slice_nil_nil W 0 0 Tryz.underlying35
  go_enter Tryz.func175,Tryz.ntmps175
  go_wp2
  go_ret
  exact ⟨_,rfl,World.ownsRow_nil _ _ _ _,Below.refl _ _⟩
 | some p =>
  have ho:=own_lit (w:=w) (B:=w.heap.size) 113 4 #[] 0 (Nat.le_refl _) (by unfold maxLen;omega) rfl
  have hb3:=(Below.refl w.heap.size w).alloc (Nat.le_refl _) (.cells #[] 113)
  have HR3:=Lib.hid (h.below hb3)
  have HNL:Hid ((some p:Option Addr)=none→n=0∧cap=0):=Lib.hid (fun e=>by cases e)
  have HLN:=Lib.hid (show (flatA S).length=n*4 by rw [flatA_len,hl])
  have HL:=Lib.hid hl
  clear h hz hl
  have hnil:∀ W,(binOp .eql 35 (.slice (some p) n cap) (.slice none 0 0)).run Tryz.prog W = .ok (.bool false) W:=fun W=>Lib.run_eql_slice_some_nil W p n cap Tryz.underlying35
  go_enter Tryz.func175,Tryz.ntmps175
  go_wp2_with (first | (at_builtin;refine wpList_append_rows rfl _ _ 35 rfl w.heap.size 113 (.agg #[.int .i64 0,.int .i64 0,.int .i64 0,.int .i64 0]) 4 32 Tryz.underlying35 infoActN rfl (by decide) _ 0 [] (flatA S) (by rfl) ho (some p) n cap (by rfl) HNL.out HLN.out HR3.out.news (flatA_one S) (by omega) (by decide) (by simp) ?_;intro v5 w5 ho5 hg5;have hb5:=hb3.grown hg5 (by simp) (fun q hq=>(ho.1.lt q hq).1)))
  rw [Nat.zero_add,List.nil_append] at ho5
  have HO:=Lib.hid ho5.1
  have HB:=Lib.hid hb5
  clear ho ho5 hg5 hb5 hb3
  go_ret
  exact ⟨_,rfl,HO.out,HB.out⟩
set_option maxHeartbeats 4000000 in
theorem blockValid_impl (p q r t u:Int) (a:Option Addr) (n c:Nat) (L:List Acn) (w:World) (h:RowA w a n L) :
  Calls Tryz.prog 74 #[.agg #[.int .i64 p,.int .i64 q,.int .i64 r,.slice a n c,.int .i64 t,.int .i64 u]] w (BoolB (blkB ⟨p,q,r,L,t,u⟩) w):=by
 have hb0:=(Below.refl w.heap.size w).alloc (Nat.le_refl _) (.cells #[.int .i64 p,.int .i64 q,.int .i64 r,.slice a n c,.int .i64 t,.int .i64 u] 37)
 have H:=Lib.hid (h.below hb0)
 have HB:=Lib.hid hb0
 clear h hb0
 cases e0:inB p 0 1000002 with
 | false =>
  have HE:Hid (blkB ⟨p,q,r,L,t,u⟩=false):=Lib.hid (by simp [blkB,e0])
  go_enter Tryz.func74,Tryz.ntmps74
  go_wp2_with (first | (go_at_call 134;refine (isSum_impl _ _).mono ?_;rintro e w' ⟨rfl,rfl⟩) | (go_at_call 135;refine (isHeight_impl _ _).mono ?_;rintro e w' ⟨rfl,rfl⟩) | (go_at_call 136;refine (isView_impl _ _).mono ?_;rintro e w' ⟨rfl,rfl⟩))
  go_ret
  exact ⟨by rw [HE.out];rfl,HB.out⟩
 | true =>
 cases e1:inB t 0 1000002 with
 | false =>
  have HE:Hid (blkB ⟨p,q,r,L,t,u⟩=false):=Lib.hid (by simp [blkB,e1])
  go_enter Tryz.func74,Tryz.ntmps74
  go_wp2_with (first | (go_at_call 134;refine (isSum_impl _ _).mono ?_;rintro e w' ⟨rfl,rfl⟩) | (go_at_call 135;refine (isHeight_impl _ _).mono ?_;rintro e w' ⟨rfl,rfl⟩) | (go_at_call 136;refine (isView_impl _ _).mono ?_;rintro e w' ⟨rfl,rfl⟩))
  go_ret
  exact ⟨by rw [HE.out];rfl,HB.out⟩
 | true =>
 cases e2:inB u 0 1000002 with
 | false =>
  have HE:Hid (blkB ⟨p,q,r,L,t,u⟩=false):=Lib.hid (by simp [blkB,e2])
  go_enter Tryz.func74,Tryz.ntmps74
  go_wp2_with (first | (go_at_call 134;refine (isSum_impl _ _).mono ?_;rintro e w' ⟨rfl,rfl⟩) | (go_at_call 135;refine (isHeight_impl _ _).mono ?_;rintro e w' ⟨rfl,rfl⟩) | (go_at_call 136;refine (isView_impl _ _).mono ?_;rintro e w' ⟨rfl,rfl⟩))
  go_ret
  exact ⟨by rw [HE.out];rfl,HB.out⟩
 | true =>
 cases e3:inB q 0 100 with
 | false =>
  have HE:Hid (blkB ⟨p,q,r,L,t,u⟩=false):=Lib.hid (by simp [blkB,e3])
  go_enter Tryz.func74,Tryz.ntmps74
  go_wp2_with (first | (go_at_call 134;refine (isSum_impl _ _).mono ?_;rintro e w' ⟨rfl,rfl⟩) | (go_at_call 135;refine (isHeight_impl _ _).mono ?_;rintro e w' ⟨rfl,rfl⟩) | (go_at_call 136;refine (isView_impl _ _).mono ?_;rintro e w' ⟨rfl,rfl⟩))
  go_ret
  exact ⟨by rw [HE.out];rfl,HB.out⟩
 | true =>
 cases e4:inB r 0 1000 with
 | false =>
  have HE:Hid (blkB ⟨p,q,r,L,t,u⟩=false):=Lib.hid (by simp [blkB,e4])
  go_enter Tryz.func74,Tryz.ntmps74
  go_wp2_with (first | (go_at_call 134;refine (isSum_impl _ _).mono ?_;rintro e w' ⟨rfl,rfl⟩) | (go_at_call 135;refine (isHeight_impl _ _).mono ?_;rintro e w' ⟨rfl,rfl⟩) | (go_at_call 136;refine (isView_impl _ _).mono ?_;rintro e w' ⟨rfl,rfl⟩))
  go_ret
  exact ⟨by rw [HE.out];rfl,HB.out⟩
 | true =>
 have HE:Hid (blkB ⟨p,q,r,L,t,u⟩=actsB L):=Lib.hid (by simp [blkB,e0,e1,e2,e3,e4])
 go_enter Tryz.func74,Tryz.ntmps74
 go_wp2_with (first | (first | (go_at_call 134;refine (isSum_impl _ _).mono ?_;rintro e w' ⟨rfl,rfl⟩) | (go_at_call 135;refine (isHeight_impl _ _).mono ?_;rintro e w' ⟨rfl,rfl⟩) | (go_at_call 136;refine (isView_impl _ _).mono ?_;rintro e w' ⟨rfl,rfl⟩)) | (go_at_call 137;refine (actionsValid_impl a n c L _ H.out).mono ?_;rintro e w1 ⟨rfl,hb1⟩;have HB1:=Lib.hid (HB.out.trans (hb1.mono HB.out.size));clear hb1))
 go_ret
 exact ⟨by rw [HE.out];rfl,HB1.out⟩
set_option linter.unusedSimpArgs false
set_option maxRecDepth 100000 in
set_option maxHeartbeats 4000000 in
theorem blkNumbers_impl (p q r t u:Int) (a:Option Addr) (n c:Nat) (L:List Acn) (w:World) (h:RowA w a n L) (hv:blkB ⟨p,q,r,L,t,u⟩=true) :
  Calls Tryz.prog 75 #[.agg #[.int .i64 p,.int .i64 q,.int .i64 r,.slice a n c,.int .i64 t,.int .i64 u]] w (NewLN w (blkNums ⟨p,q,r,L,t,u⟩)):=by
 have HWF:Hid (∀ x∈blkNums ⟨p,q,r,L,t,u⟩,(Lit.int .i64 x).wf=true):=Lib.hid (fun x hx=>by have:=blkNums_bd hv x hx;exact WalkArith.wf_i64 (by omega))
 have hL10:=(actsB_true (blkB_true hv).2.2.2.2.2).1
 have hn:L.length=n:=h.1
 have hn10:n≤10:=by simp only at hL10;omega
 have HNX:Hid (∀ k,k < n→blkTo ⟨p,q,r,L,t,u⟩ k++numA (L.getD k noA)=blkTo ⟨p,q,r,L,t,u⟩ (k+1)):=Lib.hid (fun k hk=>blkTo_next ⟨p,q,r,L,t,u⟩ k (by simp only;omega))
 have HEND:Hid (blkTo ⟨p,q,r,L,t,u⟩ n++[t,u]=blkNums ⟨p,q,r,L,t,u⟩):=Lib.hid (by unfold blkNums;simp only;rw [hn])
 have HLN:Hid ((blkNums ⟨p,q,r,L,t,u⟩).length=n*4+4+2):=Lib.hid (by unfold blkNums;rw [List.length_append,blkTo_len _ _ (Nat.le_refl _)];simp only [List.length_cons,List.length_nil];omega)
 have hA0:=bkAt_new w 37 (.int .i64 p) (.int .i64 q) (.int .i64 r) (.slice a n c) (.int .i64 t) (.int .i64 u)
 have hb0:=(Below.refl w.heap.size w).alloc (Nat.le_refl _) (.cells #[.int .i64 p,.int .i64 q,.int .i64 r,.slice a n c,.int .i64 t,.int .i64 u] 37)
 have ho0:=(own_lit (w:=w.alloc (.cells #[.int .i64 p,.int .i64 q,.int .i64 r,.slice a n c,.int .i64 t,.int .i64 u] 37)) (B:=w.heap.size) 3 1 #[.int .i64 p,.int .i64 q,.int .i64 r,.int .i64 (n:Int)] 4 (by simp) (by unfold maxLen;omega) rfl).1
 have hb1:=hb0.alloc hb0.size (.cells #[.int .i64 p,.int .i64 q,.int .i64 r,.int .i64 (n:Int)] 3)
 have hA1:=hA0.below ((Below.refl _ _).alloc (Nat.le_refl _) (.cells #[.int .i64 p,.int .i64 q,.int .i64 r,.int .i64 (n:Int)] 3))
 have hst:((w.alloc (.cells #[.int .i64 p,.int .i64 q,.int .i64 r,.slice a n c,.int .i64 t,.int .i64 u] 37)).alloc (.cells #[.int .i64 p,.int .i64 q,.int .i64 r,.int .i64 (n:Int)] 3)).ownsRow w.heap.size 3 1 (.slice (some ⟨w.heap.size+1,0,none⟩) 4 4) (0*4+4) ((blkTo ⟨p,q,r,L,t,u⟩ 0).map (Value.int .i64)):=by
  rw [blkTo_zero];simp only;rw [hn];rw [World.size_alloc] at ho0;exact ho0
 have HR:=Lib.hid h
 obtain ⟨hl,hm,hc,-⟩:=h
 clear hA0 hb0 ho0 hv hL10 hl hm hn
 have HC:=Lib.hid hc
 clear hc
 go_enter Tryz.func75,Tryz.ntmps75
 go_wp2_with fail
 obtain ⟨A,hAe⟩:∃ A,A=w.heap.size:=⟨_,rfl⟩
 have HAe:=Lib.hid hAe
 generalize hw1:World.alloc (World.alloc w _) _=w1 at hA1 hb1 hst ⊢
 clear hw1
 go_loopw [3,19] (fun v i wr=>∃ k:Nat,k≤n∧i = .int .i64 k∧wr.ownsRow w.heap.size 3 1 v (k*4+4) ((blkTo ⟨p,q,r,L,t,u⟩ k).map (Value.int .i64))∧v.ownBlock≠some w.heap.size∧BkAt wr w.heap.size (.int .i64 p) (.int .i64 q) (.int .i64 r) (.slice a n c) (.int .i64 t) (.int .i64 u)∧Below w.heap.size w wr) (fun _ i _=>n - (intOf i).toNat)
 case atStart=>exact ⟨0,Nat.zero_le _,rfl,hst,by simp [Value.ownBlock],hA1,hb1⟩
 case round =>
  clear hst hA1 hb1
  obtain ⟨k,hk,rfl,hown,hne,hA,hb⟩:=hrel
  by_cases hlt:k < n
  · obtain ⟨b,off,rfl,hcc⟩:=HC.out (by omega)
    obtain ⟨d1,d2,d3,d4⟩:=hcc k hlt
    have hbB:b < w.heap.size:=World.block_lt_of_cell? w ⟨b,off+k*4,none⟩ d1
    have c1:=(hb.cell (p:=⟨b,off+k*4,none⟩) hbB).trans d1
    have c2:=(hb.cell (p:=⟨b,off+k*4+1,none⟩) hbB).trans d2
    have c3:=(hb.cell (p:=⟨b,off+k*4+2,none⟩) hbB).trans d3
    have c4:=(hb.cell (p:=⟨b,off+k*4+3,none⟩) hbB).trans d4
    have HN:=Lib.hid (HNX.out k hlt)
    clear hcc d1 d2 d3 d4
    obtain ⟨x,hx⟩:∃ x,x=L.getD k noA:=⟨_,rfl⟩
    rw [← hx] at c1 c2 c3 c4 HN
    clear hx
    obtain ⟨x1,x2,x3,x4⟩:=x
    simp only at c1 c2 c3 c4
    have hbe:=hb.alloc hb.size (.cells #[.int .i64 x1,.int .i64 x2,.int .i64 x3,.int .i64 x4] 113)
    go_wp2_with (first | (at_builtin;refine wpList_append_lit (W:=wr.alloc (.cells #[.int .i64 x1,.int .i64 x2,.int .i64 x3,.int .i64 x4] 113)) rfl _ _ 25 rfl w.heap.size 3 3 (.int .i64 0) 1 8 4 Tryz.underlying25 infoInt rfl (by decide) _ (k*4+4) _ [.int .i64 x1,.int .i64 x2,.int .i64 x3,.int .i64 x4] (by rfl) (hown.alloc (.cells #[.int .i64 x1,.int .i64 x2,.int .i64 x3,.int .i64 x4] 113)) (by simp [Act.eval]) rfl ?c11 (by decide) ?c21 (by decide) ?c31 ?_))
    case c11=>intro u hu;simp at hu;rcases hu with rfl | rfl | rfl | rfl <;> rfl
    case c21=>omega
    case c31=>exact hbe.size
    intro v2 w2 ho2 hnn2 hg2 hat
    have hal:=(Below.refl wr.heap.size wr).alloc (Nat.le_refl _) (.cells #[.int .i64 x1,.int .i64 x2,.int .i64 x3,.int .i64 x4] 113)
    have hal2:=hal.alloc hal.size (.cells #[.int .i64 x1,.int .i64 x2,.int .i64 x3,.int .i64 x4] 3)
    have hA2:=(hA.below hal2).grown hg2 (fun e=>hne e.symm)
    have hAlt:=hA.lt
    have hne2:v2.ownBlock≠some w.heap.size:=by
     rcases hat with e | e
     · rw [e];exact hne
     · rw [e];simp;omega
    have hb2:=(hbe.alloc hbe.size (.cells #[.int .i64 x1,.int .i64 x2,.int .i64 x3,.int .i64 x4] 3)).grown hg2 (by have:=hbe.size;simp at this ⊢;omega) (fun q hq=>(hown.lt q hq).1)
    have HO2:=Lib.hid ho2
    clear hal hal2 hg2 hat hbe hown hb ho2 hA hAlt
    go_wp2
    go_roundw
    case rel=>exact ⟨k+1,by omega,by go_num,by have hq:=HO2.out;rw [show k*4+4+4=(k+1)*4+4 by omega] at hq;rw [← HN.out,List.map_append];exact hq,hne2,hA2,hb2⟩
    case measure=>simp [intOf];omega
  · obtain rfl:k=n:=by omega
    have hbs:=hb.size
    obtain ⟨-,-,-,-,e4,e5,-⟩:=hA
    go_wp2_with (first | (at_builtin;refine wpList_append_lit (W:=wr) rfl _ _ 25 rfl w.heap.size 3 3 (.int .i64 0) 1 8 2 Tryz.underlying25 infoInt rfl (by decide) _ (k*4+4) _ [.int .i64 t,.int .i64 u] (by rfl) hown (by simp [Act.eval]) rfl ?c12 (by decide) ?c22 (by decide) ?c32 ?_))
    case c12=>intro u hu;simp at hu;rcases hu with rfl | rfl <;> rfl
    case c22=>omega
    case c32=>exact hbs
    intro v2 w2 ho2 hnn2 hg2 hat
    have hb2:=(hb.alloc hbs (.cells #[.int .i64 t,.int .i64 u] 3)).grown hg2 (by simp;omega) (fun q hq=>(hown.lt q hq).1)
    have HO2:=Lib.hid ho2
    clear hg2 hat hown hb ho2
    go_wp2
    go_ret
    exact ⟨_,rfl,by rw [← HEND.out,List.map_append];rw [HEND.out,HLN.out];exact HO2.out,HWF.out,hb2⟩
set_option maxHeartbeats 1000000 in
theorem blockSum_impl (p q r t u:Int) (a:Option Addr) (n c:Nat) (L:List Acn) (w:World) (h:RowA w a n L) :
  Calls Tryz.prog 19 #[.agg #[.int .i64 p,.int .i64 q,.int .i64 r,.slice a n c,.int .i64 t,.int .i64 u]] w (IntB (blkSumM ⟨p,q,r,L,t,u⟩) w):=by
 have hA0:=bkAt_new w 37 (.int .i64 p) (.int .i64 q) (.int .i64 r) (.slice a n c) (.int .i64 t) (.int .i64 u)
 have hb0:=(Below.refl w.heap.size w).alloc (Nat.le_refl _) (.cells #[.int .i64 p,.int .i64 q,.int .i64 r,.slice a n c,.int .i64 t,.int .i64 u] 37)
 have H:=Lib.hid (h.below hb0)
 have HB:=Lib.hid hb0
 have HA:=Lib.hid hA0
 clear h hb0 hA0
 go_enter Tryz.func19,Tryz.ntmps19
 go_wp2_with fail
 refine (blockValid_impl p q r t u a n c L _ H.out).mono ?_;rintro e w1 ⟨rfl,hb1⟩
 have HB1:=Lib.hid (HB.out.trans (hb1.mono HB.out.size))
 have H1:=Lib.hid (H.out.below hb1)
 obtain ⟨c0,c1,c2,c3,c4,c5,-⟩:=HA.out.below hb1
 clear hb1
 cases hv:blkB ⟨p,q,r,L,t,u⟩ with
 | false =>
  have HE:=Lib.hid (blkSumM_no hv)
  clear hv
  go_wp2
  go_ret
  exact ⟨ret_int HE.out.symm,HB1.out⟩
 | true =>
  have HE:Hid (sumOfM 5 (blkNums ⟨p,q,r,L,t,u⟩)=blkSumM ⟨p,q,r,L,t,u⟩):=Lib.hid (by unfold blkSumM;rw [if_pos hv])
  have HV:=Lib.hid hv
  have HLN:Hid ((blkNums ⟨p,q,r,L,t,u⟩).length≤4000000):=Lib.hid (by
   have:=(actsB_true (blkB_true hv).2.2.2.2.2).1
   unfold blkNums;rw [List.length_append,blkTo_len _ _ (Nat.le_refl _)];simp only [List.length_cons,List.length_nil] at this ⊢;omega)
  clear hv
  go_wp2_with fail
  refine (blkNumbers_impl p q r t u a n c L _ H1.out HV.out).mono ?_;rintro e w2 ⟨v,rfl,ho,hw,hb2⟩
  obtain ⟨g,k,rfl,hr⟩:=rowI_of_owns ho (by have:=HLN.out;unfold maxLen;omega) hw
  have HB2:=Lib.hid (HB1.out.trans (hb2.mono HB1.out.size))
  obtain ⟨l,hl⟩:∃ l,l=blkNums ⟨p,q,r,L,t,u⟩:=⟨_,rfl⟩
  rw [← hl] at hr HE ⊢
  clear hl ho hw hb2 HLN c0 c1 c2 c3 c4 c5
  go_wp2_with fail
  refine (sumOf_impl 5 _ _ k l _ hr).mono ?_;rintro e w' ⟨rfl,rfl⟩
  go_wp2
  go_ret
  exact ⟨ret_int HE.out,HB2.out⟩
def RunBk (w:World) (b:Blk) (v:Value) (e:Ending) (w':World):Prop:=e = .returned (blkV b v)∧Below w.heap.size w w'
set_option maxHeartbeats 4000000 in
theorem runSerial0_impl (a:Option Addr) (n cap:Nat) (S:List Ent) (b:Option Addr) (m c2:Nat) (L:List Acn) (w:World) (h:RowE w a n S) (hz:a=none→cap=0) (h2:RowA w b m L) (hm0:m=0) :
  Calls Tryz.prog 184 #[.slice a n cap,.slice b m c2] w (NewSF w 178 142 (serM S L).1 (serM S L).2):=by
 have HM0:=Lib.hid hm0
 clear hm0
 have HS:=Lib.hid h
 have HAW:=Lib.hid h2
 have HZ:=Lib.hid hz
 clear h h2 hz
 have HNO:Hid ((storeB S && actsB L)=false→serM S L=([],[])):=Lib.hid serM_no
 have HNIL:Hid (∀ w5,Below w.heap.size w w5→OwnSF w5 w.heap.size w5.heap.size 178 142 (.slice none 0 0) (.slice none 0 0) [] []):=Lib.hid (fun w5 hb =>
  ⟨World.ownsRow_nil _ _ _ _,fun e he=>(by cases he),fun p hp=>(by cases hp),by simp,[],own2_nil _ _ _ _ _,fun y hy p hp hq=>by cases hp⟩)
 go_enter Tryz.func184,Tryz.ntmps184
 go_wp2_with fail
 refine (storeValid_impl a n cap S _ HS.out).mono ?_;rintro e w1 ⟨rfl,hb1⟩
 have HA1:=Lib.hid (HAW.out.below hb1)
 cases hS:storeB S with
 | false =>
  have HE:=Lib.hid (HNO.out (by rw [hS];rfl))
  clear hS HNO
  go_wp2
  go_ret2
  exact ⟨.slice none 0 0,.slice none 0 0,rfl,by rw [HE.out];exact HNIL.out _ hb1,hb1⟩
 | true =>
  have HSB:=Lib.hid hS
  clear hS
  go_wp2_with fail
  refine (actionsValid_impl b m c2 L _ HA1.out).mono ?_;rintro e w2 ⟨rfl,hb2'⟩
  have hb2:=hb1.trans (hb2'.mono hb1.size)
  clear HA1 hb1 hb2'
  cases hA:actsB L with
  | false =>
   have HE:=Lib.hid (HNO.out (by rw [HSB.out,hA];rfl))
   clear hA HNO
   go_wp2
   go_ret2
   exact ⟨.slice none 0 0,.slice none 0 0,rfl,by rw [HE.out];exact HNIL.out _ hb2,hb2⟩
  | true =>
   have HSY:=Lib.hid (serM_yes HSB.out hA)
   have hm10:=(actsB_true hA).1
   have hLm:=HAW.out.1
   have hS32:=store_len HSB.out
   have hSl:=HS.out.1
   clear hA HNO HNIL
   go_wp2_with fail
   have hn3:n≤3000000:=by omega
   refine (clone_any a n cap S _ (HS.out.below hb2) HZ.out hn3).mono ?_;rintro e w3 ⟨v3,rfl,ho3,hb3'⟩
   have hb3:=hb2.trans (hb3'.mono hb2.size)
   have hs2:=hb2.size
   have hs3:=hb3'.size
   have ho3w:=owns_mono ho3 hs2
   have hv3:=fun p hp=>(ho3.lt p hp).2
   obtain ⟨a3,c3,rfl,-,-⟩:=rowE_of_owns ho3 (by omega) HS.out.2.2.2
   obtain ⟨E,hE⟩:∃ E,E=(serL S L).2:=⟨_,rfl⟩
   have hEl:E.length=m:=by rw [hE,serL_len,hLm]
   have HEL:=Lib.hid hEl
   have hEn:Hid (∀ k,k < m→E.getD k noEff=runM (serL S (L.take k)).1 (L.getD k noA)):=Lib.hid (fun k hk=>by rw [hE];exact serL_get L S k (by omega))
   have HE:=Lib.hid hE
   have HWS:=Lib.hid HS.out.2.2.2
   have hm10':m≤10:=by omega
   obtain ⟨i0,hi,hz0,hz1,hz2⟩:=info_parts infoEffS
   clear hb2 hb3' ho3 hE hEl
   go_wp2_with (first | (at_make;refine wpList_make_full _ rfl (.tmp 21) (.tmp 21) 152 rfl w3.heap.size 178 i0 (.agg #[.bool false,.slice none 0 0,.slice none 0 0]) 3 Tryz.underlying152 hi hz0 hz1 .i64 .i64 m m m rfl rfl rfl rfl (by rw [hz2];omega) (by unfold maxLen;omega) (Nat.le_refl _) ?_;intro w4 hown hgrow;clear hi hz0 hz1 hz2))
   have hb4':Below w3.heap.size w3 w4:=(Below.refl _ _).grown hgrow (Nat.le_refl _) (fun k hk=>by simp at hk)
   have hb4:=hb3.trans (hb4'.mono hb3.size)
   have hg4:w3.heap.size < w4.heap.size:=(hown.lt w3.heap.size rfl).2
   have ho4:=own2_made3 (T:=w4.heap.size) (.bool false) (.slice none 0 0) (.slice none 0 0) (.bool false) (.ents 142 []) (.ents 142 []) (oeC 142) none rfl hown (fun b hb=>by simp [blk] at hb;omega) rfl (ents_nil _ _) (ents_nil _ _) rfl rfl rfl (oeC_len _)
   have hF0:FillSF w4 w.heap.size w3.heap.size m 178 142 (.slice a3 S.length c3) (serL S (L.take 0)).1 E 0:=by
    refine ⟨owns_below ho3w hb4',HWS.out,_,(show Own2 w4 w3.heap.size w4.heap.size 178 3 (.slice (some ⟨w3.heap.size,0,none⟩) m m) m ((fillO E 0).flatMap (oeC 142)) _ by rw [fillO_zero,HEL.out];exact ho4).mono hb3.size (Nat.le_refl _),fun x hx p hp hq=>?_⟩
    have h1:=(ho4.blk_lt x hx p hq).1
    have h2:=hv3 p hp
    omega
   obtain ⟨g,hg⟩:∃ g,g=w3.heap.size:=⟨_,rfl⟩
   rw [← hg] at hF0 hg4 hs3 ⊢
   rw [hSl] at hF0
   clear hown hgrow ho4 hb4' hb3 ho3w hv3 hg hS32 hs3 hg4 hn3
   go_loopw [6,25] (fun v i wr=>∃ k:Nat,k≤m∧i = .int .i64 k∧FillSF wr w.heap.size g m 178 142 v (serL S (L.take k)).1 E k∧Below w.heap.size w wr) (fun _ i _=>m - (intOf i).toNat)
   case atStart=>exact ⟨0,Nat.zero_le _,rfl,hF0,hb4⟩
   case round =>
    clear hF0 hb4
    obtain ⟨k,hk,rfl,hSF,hb⟩:=hrel
    have hTB:=store_ser (L.take k) HSB.out
    have hT32:=store_len hTB
    by_cases hlt:k < m
    · exact absurd HM0.out (by omega)
    · obtain rfl:k=m:=by omega
      have e:L.take k=L:=List.take_of_length_le (by omega)
      rw [e] at hSF
      have HSF:=Lib.hid (hSF.all HEL.out (by omega))
      clear e hSF hT32 hTB
      go_wp2
      go_ret2
      exact ⟨u6,.slice (some ⟨g,0,none⟩) k k,rfl,by rw [HSY.out,← HE.out];exact HSF.out,hb⟩
set_option maxHeartbeats 4000000 in
theorem effectsSum0_impl (a:Option Addr) (n cap:Nat) (L:List Eff) (w:World) (h:RowFs w a n L) (hs:∀ x∈L,x.rds.length+x.wrs.length≤1500000) (hn:n≤2000000) (hn0:n=0) :
  Calls Tryz.prog 186 #[.slice a n cap] w (IntB (effsSumM L) w):=by
 have HN0:=Lib.hid hn0
 clear hn0
 obtain ⟨hl,-,hc⟩:=h
 have HN:=Lib.hid hl;clear hl
 by_cases h10:n≤10
 · have h10':¬ (10:Int) < (n:Int):=by omega
   have HSZ:Hid (∀ k,k < n→(L.getD k noEff).rds.length+(L.getD k noEff).wrs.length≤1500000):=Lib.hid (fun k hk=>hs _ (getD_memF L k (by rw [HN.out];exact hk)))
   obtain ⟨l,hll⟩:∃ l,l=L.map effSumM:=⟨_,rfl⟩
   have HML:Hid (l.length=n):=Lib.hid (by rw [hll,List.length_map];exact HN.out)
   have HGE:Hid (∀ k,k < n→l.getD k 0=effSumM (L.getD k noEff)):=Lib.hid (fun k hk=>by
    rw [hll,List.getD_eq_getElem?_getD,List.getD_eq_getElem?_getD,List.getElem?_map,List.getElem?_eq_getElem (by rw [HN.out];exact hk)];rfl)
   have HWF:Hid (∀ x∈l,(Lit.int .i64 x).wf=true):=Lib.hid (fun x hx=>by
    rw [hll] at hx
    obtain ⟨y,-,rfl⟩:=List.mem_map.1 hx
    rcases sumOfM_cases 3 (numsM y) with h1 | ⟨h1,h2,-⟩
    · exact WalkArith.wf_i64 (by unfold effSumM;omega)
    · exact WalkArith.wf_i64 (by unfold effSumM;omega))
   have HFIN:Hid (sumOfM 4 l=effsSumM L):=Lib.hid (by unfold effsSumM;rw [hll,if_pos (by rw [HN.out];exact h10)])
   clear hs hll
   obtain ⟨i0,hi,hz0,hz1,hz2⟩:=info_parts infoIntX
   go_enter Tryz.func186,Tryz.ntmps186
   go_wp2_with (first | (at_make;refine wpList_make_full _ rfl (.tmp 10) (.tmp 10) 25 rfl w.heap.size 3 i0 (.int .i64 0) 1 Tryz.underlying25 hi hz0 hz1 .i64 .i64 n n n rfl rfl rfl rfl (by rw [hz2];omega) (by unfold maxLen;omega) (Nat.le_refl _) ?_;intro w1 hown hgrow;clear hi hz0 hz1 hz2))
   have hcells:(madeCells (Value.int .i64 0).cells (n*1)).toList=(fillI l 0).map (Value.int .i64):=by
    rw [fillI_zero,HML.out,Nat.mul_one];exact (toList_madeCells_one _ _).trans (by simp)
   rw [hcells] at hown;clear hcells
   have hb1:Below w.heap.size w w1:=(Below.refl _ _).grown hgrow (Nat.le_refl _) (fun k hk=>by simp at hk)
   clear hgrow
   by_cases h0:0 < n
   · exact absurd HN0.out (by omega)
   · obtain rfl:n=0:=by omega
     have hl0:l=[]:=List.eq_nil_of_length_eq_zero HML.out
     obtain ⟨a3,c3,hv,hri⟩:=rowI_of_owns hown (by unfold maxLen;omega) (by rw [hl0];simp [fillI])
     rw [show fillI l 0=l by rw [hl0];rfl] at hri
     simp only [Value.slice.injEq] at hv
     obtain ⟨rfl,-,rfl⟩:=hv
     clear hc hown hl0
     go_loopw [14] (fun i wr=>i = .int .i64 0∧wr=w1) (fun _ _=>0)
     case atStart=>exact ⟨rfl,rfl⟩
     case round =>
      obtain ⟨rfl,rfl⟩:=hrel
      go_wp2_with fail
      refine (sumOf_impl 4 _ 0 0 l _ hri).mono ?_;rintro e w' ⟨rfl,rfl⟩
      rw [HFIN.out]
      go_wp2
      go_ret
      exact ⟨rfl,hb1⟩
 · have h10':(10:Int) < (n:Int):=by omega
   have HF:Hid (effsSumM L = -1):=Lib.hid (by unfold effsSumM;rw [if_neg (by rw [HN.out];exact h10)])
   clear hc hs
   go_enter Tryz.func186,Tryz.ntmps186
   go_wp2
   go_ret
   exact ⟨by rw [HF.out];rfl,Below.refl _ _⟩
set_option maxRecDepth 100000 in
set_option maxHeartbeats 4000000 in
theorem blkRun0_impl (p q r t u:Int) (a:Option Addr) (n c:Nat) (L:List Acn) (a':Option Addr) (m c':Nat) (S:List Ent) (w:World) (h:RowA w a n L) (hS:RowE w a' m S) (hz:a'=none→c'=0) (hn0:n=0) :
  Calls Tryz.prog 177 #[.agg #[.int .i64 p,.int .i64 q,.int .i64 r,.slice a n c,.int .i64 t,.int .i64 u],.slice a' m c'] w (RunBk w (blkRun ⟨p,q,r,L,t,u⟩ S) (.slice a n c)):=by
 have HN0:=Lib.hid hn0
 clear hn0
 have hb0:=((Below.refl w.heap.size w).alloc (Nat.le_refl _) (.cells #[.int .i64 p,.int .i64 q,.int .i64 r,.slice a n c,.int .i64 t,.int .i64 u] 37)).alloc (by simp) (.cells #[.int .i64 0,.int .i64 0,.int .i64 0,.slice none 0 0,.int .i64 0,.int .i64 0] 37)
 have hA:=(bkAt_new w 37 (.int .i64 p) (.int .i64 q) (.int .i64 r) (.slice a n c) (.int .i64 t) (.int .i64 u)).below ((Below.refl _ _).alloc (Nat.le_refl _) (.cells #[.int .i64 0,.int .i64 0,.int .i64 0,.slice none 0 0,.int .i64 0,.int .i64 0] 37))
 have hZ:=bkAt_new (w.alloc (.cells #[.int .i64 p,.int .i64 q,.int .i64 r,.slice a n c,.int .i64 t,.int .i64 u] 37)) 37 (.int .i64 0) (.int .i64 0) (.int .i64 0) (.slice none 0 0) (.int .i64 0) (.int .i64 0)
 rw [World.size_alloc] at hZ
 obtain ⟨W1,hW1⟩:∃ W1,W1=(w.alloc (.cells #[.int .i64 p,.int .i64 q,.int .i64 r,.slice a n c,.int .i64 t,.int .i64 u] 37)).alloc (.cells #[.int .i64 0,.int .i64 0,.int .i64 0,.slice none 0 0,.int .i64 0,.int .i64 0] 37):=⟨_,rfl⟩
 have HW1:=Lib.hid hW1
 rw [← hW1] at hb0 hA hZ
 clear hW1
 have HA:=Lib.hid (fun (W:World) (hb:Below W1.heap.size W1 W)=>(⟨hA.below hb,hZ.below hb,hb0.trans (hb.mono hb0.size)⟩:BkAt W w.heap.size (.int .i64 p) (.int .i64 q) (.int .i64 r) (.slice a n c) (.int .i64 t) (.int .i64 u)∧BkAt W (w.heap.size+1) (.int .i64 0) (.int .i64 0) (.int .i64 0) (.slice none 0 0) (.int .i64 0) (.int .i64 0)∧Below w.heap.size w W))
 have HR:=Lib.hid (h.below hb0)
 have HS:=Lib.hid (hS.below hb0)
 have HX:Hid ((serM S L).1.length≤32∧(serM S L).2.length≤10∧∀ x∈(serM S L).2,x.rds.length+x.wrs.length≤1500000):=Lib.hid ⟨serM_store S L,serM_len S L,fun x hx=>by have:=serM_eff S L x hx;omega⟩
 have HX0:Hid ((serM S L).2.length=0):=Lib.hid (by
  have:L=[]:=List.eq_nil_of_length_eq_zero (by rw [h.1];exact HN0.out)
  subst this
  unfold serM
  split <;> rfl)
 clear h hS hb0 hA hZ
 go_enter Tryz.func177,Tryz.ntmps177
 go_upto_region 1 with (fail)
 rw [← HW1.out]
 clear HW1
 obtain ⟨⟨x0,x1,x2,x3,x4,x5,-⟩,-,-⟩:=HA.out W1 (Below.refl _ _)
 go_wp2_with fail
 refine (runSerial0_impl a' m c' S a n c L _ HS.out hz HR.out HN0.out).mono ?_;rintro e w2 ⟨v2,u2,rfl,hSF,hb2⟩
 have HB2:=Lib.hid hb2
 obtain ⟨X,hX⟩:∃ X,X=serM S L:=⟨_,rfl⟩
 have HXE:=Lib.hid hX
 rw [← hX] at hSF HX HX0
 obtain ⟨a2,k2,rfl,hr2,-⟩:=hSF.row (by have:=HX.out.1;omega)
 obtain ⟨b2,d2,rfl,hf2,-,-⟩:=rowFs_of_own hSF.effs
 have HF2:=Lib.hid hf2
 clear x0 x1 x2 x3 x4 x5 hb2 hX hSF hf2
 go_wp2_with fail
 refine (rootOf_impl a2 _ k2 X.1 _ hr2).mono ?_;rintro e w3 ⟨rfl,hb3⟩
 have HF3:=Lib.hid (HF2.out.below hb3)
 have HB3:=Lib.hid (HB2.out.trans (hb3.mono HB2.out.size))
 clear hb3 hr2
 have hx10:X.2.length≤2000000:=by have:=HX.out.2.1;omega
 go_wp2_with fail
 refine (effectsSum0_impl b2 _ d2 X.2 _ HF3.out HX.out.2.2 hx10 HX0.out).mono ?_;rintro e w4 ⟨rfl,hb4⟩
 have HB4:=Lib.hid (HB3.out.trans (hb4.mono HB3.out.size))
 clear hb4 hx10
 have hres:Hid (blkRun ⟨p,q,r,L,t,u⟩ S=⟨p,q,r,L,rootM X.1,effsSumM X.2⟩):=Lib.hid (by rw [HXE.out];rfl)
 obtain ⟨rt,hrt⟩:∃ x,x=rootM X.1:=⟨_,rfl⟩
 obtain ⟨ef,hef⟩:∃ x,x=effsSumM X.2:=⟨_,rfl⟩
 rw [← hrt,← hef] at hres
 rw [← hrt,← hef]
 clear hrt hef
 obtain ⟨hA4,hZ4,hb4⟩:=HA.out w4 HB4.out
 have hAs:=hA4.set45 (.int .i64 rt) (.int .i64 ef)
 have hg45:w4.grownBy ((w4.setCell ⟨w.heap.size,4,none⟩ (.int .i64 rt)).setCell ⟨w.heap.size,5,none⟩ (.int .i64 ef)) (some w.heap.size):=grownBy_trans (grownBy_set w4 w.heap.size 4 _) (grownBy_set _ w.heap.size 5 _)
 have hZs:=hZ4.grown hg45 (by simp)
 have hbs:=(hb4.setCell (p:=⟨w.heap.size,4,none⟩) (Nat.le_refl _) (.int .i64 rt)).setCell (p:=⟨w.heap.size,5,none⟩) (Nat.le_refl _) (.int .i64 ef)
 obtain ⟨z0,z1,z2,z3,z4,z5,g0,g1,g2,g3,g4,g5⟩:=hA4
 have HAS:=Lib.hid hAs
 have HZF:=Lib.hid (hZs.set6 (.int .i64 p) (.int .i64 q) (.int .i64 r) (.slice a n c) (.int .i64 rt) (.int .i64 ef))
 have HBF:=Lib.hid (below_set6 hbs (Z:=w.heap.size+1) (by omega) (.int .i64 p) (.int .i64 q) (.int .i64 r) (.slice a n c) (.int .i64 rt) (.int .i64 ef))
 obtain ⟨zc0,zc1,zc2,zc3,zc4,zc5,zf0,zf1,zf2,zf3,zf4,zf5⟩:=hZ4
 clear hAs hg45 hZs hbs hb4
 go_wp2_with fail
 refine bodyPost_ret (results_blk Tryz.results177 _ (by rfl) HZF.out) rfl ?_
 exact ⟨by rw [hres.out],HBF.out⟩
theorem rowA_nil (w:World):RowA w none 0 []:=⟨rfl,by unfold maxLen;omega,fun h=>absurd h (by omega),fun x hx=>by cases hx⟩
set_option maxRecDepth 100000 in
set_option maxHeartbeats 4000000 in
theorem firstBlock_impl (a:Option Addr) (n c:Nat) (S:List Ent) (w:World) (h:RowE w a n S) (hz:a=none→c=0) :
  Calls Tryz.prog 163 #[.slice a n c] w (NewBk w 113 (firstM S)):=by
 have hb0:=(Below.refl w.heap.size w).alloc (Nat.le_refl _) (.cells #[.int .i64 0,.int .i64 0,.int .i64 0,.slice none 0 0,.int .i64 0,.int .i64 0] 37)
 have hA:=bkAt_new w 37 (.int .i64 0) (.int .i64 0) (.int .i64 0) (.slice none 0 0) (.int .i64 0) (.int .i64 0)
 obtain ⟨W1,hW1⟩:∃ W1,W1=w.alloc (.cells #[.int .i64 0,.int .i64 0,.int .i64 0,.slice none 0 0,.int .i64 0,.int .i64 0] 37):=⟨_,rfl⟩
 have HW1:=Lib.hid hW1
 rw [← hW1] at hb0 hA
 clear hW1
 have HA:=Lib.hid (fun (W:World) (hb:Below W1.heap.size W1 W)=>(⟨hA.below hb,hb0.trans (hb.mono hb0.size)⟩:BkAt W w.heap.size (.int .i64 0) (.int .i64 0) (.int .i64 0) (.slice none 0 0) (.int .i64 0) (.int .i64 0)∧Below w.heap.size w W))
 have HS:=Lib.hid (h.below hb0)
 clear h hb0 hA
 go_enter Tryz.func163,Tryz.ntmps163
 go_upto_region 1 with (fail)
 rw [← HW1.out]
 clear HW1
 go_wp2_with fail
 refine (storeValid_impl a n c S _ HS.out).mono ?_;rintro e w2 ⟨rfl,hb2⟩
 have HB2:=Lib.hid hb2
 cases hs:storeB S with
 | false =>
  have HE:=Lib.hid (firstM_no hs)
  obtain ⟨hA2,hB2⟩:=HA.out w2 hb2
  have HF:=Lib.hid (hA2.set6 (.int .i64 0) (.int .i64 0) (.int .i64 0) (.slice none 0 0) (.int .i64 0) (.int .i64 0))
  have HBF:=Lib.hid (below_set6 hB2 (Nat.le_refl w.heap.size) (.int .i64 0) (.int .i64 0) (.int .i64 0) (.slice none 0 0) (.int .i64 0) (.int .i64 0))
  obtain ⟨c0,c1,c2,c3,c4,c5,f0,f1,f2,f3,f4,f5⟩:=hA2
  clear hs hb2 hB2
  go_wp2_with fail
  refine bodyPost_ret (results_blk Tryz.results163 _ (by rfl) HF.out) rfl ?_
  exact ⟨.slice none 0 0,by rw [HE.out];rfl,by rw [HE.out];exact newBk_zero _ _ _,by rw [HE.out];exact fun x hx=>(by cases hx),by rw [HE.out];exact wfB_no,HBF.out⟩
 | true =>
  have HE:Hid (firstM S=blkRun ⟨0,0,0,[],0,0⟩ S):=Lib.hid (by unfold firstM;rw [if_pos hs];rfl)
  have HS2:=Lib.hid (HS.out.below hb2)
  clear hs hb2
  go_wp2_with fail
  refine (blkRun0_impl 0 0 0 0 0 none 0 0 [] a n c S _ (rowA_nil _) HS2.out hz rfl).mono ?_;rintro e w3 ⟨rfl,hb3⟩
  obtain ⟨hA3,hB3⟩:=HA.out w3 (HB2.out.trans (hb3.mono HB2.out.size))
  have HW:=Lib.hid (wfB_run (b:=⟨0,0,0,[],0,0⟩) S wfB_no)
  obtain ⟨x,hx⟩:∃ x,x=blkRun ⟨0,0,0,[],0,0⟩ S:=⟨_,rfl⟩
  have HX:Hid (x.bef=0∧x.hgt=0∧x.view=0∧x.acts=[]):=Lib.hid (by rw [hx];exact ⟨rfl,rfl,rfl,rfl⟩)
  rw [← hx] at HE HW ⊢
  clear hx
  have HF:=Lib.hid (hA3.set6 (.int .i64 x.bef) (.int .i64 x.hgt) (.int .i64 x.view) (.slice none 0 0) (.int .i64 x.root) (.int .i64 x.effs))
  have HBF:=Lib.hid (below_set6 hB3 (Nat.le_refl w.heap.size) (.int .i64 x.bef) (.int .i64 x.hgt) (.int .i64 x.view) (.slice none 0 0) (.int .i64 x.root) (.int .i64 x.effs))
  obtain ⟨c0,c1,c2,c3,c4,c5,f0,f1,f2,f3,f4,f5⟩:=hA3
  clear hb3 hB3
  go_wp2_with fail
  refine bodyPost_ret (results_blk Tryz.results163 _ (by rfl) HF.out) rfl ?_
  exact ⟨.slice none 0 0,by rw [HE.out],by rw [HE.out,HX.out.2.2.2];exact World.ownsRow_nil _ _ _ _,by rw [HE.out,HX.out.2.2.2];exact fun x hx=>(by cases hx),by rw [HE.out];exact HW.out,HBF.out⟩
end Go.Proofs.YtpnjgmgmakmgeaaGreat
