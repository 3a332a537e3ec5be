/- The contracts of the laws' own helpers heldBlockS and heldBlockTree. -/
import Derived.Test.YtalohgmgkjfdbaaGreatMarkTr
namespace Go.Proofs.YtalohgmgkjfdbaaGreat
open Go.RowKit
set_option linter.unusedVariables false
set_option linter.unusedSimpArgs false
theorem wfA_marksT (k:Int) (n:Nat) (h0:0≤k) (h1:k≤100000000) (hn:n≤4000000):WfAs (marksA k n):=by
 intro e he
 obtain ⟨i,hi,rfl⟩:=List.mem_map.1 he
 have:=List.mem_range.1 hi
 exact ⟨WalkArith.wf_i64 (by simp only;omega),WalkArith.wf_i64 (by simp only;omega),WalkArith.wf_i64 (by simp only;omega),WalkArith.wf_i64 (by simp only;omega)⟩
theorem bkWf_marked {k:Int} {L:List Blk} (hw:wtBks L≤2000000) (h0:0≤k) (h1:k≤10000000):∀ x∈marksBk k L,BkWf x:=by
 intro x hx
 obtain ⟨j,hj,rfl⟩:=List.getElem_of_mem hx
 rw [marksBk_len] at hj
 have e1:(marksBk k L)[j]=markOfB (k+offBk L j) (L.getD j noBlk):=by
  rw [← marksBk_get k L j hj,List.getD_eq_getElem?_getD,List.getElem?_eq_getElem (by rw [marksBk_len];exact hj)];rfl
 rw [e1]
 have h2:=offBk_le L j
 have h3:=sumBk_len L j hj
 unfold wtBks at hw h2
 refine ⟨⟨WalkArith.wf_i64 (by simp only [markOfB];omega),WalkArith.wf_i64 (by simp only [markOfB];omega),WalkArith.wf_i64 (by simp only [markOfB];omega),WalkArith.wf_i64 (by simp only [markOfB];omega),WalkArith.wf_i64 (by simp only [markOfB];omega)⟩,wfA_marksT _ _ (by omega) (by omega) (by omega),?_⟩
 simp only [markOfB,marksA_len];omega
theorem treWf_marked {k:Int} {t:Tre} (h1:t.base.length≤1048576) (h2:wtBks t.blocks≤1048576) (h3:t.bef.length≤1048576) (h0:0≤k) (hk:k≤1000):TreWf (markedTre k t):=by
 have ho:=offBk_le t.blocks t.blocks.length
 have hl:t.blocks.length≤wtBks t.blocks:=by unfold wtBks;omega
 refine ⟨wfE_marks _ _ (by omega) (by omega) (by omega),wf_marksI _ _ (by omega) (by omega) (by omega),⟨bkWf_marked (by omega) (by omega) (by omega),?_⟩,?_,?_⟩
 · simp only [markedTre,marksBk_len];omega
 · simp only [markedTre,marksE_len];omega
 · simp only [markedTre,marksI_len];omega
theorem marked_rd {w:World} {B T:Nat} {v1 v2 v3:Value} {t:Tre} {ts:List Value} {k:Int} (h:OwnR w B T (treRs tTre v1 v2 v3 (markedTre k t) ts)) (hl:ts.length=t.blocks.length) (h1:t.base.length≤1048576) (h2:wtBks t.blocks≤1048576) (h3:t.bef.length≤1048576) (h0:0≤k) (hk:k≤1000):TreRd w v1 v2 v3 (markedTre k t) :=
 TreOwn.rd ⟨by simp only [markedTre,marksBk_len];exact hl,h,treWf_marked h1 h2 h3 h0 hk⟩
set_option maxRecDepth 100000 in
set_option maxHeartbeats 4000000 in
theorem heldBlockS_any (a:Option Addr) (n cap:Nat) (L:List Blk) (k:Int) (w:World) (h:RowBs w a n (marksBk k L)) (hn:L.length=n) (hw:wtBks L≤2000000) (hk0:0≤k) (hk1:k≤10000000) :
  Calls Tryz.prog 67 #[.slice a n cap,.int .i64 k] w fun e w'=>e = .returned (.int .i64 (k+offBk L n))∧w=w':=by
 have HOFF:Hid (∀ j,offBk L j≤10000000):=Lib.hid fun j=>by have:=offBk_le L j;omega
 have HSW:Hid (∀ j,j < L.length→(L.getD j noBlk).acts.length≤2000000):=Lib.hid (fun j hj=>by have:=sumBk_len L j hj;unfold wtBks at hw;omega)
 have hlen:n≤2000000:=by unfold wtBks at hw;omega
 clear hw
 obtain ⟨-,-,hc,-⟩:=h
 have HN:=Lib.hid hn;clear hn
 go_enter Tryz.func67,Tryz.ntmps67
 go_wp2
 go_loop [1,5] (fun q i=>∃ j:Nat,j≤n∧i = .int .i64 j∧q = .int .i64 (k+offBk L j)) (fun _ i=>n - (intOf i).toNat)
 case atStart=>exact ⟨0,Nat.zero_le _,rfl,by simp [offBk,sumMkB]⟩
 case round =>
  obtain ⟨j,hj,rfl,rfl⟩:=hrel
  by_cases hlt:j < n
  · have hjL:j < L.length:=by rw [HN.out];exact hlt
    obtain ⟨b,off,rfl,hcc⟩:=hc (by omega)
    obtain ⟨g1,g2,g3,⟨v,g4,hx⟩,g5,g6⟩:=hcc j hlt
    rw [marksBk_get k L j hjL] at g1 g2 g3 hx g5 g6
    have hof:=HOFF.out j
    have hon:=offBk_next L j hjL
    have hle:=HSW.out j hjL
    unfold mkBN at hon
    obtain ⟨a1,n1,cap1,rfl,r1,-,-⟩:=hx
    have e1:=r1.1
    simp only [markOfB] at g1 g2 g3 g5 g6 r1 e1
    rw [marksA_len] at e1
    rw [e1] at hon hle r1 g5 g6
    obtain ⟨q,hq⟩:∃ q,q=offBk L j:=⟨_,rfl⟩
    rw [← hq] at hof hon g1 g2 g3 g5 g6 r1 ⊢
    rw [show k+(q:Int)+2=k+(q:Int)+1+1 by omega] at g3
    rw [show k+(q:Int)+3=k+(q:Int)+1+1+1 by omega] at r1 g5
    rw [show k+(q:Int)+4+4*(n1:Int)=k+(q:Int)+1+1+1+4*(n1:Int)+1 by omega] at g6
    have HR1:=Lib.hid r1
    have HS2:=Lib.hid hon
    have x1:(k+(q:Int) != k+(q:Int))=false:=by simp
    have x2:(k+(q:Int)+1 != k+(q:Int)+1)=false:=by simp
    have x3:(k+(q:Int)+1+1 != k+(q:Int)+1+1)=false:=by simp
    clear hc hcc hq e1 r1 hon
    go_wp2_with fail
    refine (heldActionS_any a1 n1 cap1 _ _ HR1.out (by omega) (by omega) (by omega)).mono ?_;rintro e w' ⟨rfl,rfl⟩
    have y1:decide (k+(q:Int)+1+1+1+4*(n1:Int) < 0)=false:=by simp;omega
    have y2:(k+(q:Int)+1+1+1+4*(n1:Int) != k+(q:Int)+1+1+1+4*(n1:Int))=false:=by simp
    have y3:(k+(q:Int)+1+1+1+4*(n1:Int)+1 != k+(q:Int)+1+1+1+4*(n1:Int)+1)=false:=by simp
    go_wp2
    go_round
    case rel=>exact ⟨j+1,by omega,by go_num,by rw [HS2.out];congr 1;omega⟩
    case measure=>simp [intOf];omega
  · obtain rfl:j=n:=by omega
    clear hc
    go_wp2
    go_ret
    exact ⟨rfl,rfl⟩
set_option maxRecDepth 100000 in
set_option maxHeartbeats 4000000 in
theorem heldBlockTree_any (v1 v2 v3:Value) (t:Tre) (k:Int) (w:World) (h:TreRd w v1 v2 v3 (markedTre k t)) (h1:t.base.length≤1048576) (h2:wtBks t.blocks≤1048576) (h3:t.bef.length≤1048576) (hk0:0≤k) (hk1:k≤1000) :
  Calls Tryz.prog 23 #[.agg #[v1,v2,v3],.int .i64 k] w fun e w'=>e = .returned (.int .i64 (k+(mkTreN t:Nat)))∧Below w.heap.size w w':=by
 obtain ⟨⟨a1,m1,c1,rfl,r1,-,-⟩,⟨a2,m2,c2,rfl,r2,-,-⟩,a3,m3,c3,rfl,r3,-,-⟩:=h
 have hb0:=(Below.refl w.heap.size w).alloc (Nat.le_refl _) (.cells #[.slice a1 m1 c1,.slice a2 m2 c2,.slice a3 m3 c3] 28)
 obtain ⟨n1,hn1⟩:∃ n,n=t.base.length:=⟨_,rfl⟩
 obtain ⟨n3,hn3⟩:∃ n,n=t.bef.length:=⟨_,rfl⟩
 obtain ⟨nq,hnq⟩:∃ n,n=offBk t.blocks t.blocks.length:=⟨_,rfl⟩
 have hq1:nq≤5*1048576:=by have:=offBk_le t.blocks t.blocks.length;omega
 have HMN:Hid ((mkTreN t:Nat)=2*n1+nq+n3):=Lib.hid (by rw [hn1,hn3,hnq];rfl)
 simp only [markedTre,← hn1,← hn3,← hnq] at r1 r2 r3
 obtain rfl:n1=m1:=by have:=r1.1;rw [marksE_len] at this;exact this
 obtain rfl:n3=m3:=by have:=r3.1;rw [marksI_len] at this;exact this
 have hm2:t.blocks.length=m2:=by have:=r2.1;rw [marksBk_len] at this;exact this
 have hl2:t.blocks.length≤wtBks t.blocks:=by unfold wtBks;omega
 rw [← hn1] at h1
 rw [← hn3] at h3
 rw [hm2] at hnq
 have R1:=Lib.hid (r1.below hb0);have R2:=Lib.hid (r2.below hb0);have R3:=Lib.hid (r3.below hb0)
 have HB:=Lib.hid hb0
 have HN2:=Lib.hid hm2
 have HQ:=Lib.hid hnq
 have HH2:=Lib.hid h2
 clear r1 r2 r3 hb0 hn1 hn3 hnq hm2 h2 hl2
 go_enter Tryz.func23,Tryz.ntmps23
 go_wp2_with fail
 refine (heldEntryS_any a1 n1 c1 _ _ R1.out (by omega) (by omega) (by omega)).mono ?_;rintro e w' ⟨rfl,rfl⟩
 have y1:decide (k+2*(n1:Int) < 0)=false:=by simp;omega
 go_wp2_with fail
 refine (heldBlockS_any a2 m2 c2 t.blocks _ _ R2.out HN2.out (by have:=HH2.out;omega) (by omega) (by omega)).mono ?_;rintro e w' ⟨rfl,rfl⟩
 rw [← HQ.out]
 have y2:decide (k+2*(n1:Int)+(nq:Int) < 0)=false:=by simp;omega
 go_wp2_with fail
 refine (heldIntS_any a3 n3 c3 _ _ R3.out (by omega) (by omega) (by omega)).mono ?_;rintro e w' ⟨rfl,rfl⟩
 have y3:decide (k+2*(n1:Int)+(nq:Int)+(n3:Int) < 0)=false:=by simp;omega
 go_wp2
 go_ret
 exact ⟨ret_int (by rw [HMN.out];push_cast;omega),HB.out⟩
end Go.Proofs.YtalohgmgkjfdbaaGreat
