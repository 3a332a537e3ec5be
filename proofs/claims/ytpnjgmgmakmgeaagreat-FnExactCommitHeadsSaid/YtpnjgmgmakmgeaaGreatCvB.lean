/- Texts of ours that stand together: ConvBk, ConvTr, ConvTr3 -/
import Derived.Test.YtpnjgmgmakmgeaaGreatTrM
import Derived.Test.YtpnjgmgmakmgeaaGreatHeldA
import Derived.Test.YtpnjgmgmakmgeaaGreatConv
import Derived.StillTailTactics
import Derived.Deep.Cut
import Derived.Test.YtpnjgmgmakmgeaaGreatConvAX
import Derived.Lib.AppendZeros
/- The contracts of the laws' own helpers over blocks: szBlock,toBlock,eqBlock,markBlock,heldBlock. -/
namespace Go.Proofs.YtpnjgmgmakmgeaaGreat
open Go.RowKit
set_option linter.unusedVariables false
theorem szBlock_any (p q r t u:Int) (a:Option Addr) (n c:Nat) (left:Int) (w:World) (h0:0≤left) (h1:left≤1048576) (hn:n≤maxLen) :
  Calls Tryz.prog 35 #[.agg #[.int .i64 p,.int .i64 q,.int .i64 r,.slice a n c,.int .i64 t,.int .i64 u],.int .i64 left] w fun e w'=>e = .returned (.int .i64 (if (n:Int)≤left then left - n else -1))∧Below w.heap.size w w':=by
 have hb0:=(Below.refl w.heap.size w).alloc (Nat.le_refl _) (.cells #[.int .i64 p,.int .i64 q,.int .i64 r,.slice a n c,.int .i64 t,.int .i64 u] 59)
 have HB:=Lib.hid hb0
 clear hb0
 go_enter Tryz.func35,Tryz.ntmps35
 go_wp2_with fail
 refine (szActionS_any a n c left _ h0 h1 hn).mono ?_;rintro e w' ⟨rfl,rfl⟩
 by_cases h:(n:Int)≤left
 · rw [if_pos h]
   have hlt:decide (left - (n:Int) < 0)=false:=by simp;omega
   go_wp2
   go_ret
   exact ⟨rfl,HB.out⟩
 · rw [if_neg h]
   go_wp2
   go_ret
   exact ⟨rfl,HB.out⟩
theorem eqBlock_same (p q r t u:Int) (a:Option Addr) (n c:Nat) (a':Option Addr) (c':Nat) (L:List Acn) (w:World) (h:RowA w a n L) (h':RowA w a' n L) :
  Calls Tryz.prog 39 #[.agg #[.int .i64 p,.int .i64 q,.int .i64 r,.slice a n c,.int .i64 t,.int .i64 u],.agg #[.int .i64 p,.int .i64 q,.int .i64 r,.slice a' n c',.int .i64 t,.int .i64 u]] w fun e w'=>e = .returned (.bool true)∧Below w.heap.size w w':=by
 have hb0:=((Below.refl w.heap.size w).alloc (Nat.le_refl _) (.cells #[.int .i64 p,.int .i64 q,.int .i64 r,.slice a n c,.int .i64 t,.int .i64 u] 37)).alloc (by simp) (.cells #[.int .i64 p,.int .i64 q,.int .i64 r,.slice a' n c',.int .i64 t,.int .i64 u] 37)
 have hA:=(bkAt_new w 37 (.int .i64 p) (.int .i64 q) (.int .i64 r) (.slice a n c) (.int .i64 t) (.int .i64 u)).below ((Below.refl _ _).alloc (Nat.le_refl _) (.cells #[.int .i64 p,.int .i64 q,.int .i64 r,.slice a' n c',.int .i64 t,.int .i64 u] 37))
 have hA':=bkAt_new (w.alloc (.cells #[.int .i64 p,.int .i64 q,.int .i64 r,.slice a n c,.int .i64 t,.int .i64 u] 37)) 37 (.int .i64 p) (.int .i64 q) (.int .i64 r) (.slice a' n c') (.int .i64 t) (.int .i64 u)
 rw [World.size_alloc] at hA'
 have H:=Lib.hid (h.below hb0)
 have H':=Lib.hid (h'.below hb0)
 have HB:=Lib.hid hb0
 have HA:=Lib.hid hA
 have HA':=Lib.hid hA'
 clear h h' hb0 hA hA'
 go_enter Tryz.func39,Tryz.ntmps39
 go_wp2_with fail
 refine (eqActionS_same a a' n c c' L _ H.out H'.out).mono ?_;rintro e w1 ⟨rfl,hb1⟩
 obtain ⟨-,-,-,-,c4,c5,-⟩:=HA.out.below hb1
 obtain ⟨-,-,-,-,d4,d5,-⟩:=HA'.out.below hb1
 have HB1:=Lib.hid (HB.out.trans (hb1.mono HB.out.size))
 clear hb1
 go_wp2
 go_ret
 exact ⟨rfl,HB1.out⟩
set_option maxHeartbeats 1000000 in
theorem toBlock_any (p q r t u:Int) (a:Option Addr) (n c:Nat) (L:List Acn) (w:World) (h:RowA w a n L) (hn:n≤1048576) (hw:WfB ⟨p,q,r,L,t,u⟩) :
  Calls Tryz.prog 37 #[.agg #[.int .i64 p,.int .i64 q,.int .i64 r,.slice a n c,.int .i64 t,.int .i64 u]] w (NewBk w 113 ⟨p,q,r,L,t,u⟩):=by
 have hb0:=(((Below.refl w.heap.size w).alloc (Nat.le_refl _) (.cells #[.int .i64 p,.int .i64 q,.int .i64 r,.slice a n c,.int .i64 t,.int .i64 u] 59)).alloc (by simp) (.cells #[.int .i64 0,.int .i64 0,.int .i64 0,.slice none 0 0,.int .i64 0,.int .i64 0] 37)).alloc (by simp;omega) (.cells #[.int .i64 p,.int .i64 q,.int .i64 r,.slice none 0 0,.int .i64 0,.int .i64 0] 37)
 have hA:=((bkAt_new w 59 (.int .i64 p) (.int .i64 q) (.int .i64 r) (.slice a n c) (.int .i64 t) (.int .i64 u)).below ((Below.refl _ _).alloc (Nat.le_refl _) (.cells #[.int .i64 0,.int .i64 0,.int .i64 0,.slice none 0 0,.int .i64 0,.int .i64 0] 37))).below ((Below.refl _ _).alloc (Nat.le_refl _) (.cells #[.int .i64 p,.int .i64 q,.int .i64 r,.slice none 0 0,.int .i64 0,.int .i64 0] 37))
 have hZ:=(bkAt_new (w.alloc (.cells #[.int .i64 p,.int .i64 q,.int .i64 r,.slice a n c,.int .i64 t,.int .i64 u] 59)) 37 (.int .i64 0) (.int .i64 0) (.int .i64 0) (.slice none 0 0) (.int .i64 0) (.int .i64 0)).below ((Below.refl _ _).alloc (Nat.le_refl _) (.cells #[.int .i64 p,.int .i64 q,.int .i64 r,.slice none 0 0,.int .i64 0,.int .i64 0] 37))
 have hE:=bkAt_new ((w.alloc (.cells #[.int .i64 p,.int .i64 q,.int .i64 r,.slice a n c,.int .i64 t,.int .i64 u] 59)).alloc (.cells #[.int .i64 0,.int .i64 0,.int .i64 0,.slice none 0 0,.int .i64 0,.int .i64 0] 37)) 37 (.int .i64 p) (.int .i64 q) (.int .i64 r) (.slice none 0 0) (.int .i64 0) (.int .i64 0)
 rw [World.size_alloc] at hZ
 rw [World.size_alloc,World.size_alloc] at hE
 obtain ⟨W1,hW1⟩:∃ W1,W1=((w.alloc (.cells #[.int .i64 p,.int .i64 q,.int .i64 r,.slice a n c,.int .i64 t,.int .i64 u] 59)).alloc (.cells #[.int .i64 0,.int .i64 0,.int .i64 0,.slice none 0 0,.int .i64 0,.int .i64 0] 37)).alloc (.cells #[.int .i64 p,.int .i64 q,.int .i64 r,.slice none 0 0,.int .i64 0,.int .i64 0] 37):=⟨_,rfl⟩
 have HW1:=Lib.hid hW1
 rw [← hW1] at hb0 hA hZ hE
 clear hW1
 have HA:=Lib.hid (fun (W:World) (hb:Below W1.heap.size W1 W)=>(⟨hA.below hb,hZ.below hb,hE.below hb,hb0.trans (hb.mono hb0.size)⟩:BkAt W w.heap.size (.int .i64 p) (.int .i64 q) (.int .i64 r) (.slice a n c) (.int .i64 t) (.int .i64 u)∧BkAt W (w.heap.size+1) (.int .i64 0) (.int .i64 0) (.int .i64 0) (.slice none 0 0) (.int .i64 0) (.int .i64 0)∧BkAt W (w.heap.size+1+1) (.int .i64 p) (.int .i64 q) (.int .i64 r) (.slice none 0 0) (.int .i64 0) (.int .i64 0)∧Below w.heap.size w W))
 have HR:=Lib.hid (h.below hb0)
 have HN:Hid (w.heap.size+1+1 < W1.heap.size):=Lib.hid hE.lt
 have HWB:=Lib.hid hw
 clear h hb0 hA hZ hE hw
 go_enter Tryz.func37,Tryz.ntmps37
 go_wp2_with fail
 rw [← HW1.out]
 clear HW1
 refine (toActionS_any a n c L _ HR.out hn).mono ?_;rintro e w2 ⟨v2,rfl,ho,hwf,hb2⟩
 have HWF:=Lib.hid hwf
 obtain ⟨hA2,hZ2,hE2,hB2⟩:=HA.out w2 hb2
 obtain ⟨g,k,rfl,hg,-⟩:=ho.slice
 have hgn:=HN.out
 have n1:Value.ownBlock (.slice (some ⟨g,0,none⟩) L.length k)≠some (w.heap.size+1+1):=by simp [Value.ownBlock];omega
 have n2:Value.ownBlock (.slice (some ⟨g,0,none⟩) L.length k)≠some (w.heap.size+1):=by simp [Value.ownBlock];omega
 have hE3:=hE2.set345 (.slice (some ⟨g,0,none⟩) L.length k) (.int .i64 t) (.int .i64 u)
 have hZ3:=((hZ2.grown (set_grown w2 (w.heap.size+1+1) 3 (.slice (some ⟨g,0,none⟩) L.length k)) (by simp)).grown (set_grown _ (w.heap.size+1+1) 4 (.int .i64 t)) (by simp)).grown (set_grown _ (w.heap.size+1+1) 5 (.int .i64 u)) (by simp)
 have hb3:=below_set3 hB2 (Z:=w.heap.size+1+1) (by omega) 3 4 5 (.slice (some ⟨g,0,none⟩) L.length k) (.int .i64 t) (.int .i64 u)
 have ho3:=owns_set (owns_set (owns_set ho.1 n1 3 (.slice (some ⟨g,0,none⟩) L.length k)) n1 4 (.int .i64 t)) n1 5 (.int .i64 u)
 have HF:=Lib.hid (hZ3.set6 (.int .i64 p) (.int .i64 q) (.int .i64 r) (.slice (some ⟨g,0,none⟩) L.length k) (.int .i64 t) (.int .i64 u))
 have HBF:=Lib.hid (below_set6 hb3 (Z:=w.heap.size+1) (by omega) (.int .i64 p) (.int .i64 q) (.int .i64 r) (.slice (some ⟨g,0,none⟩) L.length k) (.int .i64 t) (.int .i64 u))
 have HO:=Lib.hid (owns_mono (owns_set6 ho3 n2 (.int .i64 p) (.int .i64 q) (.int .i64 r) (.slice (some ⟨g,0,none⟩) L.length k) (.int .i64 t) (.int .i64 u)) (show w.heap.size≤W1.heap.size by omega))
 obtain ⟨a0,a1,a2,a3,a4,a5,-⟩:=hA2
 obtain ⟨zc0,zc1,zc2,zc3,zc4,zc5,z0,z1,z2,z3,z4,z5⟩:=hZ2
 obtain ⟨e0,e1,e2,e3,e4,e5,ef0,ef1,ef2,ef3,ef4,ef5⟩:=hE2
 clear hE3 hZ3 hb3 ho3 ho hB2 hb2 hwf
 go_wp2_with fail
 refine bodyPost_ret (results_blk Tryz.results37 _ (by rfl) HF.out) rfl ?_
 exact ⟨_,rfl,HO.out,HWF.out,HWB.out,HBF.out⟩
def MarkedAz (w:World) (e0:TypeId) (B:Nat) (v:Value) (n:Nat) (k:Int) (e:Ending) (w':World):Prop :=
 e = .returned (.int .i64 (k+4*n))∧w'.ownsRow B e0 4 v n (flatA (marksA k n))∧w.grownBy w' v.ownBlock
theorem markActionS_own (B:Nat) (v:Value) (n:Nat) (l:List Acn) (k:Int) (w:World) (h:w.ownsRow B 113 4 v n (flatA l)) (hl:l.length=n) (hn:n≤4000000) (hk0:0≤k) (hk1:k≤100000000) :
  Calls Tryz.prog 110 #[v,.int .i64 k] w (MarkedAz w 113 B v n k):=by
 by_cases hv:v = .slice none 0 0
 · subst hv
   have h0:n=0:=by
    rcases h.2 with ⟨_,h1⟩ | ⟨g,cap,cur,h1,_⟩
    · exact h1
    · simp at h1
   subst h0
   have hN:w.ownsRow B 113 4 (.slice none 0 0) 0 (flatA (marksA k 0)):=World.ownsRow_nil _ _ _ _
   clear h
   go_enter Tryz.func110,Tryz.ntmps110
   go_wp2
   go_loopw [1,5] (fun q i wr=>q = .int .i64 k∧i = .int .i64 0∧wr=w) (fun _ _ _=>0)
   case atStart=>exact ⟨rfl,rfl,rfl⟩
   case round =>
    obtain ⟨rfl,rfl,rfl⟩:=hrel
    go_wp2
    go_ret
    exact ⟨ret_int (by simp),hN,World.grownBy.refl _ _⟩
 · obtain ⟨g,cap,rfl,-,-⟩:=(show Own w B 113 4 v n (flatA l) from ⟨h,hv⟩).slice
   refine (markActionS_any B g n cap l k w ⟨h,hv⟩ hl hn hk0 hk1).mono ?_
   rintro e w' ⟨rfl,ho,hg⟩
   exact ⟨rfl,ho.1,hg⟩
def sumBk:List Blk→Nat
 | []=>0
 | s :: r=>s.acts.length+sumBk r
theorem sumBk_append (l m:List Blk):sumBk (l++m)=sumBk l+sumBk m:=by
 induction l with
 | nil=>simp [sumBk]
 | cons a r ih=>simp only [List.cons_append,sumBk,ih];omega
theorem sumBk_next (L:List Blk) (k:Nat) (h:k < L.length):sumBk (L.take (k+1))=sumBk (L.take k)+(L.getD k noBlk).acts.length:=by
 rw [List.take_succ_eq_append_getElem h,sumBk_append,List.getD_eq_getElem?_getD,List.getElem?_eq_getElem h];simp [sumBk]
theorem sumBk_take (L:List Blk) (k:Nat):sumBk (L.take k)≤sumBk L:=by
 have h:=sumBk_append (L.take k) (L.drop k)
 rw [List.take_append_drop] at h;omega
theorem sumBk_len (L:List Blk) (k:Nat) (h:k < L.length):(L.getD k noBlk).acts.length≤sumBk L:=by
 have:=sumBk_next L k h;have:=sumBk_take L (k+1);omega
def wtBks (L:List Blk):Nat:=L.length+sumBk L
theorem szBlock_v (x:Blk) (a:Option Addr) (n c:Nat) (left:Int) (w:World) (h0:0≤left) (h1:left≤1048576) (hn:n≤maxLen) :
  Calls Tryz.prog 35 #[.agg #[.int .i64 x.bef,.int .i64 x.hgt,.int .i64 x.view,.slice a n c,.int .i64 x.root,.int .i64 x.effs],.int .i64 left] w fun e w'=>e = .returned (.int .i64 (szNt n left))∧Below w.heap.size w w':=szBlock_any x.bef x.hgt x.view x.root x.effs a n c left w h0 h1 hn
set_option maxHeartbeats 2000000 in
theorem szBlockS_any (a:Option Addr) (n cap:Nat) (L:List Blk) (left:Int) (w:World) (h:RowBs w a n L) (h0:0≤left) (h1:left≤1048576) :
  Calls Tryz.prog 98 #[.slice a n cap,.int .i64 left] w fun e w'=>e = .returned (.int .i64 (szNt (wtBks L) left))∧Below w.heap.size w w':=by
 obtain ⟨hl,hm,hc,-⟩:=h
 unfold maxLen at hm
 have HL:=Lib.hid hl;clear hl
 have HW:Hid (wtBks L=n+sumBk L):=Lib.hid (by rw [wtBks,HL.out])
 have HS:Hid (∀ k,sumBk (L.take k)≤sumBk L):=Lib.hid (sumBk_take L)
 have HNX:Hid (∀ k,k < n→sumBk (L.take (k+1))=sumBk (L.take k)+(L.getD k noBlk).acts.length):=Lib.hid (fun k hk=>sumBk_next L k (by rw [HL.out];exact hk))
 have HALL:Hid (sumBk (L.take n)=sumBk L):=Lib.hid (by rw [List.take_of_length_le (by rw [HL.out];exact Nat.le_refl _)])
 by_cases hn:(n:Int)≤left
 · have hnl:¬ (left - (n:Int) < 0):=by omega
   go_enter Tryz.func98,Tryz.ntmps98
   go_wp2
   go_loopw [1,5] (fun q i wr=>∃ k:Nat,k≤n∧i = .int .i64 k∧q = .int .i64 (left - n - (sumBk (L.take k):Nat))∧(n:Int)+(sumBk (L.take k):Nat)≤left∧Below w.heap.size w wr) (fun _ i _=>n - (intOf i).toNat)
   case atStart=>exact ⟨0,Nat.zero_le _,rfl,by simp [sumBk],by simp [sumBk];omega,Below.refl _ _⟩
   case round =>
    obtain ⟨k,hk,rfl,rfl,hle,hb⟩:=hrel
    by_cases hlt:k < n
    · obtain ⟨b,off,rfl,hcc⟩:=hc (by omega)
      obtain ⟨g0,g1,g2,⟨x,g3,hx⟩,g4,g5⟩:=(hcc k hlt).below hb
      obtain ⟨a',n',cap',rfl,hr',-,-⟩:=hx
      have hln:=HNX.out k hlt
      have hst:=HS.out (k+1)
      rw [hr'.1] at hln
      have HM1:=Lib.hid hr'.2.1
      clear hc hcc hr'
      obtain ⟨X,hX⟩:∃ X,X=L.getD k noBlk:=⟨_,rfl⟩
      obtain ⟨s,hs⟩:∃ s,s=sumBk (L.take k):=⟨_,rfl⟩
      obtain ⟨s',hs'⟩:∃ s',s'=sumBk (L.take (k+1)):=⟨_,rfl⟩
      rw [← hs,← hs'] at hln
      rw [← hX] at g0 g1 g2 g4 g5
      rw [← hs] at hle ⊢
      rw [← hs'] at hst
      have HS1:=Lib.hid hs'
      have HLN:=Lib.hid hln
      clear hs hs' hX hln
      go_wp2_with fail
      refine (szBlock_v X a' n' cap' _ _ (by omega) (by omega) HM1.out).mono ?_;rintro e w2 ⟨rfl,hb2⟩
      have hb3:=hb.trans (hb2.mono hb.size)
      have hln:=HLN.out
      by_cases hq:(n':Int)≤left - n - s
      · have HZ:Hid (szNt n' (left - n - s)=left - n - s'):=Lib.hid (by rw [szNt_yes hq];omega)
        rw [HZ.out]
        have hbq:¬ (left - (n:Int) - (s':Int) < 0):=by omega
        go_wp2
        go_roundw
        case rel=>exact ⟨k+1,by omega,by go_num,by rw [← HS1.out];first | rfl | (congr 1;omega),by rw [← HS1.out];omega,hb3⟩
        case measure=>simp [intOf];omega
      · have HZ:Hid (szNt n' (left - n - s) = -1):=Lib.hid (szNt_no (by omega))
        rw [HZ.out]
        have HR:Hid (szNt (wtBks L) left = -1):=Lib.hid (szNt_no (by rw [HW.out];omega))
        clear hq
        go_wp2
        go_ret
        exact ⟨by rw [HR.out];rfl,hb3⟩
    · obtain rfl:k=n:=by omega
      have HR:Hid (szNt (wtBks L) left=left - k - (sumBk (L.take k):Nat)):=Lib.hid (by rw [szNt_yes (by rw [HW.out,← HALL.out];omega),HW.out,← HALL.out];omega)
      clear hc
      go_wp2
      go_ret
      exact ⟨by rw [HR.out];rfl,hb⟩
 · have HR:Hid (szNt (wtBks L) left = -1):=Lib.hid (szNt_no (by rw [HW.out];omega))
   have hnl:left - (n:Int) < 0:=by omega
   clear hc
   go_enter Tryz.func98,Tryz.ntmps98
   go_wp2
   go_ret
   exact ⟨by rw [HR.out];rfl,Below.refl _ _⟩
def wtTre (t:Tre):Nat:=t.base.length+wtBks t.blocks+t.bef.length
set_option maxHeartbeats 1000000 in
theorem szBlockTree_any (v1 v2 v3:Value) (t:Tre) (left:Int) (w:World) (h:TreRd w v1 v2 v3 t) (h0:0≤left) (h1:left≤1048576) :
  Calls Tryz.prog 34 #[.agg #[v1,v2,v3],.int .i64 left] w fun en w'=>en = .returned (.int .i64 (szNt (wtTre t) left))∧Below w.heap.size w w':=by
 obtain ⟨⟨a1,n1,c1,rfl,hr1,-,-⟩,⟨a2,n2,c2,rfl,hr2,-,-⟩,a3,n3,c3,rfl,hr3,-,-⟩:=h
 have hb0:=(Below.refl w.heap.size w).alloc (Nat.le_refl _) (.cells #[.slice a1 n1 c1,.slice a2 n2 c2,.slice a3 n3 c3] 56)
 have hg0:=trAt_new w 56 (.slice a1 n1 c1) (.slice a2 n2 c2) (.slice a3 n3 c3)
 have HR2:=Lib.hid (hr2.below hb0)
 have HB:=Lib.hid hb0
 have HG:=Lib.hid hg0
 have HW:Hid (wtTre t=n1+wtBks t.blocks+n3):=Lib.hid (by rw [wtTre,hr1.1,hr3.1])
 have HM1:=Lib.hid hr1.2.1;have HM3:=Lib.hid hr3.2.1
 clear hr1 hr2 hr3 hb0 hg0
 obtain ⟨W4,hW4⟩:∃ W4,W4=wtBks t.blocks:=⟨_,rfl⟩
 have HW4:=Lib.hid hW4
 rw [← hW4] at HW
 clear hW4
 go_enter Tryz.func34,Tryz.ntmps34
 go_wp2_with fail
 refine (szEntryS_any a1 n1 c1 left _ h0 h1 HM1.out).mono ?_;rintro en w' ⟨rfl,rfl⟩
 by_cases g1:(n1:Int)≤left
 · rw [if_pos g1]
   have k1:¬ (left - (n1:Int) < 0):=by omega
   go_wp2_with fail
   refine (szBlockS_any a2 n2 c2 t.blocks (left - n1) _ HR2.out (by omega) (by omega)).mono ?_;rintro en w5 ⟨rfl,hb5⟩
   have HB5:=Lib.hid (HB.out.trans (hb5.mono HB.out.size))
   obtain ⟨-,-,y2,-⟩:=HG.out.below hb5
   clear hb5
   rw [← HW4.out]
   by_cases g2:(W4:Int)≤left - n1
   · have HZ:Hid (szNt W4 (left - n1)=left - n1 - W4):=Lib.hid (szNt_yes g2)
     rw [HZ.out]
     have k2:¬ (left - (n1:Int) - (W4:Int) < 0):=by omega
     go_wp2_with fail
     refine (szIntS_anyT a3 n3 c3 (left - n1 - W4) _ (by omega) (by omega) HM3.out).mono ?_;rintro en w' ⟨rfl,rfl⟩
     by_cases g3:(n3:Int)≤left - n1 - W4
     · rw [if_pos g3]
       have HR:Hid (szNt (wtTre t) left=left - n1 - W4 - n3):=Lib.hid (by rw [HW.out,szNt_yes (by omega)];omega)
       have k3:¬ (left - (n1:Int) - (W4:Int) - (n3:Int) < 0):=by omega
       go_wp2
       go_ret
       exact ⟨by rw [HR.out];rfl,HB5.out⟩
     · rw [if_neg g3]
       have HR:Hid (szNt (wtTre t) left = -1):=Lib.hid (by rw [HW.out];exact szNt_no (by omega))
       go_wp2
       go_ret
       exact ⟨by rw [HR.out];rfl,HB5.out⟩
   · have HZ:Hid (szNt W4 (left - n1) = -1):=Lib.hid (szNt_no (by omega))
     have HR:Hid (szNt (wtTre t) left = -1):=Lib.hid (by rw [HW.out];exact szNt_no (by omega))
     rw [HZ.out]
     go_wp2
     go_ret
     exact ⟨by rw [HR.out];rfl,HB5.out⟩
 · rw [if_neg g1]
   have HR:Hid (szNt (wtTre t) left = -1):=Lib.hid (by rw [HW.out];exact szNt_no (by omega))
   go_wp2
   go_ret
   exact ⟨by rw [HR.out];rfl,HB.out⟩
theorem eqBlock_v (x:Blk) (a:Option Addr) (n c:Nat) (a':Option Addr) (c':Nat) (w:World) (h:RowA w a n x.acts) (h':RowA w a' n x.acts) :
  Calls Tryz.prog 39 #[.agg #[.int .i64 x.bef,.int .i64 x.hgt,.int .i64 x.view,.slice a n c,.int .i64 x.root,.int .i64 x.effs],.agg #[.int .i64 x.bef,.int .i64 x.hgt,.int .i64 x.view,.slice a' n c',.int .i64 x.root,.int .i64 x.effs]] w fun e w'=>e = .returned (.bool true)∧Below w.heap.size w w':=eqBlock_same x.bef x.hgt x.view x.root x.effs a n c a' c' x.acts w h h'
set_option maxRecDepth 100000 in
set_option maxHeartbeats 2000000 in
theorem eqBlockS_same (a a':Option Addr) (n cap cap':Nat) (L:List Blk) (w:World) (h:RowBs w a n L) (h':RowBs w a' n L) :
  Calls Tryz.prog 106 #[.slice a n cap,.slice a' n cap'] w fun e w'=>e = .returned (.bool true)∧Below w.heap.size w w':=by
 obtain ⟨hl,hm,hc,-⟩:=h
 obtain ⟨-,-,hc',-⟩:=h'
 unfold maxLen at hm
 have HN:=Lib.hid hl;clear hl
 by_cases h0:0 < n
 · obtain ⟨b,off,rfl,hcc⟩:=hc h0;clear hc
   obtain ⟨b',off',rfl,hcc'⟩:=hc' h0;clear hc'
   go_enter Tryz.func106,Tryz.ntmps106
   go_wp2
   go_loopw [5] (fun i wr=>∃ k:Nat,k≤n∧i = .int .i64 k∧Below w.heap.size w wr) (fun i _=>n - (intOf i).toNat)
   case atStart=>exact ⟨0,Nat.zero_le _,rfl,Below.refl _ _⟩
   case round =>
    obtain ⟨k,hk,rfl,hb⟩:=hrel
    by_cases hlt:k < n
    · obtain ⟨g0,g1,g2,⟨x,g3,hx⟩,g4,g5⟩:=(hcc k hlt).below hb
      obtain ⟨j0,j1,j2,⟨x',j3,hx'⟩,j4,j5⟩:=(hcc' k hlt).below hb
      obtain ⟨a1,n1,cap1,rfl,r1,-,-⟩:=hx
      obtain ⟨a4,n4,cap4,rfl,r4,-,-⟩:=hx'
      obtain rfl:n1=n4:=by rw [← r1.1,← r4.1]
      have HR1:=Lib.hid r1;have HR4:=Lib.hid r4
      clear hcc hcc' r1 r4
      obtain ⟨s,hs⟩:∃ s,s=L.getD k noBlk:=⟨_,rfl⟩
      rw [← hs] at g0 g1 g2 g4 g5 j0 j1 j2 j4 j5 HR1 HR4
      clear hs
      go_wp2
      go_still_tail 8,(by kernel_rfl)
      go_wp2_with fail
      refine (eqBlock_v s a1 n1 cap1 a4 cap4 _ (show RowA wr.drew _ _ s.acts from HR1.out) (show RowA wr.drew _ _ s.acts from HR4.out)).mono ?_;rintro e w1 ⟨rfl,hb1⟩
      go_wp2
      go_roundw
      case rel=>exact ⟨k+1,by omega,by go_num,by first | exact hb.trans (hb1.mono hb.size) | exact hb.drew.trans (hb1.mono hb.size) | exact (below_drewN' hb _).trans (hb1.mono hb.size)⟩
      case measure=>simp [intOf];omega
    · clear hcc hcc'
      go_wp2
      go_ret
      exact ⟨rfl,hb⟩
 · obtain rfl:n=0:=by omega
   clear hc hc'
   go_enter Tryz.func106,Tryz.ntmps106
   go_wp2
   go_loop [5] (fun i=>i = .int .i64 0) (fun _=>0)
   case atStart=>rfl
   case round =>
    subst hrel
    go_wp2
    go_ret
    exact ⟨rfl,Below.refl _ _⟩
set_option maxRecDepth 100000 in
set_option maxHeartbeats 2000000 in
theorem eqBlockTree_same (v1 v2 v3 u1 u2 u3:Value) (t:Tre) (w:World) (h:TreRd w v1 v2 v3 t) (h':TreRd w u1 u2 u3 t) :
  Calls Tryz.prog 38 #[.agg #[v1,v2,v3],.agg #[u1,u2,u3]] w fun en w'=>en = .returned (.bool true)∧Below w.heap.size w w':=by
 have HD:=Lib.hid h;have HD':=Lib.hid h'
 obtain ⟨⟨a1,n1,c1,rfl,r1,-,-⟩,⟨a2,n2,c2,rfl,r2,-,-⟩,a3,n3,c3,rfl,r3,-,-⟩:=h
 obtain ⟨⟨b1,m1,d1,rfl,s1,-,-⟩,⟨b2,m2,d2,rfl,s2,-,-⟩,b3,m3,d3,rfl,s3,-,-⟩:=h'
 obtain rfl:n1=m1:=by rw [← r1.1,← s1.1]
 obtain rfl:n2=m2:=by rw [← r2.1,← s2.1]
 obtain rfl:n3=m3:=by rw [← r3.1,← s3.1]
 have hb0:=((Below.refl w.heap.size w).alloc (Nat.le_refl _) (.cells #[.slice a1 n1 c1,.slice a2 n2 c2,.slice a3 n3 c3] 27)).alloc (by simp) (.cells #[.slice b1 n1 d1,.slice b2 n2 d2,.slice b3 n3 d3] 27)
 have hg1:=(trAt_new w 27 (.slice a1 n1 c1) (.slice a2 n2 c2) (.slice a3 n3 c3)).below ((Below.refl _ _).alloc (Nat.le_refl _) (.cells #[.slice b1 n1 d1,.slice b2 n2 d2,.slice b3 n3 d3] 27))
 have hg2:=trAt_new (w.alloc (.cells #[.slice a1 n1 c1,.slice a2 n2 c2,.slice a3 n3 c3] 27)) 27 (.slice b1 n1 d1) (.slice b2 n2 d2) (.slice b3 n3 d3)
 rw [World.size_alloc] at hg2
 obtain ⟨W1,hW1⟩:∃ W1,W1=(w.alloc (.cells #[.slice a1 n1 c1,.slice a2 n2 c2,.slice a3 n3 c3] 27)).alloc (.cells #[.slice b1 n1 d1,.slice b2 n2 d2,.slice b3 n3 d3] 27):=⟨_,rfl⟩
 have HW1:=Lib.hid hW1
 rw [← hW1] at hb0 hg1 hg2
 clear hW1
 have HA:=Lib.hid (fun (W:World) (hb:Below W1.heap.size W1 W)=>(⟨hg1.below hb,hg2.below hb,(r1.below hb0).below hb,(s1.below hb0).below hb,(r2.below hb0).below hb,(s2.below hb0).below hb,(r3.below hb0).below hb,(s3.below hb0).below hb,hb0.trans (hb.mono hb0.size)⟩:TrAt W w.heap.size (.slice a1 n1 c1) (.slice a2 n2 c2) (.slice a3 n3 c3)∧TrAt W (w.heap.size+1) (.slice b1 n1 d1) (.slice b2 n2 d2) (.slice b3 n3 d3)∧RowE W a1 n1 t.base∧RowE W b1 n1 t.base∧RowBs W a2 n2 t.blocks∧RowBs W b2 n2 t.blocks∧RowI W a3 n3 t.bef∧RowI W b3 n3 t.bef∧Below w.heap.size w W))
 clear hb0 hg1 hg2 r1 r2 r3 s1 s2 s3
 go_enter Tryz.func38,Tryz.ntmps38
 go_wp2_with fail
 rw [← HW1.out]
 clear HW1
 obtain ⟨-,-,p1,p2,-,-,-,-,-⟩:=HA.out W1 (Below.refl _ _)
 refine (eqEntryS_same a1 b1 n1 c1 d1 t.base _ p1 p2).mono ?_;rintro en w2 ⟨rfl,hb2⟩
 have HB2:=Lib.hid hb2
 clear p1 p2 hb2
 obtain ⟨⟨-,x2,-⟩,⟨-,y2,-⟩,-,-,p1,p2,-,-,-⟩:=HA.out w2 HB2.out
 have P1:=Lib.hid p1;have P2:=Lib.hid p2
 clear p1 p2
 go_wp2_with fail
 refine (eqBlockS_same a2 b2 n2 c2 d2 t.blocks _ P1.out P2.out).mono ?_;rintro en w3 ⟨rfl,hb3⟩
 have HB3:=Lib.hid (HB2.out.trans (hb3.mono HB2.out.size))
 clear x2 y2 hb3 P1 P2
 obtain ⟨⟨-,-,x2,-⟩,⟨-,-,y2,-⟩,-,-,-,-,p1,p2,hbf⟩:=HA.out w3 HB3.out
 have P1:=Lib.hid p1;have P2:=Lib.hid p2;have HBF:=Lib.hid hbf
 clear p1 p2 hbf
 go_wp2_with fail
 refine (eqIntS_same a3 b3 n3 c3 d3 t.bef _ P1.out P2.out).mono ?_;rintro en w4 ⟨rfl,hb4⟩
 have HBF4:=Lib.hid (HBF.out.trans (hb4.mono HBF.out.size))
 clear hb4 x2 y2
 go_wp2
 go_ret
 exact ⟨rfl,HBF4.out⟩
theorem infoBlockC:(Tryz.prog.info? 37).map (fun i=>(i.zero,i.size,i.bytes))=some (some (.agg #[.int .i64 0,.int .i64 0,.int .i64 0,.slice none 0 0,.int .i64 0,.int .i64 0]),6,64):=by kernel_rfl
def fillBk (L:List Blk) (k n:Nat):List Blk:=L.take k++List.replicate (n - k) noBlk
def fillBV (tk:List Value) (k n:Nat):List Value:=tk++List.replicate (n - k) (.slice none 0 0)
theorem bksCs_append {L M:List Blk} {ts us:List Value} (h:L.length=ts.length):bksCs (L++M) (ts++us)=bksCs L ts++bksCs M us:=by
 unfold bksCs
 rw [List.zip_append h,List.flatMap_append]
theorem set_atB (A B:List Value) (m j:Nat) (x:Value) (h:A.length=m):(A++B).set (m+j) x=A++B.set j x:=by
 subst h
 rw [List.set_append_right _ _ (Nat.le_add_right _ _),Nat.add_sub_cancel_left]
theorem take_oneB (L:List Blk) (k:Nat) (h:k < L.length):L.take (k+1)=L.take k++[L.getD k noBlk]:=by
 rw [List.take_succ_eq_append_getElem h,List.getD_eq_getElem?_getD,List.getElem?_eq_getElem h];rfl
theorem fill_stepB {L:List Blk} {n k:Nat} {tk:List Value} (hL:L.length=n) (ht:tk.length=k) (hk:k < n) (s:Blk) (hs:s=L.getD k noBlk) (x:Value) :
  ((((((bksCs (fillBk L k n) (fillBV tk k n)).set (k*6) (.int .i64 s.bef)).set (k*6+1) (.int .i64 s.hgt)).set (k*6+2) (.int .i64 s.view)).set (k*6+3) x).set (k*6+4) (.int .i64 s.root)).set (k*6+5) (.int .i64 s.effs)=bksCs (fillBk L (k+1) n) (fillBV (tk++[x]) (k+1) n):=by
 have h1:(L.take k).length=tk.length:=by rw [List.length_take,ht];omega
 have hA:(bksCs (L.take k) tk).length=k*6:=by rw [bksCs_len h1.symm,List.length_take];congr 1;omega
 have e0:n - k=(n - (k+1))+1:=by omega
 unfold fillBk fillBV
 rw [bksCs_append h1,e0,List.replicate_succ,List.replicate_succ,take_oneB L k (by omega),List.append_assoc,List.append_assoc,bksCs_append h1,← hs]
 have e1:bksCs (noBlk :: List.replicate (n - (k+1)) noBlk) (.slice none 0 0 :: List.replicate (n - (k+1)) (.slice none 0 0))=bkCs noBlk (.slice none 0 0)++bksCs (List.replicate (n - (k+1)) noBlk) (List.replicate (n - (k+1)) (.slice none 0 0)):=by simp [bksCs]
 have e2:bksCs ([s]++List.replicate (n - (k+1)) noBlk) ([x]++List.replicate (n - (k+1)) (.slice none 0 0))=bkCs s x++bksCs (List.replicate (n - (k+1)) noBlk) (List.replicate (n - (k+1)) (.slice none 0 0)):=by simp [bksCs]
 rw [e1,e2]
 have z0:=fun B x=>set_atB (bksCs (L.take k) tk) B (k*6) 0 x hA
 simp only [Nat.add_zero] at z0
 rw [z0,set_atB _ _ _ _ _ hA,set_atB _ _ _ _ _ hA,set_atB _ _ _ _ _ hA,set_atB _ _ _ _ _ hA,set_atB _ _ _ _ _ hA]
 simp [bkCs]
theorem owns_curB {w:World} {B:Nat} {e:TypeId} {size g cap n:Nat} {xs:List Value} (h:w.ownsRow B e size (.slice (some ⟨g,0,none⟩) n cap) n xs) :
  ∃ cur,w.heap[g]? = some (.cells cur e (0,0)):=by
 rcases h.2 with ⟨h',_⟩ | ⟨g',cap',cur,h',hb,hg,_⟩
 · simp at h'
 · simp only [Value.slice.injEq,Option.some.injEq,Addr.mk.injEq,and_true,true_and] at h'
   obtain ⟨rfl,rfl⟩:=h'
   exact ⟨cur,hg⟩
theorem some_atB {xs:List Value} {i:Nat} (h:i < xs.length):∃ v,xs[i]? = some v:=⟨xs[i],List.getElem?_eq_getElem h⟩
theorem toBlock_v (x:Blk) (a:Option Addr) (n c:Nat) (w:World) (h:RowA w a n x.acts) (hn:n≤1048576) (hw:WfB x) :
  Calls Tryz.prog 37 #[.agg #[.int .i64 x.bef,.int .i64 x.hgt,.int .i64 x.view,.slice a n c,.int .i64 x.root,.int .i64 x.effs]] w (NewBk w 113 x):=toBlock_any x.bef x.hgt x.view x.root x.effs a n c x.acts w h hn hw
theorem ownR_single {w:World} {B:Nat} {r:Rw} (h:w.ownsRow B r.e r.size r.v r.n r.cs):OwnR w B w.heap.size [r] :=
 (OwnR.nil w B w.heap.size).cons r h (fun b hb=>by rw [owns_blk h] at hb;exact (h.lt b hb).2) (fun x hx=>by cases hx)
theorem bksWf_rd {w:World} {a:Option Addr} {n:Nat} {L:List Blk} (h:RowBs w a n L) (hn:wtBks L≤1048576):BksWf L:=by
 unfold wtBks at hn
 refine ⟨fun s hs=>?_,by omega⟩
 obtain ⟨i,hi,rfl⟩:=List.getElem_of_mem hs
 have hg:L.getD i noBlk=L[i]:=by rw [List.getD_eq_getElem?_getD,List.getElem?_eq_getElem hi];rfl
 have hi4:i < n:=by rw [← h.1];exact hi
 obtain ⟨b,off,-,hc⟩:=h.at i hi4
 obtain ⟨-,-,-,⟨x,-,hx⟩,-,-⟩:=hc
 have hw:=sumBk_len L i hi
 rw [hg] at hx hw
 obtain ⟨_,_,_,-,rx,-,-⟩:=hx
 exact ⟨h.2.2.2 _ hs,rx.2.2.2,by omega⟩
set_option maxRecDepth 100000 in
set_option maxHeartbeats 4000000 in
theorem toBlockS_any (a:Option Addr) (n cap:Nat) (L:List Blk) (w:World) (h:RowBs w a n L) (hn:wtBks L≤1048576) :
  Calls Tryz.prog 102 #[.slice a n cap] w (NewBs w 37 113 L):=by
 have HWF:=Lib.hid (bksWf_rd h hn)
 obtain ⟨hl,-,hc,hwf⟩:=h
 have HN:=Lib.hid hl;clear hl
 have HWB:Hid (∀ k,k < n→WfB (L.getD k noBlk)):=Lib.hid (fun k hk=>hwf _ (getD_memBk L k (by rw [HN.out];exact hk)))
 have HSW:Hid (∀ k,k < n→(L.getD k noBlk).acts.length≤1048576):=Lib.hid (fun k hk=>by have:=sumBk_len L k (by rw [HN.out];exact hk);unfold wtBks at hn;omega)
 have hn1:n≤1048576:=by unfold wtBks at hn;rw [HN.out] at hn;omega
 clear hn hwf
 obtain ⟨i0,hi,hz0,hz1,hz2⟩:=info_parts infoBlockC
 go_enter Tryz.func102,Tryz.ntmps102
 go_wp2_with (first | (at_make;refine wpList_make_full _ rfl (.tmp 6) (.tmp 6) 24 rfl w.heap.size 37 i0 (.agg #[.int .i64 0,.int .i64 0,.int .i64 0,.slice none 0 0,.int .i64 0,.int .i64 0]) 6 Tryz.underlying24 hi hz0 hz1 .i64 .i64 n n n rfl rfl rfl rfl (by rw [hz2];omega) (by unfold maxLen;omega) (Nat.le_refl _) ?_;intro w1 hown hgrow;clear hi hz0 hz1 hz2))
 rw [← bksCs_zero] at hown
 have hb1:Below w.heap.size w w1:=(Below.refl _ _).grown hgrow (Nat.le_refl _) (fun k hk=>by simp at hk)
 have hR1:OwnR w1 w.heap.size w1.heap.size (⟨.slice (some ⟨w.heap.size,0,none⟩) n n,37,6,n,bksCs (fillBk L 0 n) (fillBV [] 0 n)⟩ :: bksRs 113 (L.take 0) []):=by
  refine (OwnR.nil w1 w.heap.size w1.heap.size).cons _ (by simpa [fillBk,fillBV] using hown) (fun b hb=>?_) (fun x hx=>by cases hx)
  have hb':=hb
  rw [owns_blk hown] at hb'
  exact (hown.lt b hb').2
 clear hgrow hown
 go_loopw [4] (fun i wr=>∃ (k:Nat) (tk:List Value),k≤n∧i = .int .i64 k∧tk.length=k∧OwnR wr w.heap.size wr.heap.size (⟨.slice (some ⟨w.heap.size,0,none⟩) n n,37,6,n,bksCs (fillBk L k n) (fillBV tk k n)⟩ :: bksRs 113 (L.take k) tk)∧Below w.heap.size w wr) (fun i _=>n - (intOf i).toNat)
 case atStart=>exact ⟨0,[],Nat.zero_le _,rfl,rfl,hR1,hb1⟩
 case round =>
  clear hR1 hb1
  obtain ⟨k,tk,hk,rfl,htk,hR,hb⟩:=hrel
  by_cases hlt:k < n
  · obtain ⟨b,off,rfl,hcc⟩:=hc (by omega)
    obtain ⟨g0,g1,g2,⟨x,g3,hx⟩,g4,g5⟩:=(hcc k hlt).below hb
    obtain ⟨a1,n1,cap1,rfl,r1,-,-⟩:=hx
    have hsw:=HSW.out k hlt
    rw [r1.1] at hsw
    have hwb:=HWB.out k hlt
    have hstep:=fun x=>fill_stepB (tk:=tk) HN.out htk hlt (L.getD k noBlk) rfl x
    have htake:=take_oneB L k (by rw [HN.out];exact hlt)
    have HLT:Hid (tk.length=(L.take k).length):=Lib.hid (by rw [List.length_take,htk,HN.out];omega)
    obtain ⟨s,hs⟩:∃ s,s=L.getD k noBlk:=⟨_,rfl⟩
    rw [← hs] at g0 g1 g2 g4 g5 hstep htake hwb
    have HR1:=Lib.hid (show RowA wr a1 n1 s.acts by rw [hs];exact r1)
    have HST:=Lib.hid hstep;have HTK:=Lib.hid htake;have HRR:=Lib.hid hR;have HTL:=Lib.hid htk;have HWB1:=Lib.hid hwb
    clear hc hcc r1 hs hstep htake hR htk hwb
    go_wp2_with fail
    refine (toBlock_v s a1 n1 cap1 _ HR1.out (by omega) HWB1.out).mono ?_;rintro e w2 ⟨x,rfl,hox,-,-,hb2⟩
    obtain ⟨xa,xn,xc,rfl⟩:=slice_form hox
    have hown:OwnR w2 wr.heap.size w2.heap.size [bkR 113 s (.slice xa xn xc)]:=ownR_single (r:=bkR 113 s (.slice xa xn xc)) hox
    have hR2:=(HRR.out.below hb2).append hown (Nat.le_refl _) hb.size (hb2.size)
    rw [List.cons_append] at hR2
    have hhead:=hR2.head
    obtain ⟨cur,hcur⟩:=owns_curB hhead
    have hf:=frozen_of_row w2 w.heap.size
    have hlen:(bksCs (fillBk L k n) (fillBV tk k n)).length=n*6:=hhead.1
    have cell:∀ j,j < 6→∃ v,w2.cell? ⟨w.heap.size,k*6+j,none⟩=some v:=fun j hj=>by
     obtain ⟨v,hv⟩:=some_atB (xs:=bksCs (fillBk L k n) (fillBV tk k n)) (i:=k*6+j) (by rw [hlen];omega)
     exact ⟨v,(hhead.cellAt (k*6+j) (by show k*6+j < n*6;omega)).trans hv⟩
    obtain ⟨v0,c0⟩:=cell 0 (by omega);obtain ⟨v1,c1⟩:=cell 1 (by omega);obtain ⟨v2,c2⟩:=cell 2 (by omega)
    obtain ⟨v3,c3⟩:=cell 3 (by omega);obtain ⟨v4,c4⟩:=cell 4 (by omega);obtain ⟨v5,c5⟩:=cell 5 (by omega)
    rw [Nat.add_zero] at c0
    have f0:=hf (k*6) cur _ hcur;have f1:=hf (k*6+1) cur _ hcur;have f2:=hf (k*6+2) cur _ hcur
    have f3:=hf (k*6+3) cur _ hcur;have f4:=hf (k*6+4) cur _ hcur;have f5:=hf (k*6+5) cur _ hcur
    have hfin:=(((((hR2.store (k*6) (.int .i64 s.bef)).store (k*6+1) (.int .i64 s.hgt)).store (k*6+2) (.int .i64 s.view)).store (k*6+3) (.slice xa xn xc)).store (k*6+4) (.int .i64 s.root)).store (k*6+5) (.int .i64 s.effs)
    rw [HST.out] at hfin
    have hrs:bksRs 113 (L.take k) tk++[bkR 113 s (.slice xa xn xc)]=bksRs 113 (L.take (k+1)) (tk++[.slice xa xn xc]):=by
     rw [HTK.out,bksRs_snoc HLT.out]
    rw [hrs] at hfin
    have hB6:Below w.heap.size w ((((((w2.setCell ⟨w.heap.size,k*6,none⟩ (.int .i64 s.bef)).setCell ⟨w.heap.size,k*6+1,none⟩ (.int .i64 s.hgt)).setCell ⟨w.heap.size,k*6+2,none⟩ (.int .i64 s.view)).setCell ⟨w.heap.size,k*6+3,none⟩ (.slice xa xn xc)).setCell ⟨w.heap.size,k*6+4,none⟩ (.int .i64 s.root)).setCell ⟨w.heap.size,k*6+5,none⟩ (.int .i64 s.effs)) :=
     ((((((hb.trans (hb2.mono hb.size)).setCell (Nat.le_refl _) _).setCell (Nat.le_refl _) _).setCell (Nat.le_refl _) _).setCell (Nat.le_refl _) _).setCell (Nat.le_refl _) _).setCell (Nat.le_refl _) _
    have HFIN:=Lib.hid hfin.top;have HB6:=Lib.hid hB6
    clear hfin hrs hB6 hR2 hhead hcur hf hlen cell hown hox hb2 hb g0 g1 g2 g3 g4 g5
    go_wp2
    obtain ⟨w6,hw6⟩:∃ w6,w6=(((((w2.setCell ⟨w.heap.size,k*6,none⟩ (.int .i64 s.bef)).setCell ⟨w.heap.size,k*6+1,none⟩ (.int .i64 s.hgt)).setCell ⟨w.heap.size,k*6+2,none⟩ (.int .i64 s.view)).setCell ⟨w.heap.size,k*6+3,none⟩ (.slice xa xn xc)).setCell ⟨w.heap.size,k*6+4,none⟩ (.int .i64 s.root)).setCell ⟨w.heap.size,k*6+5,none⟩ (.int .i64 s.effs):=⟨_,rfl⟩
    rw [← hw6] at HFIN HB6 ⊢
    clear hw6 c0 c1 c2 c3 c4 c5 f0 f1 f2 f3 f4 f5
    go_roundw
    case rel=>exact ⟨k+1,_,by omega,by go_num,by rw [List.length_append,HTL.out];rfl,HFIN.out,HB6.out⟩
    case measure=>simp [intOf];omega
  · obtain rfl:k=n:=by omega
    have e1:fillBk L k k=L:=by unfold fillBk;rw [Nat.sub_self,List.take_of_length_le (by rw [HN.out];exact Nat.le_refl _)];simp
    have e2:fillBV tk k k=tk:=by unfold fillBV;rw [Nat.sub_self];simp
    have e3:L.take k=L:=List.take_of_length_le (by rw [HN.out];exact Nat.le_refl _)
    rw [e1,e2,e3] at hR
    have HRR:=Lib.hid hR
    clear hR e1 e2 e3 hc
    go_wp2
    go_ret
    exact ⟨_,tk,rfl,⟨by rw [htk,HN.out],by have:=HRR.out;unfold bksAll;rw [← HN.out] at this ⊢;exact this,HWF.out⟩,hb⟩
def tTre:TreT:=⟨142,37,113,3⟩
theorem results_tre {fn:Func} {p:Tmp} (h:fn.results=#[.cell p 27]) (tmps:Array Value) {F:World} {Z:Nat} (hp:tmps.getD p undef = .pointer (some ⟨Z,0,none⟩)) {v1 v2 v3:Value} (hc:TrAt F Z v1 v2 v3):(results fn tmps).run Tryz.prog F = .ok (.agg #[v1,v2,v3]) F:=by
 have hp':tmps[p]?.getD undef = .pointer (some ⟨Z,0,none⟩):=by simpa using hp
 obtain ⟨c0,c1,c2,-⟩:=hc
 simp [results,h,hp',asAddr,go_sem,c0,c1,c2]
structure Tt (w W:World) (v1 v2 v3 u1 u2 u3:Value) (R:List Rw):Prop where
 inn:TrAt W w.heap.size v1 v2 v3
 ans:TrAt W (w.heap.size+1) (.slice none 0 0) (.slice none 0 0) (.slice none 0 0)
 cpy:TrAt W (w.heap.size+1+1) u1 u2 u3
 own:OwnR W (w.heap.size+3) W.heap.size R
 below:Below w.heap.size w W
 size:w.heap.size+3≤W.heap.size
theorem Tt.add {w W W':World} {v1 v2 v3 u1 u2 u3:Value} {R R2:List Rw} (h:Tt w W v1 v2 v3 u1 u2 u3 R) (hb:Below W.heap.size W W') (h2:OwnR W' W.heap.size W'.heap.size R2):Tt w W' v1 v2 v3 u1 u2 u3 (R++R2) :=
 ⟨h.inn.below hb,h.ans.below hb,h.cpy.below hb,(h.own.below hb).append h2 (Nat.le_refl _) h.size hb.size,h.below.trans (hb.mono h.below.size),Nat.le_trans h.size hb.size⟩
theorem Tt.put {w W:World} {v1 v2 v3 u1 u2 u3 x1 x2 x3:Value} {R:List Rw} (h:Tt w W v1 v2 v3 u1 u2 u3 R) (i:Nat) (x:Value) (hc:TrAt (W.setCell ⟨w.heap.size+1+1,i,none⟩ x) (w.heap.size+1+1) x1 x2 x3):Tt w (W.setCell ⟨w.heap.size+1+1,i,none⟩ x) v1 v2 v3 x1 x2 x3 R:=by
 have hk:∀ b,b≠w.heap.size+1+1→(W.setCell ⟨w.heap.size+1+1,i,none⟩ x).heap[b]? = W.heap[b]?:=fun b hb=>Below.heap_setCell _ _ _ _ (by simpa using hb)
 refine ⟨h.inn.keep (hk _ (by omega)),h.ans.keep (hk _ (by omega)),hc,?_,h.below.setCell (by simp;omega) x,by simpa [World.setCell] using h.size⟩
 have:=h.own.keep (w':=W.setCell ⟨w.heap.size+1+1,i,none⟩ x) fun r hr b hb=>hk b (by have:=(h.own.ge hr hb).1;omega)
 exact this.mono (Nat.le_refl _) (by simp [World.setCell])
theorem treWf_rd {w:World} {v1 v2 v3:Value} {t:Tre} (h:TreRd w v1 v2 v3 t) (hn:wtTre t≤1048576):TreWf t:=by
 obtain ⟨⟨a1,n1,c1,-,r1,-,-⟩,⟨a2,n2,c2,-,r2,-,-⟩,a3,n3,c3,-,r3,-,-⟩:=h
 unfold wtTre at hn
 exact ⟨r1.2.2.2,r3.2.2.2,bksWf_rd r2 (by omega),by omega,by omega⟩
theorem treRs_perm {t:TreT} {v1 v2 v3:Value} {x:Tre} {ts:List Value}:(([⟨v1,t.tE,2,x.base.length,flatE x.base⟩]++bksAll t.tB t.tA v2 x.blocks ts)++[⟨v3,t.tI,1,x.bef.length,x.bef.map (Value.int .i64)⟩]:List Rw).Perm (treRs t v1 v2 v3 x ts):=by
 unfold treRs
 simp only [List.cons_append,List.nil_append]
 exact List.Perm.cons _ (List.perm_append_comm (l₁:=bksAll t.tB t.tA v2 x.blocks ts) (l₂:=[⟨v3,t.tI,1,x.bef.length,x.bef.map (Value.int .i64)⟩]))
set_option maxRecDepth 100000 in
set_option maxHeartbeats 4000000 in
theorem toBlockTree_any (v1 v2 v3:Value) (t:Tre) (w:World) (h:TreRd w v1 v2 v3 t) (hn:wtTre t≤1048576) :
  Calls Tryz.prog 36 #[.agg #[v1,v2,v3]] w (NewTre w tTre t):=by
 have HWF:=Lib.hid (treWf_rd h hn)
 obtain ⟨⟨a1,n1,c1,rfl,r1,-,-⟩,⟨a2,n2,c2,rfl,r2,-,-⟩,a3,n3,c3,rfl,r3,-,-⟩:=h
 have m1:n1≤1048576:=by rw [← r1.1];unfold wtTre at hn;omega
 have m3:n3≤1048576:=by rw [← r3.1];unfold wtTre at hn;omega
 have m4:wtBks t.blocks≤1048576:=by unfold wtTre at hn;omega
 have H1:=Lib.hid r1;have H2:=Lib.hid r2;have H3:=Lib.hid r3
 have hT0:Tt w (((w.alloc (.cells #[.slice a1 n1 c1,.slice a2 n2 c2,.slice a3 n3 c3] 56)).alloc (.cells #[.slice none 0 0,.slice none 0 0,.slice none 0 0] 27)).alloc (.cells #[.slice none 0 0,.slice none 0 0,.slice none 0 0] 27)) (.slice a1 n1 c1) (.slice a2 n2 c2) (.slice a3 n3 c3) (.slice none 0 0) (.slice none 0 0) (.slice none 0 0) []:=by
  have g2:=(trAt_new (w.alloc (.cells #[.slice a1 n1 c1,.slice a2 n2 c2,.slice a3 n3 c3] 56)) 27 (.slice none 0 0) (.slice none 0 0) (.slice none 0 0)).below ((Below.refl _ _).alloc (Nat.le_refl _) (.cells #[.slice none 0 0,.slice none 0 0,.slice none 0 0] 27))
  have g3:=trAt_new ((w.alloc (.cells #[.slice a1 n1 c1,.slice a2 n2 c2,.slice a3 n3 c3] 56)).alloc (.cells #[.slice none 0 0,.slice none 0 0,.slice none 0 0] 27)) 27 (.slice none 0 0) (.slice none 0 0) (.slice none 0 0)
  rw [World.size_alloc] at g2
  rw [World.size_alloc,World.size_alloc] at g3
  exact ⟨((trAt_new w _ _ _ _).below ((Below.refl _ _).alloc (Nat.le_refl _) _)).below ((Below.refl _ _).alloc (Nat.le_refl _) _),g2,g3,OwnR.nil _ _ _,(((Below.refl w.heap.size w).alloc (Nat.le_refl _) _).alloc (by simp) _).alloc (by simp;omega) _,by simp⟩
 clear r1 r2 r3 hn
 go_enter Tryz.func36,Tryz.ntmps36
 go_wp2_with fail
 obtain ⟨w1,hw1⟩:∃ w1,w1=((w.alloc (.cells #[.slice a1 n1 c1,.slice a2 n2 c2,.slice a3 n3 c3] 56)).alloc (.cells #[.slice none 0 0,.slice none 0 0,.slice none 0 0] 27)).alloc (.cells #[.slice none 0 0,.slice none 0 0,.slice none 0 0] 27):=⟨_,rfl⟩
 rw [← hw1] at hT0 ⊢
 clear hw1
 refine (toEntryS_any a1 n1 c1 t.base _ (H1.out.below hT0.below) m1).mono ?_;rintro en x0 ⟨v,rfl,ho,-,hb⟩
 obtain ⟨p0,q0,s0,rfl⟩:=slice_form ho.1
 have hA:=hT0.add hb (ownR_single (r:=⟨(.slice p0 q0 s0),142,2,t.base.length,flatE t.base⟩) ho.1)
 have HN:=Lib.hid (hA.put 0 (.slice p0 q0 s0) (hA.cpy.set0 (.slice p0 q0 s0)))
 obtain ⟨z0,z1,z2,f0,f1,f2⟩:=hA.cpy
 obtain ⟨j0,j1,j2,-,-,-⟩:=hA.inn
 clear hT0 hb ho hA
 go_wp2_with fail
 obtain ⟨y0,hy⟩:∃ y,y=x0.setCell ⟨w.heap.size+1+1,0,none⟩ (.slice p0 q0 s0):=⟨_,rfl⟩
 rw [← hy] at HN ⊢
 clear hy z0 z1 z2 f0 f1 f2 j0 j1 j2
 have hT1:=HN.out
 clear HN
 refine (toBlockS_any a2 n2 c2 t.blocks _ (H2.out.below hT1.below) m4).mono ?_;rintro en x1 ⟨v,ts,rfl,⟨hts,ho,-⟩,hb⟩
 obtain ⟨p1,q1,s1,rfl⟩:=slice_form ho.head
 have hA:=hT1.add hb ho
 have HN:=Lib.hid (hA.put 1 (.slice p1 q1 s1) (hA.cpy.set1 (.slice p1 q1 s1)))
 obtain ⟨z0,z1,z2,f0,f1,f2⟩:=hA.cpy
 obtain ⟨j0,j1,j2,-,-,-⟩:=hA.inn
 clear hT1 hb ho hA
 go_wp2_with fail
 obtain ⟨y1,hy⟩:∃ y,y=x1.setCell ⟨w.heap.size+1+1,1,none⟩ (.slice p1 q1 s1):=⟨_,rfl⟩
 rw [← hy] at HN ⊢
 clear hy z0 z1 z2 f0 f1 f2 j0 j1 j2
 have hT2:=HN.out
 clear HN
 refine (toIntS_own a3 n3 c3 t.bef _ (H3.out.below hT2.below) m3).mono ?_;rintro en x2 ⟨v,rfl,ho,-,hb⟩
 obtain ⟨p2,q2,s2,rfl⟩:=slice_form ho.1
 have hA:=hT2.add hb (ownR_single (r:=⟨(.slice p2 q2 s2),3,1,t.bef.length,t.bef.map (Value.int .i64)⟩) ho.1)
 have HN:=Lib.hid (hA.put 2 (.slice p2 q2 s2) (hA.cpy.set2 (.slice p2 q2 s2)))
 obtain ⟨z0,z1,z2,f0,f1,f2⟩:=hA.cpy
 obtain ⟨j0,j1,j2,-,-,-⟩:=hA.inn
 clear hT2 hb ho hA
 go_upto_region 5 with (fail)
 obtain ⟨y2,hy⟩:∃ y,y=x2.setCell ⟨w.heap.size+1+1,2,none⟩ (.slice p2 q2 s2):=⟨_,rfl⟩
 rw [← hy] at HN ⊢
 clear hy z0 z1 z2 f0 f1 f2 j0 j1 j2
 obtain ⟨z0,z1,z2,-,-,-⟩:=HN.out.cpy
 obtain ⟨u0,u1,u2,t0,t1,t2⟩:=HN.out.ans
 go_wp2
 have hZ:=HN.out.ans.set3b (.slice p0 q0 s0) (.slice p1 q1 s1) (.slice p2 q2 s2)
 have ht:=set3b_turn y2 (w.heap.size+1) (.slice p0 q0 s0) (.slice p1 q1 s1) (.slice p2 q2 s2)
 have hown:=HN.out.own
 have hB:=ht.below HN.out.below (by omega) HN.out.below.size
 have hO:=(hown.turn ht (.inr (.inl (by omega)))).top.mono (show w.heap.size≤w.heap.size+3 by omega) (Nat.le_refl _)
 refine bodyPost_ret (results_tre Tryz.results36 _ (by rfl) hZ) rfl ⟨_,_,_,ts,rfl,⟨hts,?_,HWF.out⟩,hB⟩
 exact hO.perm (treRs_perm (t:=tTre) (v1:=.slice p0 q0 s0) (v2:=.slice p1 q1 s1) (v3:=.slice p2 q2 s2) (x:=t) (ts:=ts))
end Go.Proofs.YtpnjgmgmakmgeaaGreat
