/- Texts of ours that stand together: ConvBk, ConvTr, ConvTr3 -/
import Derived.Test.YtalohgmgkjfdbaaGreatTrM
import Derived.Test.YtalohgmgkjfdbaaGreatHeldA
import Derived.Test.YtalohgmgkjfdbaaGreatConv
import Derived.StillTailTactics
import Derived.Deep.Cut
import Derived.Test.YtalohgmgkjfdbaaGreatConvAX
import Derived.Lib.AppendZeros
/- The contracts of the laws' own helpers over blocks: szBlock,toBlock,eqBlock,markBlock,heldBlock. -/
namespace Go.Proofs.YtalohgmgkjfdbaaGreat
open Go.RowKit
set_option linter.unusedVariables false
theorem eqBlock_same (p q r t u:Int) (a:Option Addr) (n c:Nat) (a':Option Addr) (c':Nat) (L:List Acn) (w:World) (h:RowA w a n L) (h':RowA w a' n L) :
  Calls Tryz.prog 34 #[.agg #[.int .i64 p,.int .i64 q,.int .i64 r,.slice a n c,.int .i64 t,.int .i64 u],.agg #[.int .i64 p,.int .i64 q,.int .i64 r,.slice a' n c',.int .i64 t,.int .i64 u]] w fun e w'=>e = .returned (.bool true)∧Below w.heap.size w w':=by
 have hb0:=((Below.refl w.heap.size w).alloc (Nat.le_refl _) (.cells #[.int .i64 p,.int .i64 q,.int .i64 r,.slice a n c,.int .i64 t,.int .i64 u] 52)).alloc (by simp) (.cells #[.int .i64 p,.int .i64 q,.int .i64 r,.slice a' n c',.int .i64 t,.int .i64 u] 52)
 have hA:=(bkAt_new w 52 (.int .i64 p) (.int .i64 q) (.int .i64 r) (.slice a n c) (.int .i64 t) (.int .i64 u)).below ((Below.refl _ _).alloc (Nat.le_refl _) (.cells #[.int .i64 p,.int .i64 q,.int .i64 r,.slice a' n c',.int .i64 t,.int .i64 u] 52))
 have hA':=bkAt_new (w.alloc (.cells #[.int .i64 p,.int .i64 q,.int .i64 r,.slice a n c,.int .i64 t,.int .i64 u] 52)) 52 (.int .i64 p) (.int .i64 q) (.int .i64 r) (.slice a' n c') (.int .i64 t) (.int .i64 u)
 rw [World.size_alloc] at hA'
 have H:=Lib.hid (h.below hb0)
 have H':=Lib.hid (h'.below hb0)
 have HB:=Lib.hid hb0
 have HA:=Lib.hid hA
 have HA':=Lib.hid hA'
 clear h h' hb0 hA hA'
 go_enter Tryz.func34,Tryz.ntmps34
 go_wp2_with fail
 refine (eqActionS_same a a' n c c' L _ H.out H'.out).mono ?_;rintro e w1 ⟨rfl,hb1⟩
 obtain ⟨-,-,-,-,c4,c5,-⟩:=HA.out.below hb1
 obtain ⟨-,-,-,-,d4,d5,-⟩:=HA'.out.below hb1
 have HB1:=Lib.hid (HB.out.trans (hb1.mono HB.out.size))
 clear hb1
 go_wp2
 go_ret
 exact ⟨rfl,HB1.out⟩
def MarkedAz (w:World) (e0:TypeId) (B:Nat) (v:Value) (n:Nat) (k:Int) (e:Ending) (w':World):Prop :=
 e = .returned (.int .i64 (k+4*n))∧w'.ownsRow B e0 4 v n (flatA (marksA k n))∧w.grownBy w' v.ownBlock
theorem markActionS_own (B:Nat) (v:Value) (n:Nat) (l:List Acn) (k:Int) (w:World) (h:w.ownsRow B 112 4 v n (flatA l)) (hl:l.length=n) (hn:n≤4000000) (hk0:0≤k) (hk1:k≤100000000) :
  Calls Tryz.prog 51 #[v,.int .i64 k] w (MarkedAz w 112 B v n k):=by
 by_cases hv:v = .slice none 0 0
 · subst hv
   have h0:n=0:=by
    rcases h.2 with ⟨_,h1⟩ | ⟨g,cap,cur,h1,_⟩
    · exact h1
    · simp at h1
   subst h0
   have hN:w.ownsRow B 112 4 (.slice none 0 0) 0 (flatA (marksA k 0)):=World.ownsRow_nil _ _ _ _
   clear h
   go_enter Tryz.func51,Tryz.ntmps51
   go_wp2
   go_loopw [1,5] (fun q i wr=>q = .int .i64 k∧i = .int .i64 0∧wr=w) (fun _ _ _=>0)
   case atStart=>exact ⟨rfl,rfl,rfl⟩
   case round =>
    obtain ⟨rfl,rfl,rfl⟩:=hrel
    go_wp2
    go_ret
    exact ⟨ret_int (by simp),hN,World.grownBy.refl _ _⟩
 · obtain ⟨g,cap,rfl,-,-⟩:=(show Own w B 112 4 v n (flatA l) from ⟨h,hv⟩).slice
   refine (markActionS_any B g n cap l k w ⟨h,hv⟩ hl hn hk0 hk1).mono ?_
   rintro e w' ⟨rfl,ho,hg⟩
   exact ⟨rfl,ho.1,hg⟩
end Go.Proofs.YtalohgmgkjfdbaaGreat
/- The contracts of the laws' own helpers over blocks and trees: weights and comparisons. -/
namespace Go.Proofs.YtalohgmgkjfdbaaGreat
open Go.RowKit
set_option linter.unusedVariables false
def sumBk:List Blk→Nat
 | []=>0
 | s :: r=>s.acts.length+sumBk r
theorem sumBk_append (l m:List Blk):sumBk (l++m)=sumBk l+sumBk m:=by
 induction l with
 | nil=>simp [sumBk]
 | cons a r ih=>simp only [List.cons_append,sumBk,ih];omega
theorem sumBk_next (L:List Blk) (k:Nat) (h:k < L.length):sumBk (L.take (k+1))=sumBk (L.take k)+(L.getD k noBlk).acts.length:=by
 rw [List.take_succ_eq_append_getElem h,sumBk_append,List.getD_eq_getElem?_getD,List.getElem?_eq_getElem h];simp [sumBk]
theorem sumBk_take (L:List Blk) (k:Nat):sumBk (L.take k)≤sumBk L:=by
 have h:=sumBk_append (L.take k) (L.drop k)
 rw [List.take_append_drop] at h;omega
theorem sumBk_len (L:List Blk) (k:Nat) (h:k < L.length):(L.getD k noBlk).acts.length≤sumBk L:=by
 have:=sumBk_next L k h;have:=sumBk_take L (k+1);omega
def wtBks (L:List Blk):Nat:=L.length+sumBk L
theorem eqBlock_v (x:Blk) (a:Option Addr) (n c:Nat) (a':Option Addr) (c':Nat) (w:World) (h:RowA w a n x.acts) (h':RowA w a' n x.acts) :
  Calls Tryz.prog 34 #[.agg #[.int .i64 x.bef,.int .i64 x.hgt,.int .i64 x.view,.slice a n c,.int .i64 x.root,.int .i64 x.effs],.agg #[.int .i64 x.bef,.int .i64 x.hgt,.int .i64 x.view,.slice a' n c',.int .i64 x.root,.int .i64 x.effs]] w fun e w'=>e = .returned (.bool true)∧Below w.heap.size w w':=eqBlock_same x.bef x.hgt x.view x.root x.effs a n c a' c' x.acts w h h'
set_option maxRecDepth 100000 in
set_option maxHeartbeats 2000000 in
theorem eqBlockS_same (a a':Option Addr) (n cap cap':Nat) (L:List Blk) (w:World) (h:RowBs w a n L) (h':RowBs w a' n L) :
  Calls Tryz.prog 64 #[.slice a n cap,.slice a' n cap'] w fun e w'=>e = .returned (.bool true)∧Below w.heap.size w w':=by
 obtain ⟨hl,hm,hc,-⟩:=h
 obtain ⟨-,-,hc',-⟩:=h'
 unfold maxLen at hm
 have HN:=Lib.hid hl;clear hl
 by_cases h0:0 < n
 · obtain ⟨b,off,rfl,hcc⟩:=hc h0;clear hc
   obtain ⟨b',off',rfl,hcc'⟩:=hc' h0;clear hc'
   go_enter Tryz.func64,Tryz.ntmps64
   go_wp2
   go_loopw [5] (fun i wr=>∃ k:Nat,k≤n∧i = .int .i64 k∧Below w.heap.size w wr) (fun i _=>n - (intOf i).toNat)
   case atStart=>exact ⟨0,Nat.zero_le _,rfl,Below.refl _ _⟩
   case round =>
    obtain ⟨k,hk,rfl,hb⟩:=hrel
    by_cases hlt:k < n
    · obtain ⟨g0,g1,g2,⟨x,g3,hx⟩,g4,g5⟩:=(hcc k hlt).below hb
      obtain ⟨j0,j1,j2,⟨x',j3,hx'⟩,j4,j5⟩:=(hcc' k hlt).below hb
      obtain ⟨a1,n1,cap1,rfl,r1,-,-⟩:=hx
      obtain ⟨a4,n4,cap4,rfl,r4,-,-⟩:=hx'
      obtain rfl:n1=n4:=by rw [← r1.1,← r4.1]
      have HR1:=Lib.hid r1;have HR4:=Lib.hid r4
      clear hcc hcc' r1 r4
      obtain ⟨s,hs⟩:∃ s,s=L.getD k noBlk:=⟨_,rfl⟩
      rw [← hs] at g0 g1 g2 g4 g5 j0 j1 j2 j4 j5 HR1 HR4
      clear hs
      go_wp2
      go_still_tail 8,(by kernel_rfl)
      go_wp2_with fail
      refine (eqBlock_v s a1 n1 cap1 a4 cap4 _ (show RowA wr.drew _ _ s.acts from HR1.out) (show RowA wr.drew _ _ s.acts from HR4.out)).mono ?_;rintro e w1 ⟨rfl,hb1⟩
      go_wp2
      go_roundw
      case rel=>exact ⟨k+1,by omega,by go_num,by first | exact hb.trans (hb1.mono hb.size) | exact hb.drew.trans (hb1.mono hb.size) | exact (below_drewN' hb _).trans (hb1.mono hb.size)⟩
      case measure=>simp [intOf];omega
    · clear hcc hcc'
      go_wp2
      go_ret
      exact ⟨rfl,hb⟩
 · obtain rfl:n=0:=by omega
   clear hc hc'
   go_enter Tryz.func64,Tryz.ntmps64
   go_wp2
   go_loop [5] (fun i=>i = .int .i64 0) (fun _=>0)
   case atStart=>rfl
   case round =>
    subst hrel
    go_wp2
    go_ret
    exact ⟨rfl,Below.refl _ _⟩
set_option maxRecDepth 100000 in
set_option maxHeartbeats 2000000 in
theorem eqBlockTree_same (v1 v2 v3 u1 u2 u3:Value) (t:Tre) (w:World) (h:TreRd w v1 v2 v3 t) (h':TreRd w u1 u2 u3 t) :
  Calls Tryz.prog 19 #[.agg #[v1,v2,v3],.agg #[u1,u2,u3]] w fun en w'=>en = .returned (.bool true)∧Below w.heap.size w w':=by
 have HD:=Lib.hid h;have HD':=Lib.hid h'
 obtain ⟨⟨a1,n1,c1,rfl,r1,-,-⟩,⟨a2,n2,c2,rfl,r2,-,-⟩,a3,n3,c3,rfl,r3,-,-⟩:=h
 obtain ⟨⟨b1,m1,d1,rfl,s1,-,-⟩,⟨b2,m2,d2,rfl,s2,-,-⟩,b3,m3,d3,rfl,s3,-,-⟩:=h'
 obtain rfl:n1=m1:=by rw [← r1.1,← s1.1]
 obtain rfl:n2=m2:=by rw [← r2.1,← s2.1]
 obtain rfl:n3=m3:=by rw [← r3.1,← s3.1]
 have hb0:=((Below.refl w.heap.size w).alloc (Nat.le_refl _) (.cells #[.slice a1 n1 c1,.slice a2 n2 c2,.slice a3 n3 c3] 28)).alloc (by simp) (.cells #[.slice b1 n1 d1,.slice b2 n2 d2,.slice b3 n3 d3] 28)
 have hg1:=(trAt_new w 28 (.slice a1 n1 c1) (.slice a2 n2 c2) (.slice a3 n3 c3)).below ((Below.refl _ _).alloc (Nat.le_refl _) (.cells #[.slice b1 n1 d1,.slice b2 n2 d2,.slice b3 n3 d3] 28))
 have hg2:=trAt_new (w.alloc (.cells #[.slice a1 n1 c1,.slice a2 n2 c2,.slice a3 n3 c3] 28)) 28 (.slice b1 n1 d1) (.slice b2 n2 d2) (.slice b3 n3 d3)
 rw [World.size_alloc] at hg2
 obtain ⟨W1,hW1⟩:∃ W1,W1=(w.alloc (.cells #[.slice a1 n1 c1,.slice a2 n2 c2,.slice a3 n3 c3] 28)).alloc (.cells #[.slice b1 n1 d1,.slice b2 n2 d2,.slice b3 n3 d3] 28):=⟨_,rfl⟩
 have HW1:=Lib.hid hW1
 rw [← hW1] at hb0 hg1 hg2
 clear hW1
 have HA:=Lib.hid (fun (W:World) (hb:Below W1.heap.size W1 W)=>(⟨hg1.below hb,hg2.below hb,(r1.below hb0).below hb,(s1.below hb0).below hb,(r2.below hb0).below hb,(s2.below hb0).below hb,(r3.below hb0).below hb,(s3.below hb0).below hb,hb0.trans (hb.mono hb0.size)⟩:TrAt W w.heap.size (.slice a1 n1 c1) (.slice a2 n2 c2) (.slice a3 n3 c3)∧TrAt W (w.heap.size+1) (.slice b1 n1 d1) (.slice b2 n2 d2) (.slice b3 n3 d3)∧RowE W a1 n1 t.base∧RowE W b1 n1 t.base∧RowBs W a2 n2 t.blocks∧RowBs W b2 n2 t.blocks∧RowI W a3 n3 t.bef∧RowI W b3 n3 t.bef∧Below w.heap.size w W))
 clear hb0 hg1 hg2 r1 r2 r3 s1 s2 s3
 go_enter Tryz.func19,Tryz.ntmps19
 go_wp2_with fail
 rw [← HW1.out]
 clear HW1
 obtain ⟨-,-,p1,p2,-,-,-,-,-⟩:=HA.out W1 (Below.refl _ _)
 refine (eqEntryS_same a1 b1 n1 c1 d1 t.base _ p1 p2).mono ?_;rintro en w2 ⟨rfl,hb2⟩
 have HB2:=Lib.hid hb2
 clear p1 p2 hb2
 obtain ⟨⟨-,x2,-⟩,⟨-,y2,-⟩,-,-,p1,p2,-,-,-⟩:=HA.out w2 HB2.out
 have P1:=Lib.hid p1;have P2:=Lib.hid p2
 clear p1 p2
 go_wp2_with fail
 refine (eqBlockS_same a2 b2 n2 c2 d2 t.blocks _ P1.out P2.out).mono ?_;rintro en w3 ⟨rfl,hb3⟩
 have HB3:=Lib.hid (HB2.out.trans (hb3.mono HB2.out.size))
 clear x2 y2 hb3 P1 P2
 obtain ⟨⟨-,-,x2,-⟩,⟨-,-,y2,-⟩,-,-,-,-,p1,p2,hbf⟩:=HA.out w3 HB3.out
 have P1:=Lib.hid p1;have P2:=Lib.hid p2;have HBF:=Lib.hid hbf
 clear p1 p2 hbf
 go_wp2_with fail
 refine (eqIntS_same a3 b3 n3 c3 d3 t.bef _ P1.out P2.out).mono ?_;rintro en w4 ⟨rfl,hb4⟩
 have HBF4:=Lib.hid (HBF.out.trans (hb4.mono HBF.out.size))
 clear hb4 x2 y2
 go_wp2
 go_ret
 exact ⟨rfl,HBF4.out⟩
end Go.Proofs.YtalohgmgkjfdbaaGreat
/- The contracts of the laws' own helpers toBlockS and toBlockTree. -/
namespace Go.Proofs.YtalohgmgkjfdbaaGreat
open Go.RowKit
set_option linter.unusedVariables false
theorem ownR_single {w:World} {B:Nat} {r:Rw} (h:w.ownsRow B r.e r.size r.v r.n r.cs):OwnR w B w.heap.size [r] :=
 (OwnR.nil w B w.heap.size).cons r h (fun b hb=>by rw [owns_blk h] at hb;exact (h.lt b hb).2) (fun x hx=>by cases hx)
def tTre:TreT:=⟨81,52,112,3⟩
theorem results_tre {fn:Func} {p:Tmp} (h:fn.results=#[.cell p 28]) (tmps:Array Value) {F:World} {Z:Nat} (hp:tmps.getD p undef = .pointer (some ⟨Z,0,none⟩)) {v1 v2 v3:Value} (hc:TrAt F Z v1 v2 v3):(results fn tmps).run Tryz.prog F = .ok (.agg #[v1,v2,v3]) F:=by
 have hp':tmps[p]?.getD undef = .pointer (some ⟨Z,0,none⟩):=by simpa using hp
 obtain ⟨c0,c1,c2,-⟩:=hc
 simp [results,h,hp',asAddr,go_sem,c0,c1,c2]
structure Tt (w W:World) (v1 v2 v3 u1 u2 u3:Value) (R:List Rw):Prop where
 inn:TrAt W w.heap.size v1 v2 v3
 ans:TrAt W (w.heap.size+1) (.slice none 0 0) (.slice none 0 0) (.slice none 0 0)
 cpy:TrAt W (w.heap.size+1+1) u1 u2 u3
 own:OwnR W (w.heap.size+3) W.heap.size R
 below:Below w.heap.size w W
 size:w.heap.size+3≤W.heap.size
theorem Tt.add {w W W':World} {v1 v2 v3 u1 u2 u3:Value} {R R2:List Rw} (h:Tt w W v1 v2 v3 u1 u2 u3 R) (hb:Below W.heap.size W W') (h2:OwnR W' W.heap.size W'.heap.size R2):Tt w W' v1 v2 v3 u1 u2 u3 (R++R2) :=
 ⟨h.inn.below hb,h.ans.below hb,h.cpy.below hb,(h.own.below hb).append h2 (Nat.le_refl _) h.size hb.size,h.below.trans (hb.mono h.below.size),Nat.le_trans h.size hb.size⟩
theorem Tt.put {w W:World} {v1 v2 v3 u1 u2 u3 x1 x2 x3:Value} {R:List Rw} (h:Tt w W v1 v2 v3 u1 u2 u3 R) (i:Nat) (x:Value) (hc:TrAt (W.setCell ⟨w.heap.size+1+1,i,none⟩ x) (w.heap.size+1+1) x1 x2 x3):Tt w (W.setCell ⟨w.heap.size+1+1,i,none⟩ x) v1 v2 v3 x1 x2 x3 R:=by
 have hk:∀ b,b≠w.heap.size+1+1→(W.setCell ⟨w.heap.size+1+1,i,none⟩ x).heap[b]? = W.heap[b]?:=fun b hb=>Below.heap_setCell _ _ _ _ (by simpa using hb)
 refine ⟨h.inn.keep (hk _ (by omega)),h.ans.keep (hk _ (by omega)),hc,?_,h.below.setCell (by simp;omega) x,by simpa [World.setCell] using h.size⟩
 have:=h.own.keep (w':=W.setCell ⟨w.heap.size+1+1,i,none⟩ x) fun r hr b hb=>hk b (by have:=(h.own.ge hr hb).1;omega)
 exact this.mono (Nat.le_refl _) (by simp [World.setCell])
end Go.Proofs.YtalohgmgkjfdbaaGreat
