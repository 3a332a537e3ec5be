/- The contracts of slices.Grow and slices.Concat at entries,and of the program's numbers and EffectSum. -/
import Derived.Test.YtpnjgmgmakmgeaaGreatEffA
import Derived.Test.YtpnjgmgmakmgeaaGreatOne
import Derived.Test.YtpnjgmgmakmgeaaGreatConv
import Derived.Test.YtpnjgmgmakmgeaaGreatTwo
import Derived.Lib.AppendZeros
namespace Go.Proofs.YtpnjgmgmakmgeaaGreat
open Go.RowKit
set_option linter.unusedVariables false
theorem infoEntG:(Tryz.prog.info? 142).map (fun i=>(i.zero,i.size,i.bytes))=some (some (.agg #[.int .i64 0,.int .i64 0]),2,16):=by kernel_rfl
def Room (w:World) (e:Ending) (w':World):Prop:=∃ v,e = .returned v∧w'.ownsRow w.heap.size 142 2 v 0 []∧Below w.heap.size w w'
set_option maxRecDepth 100000 in
set_option maxHeartbeats 1000000 in
theorem grow_any (n:Nat) (w:World) (hn:n≤4000000) :
  Calls Tryz.prog 204 #[.slice none 0 0,.int .i64 n] w (Room w):=by
 by_cases h0:n=0
 · subst h0
   go_enter Tryz.func204,Tryz.ntmps204
   go_wp2
   go_ret
   exact ⟨_,rfl,World.ownsRow_nil _ _ _ _,Below.refl _ _⟩
 · obtain ⟨i0,hi,hz0,hz1,hz2⟩:=info_parts infoEntG
   have hb:decide ((0:Int) < (n:Int))=true:=by simp;omega
   have hrun:=Lib.run_append_nil_zeros (P:=Tryz.prog) w 23 3 23 142 i0 (.agg #[.int .i64 0,.int .i64 0]) .i64 .i64 Tryz.underlying23 Tryz.underlying3 hi hz0 n (by omega) (by omega) (by omega) (by rw [hz2];omega)
   have hge:=grownCap_ge w n 0 142
   have hle:=grownCap_le_maxLen w n 0 142 (by unfold maxLen;omega)
   have HR:=Lib.hid hrun
   clear hrun hi hz0 hz1 hz2
   obtain ⟨c,hc⟩:∃ c,c=grownCap w n 0 142:=⟨_,rfl⟩
   rw [← hc] at HR hge hle
   clear hc
   go_enter Tryz.func204,Tryz.ntmps204
   go_wp2_with (first | (at_builtin;refine Lib.wpList_append_run _ rfl _ _ _ _ rfl _ _ (by rfl) (by rfl) _ _ HR.out ?_))
   go_ret
   refine ⟨_,rfl,⟨rfl,.inr ⟨w.heap.size,c,_,rfl,Nat.le_refl _,heap_alloc_new w _,Nat.zero_le _,hle,?_,by simp⟩⟩,((Below.refl _ _).alloc (Nat.le_refl _) _).drew⟩
   rw [Array.size_append,size_zeroCells,size_zeroCells]
   show n*2+(c - n)*2=c*2
   omega
theorem rowE_kept {w w':World} {a:Option Addr} {n:Nat} {row:Option Nat} {l:List Ent} (h:RowE w a n l) (hg:w.grownBy w' row) (hne:0 < n→∀ b o,a=some ⟨b,o,none⟩→some b≠row):RowE w' a n l:=by
 obtain ⟨h1,h2,h3,h4⟩:=h
 refine ⟨h1,h2,fun hl=>?_,h4⟩
 obtain ⟨b,off,he,hc⟩:=h3 hl
 exact ⟨b,off,he,fun i hi=>⟨hg.cell (hc i hi).1 (hne hl b off he),hg.cell (hc i hi).2 (hne hl b off he)⟩⟩
def Both (w:World) (l:List Ent) (e:Ending) (w':World):Prop:=∃ v,e = .returned v∧w'.ownsRow w.heap.size 142 2 v l.length (flatE l)∧Below w.heap.size w w'
set_option maxRecDepth 100000 in
set_option maxHeartbeats 4000000 in
theorem concat_any (g:Nat) (a1:Option Addr) (n1 c1:Nat) (a2:Option Addr) (n2 c2:Nat) (X Y:List Ent) (w:World) (hc0:w.cell? ⟨g,0,none⟩=some (.slice a1 n1 c1)) (hc1:w.cell? ⟨g,1,none⟩=some (.slice a2 n2 c2))
  (h1:RowE w a1 n1 X) (h2:RowE w a2 n2 Y) (hz1:a1=none→c1=0) (hz2:a2=none→c2=0) (hn:n1+n2≤4000000) :
  Calls Tryz.prog 203 #[.slice (some ⟨g,0,none⟩) 2 2] w (Both w (X++Y)):=by
 have hgl:=World.block_lt_of_cell? w ⟨g,0,none⟩ hc0
 have H1:=Lib.hid h1;have H2:=Lib.hid h2
 have hnil1:a1=none→n1=0∧c1=0:=fun e=>⟨by
  rcases Nat.eq_zero_or_pos n1 with h | h
  · exact h
  · obtain ⟨b,o,he,-⟩:=h1.2.2.1 h;(rw [e] at he;cases he),hz1 e⟩
 have hnil2:a2=none→n2=0∧c2=0:=fun e=>⟨by
  rcases Nat.eq_zero_or_pos n2 with h | h
  · exact h
  · obtain ⟨b,o,he,-⟩:=h2.2.2.1 h;(rw [e] at he;cases he),hz2 e⟩
 have HN1:=Lib.hid hnil1;have HN2:=Lib.hid hnil2
 have HX:=Lib.hid h1.1;have HY:=Lib.hid h2.1
 obtain ⟨N,hN⟩:∃ N:Nat,N=n1+n2:=⟨_,rfl⟩
 have HN':Hid ((n1:Int)+(n2:Int)=(N:Int)):=Lib.hid (by omega)
 have HN:=Lib.hid hN
 clear h1 h2 hz1 hz2 hnil1 hnil2 hN
 go_enter Tryz.func203,Tryz.ntmps203
 go_wp2
 go_loop [3,5,11] (fun s _ i=>(s = .int .i64 0∧i = .int .i64 0)∨(s = .int .i64 n1∧i = .int .i64 1)∨(s = .int .i64 N∧i = .int .i64 2)) (fun _ _ i=>2 - (intOf i).toNat)
 case atStart=>exact .inl ⟨rfl,rfl⟩
 case round =>
  rcases hrel with ⟨rfl,rfl⟩ | ⟨rfl,rfl⟩ | ⟨rfl,rfl⟩
  · go_wp2
    go_round
    case rel=>exact .inr (.inl ⟨by go_num,by go_num⟩)
    case measure=>simp [intOf]
  · go_wp2
    go_round
    case rel=>exact .inr (.inr ⟨by rw [← HN'.out],by go_num⟩)
    case measure=>simp [intOf]
  · have hNN:N≤4000000:=by rw [HN.out];exact hn
    go_wp2_with fail
    refine (grow_any N _ hNN).mono ?_;rintro e w1 ⟨v1,rfl,ho1,hb1⟩
    go_wp2
    go_loopw [6,8,27] (fun v _ i wr=>((i = .int .i64 0∧wr.ownsRow w.heap.size 142 2 v 0 [])∨(i = .int .i64 1∧wr.ownsRow w.heap.size 142 2 v n1 (flatE X))∨(i = .int .i64 2∧wr.ownsRow w.heap.size 142 2 v (n1+n2) (flatE X++flatE Y)))∧Below w.heap.size w wr) (fun _ _ i _=>2 - (intOf i).toNat)
    case atStart=>exact ⟨.inl ⟨rfl,ho1⟩,hb1⟩
    case round =>
     clear ho1 hb1
     obtain ⟨hr,hb⟩:=hrel
     have hd0:=(hb.cell (p:=⟨g,0,none⟩) hgl).trans hc0
     have hd1:=(hb.cell (p:=⟨g,1,none⟩) hgl).trans hc1
     have hq1:=H1.out.below hb
     have hq2:=H2.out.below hb
     have HQ1:=Lib.hid hq1;have HQ2:=Lib.hid hq2
     clear hc0 hc1 hq1 hq2
     rcases hr with ⟨rfl,ho⟩ | ⟨rfl,ho⟩ | ⟨rfl,ho⟩
     · go_wp2_with (first | (at_builtin;refine wpList_append_rows' rfl _ _ 23 rfl w.heap.size 142 (.agg #[.int .i64 0,.int .i64 0]) 2 16 Tryz.underlying23 infoEntG rfl (by decide) _ 0 [] (flatE X) (by rfl) ho a1 n1 c1 (by rfl) HN1.out (by rw [flatE_len,HX.out]) HQ1.out.news (flatE_oneCell X) (by omega) (by decide) hb.size ?_;intro v2 w2 ho2 hg2))
       have hb2:=hb.grown hg2 hb.size (fun k hk=>(ho.lt k hk).1)
       rw [Nat.zero_add,List.nil_append] at ho2
       clear hg2 ho hb
       go_wp2
       go_roundw
       case rel=>exact ⟨.inr (.inl ⟨by go_num,ho2⟩),hb2⟩
       case measure=>simp [intOf]
     · go_wp2_with (first | (at_builtin;refine wpList_append_rows' rfl _ _ 23 rfl w.heap.size 142 (.agg #[.int .i64 0,.int .i64 0]) 2 16 Tryz.underlying23 infoEntG rfl (by decide) _ n1 (flatE X) (flatE Y) (by rfl) ho a2 n2 c2 (by rfl) HN2.out (by rw [flatE_len,HY.out]) HQ2.out.news (flatE_oneCell Y) (by omega) (by decide) hb.size ?_;intro v2 w2 ho2 hg2))
       have hb2:=hb.grown hg2 hb.size (fun k hk=>(ho.lt k hk).1)
       clear hg2 ho hb
       go_wp2
       go_roundw
       case rel=>exact ⟨.inr (.inr ⟨by go_num,ho2⟩),hb2⟩
       case measure=>simp [intOf]
     · go_wp2
       go_ret
       exact ⟨_,rfl,by rw [List.length_append,flatE_append,HX.out,HY.out];exact ho,hb⟩
theorem wpList_append_lit {P:Program} {W:World} {ops:Array Oper} {rest:List Oper} {o:Oper} {a:Act} {Q:Exit→Act→World→Prop} (hgd:Region.wanted o (yielded ops a.tmps)=true) (s x:Operand) (t:TypeId)
  (ho:o.op = .call { callee:=.builtin .append,args:=#[s,x],argTypes:=#[t,t] })
  (B:Nat) (e e':TypeId) (z:Value) (size bytes m:Nat) (ht:P.underlying t=some (.slice e)) (hinfo:(P.info? e).map (fun i=>(i.zero,i.size,i.bytes))=some (some z,size,bytes))
  (hzs:z.cells.size=size) (hsz:0 < size)
  (v:Value) (n:Nat) (xs news:List Value) (hs:a.eval s=v) (hown:W.ownsRow B e size v n xs) (hx:a.eval x = .slice (some ⟨W.heap.size,0,none⟩) m m)
  (hl:news.length=m*size) (h1:∀ u∈news,u.oneCell'=true) (hm:0 < m)
  (hn:n+m≤4000000) (hby:bytes≤100000) (hbase:B≤W.heap.size)
  (h:∀ v' w',w'.ownsRow B e size v' (n+m) (xs++news)→v'≠.slice none 0 0→(W.alloc (.cells news.toArray e')).grownBy w' v.ownBlock→(v'.ownBlock=v.ownBlock∨v'.ownBlock=some (W.heap.size+1))→wpList P ops Q rest (a.put o.dst v') w') :
  wpList P ops Q (o :: rest) a (W.alloc (.cells news.toArray e')):=by
 refine BigFrame.wpList_want hgd fun K hK=>?_
 obtain ⟨i0,hi,hz0,hz1,hz2⟩:=info_parts hinfo
 have hcell:∀ j u,news[j]? = some u→(W.alloc (.cells news.toArray e')).cell? ((⟨W.heap.size,0,none⟩:Addr).add j)=some u:=by
  intro j u hu
  rw [show (⟨W.heap.size,0,none⟩:Addr).add j=⟨W.heap.size,j,none⟩ by unfold Addr.add;split <;> simp_all]
  rw [cell_of_row (W.alloc (.cells news.toArray e')) W.heap.size j news.toArray e' (0,0) (heap_alloc_new W _)]
  rw [List.getElem?_toArray];exact hu
 have hbytes:(n+m)*bytes≤140737488355328:=by
  calc (n+m)*bytes≤4000000*100000:=Nat.mul_le_mul hn hby
   _≤140737488355328:=by decide
 obtain ⟨v',w',hr,h2,h3,h4,h5⟩:=run_append_own_at (P:=P) (W.alloc (.cells news.toArray e')) B t o.type e i0 z size bytes ht hi hz0 hz1 hz2 hzs hsz v n xs (hown.alloc _) ⟨W.heap.size,0,none⟩ m m news hl hcell h1 (by unfold maxLen;omega) hbytes (by simp;omega)
 unfold Oper.wp execOp
 simp only [ho,resolve,invoke,builtin,Sem.run_bind,Sem.run_pure,Result.andThen_ok,List.map_toArray,List.map_cons,List.map_nil,hs,hx,hr]
 refine hK _ _ (h v' w' h2 (fun e=>by have:=(h4.1 e).2;omega) h3 ?_)
 rw [show (W.alloc (.cells news.toArray e')).heap.size=W.heap.size+1 by simp] at h5
 exact h5
def NumsL (w:World) (l:List Int) (e:Ending) (w':World):Prop :=
 ∃ v,e = .returned v∧Own w' w.heap.size 3 1 v l.length (l.map (Value.int .i64))∧(∀ x∈l,(Lit.int .i64 x).wf=true)∧Below w.heap.size w w'
def numsTo (d n:Int) (Z:List Ent) (k:Nat):List Int:=[d,n]++numsE (Z.take k)
theorem numsTo_len (d n:Int) (Z:List Ent) (k:Nat) (h:k≤Z.length):(numsTo d n Z k).length=k*2+2:=by
 simp [numsTo,numsE_len,Nat.min_eq_left h]
theorem numsTo_next (d n:Int) (Z:List Ent) (k:Nat) (h:k < Z.length):numsTo d n Z (k+1)=numsTo d n Z k++[(Z.getD k (0,0)).1,(Z.getD k (0,0)).2]:=by
 simp only [numsTo,takeE_snoc Z k h,numsE_append,numsE,List.append_assoc]
theorem numsM_wf {x:Eff} (h1:WfE x.rds) (h2:WfE x.wrs) (hn:x.rds.length≤4000000):∀ n∈numsM x,(Lit.int .i64 n).wf=true:=by
 intro n hn'
 simp only [numsM,List.mem_cons] at hn'
 rcases hn' with rfl | rfl | hn'
 · unfold bitB;split <;> decide
 · exact WalkArith.wf_i64 (by omega)
 · obtain ⟨e,he,h⟩:=numsE_mem _ _ hn'
   have:WfE (x.rds++x.wrs):=fun f hf=>by
    rcases List.mem_append.1 hf with h | h
    · exact h1 f h
    · exact h2 f h
   rcases h with rfl | rfl
   · exact (this e he).1
   · exact (this e he).2
set_option maxRecDepth 100000 in
set_option maxHeartbeats 4000000 in
theorem numbers_impl (a1:Option Addr) (n1 c1:Nat) (a2:Option Addr) (n2 c2:Nat) (x:Eff) (w:World) (h:RowF w a1 n1 a2 n2 x) (hz1:a1=none→c1=0) (hz2:a2=none→c2=0) (hn:n1+n2≤1500000) :
  Calls Tryz.prog 201 #[.agg #[.bool x.done,.slice a1 n1 c1,.slice a2 n2 c2]] w (NumsL w (numsM x)):=by
 obtain ⟨dn,X,Y⟩:=x
 cases dn with
 | true =>
  have HWF:=Lib.hid (numsM_wf (x:=⟨true,X,Y⟩) h.1.2.2.2 h.2.2.2.2 (by have:=h.1.1;simp only at this ⊢;omega))
  have HNM:Hid (numsM ⟨true,X,Y⟩=numsTo 1 n1 (X++Y) (X++Y).length):=Lib.hid (by
   have:=h.1.1;simp only at this
   simp only [numsM,numsTo,List.take_length,bitB,this];rfl)
  have hlen:X.length=n1∧Y.length=n2:=⟨h.1.1,h.2.1⟩
  have ho:=(own_lit (w:=w.alloc (.cells #[.bool true,.slice a1 n1 c1,.slice a2 n2 c2] 178)) (B:=w.heap.size) 3 1 #[.int .i64 1,.int .i64 (n1:Int)] 2 (by simp) (by unfold maxLen;omega) rfl).1
  have hb0:=(((Below.refl w.heap.size w).alloc (Nat.le_refl _) (.cells #[.bool true,.slice a1 n1 c1,.slice a2 n2 c2] 178)).alloc (by simp) (.cells #[.int .i64 1,.int .i64 (n1:Int)] 3)).alloc (by simp;omega) (.cells #[.slice a1 n1 c1,.slice a2 n2 c2] 23)
  go_enter Tryz.func201,Tryz.ntmps201
  go_wp2_with fail
  have hc0:((((w.alloc (.cells #[.bool true,.slice a1 n1 c1,.slice a2 n2 c2] 178)).alloc (.cells #[.int .i64 1,.int .i64 (n1:Int)] 3)).alloc (.cells #[.slice a1 n1 c1,.slice a2 n2 c2] 23))).cell? ⟨w.heap.size+1+1,0,none⟩=some (.slice a1 n1 c1):=by simp [go_sem]
  have hc1:((((w.alloc (.cells #[.bool true,.slice a1 n1 c1,.slice a2 n2 c2] 178)).alloc (.cells #[.int .i64 1,.int .i64 (n1:Int)] 3)).alloc (.cells #[.slice a1 n1 c1,.slice a2 n2 c2] 23))).cell? ⟨w.heap.size+1+1,1,none⟩=some (.slice a2 n2 c2):=by simp [go_sem]
  have hsz:((((w.alloc (.cells #[.bool true,.slice a1 n1 c1,.slice a2 n2 c2] 178)).alloc (.cells #[.int .i64 1,.int .i64 (n1:Int)] 3)).alloc (.cells #[.slice a1 n1 c1,.slice a2 n2 c2] 23))).heap.size=w.heap.size+3:=by simp
  replace ho:=ho.alloc (.cells #[.slice a1 n1 c1,.slice a2 n2 c2] 23)
  rw [World.size_alloc] at ho
  have hr1:=h.1.below hb0
  have hr2:=h.2.below hb0
  obtain ⟨w3,hw3⟩:∃ w3,w3=(((w.alloc (.cells #[.bool true,.slice a1 n1 c1,.slice a2 n2 c2] 178)).alloc (.cells #[.int .i64 1,.int .i64 (n1:Int)] 3)).alloc (.cells #[.slice a1 n1 c1,.slice a2 n2 c2] 23)):=⟨_,rfl⟩
  rw [← hw3] at hb0 hc0 hc1 hsz ho hr1 hr2 ⊢
  have hs3:w.heap.size+3≤w3.heap.size:=by omega
  clear hw3 hsz
  refine (concat_any _ a1 n1 c1 a2 n2 c2 X Y _ hc0 hc1 hr1 hr2 hz1 hz2 (by omega)).mono ?_;rintro e w4 ⟨v4,rfl,ho4,hb4⟩
  have hzl:(X++Y).length=n1+n2:=by rw [List.length_append,hlen.1,hlen.2]
  obtain ⟨Z,hZ⟩:∃ Z,Z=X++Y:=⟨_,rfl⟩
  have hzw:WfE Z:=fun f hf=>by
   rw [hZ] at hf
   rcases List.mem_append.1 hf with h' | h'
   · exact h.1.2.2.2 f h'
   · exact h.2.2.2.2 f h'
  rw [← hZ] at ho4 HNM hzl
  have hb04:=hb0.trans (hb4.mono (by omega))
  have ho4':=owns_below ho hb4
  obtain ⟨ac,cc,rfl,hrow,-⟩:=rowE_of_owns ho4 (by omega) hzw
  have hne4:0 < Z.length→∀ b o,ac=some ⟨b,o,none⟩→Value.ownBlock (.slice (some ⟨w.heap.size+1,0,none⟩) 2 2)≠some b:=fun _ b o he hq=>by
   subst he
   have:=(ho4.lt b rfl).1
   simp [Value.ownBlock] at hq
   omega
  have hst:w4.ownsRow w.heap.size 3 1 (.slice (some ⟨w.heap.size+1,0,none⟩) 2 2) (0*2+2) ((numsTo 1 n1 Z 0).map (Value.int .i64)):=ho4'
  obtain ⟨L,hL⟩:∃ L,L=Z.length:=⟨_,rfl⟩
  have HLZ:=Lib.hid hL
  rw [← hL] at hrow hne4 hzl HNM ⊢
  have hLL:L≤1500000:=by omega
  clear hZ h ho hc0 hc1 hr1 hr2 hb0 hb4 ho4 ho4' hzw hlen hL hs3
  go_wp2
  go_loopw [3,5,21] (fun v _ i wr=>∃ k:Nat,k≤L∧i = .int .i64 k∧wr.ownsRow w.heap.size 3 1 v (k*2+2) ((numsTo 1 n1 Z k).map (Value.int .i64))∧v≠.slice none 0 0∧RowE wr ac L Z∧(0 < L→∀ b o,ac=some ⟨b,o,none⟩→v.ownBlock≠some b)∧Below w.heap.size w wr) (fun _ _ i _=>L - (intOf i).toNat)
  case atStart=>exact ⟨0,Nat.zero_le _,rfl,hst,by simp,hrow,hne4,hb04⟩
  case round =>
   clear hst hrow hne4 hb04
   obtain ⟨k,hk,rfl,hown,hnn,hrow,hne,hb⟩:=hrel
   by_cases hlt:k < L
   · obtain ⟨b,off,rfl,hc⟩:=hrow.2.2.1 (by omega)
     obtain ⟨hc1,hc2⟩:=hc k hlt
     have hne0:=hne (by omega) b off rfl
     have hbs:b < wr.heap.size:=World.block_lt_of_cell? wr ⟨b,off+k*2,none⟩ hc1
     have HN:=Lib.hid (numsTo_next 1 n1 Z k (by rw [← HLZ.out];exact hlt))
     have HRW:=Lib.hid hrow
     clear hc hrow hne
     obtain ⟨x,hx⟩:∃ x,x=(Z.getD k (0,0)).1:=⟨_,rfl⟩
     obtain ⟨y,hy⟩:∃ y,y=(Z.getD k (0,0)).2:=⟨_,rfl⟩
     rw [← hx] at hc1 HN
     rw [← hy] at hc2 HN
     clear hx hy
     have hbe:=hb.alloc hb.size (.cells #[.int .i64 x,.int .i64 y] 142)
     go_wp2_with (first | (at_builtin;refine wpList_append_lit (W:=wr.alloc (.cells #[.int .i64 x,.int .i64 y] 142)) rfl _ _ 25 rfl w.heap.size 3 3 (.int .i64 0) 1 8 2 Tryz.underlying25 infoInt rfl (by decide) _ (k*2+2) _ [.int .i64 x,.int .i64 y] (by rfl) (hown.alloc (.cells #[.int .i64 x,.int .i64 y] 142)) (by simp [Act.eval]) rfl ?c11 (by decide) ?c21 (by decide) ?c31 ?_))
     case c11=>intro u hu;simp at hu;rcases hu with rfl | rfl <;> rfl
     case c21=>omega
     case c31=>exact hbe.size
     intro v2 w2 ho2 hnn2 hg2 hat
     have hal:=(Below.refl wr.heap.size wr).alloc (Nat.le_refl _) (.cells #[.int .i64 x,.int .i64 y] 142)
     have hal2:=hal.alloc hal.size (.cells #[.int .i64 x,.int .i64 y] 3)
     have hr2:=rowE_kept (HRW.out.below hal2) hg2 (fun _ b' o' he=>by simp at he;obtain ⟨rfl,rfl⟩:=he;exact fun e=>hne0 e.symm)
     have hb2:=(hbe.alloc hbe.size (.cells #[.int .i64 x,.int .i64 y] 3)).grown hg2 (by have:=hbe.size;simp at this ⊢;omega) (fun q hq=>(hown.lt q hq).1)
     have hne2:0 < L→∀ b' o',(some ⟨b,off,none⟩:Option Addr)=some ⟨b',o',none⟩→v2.ownBlock≠some b':=fun _ b' o' he=>by
      simp at he;obtain ⟨rfl,rfl⟩:=he
      rcases hat with e | e
      · rw [e];exact hne0
      · rw [e];simp;omega
     have HO2:=Lib.hid ho2
     clear hal hal2 hg2 hat hbe hown hb ho2
     go_wp2
     go_roundw
     case rel=>exact ⟨k+1,by omega,by go_num,by have hq:=HO2.out;rw [show k*2+2+2=(k+1)*2+2 by omega] at hq;rw [HN.out,List.map_append];exact hq,hnn2,hr2,hne2,hb2⟩
     case measure=>simp [intOf];omega
   · obtain rfl:k=L:=by omega
     have hnl:=numsTo_len 1 n1 Z k (by rw [← HLZ.out];exact Nat.le_refl _)
     have HNL:=Lib.hid hnl
     clear hrow hne hnl
     go_wp2
     go_ret
     exact ⟨_,rfl,by rw [HNM.out,HNL.out];exact ⟨hown,hnn⟩,HWF.out,hb⟩
 | false =>
  have HWF:=Lib.hid (numsM_wf (x:=⟨false,X,Y⟩) h.1.2.2.2 h.2.2.2.2 (by have:=h.1.1;simp only at this ⊢;omega))
  have HNM:Hid (numsM ⟨false,X,Y⟩=numsTo 0 n1 (X++Y) (X++Y).length):=Lib.hid (by
   have:=h.1.1;simp only at this
   simp only [numsM,numsTo,List.take_length,bitB,this];rfl)
  have hlen:X.length=n1∧Y.length=n2:=⟨h.1.1,h.2.1⟩
  have ho:=(own_lit (w:=w.alloc (.cells #[.bool false,.slice a1 n1 c1,.slice a2 n2 c2] 178)) (B:=w.heap.size) 3 1 #[.int .i64 0,.int .i64 (n1:Int)] 2 (by simp) (by unfold maxLen;omega) rfl).1
  have hb0:=(((Below.refl w.heap.size w).alloc (Nat.le_refl _) (.cells #[.bool false,.slice a1 n1 c1,.slice a2 n2 c2] 178)).alloc (by simp) (.cells #[.int .i64 0,.int .i64 (n1:Int)] 3)).alloc (by simp;omega) (.cells #[.slice a1 n1 c1,.slice a2 n2 c2] 23)
  go_enter Tryz.func201,Tryz.ntmps201
  go_wp2_with fail
  have hc0:((((w.alloc (.cells #[.bool false,.slice a1 n1 c1,.slice a2 n2 c2] 178)).alloc (.cells #[.int .i64 0,.int .i64 (n1:Int)] 3)).alloc (.cells #[.slice a1 n1 c1,.slice a2 n2 c2] 23))).cell? ⟨w.heap.size+1+1,0,none⟩=some (.slice a1 n1 c1):=by simp [go_sem]
  have hc1:((((w.alloc (.cells #[.bool false,.slice a1 n1 c1,.slice a2 n2 c2] 178)).alloc (.cells #[.int .i64 0,.int .i64 (n1:Int)] 3)).alloc (.cells #[.slice a1 n1 c1,.slice a2 n2 c2] 23))).cell? ⟨w.heap.size+1+1,1,none⟩=some (.slice a2 n2 c2):=by simp [go_sem]
  have hsz:((((w.alloc (.cells #[.bool false,.slice a1 n1 c1,.slice a2 n2 c2] 178)).alloc (.cells #[.int .i64 0,.int .i64 (n1:Int)] 3)).alloc (.cells #[.slice a1 n1 c1,.slice a2 n2 c2] 23))).heap.size=w.heap.size+3:=by simp
  replace ho:=ho.alloc (.cells #[.slice a1 n1 c1,.slice a2 n2 c2] 23)
  rw [World.size_alloc] at ho
  have hr1:=h.1.below hb0
  have hr2:=h.2.below hb0
  obtain ⟨w3,hw3⟩:∃ w3,w3=(((w.alloc (.cells #[.bool false,.slice a1 n1 c1,.slice a2 n2 c2] 178)).alloc (.cells #[.int .i64 0,.int .i64 (n1:Int)] 3)).alloc (.cells #[.slice a1 n1 c1,.slice a2 n2 c2] 23)):=⟨_,rfl⟩
  rw [← hw3] at hb0 hc0 hc1 hsz ho hr1 hr2 ⊢
  have hs3:w.heap.size+3≤w3.heap.size:=by omega
  clear hw3 hsz
  refine (concat_any _ a1 n1 c1 a2 n2 c2 X Y _ hc0 hc1 hr1 hr2 hz1 hz2 (by omega)).mono ?_;rintro e w4 ⟨v4,rfl,ho4,hb4⟩
  have hzl:(X++Y).length=n1+n2:=by rw [List.length_append,hlen.1,hlen.2]
  obtain ⟨Z,hZ⟩:∃ Z,Z=X++Y:=⟨_,rfl⟩
  have hzw:WfE Z:=fun f hf=>by
   rw [hZ] at hf
   rcases List.mem_append.1 hf with h' | h'
   · exact h.1.2.2.2 f h'
   · exact h.2.2.2.2 f h'
  rw [← hZ] at ho4 HNM hzl
  have hb04:=hb0.trans (hb4.mono (by omega))
  have ho4':=owns_below ho hb4
  obtain ⟨ac,cc,rfl,hrow,-⟩:=rowE_of_owns ho4 (by omega) hzw
  have hne4:0 < Z.length→∀ b o,ac=some ⟨b,o,none⟩→Value.ownBlock (.slice (some ⟨w.heap.size+1,0,none⟩) 2 2)≠some b:=fun _ b o he hq=>by
   subst he
   have:=(ho4.lt b rfl).1
   simp [Value.ownBlock] at hq
   omega
  have hst:w4.ownsRow w.heap.size 3 1 (.slice (some ⟨w.heap.size+1,0,none⟩) 2 2) (0*2+2) ((numsTo 0 n1 Z 0).map (Value.int .i64)):=ho4'
  obtain ⟨L,hL⟩:∃ L,L=Z.length:=⟨_,rfl⟩
  have HLZ:=Lib.hid hL
  rw [← hL] at hrow hne4 hzl HNM ⊢
  have hLL:L≤1500000:=by omega
  clear hZ h ho hc0 hc1 hr1 hr2 hb0 hb4 ho4 ho4' hzw hlen hL hs3
  go_wp2
  go_loopw [3,5,21] (fun v _ i wr=>∃ k:Nat,k≤L∧i = .int .i64 k∧wr.ownsRow w.heap.size 3 1 v (k*2+2) ((numsTo 0 n1 Z k).map (Value.int .i64))∧v≠.slice none 0 0∧RowE wr ac L Z∧(0 < L→∀ b o,ac=some ⟨b,o,none⟩→v.ownBlock≠some b)∧Below w.heap.size w wr) (fun _ _ i _=>L - (intOf i).toNat)
  case atStart=>exact ⟨0,Nat.zero_le _,rfl,hst,by simp,hrow,hne4,hb04⟩
  case round =>
   clear hst hrow hne4 hb04
   obtain ⟨k,hk,rfl,hown,hnn,hrow,hne,hb⟩:=hrel
   by_cases hlt:k < L
   · obtain ⟨b,off,rfl,hc⟩:=hrow.2.2.1 (by omega)
     obtain ⟨hc1,hc2⟩:=hc k hlt
     have hne0:=hne (by omega) b off rfl
     have hbs:b < wr.heap.size:=World.block_lt_of_cell? wr ⟨b,off+k*2,none⟩ hc1
     have HN:=Lib.hid (numsTo_next 0 n1 Z k (by rw [← HLZ.out];exact hlt))
     have HRW:=Lib.hid hrow
     clear hc hrow hne
     obtain ⟨x,hx⟩:∃ x,x=(Z.getD k (0,0)).1:=⟨_,rfl⟩
     obtain ⟨y,hy⟩:∃ y,y=(Z.getD k (0,0)).2:=⟨_,rfl⟩
     rw [← hx] at hc1 HN
     rw [← hy] at hc2 HN
     clear hx hy
     have hbe:=hb.alloc hb.size (.cells #[.int .i64 x,.int .i64 y] 142)
     go_wp2_with (first | (at_builtin;refine wpList_append_lit (W:=wr.alloc (.cells #[.int .i64 x,.int .i64 y] 142)) rfl _ _ 25 rfl w.heap.size 3 3 (.int .i64 0) 1 8 2 Tryz.underlying25 infoInt rfl (by decide) _ (k*2+2) _ [.int .i64 x,.int .i64 y] (by rfl) (hown.alloc (.cells #[.int .i64 x,.int .i64 y] 142)) (by simp [Act.eval]) rfl ?c11 (by decide) ?c21 (by decide) ?c31 ?_))
     case c11=>intro u hu;simp at hu;rcases hu with rfl | rfl <;> rfl
     case c21=>omega
     case c31=>exact hbe.size
     intro v2 w2 ho2 hnn2 hg2 hat
     have hal:=(Below.refl wr.heap.size wr).alloc (Nat.le_refl _) (.cells #[.int .i64 x,.int .i64 y] 142)
     have hal2:=hal.alloc hal.size (.cells #[.int .i64 x,.int .i64 y] 3)
     have hr2:=rowE_kept (HRW.out.below hal2) hg2 (fun _ b' o' he=>by simp at he;obtain ⟨rfl,rfl⟩:=he;exact fun e=>hne0 e.symm)
     have hb2:=(hbe.alloc hbe.size (.cells #[.int .i64 x,.int .i64 y] 3)).grown hg2 (by have:=hbe.size;simp at this ⊢;omega) (fun q hq=>(hown.lt q hq).1)
     have hne2:0 < L→∀ b' o',(some ⟨b,off,none⟩:Option Addr)=some ⟨b',o',none⟩→v2.ownBlock≠some b':=fun _ b' o' he=>by
      simp at he;obtain ⟨rfl,rfl⟩:=he
      rcases hat with e | e
      · rw [e];exact hne0
      · rw [e];simp;omega
     have HO2:=Lib.hid ho2
     clear hal hal2 hg2 hat hbe hown hb ho2
     go_wp2
     go_roundw
     case rel=>exact ⟨k+1,by omega,by go_num,by have hq:=HO2.out;rw [show k*2+2+2=(k+1)*2+2 by omega] at hq;rw [HN.out,List.map_append];exact hq,hnn2,hr2,hne2,hb2⟩
     case measure=>simp [intOf];omega
   · obtain rfl:k=L:=by omega
     have hnl:=numsTo_len 0 n1 Z k (by rw [← HLZ.out];exact Nat.le_refl _)
     have HNL:=Lib.hid hnl
     clear hrow hne hnl
     go_wp2
     go_ret
     exact ⟨_,rfl,by rw [HNM.out,HNL.out];exact ⟨hown,hnn⟩,HWF.out,hb⟩
theorem effectSum_impl (a1:Option Addr) (n1 c1:Nat) (a2:Option Addr) (n2 c2:Nat) (x:Eff) (w:World) (h:RowF w a1 n1 a2 n2 x) (hz1:a1=none→c1=0) (hz2:a2=none→c2=0) (hn:n1+n2≤1500000) :
  Calls Tryz.prog 193 #[.agg #[.bool x.done,.slice a1 n1 c1,.slice a2 n2 c2]] w (IntB (effSumM x) w):=by
 have hb0:=(Below.refl w.heap.size w).alloc (Nat.le_refl _) (.cells #[.bool x.done,.slice a1 n1 c1,.slice a2 n2 c2] 178)
 have HR:=Lib.hid (h.below hb0)
 have hnl:(numsM x).length≤4000000:=by
  have:=h.1.1;have:=h.2.1
  simp only [numsM,List.length_cons,numsE_len,List.length_append];omega
 clear h
 go_enter Tryz.func193,Tryz.ntmps193
 go_wp2_with fail
 refine (numbers_impl a1 n1 c1 a2 n2 c2 x _ HR.out hz1 hz2 hn).mono ?_;rintro e w1 ⟨v,rfl,ho,hw,hb1⟩
 obtain ⟨g,c,rfl,-,-,hr⟩:=rowI_of_own ho hnl hw
 have hb:=hb0.trans (hb1.mono hb0.size)
 have HES:Hid (sumOfM 3 (numsM x)=effSumM x):=Lib.hid rfl
 obtain ⟨l,hl⟩:∃ l,l=numsM x:=⟨_,rfl⟩
 rw [← hl] at hr HES ⊢
 clear hl ho hw hb0 hb1 hnl
 go_wp2_with fail
 refine (sumOf_impl 3 _ _ c l _ hr).mono ?_;rintro e w' ⟨rfl,rfl⟩
 go_wp2
 go_ret
 exact ⟨by rw [HES.out];rfl,hb⟩
end Go.Proofs.YtpnjgmgmakmgeaaGreat
