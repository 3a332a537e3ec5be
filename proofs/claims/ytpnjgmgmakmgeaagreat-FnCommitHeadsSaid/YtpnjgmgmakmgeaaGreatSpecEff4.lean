/- The contract of the model's EffectSum. -/
import Derived.Test.YtpnjgmgmakmgeaaGreatImplNum
import Derived.Test.YtpnjgmgmakmgeaaGreatOne
import Derived.Deep.RegionHeld3
namespace Go.Proofs.YtpnjgmgmakmgeaaGreat
open Go.RowKit
set_option linter.unusedVariables false
theorem below_ch {B G o:Nat} {w w':World} {v:Value} (hb:Below B w w') (hG:G < B) (hc:w.cell? ⟨G,o,none⟩=some v):w'.cell? ⟨G,o,none⟩=some v:=(hb.cell (p:=⟨G,o,none⟩) hG).trans hc
theorem step_lit {P:Program} {W:World} {ops:Array Oper} {o:Oper} {a:Act} {K:Act→World→Prop} {Q:Exit→Act→World→Prop} {E:Prop} (hgd:o.guard=none) (s x:Operand) (t:TypeId)
  (ho:o.op = .call { callee:=.builtin .append,args:=#[s,x],argTypes:=#[t,t] })
  (B:Nat) (e e':TypeId) (z:Value) (size bytes m:Nat) (ht:P.underlying t=some (.slice e)) (hinfo:(P.info? e).map (fun i=>(i.zero,i.size,i.bytes))=some (some z,size,bytes))
  (hzs:z.cells.size=size) (hsz:0 < size)
  (v:Value) (n:Nat) (xs news:List Value) (hs:a.eval s=v) (hown:W.ownsRow B e size v n xs) (hx:a.eval x = .slice (some ⟨W.heap.size,0,none⟩) m m)
  (hl:news.length=m*size) (h1:∀ u∈news,u.oneCell'=true) (hm:0 < m)
  (hn:n+m≤4000000) (hby:bytes≤100000) (hbase:B≤W.heap.size)
  (h:∀ v' w',w'.ownsRow B e size v' (n+m) (xs++news)→v'≠.slice none 0 0→(W.alloc (.cells news.toArray e')).grownBy w' v.ownBlock→K (a.put o.dst v') w') :
  if Region.wanted o (yielded ops a.tmps)=true then Oper.wp P o a (W.alloc (.cells news.toArray e')) K Q else E:=by
 have hw:Region.wanted o (yielded ops a.tmps)=true:=by simp [Region.wanted,hgd]
 rw [if_pos hw]
 obtain ⟨i0,hi,hz0,hz1,hz2⟩:=info_parts hinfo
 have hcell:∀ j u,news[j]? = some u→(W.alloc (.cells news.toArray e')).cell? ((⟨W.heap.size,0,none⟩:Addr).add j)=some u:=by
  intro j u hu
  rw [show (⟨W.heap.size,0,none⟩:Addr).add j=⟨W.heap.size,j,none⟩ by unfold Addr.add;split <;> simp_all]
  rw [cell_of_row (W.alloc (.cells news.toArray e')) W.heap.size j news.toArray e' (0,0) (heap_alloc_new W _)]
  rw [List.getElem?_toArray];exact hu
 have hbytes:(n+m)*bytes≤140737488355328:=by
  calc (n+m)*bytes≤4000000*100000:=Nat.mul_le_mul hn hby
   _≤140737488355328:=by decide
 obtain ⟨v',w',hr,h2,h3,h4,h5⟩:=run_append_own_at (P:=P) (W.alloc (.cells news.toArray e')) B t o.type e i0 z size bytes ht hi hz0 hz1 hz2 hzs hsz v n xs (hown.alloc _) ⟨W.heap.size,0,none⟩ m m news hl hcell h1 (by unfold maxLen;omega) hbytes (by simp;omega)
 unfold Oper.wp execOp
 simp only [ho,resolve,invoke,builtin,Sem.run_bind,Sem.run_pure,Result.andThen_ok,List.map_toArray,List.map_cons,List.map_nil,hs,hx,hr]
 exact h v' w' h2 (fun e=>by have:=(h4.1 e).2;omega) h3
theorem step_litd {P:Program} {W:World} {ops:Array Oper} {o:Oper} {a:Act} {K:Act→World→Prop} {Q:Exit→Act→World→Prop} {E:Prop} (hgd:o.guard=none) (s x:Operand) (t:TypeId)
  (ho:o.op = .call { callee:=.builtin .append,args:=#[s,x],argTypes:=#[t,t] })
  (B:Nat) (e e':TypeId) (z:Value) (size bytes m:Nat) (ht:P.underlying t=some (.slice e)) (hinfo:(P.info? e).map (fun i=>(i.zero,i.size,i.bytes))=some (some z,size,bytes))
  (hzs:z.cells.size=size) (hsz:0 < size)
  (v:Value) (n:Nat) (xs news:List Value) (hs:a.eval s=v) (hown:W.ownsRow B e size v n xs) (hx:a.eval x = .slice (some ⟨W.heap.size,0,none⟩) m m)
  (hl:news.length=m*size) (h1:∀ u∈news,u.oneCell'=true) (hm:0 < m)
  (hn:n+m≤4000000) (hby:bytes≤100000) (hbase:B≤W.heap.size)
  (h:∀ v' w',w'.ownsRow B e size v' (n+m) (xs++news)→v'≠.slice none 0 0→(W.alloc (.cells news.toArray e')).grownBy w' v.ownBlock→K (a.put o.dst v') w') :
  if Region.wanted o (yielded ops a.tmps)=true then Oper.wp P o a (W.alloc (.cells news.toArray e')).drew K Q else E :=
 step_lit (W:=W.drew) hgd s x t ho B e e' z size bytes m ht hinfo hzs hsz v n xs news hs hown hx hl h1 hm hn hby hbase
  (fun v' w' g1 g2 g3=>h v' w' g1 g2 (grown_undrew g3))
theorem rowE_lt4 {w:World} {a:Option Addr} {n:Nat} {l:List Ent} (h:RowE w a n l) (h0:0 < n) (b o:Nat) (he:a=some ⟨b,o,none⟩):b < w.heap.size:=by
 obtain ⟨b',o',he',hc⟩:=h.2.2.1 h0
 rw [he] at he';simp only [Option.some.injEq,Addr.mk.injEq] at he'
 rw [he'.1];exact World.block_lt_of_cell? w ⟨b',o'+0*2,none⟩ (hc 0 h0).1
theorem numsTo_left (d n:Int) (R W:List Ent) (k:Nat) (h:k < R.length):numsTo d n (R++W) (k+1)=numsTo d n (R++W) k++[(R.getD k (0,0)).1,(R.getD k (0,0)).2]:=by
 rw [numsTo_next d n (R++W) k (by rw [List.length_append];omega)]
 rw [show (R++W).getD k (0,0)=R.getD k (0,0) by rw [List.getD_eq_getElem?_getD,List.getD_eq_getElem?_getD,List.getElem?_append_left h]]
theorem numsTo_right (d n:Int) (R W:List Ent) (k:Nat) (h:k < W.length):numsTo d n (R++W) (R.length+k+1)=numsTo d n (R++W) (R.length+k)++[(W.getD k (0,0)).1,(W.getD k (0,0)).2]:=by
 rw [numsTo_next d n (R++W) (R.length+k) (by rw [List.length_append];omega)]
 rw [show (R++W).getD (R.length+k) (0,0)=W.getD k (0,0) by rw [List.getD_eq_getElem?_getD,List.getD_eq_getElem?_getD,List.getElem?_append_right (by omega),Nat.add_sub_cancel_left]]
set_option maxRecDepth 100000 in
set_option maxHeartbeats 8000000 in
theorem effectSum_spec (a1:Option Addr) (n1 c1:Nat) (a2:Option Addr) (n2 c2:Nat) (x:Eff) (w:World) (h:RowF w a1 n1 a2 n2 x) (hn:n1+n2≤1500000) :
  Calls Tryz.prog 171 #[.agg #[.bool x.done,.slice a1 n1 c1,.slice a2 n2 c2]] w (IntB (effSumM x) w):=by
 obtain ⟨dn,R,W⟩:=x
 have HWF:=Lib.hid (numsM_wf (x:=⟨dn,R,W⟩) h.1.2.2.2 h.2.2.2.2 (by have:=h.1.1;simp only at this ⊢;omega))
 have H1:=Lib.hid h.1
 have H2:=Lib.hid h.2
 have hR:R.length=n1:=h.1.1
 have hW:W.length=n2:=h.2.1
 have HR:=Lib.hid hR
 have HW:=Lib.hid hW
 clear h hR hW
 cases dn with
 | true =>
  have HNM:Hid (numsM ⟨true,R,W⟩=numsTo 1 n1 (R++W) (n1+n2)):=Lib.hid (by
   rw [← HR.out,← HW.out,← List.length_append]
   simp only [numsM,numsTo,List.take_length,bitB];rfl)
  have hc1:((w.alloc (.cells #[.bool true,.slice a1 n1 c1,.slice a2 n2 c2] 178)).alloc (.cells #[.int .i64 1,.int .i64 (n1:Int)] 3)).cell? ⟨w.heap.size,1,none⟩=some (.slice a1 n1 c1):=by simp [go_sem]
  have hc2:((w.alloc (.cells #[.bool true,.slice a1 n1 c1,.slice a2 n2 c2] 178)).alloc (.cells #[.int .i64 1,.int .i64 (n1:Int)] 3)).cell? ⟨w.heap.size,2,none⟩=some (.slice a2 n2 c2):=by simp [go_sem]
  have ho:=(own_lit (w:=w.alloc (.cells #[.bool true,.slice a1 n1 c1,.slice a2 n2 c2] 178)) (B:=w.heap.size+1) 3 1 #[.int .i64 1,.int .i64 (n1:Int)] 2 (by simp) (by unfold maxLen;omega) rfl)
  have hbw:=((Below.refl w.heap.size w).alloc (Nat.le_refl _) (.cells #[.bool true,.slice a1 n1 c1,.slice a2 n2 c2] 178)).alloc (by simp) (.cells #[.int .i64 1,.int .i64 (n1:Int)] 3)
  have hsz:w.heap.size+1≤((w.alloc (.cells #[.bool true,.slice a1 n1 c1,.slice a2 n2 c2] 178)).alloc (.cells #[.int .i64 1,.int .i64 (n1:Int)] 3)).heap.size:=by simp
  go_enter Tryz.func171,Tryz.ntmps171
  go_wp2
  rw [World.size_alloc] at ho
  obtain ⟨w3,hw3⟩:∃ w3,w3=(w.alloc (.cells #[.bool true,.slice a1 n1 c1,.slice a2 n2 c2] 178)).alloc (.cells #[.int .i64 1,.int .i64 (n1:Int)] 3):=⟨_,rfl⟩
  rw [← hw3] at hc1 hc2 ho hbw hsz ⊢
  clear hw3
  have hst:w3.ownsRow (w.heap.size+1) 3 1 (.slice (some ⟨w.heap.size+1,0,none⟩) 2 2) (0*2+2) ((numsTo 1 n1 (R++W) 0).map (Value.int .i64)):=ho.1
  obtain ⟨X,hX⟩:∃ X,X=w.heap.size:=⟨_,rfl⟩
  have HX:=Lib.hid hX
  rw [show w.heap.size+1=X+1 by rw [hX]] at hst hsz
  rw [← hX] at hc1 hc2 ⊢
  clear hX ho
  go_loopw [3,4] (fun v i wr=>∃ k:Nat,k≤n1∧i = .int .i64 k∧wr.ownsRow (X+1) 3 1 v (k*2+2) ((numsTo 1 n1 (R++W) k).map (Value.int .i64))∧v≠.slice none 0 0∧Below (X+1) w3 wr) (fun _ i _=>n1 - (intOf i).toNat)
  case atStart=>exact ⟨0,Nat.zero_le _,rfl,hst,by simp,Below.refl _ _⟩
  case round =>
   clear hst
   obtain ⟨k,hk,rfl,hown,hnn,hb⟩:=hrel
   have d1:=below_ch hb (Nat.lt_succ_self X) hc1
   have d2:=below_ch hb (Nat.lt_succ_self X) hc2
   have hbwr:=hbw.trans (hb.mono (by rw [HX.out];omega))
   by_cases hlt:k < n1
   · have hr:=H1.out.below hbwr
     obtain ⟨b',of,rfl,hcc⟩:=hr.2.2.1 (by omega)
     obtain ⟨e1,e2⟩:=hcc k hlt
     have hbl:b' < wr.heap.size:=World.block_lt_of_cell? wr ⟨b',of+k*2,none⟩ e1
     have hwb:=rowE_lt4 H1.out (by omega) b' of rfl
     have HN:=Lib.hid (numsTo_left 1 n1 R W k (by rw [HR.out];exact hlt))
     clear hcc hr
     obtain ⟨p,hp⟩:∃ p,p=(R.getD k (0,0)).1:=⟨_,rfl⟩
     obtain ⟨y,hy⟩:∃ y,y=(R.getD k (0,0)).2:=⟨_,rfl⟩
     rw [← hp] at e1 HN
     rw [← hy] at e2 HN
     clear hp hy
     have hX1:X < X+1:=Nat.lt_succ_self X
     have hXw:X+1≤wr.heap.size:=Nat.le_trans hsz hb.size
     have hbX:b' < X+1:=by rw [HX.out];omega
     have q1:(0:Int)≤(k:Int):=by omega
     have q2:(k:Int) < (n1:Int):=by omega
     have hcA:=below_ch ((Below.refl (X+1) wr).alloc hXw (.cells #[.int .i64 p,.int .i64 y] 3)) hX1 d1
     have hs1:=World.new_ne wr
     go_wp2_with fail
     go_region_held3 (fun w'=>w'.cell? ⟨X,1,none⟩=some (.slice (some ⟨b',of,none⟩) n1 c1)∧w'.cell? ⟨b',of+k*2,none⟩=some (.int .i64 p)∧w'.cell? ⟨b',of+k*2+1,none⟩=some (.int .i64 y)) (first | exact ⟨d1,e1,e2⟩ | exact ⟨g1,g2,g3⟩ | exact ⟨below_ch (Below.refl (X+1) wr |>.alloc hXw _) hX1 d1,below_ch (Below.refl (X+1) wr |>.alloc hXw _) hbX e1,below_ch (Below.refl (X+1) wr |>.alloc hXw _) hbX e2⟩ | go_keep)
      (first | (refine step_lit rfl (.tmp 21) (.tmp 34) 25 (by rfl) (X+1) 3 _ (.int .i64 0) 1 8 2 Tryz.underlying25 infoInt rfl (by decide) _ (k*2+2) _ [.int .i64 p,.int .i64 y] (by rfl) hown (by rfl) rfl (by intro u hu;simp at hu;rcases hu with rfl | rfl <;> rfl) (by decide) (by omega) (by decide) hXw ?_;intro v2 w2 ho2 hnn2 hg2;have hb2:Below (X+1) wr w2:=((Below.refl (X+1) wr).alloc hXw _).grown hg2 (by simp;omega) (fun q hq=>(hown.lt q hq).1);have g1:=below_ch hb2 hX1 d1;have g2:=below_ch hb2 hbX e1;have g3:=below_ch hb2 hbX e2) | (refine step_litd rfl (.tmp 21) (.tmp 34) 25 (by rfl) (X+1) 3 _ (.int .i64 0) 1 8 2 Tryz.underlying25 infoInt rfl (by decide) _ (k*2+2) _ [.int .i64 p,.int .i64 y] (by rfl) hown (by rfl) rfl (by intro u hu;simp at hu;rcases hu with rfl | rfl <;> rfl) (by decide) (by omega) (by decide) hXw ?_;intro v2 w2 ho2 hnn2 hg2;have hb2:Below (X+1) wr w2:=((Below.refl (X+1) wr).alloc hXw _).grown hg2 (by simp;omega) (fun q hq=>(hown.lt q hq).1);have g1:=below_ch hb2 hX1 d1;have g2:=below_ch hb2 hbX e1;have g3:=below_ch hb2 hbX e2))
     all_goals
      have HO2:=Lib.hid ho2
      have HB2:=Lib.hid (hb.trans hb2)
      clear ho2 hg2 hb2 hown hb g1 g2 g3 e1 e2 d1 d2 hcA
      go_wp2
      go_roundw
      case rel=>exact ⟨k+1,by omega,by go_num,by have hq:=HO2.out;rw [show k*2+2+2=(k+1)*2+2 by omega] at hq;rw [HN.out,List.map_append];exact hq,hnn2,HB2.out⟩
      case measure=>simp [intOf];omega
   · obtain rfl:k=n1:=by omega
     have HOW:=Lib.hid hown
     have HBB:=Lib.hid hb
     clear hown hb hbwr
     go_wp2
     obtain ⟨wo,hwo⟩:∃ wo,wo=wr:=⟨wr,rfl⟩
     subst hwo
     go_loopw [3,5] (fun v i wr=>∃ j:Nat,j≤n2∧i = .int .i64 j∧wr.ownsRow (X+1) 3 1 v ((k+j)*2+2) ((numsTo 1 k (R++W) (k+j)).map (Value.int .i64))∧v≠.slice none 0 0∧Below (X+1) w3 wr) (fun _ i _=>n2 - (intOf i).toNat)
     case atStart=>exact ⟨0,Nat.zero_le _,rfl,HOW.out,hnn,HBB.out⟩
     case round =>
      clear d1 d2 hnn hlt hk
      obtain ⟨j,hj,rfl,hown,hnn,hb⟩:=hrel
      have d1:=below_ch hb (Nat.lt_succ_self X) hc1
      have d2:=below_ch hb (Nat.lt_succ_self X) hc2
      have hbwr:=hbw.trans (hb.mono (by rw [HX.out];omega))
      by_cases hlt:j < n2
      · have hr:=H2.out.below hbwr
        obtain ⟨b',of,rfl,hcc⟩:=hr.2.2.1 (by omega)
        obtain ⟨e1,e2⟩:=hcc j hlt
        have hbl:b' < wr.heap.size:=World.block_lt_of_cell? wr ⟨b',of+j*2,none⟩ e1
        have hwb:=rowE_lt4 H2.out (by omega) b' of rfl
        have HN:=Lib.hid ((by have hq:=numsTo_right 1 k R W j (by rw [HW.out];exact hlt);rw [HR.out] at hq;exact hq:numsTo 1 k (R++W) (k+j+1)=numsTo 1 k (R++W) (k+j)++[(W.getD j (0,0)).1,(W.getD j (0,0)).2]))
        clear hcc hr
        obtain ⟨p,hp⟩:∃ p,p=(W.getD j (0,0)).1:=⟨_,rfl⟩
        obtain ⟨y,hy⟩:∃ y,y=(W.getD j (0,0)).2:=⟨_,rfl⟩
        rw [← hp] at e1 HN
        rw [← hy] at e2 HN
        clear hp hy
        have hX1:X < X+1:=Nat.lt_succ_self X
        have hXw:X+1≤wr.heap.size:=Nat.le_trans hsz hb.size
        have hbX:b' < X+1:=by rw [HX.out];omega
        have q1:(0:Int)≤(j:Int):=by omega
        have q2:(j:Int) < (n2:Int):=by omega
        have hcA:=below_ch ((Below.refl (X+1) wr).alloc hXw (.cells #[.int .i64 p,.int .i64 y] 3)) hX1 d2
        have hs1:=World.new_ne wr
        go_wp2_with fail
        go_region_held3 (fun w'=>w'.cell? ⟨X,2,none⟩=some (.slice (some ⟨b',of,none⟩) n2 c2)∧w'.cell? ⟨b',of+j*2,none⟩=some (.int .i64 p)∧w'.cell? ⟨b',of+j*2+1,none⟩=some (.int .i64 y)) (first | exact ⟨d2,e1,e2⟩ | exact ⟨g1,g2,g3⟩ | exact ⟨below_ch (Below.refl (X+1) wr |>.alloc hXw _) hX1 d2,below_ch (Below.refl (X+1) wr |>.alloc hXw _) hbX e1,below_ch (Below.refl (X+1) wr |>.alloc hXw _) hbX e2⟩ | go_keep)
         (first | (refine step_lit rfl (.tmp 43) (.tmp 56) 25 (by rfl) (X+1) 3 _ (.int .i64 0) 1 8 2 Tryz.underlying25 infoInt rfl (by decide) _ ((k+j)*2+2) _ [.int .i64 p,.int .i64 y] (by rfl) hown (by rfl) rfl (by intro u hu;simp at hu;rcases hu with rfl | rfl <;> rfl) (by decide) (by omega) (by decide) hXw ?_;intro v2 w2 ho2 hnn2 hg2;have hb2:Below (X+1) wr w2:=((Below.refl (X+1) wr).alloc hXw _).grown hg2 (by simp;omega) (fun q hq=>(hown.lt q hq).1);have g1:=below_ch hb2 hX1 d2;have g2:=below_ch hb2 hbX e1;have g3:=below_ch hb2 hbX e2) | (refine step_litd rfl (.tmp 43) (.tmp 56) 25 (by rfl) (X+1) 3 _ (.int .i64 0) 1 8 2 Tryz.underlying25 infoInt rfl (by decide) _ ((k+j)*2+2) _ [.int .i64 p,.int .i64 y] (by rfl) hown (by rfl) rfl (by intro u hu;simp at hu;rcases hu with rfl | rfl <;> rfl) (by decide) (by omega) (by decide) hXw ?_;intro v2 w2 ho2 hnn2 hg2;have hb2:Below (X+1) wr w2:=((Below.refl (X+1) wr).alloc hXw _).grown hg2 (by simp;omega) (fun q hq=>(hown.lt q hq).1);have g1:=below_ch hb2 hX1 d2;have g2:=below_ch hb2 hbX e1;have g3:=below_ch hb2 hbX e2))
        all_goals
         have HO2:=Lib.hid ho2
         have HB2:=Lib.hid (hb.trans hb2)
         clear ho2 hg2 hb2 hown hb g1 g2 g3 e1 e2 d1 d2 hcA
         go_wp2
         go_roundw
         case rel=>exact ⟨j+1,by omega,by go_num,by have hq:=HO2.out;rw [show (k+j)*2+2+2=(k+(j+1))*2+2 by omega] at hq;rw [show k+(j+1)=k+j+1 by omega,HN.out,List.map_append];exact hq,hnn2,HB2.out⟩
         case measure=>simp [intOf];omega
      · obtain rfl:j=n2:=by omega
        have hl:=numsTo_len 1 k (R++W) (k+j) (by rw [List.length_append,HR.out,HW.out];exact Nat.le_refl _)
        have hw':=HWF.out
        rw [HNM.out] at hw'
        have HSM:Hid (effSumM ⟨true,R,W⟩=sumOfM 3 (numsTo 1 k (R++W) (k+j))):=Lib.hid (by unfold effSumM;rw [HNM.out])
        obtain ⟨l,hll⟩:∃ l,l=numsTo 1 k (R++W) (k+j):=⟨_,rfl⟩
        rw [← hll] at hl hw' hown HSM
        rw [← hl] at hown
        obtain ⟨g,c,rfl,-,-,hri⟩:=rowI_of_own ⟨hown,hnn⟩ (by omega) hw'
        have HBF:=Lib.hid hbwr
        have hll4:l.length≤4000000:=by omega
        clear hll hl hw' hown hnn hb hbwr
        go_wp2_with fail
        refine (sumOf_spec 3 _ _ c l _ hri).mono ?_;rintro e w' ⟨rfl,rfl⟩
        go_wp2
        go_ret
        exact ⟨by rw [HSM.out];rfl,HBF.out⟩
 | false =>
  have HNM:Hid (numsM ⟨false,R,W⟩=numsTo 0 n1 (R++W) (n1+n2)):=Lib.hid (by
   rw [← HR.out,← HW.out,← List.length_append]
   simp only [numsM,numsTo,List.take_length,bitB];rfl)
  have hc1:((w.alloc (.cells #[.bool false,.slice a1 n1 c1,.slice a2 n2 c2] 178)).alloc (.cells #[.int .i64 0,.int .i64 (n1:Int)] 3)).cell? ⟨w.heap.size,1,none⟩=some (.slice a1 n1 c1):=by simp [go_sem]
  have hc2:((w.alloc (.cells #[.bool false,.slice a1 n1 c1,.slice a2 n2 c2] 178)).alloc (.cells #[.int .i64 0,.int .i64 (n1:Int)] 3)).cell? ⟨w.heap.size,2,none⟩=some (.slice a2 n2 c2):=by simp [go_sem]
  have ho:=(own_lit (w:=w.alloc (.cells #[.bool false,.slice a1 n1 c1,.slice a2 n2 c2] 178)) (B:=w.heap.size+1) 3 1 #[.int .i64 0,.int .i64 (n1:Int)] 2 (by simp) (by unfold maxLen;omega) rfl)
  have hbw:=((Below.refl w.heap.size w).alloc (Nat.le_refl _) (.cells #[.bool false,.slice a1 n1 c1,.slice a2 n2 c2] 178)).alloc (by simp) (.cells #[.int .i64 0,.int .i64 (n1:Int)] 3)
  have hsz:w.heap.size+1≤((w.alloc (.cells #[.bool false,.slice a1 n1 c1,.slice a2 n2 c2] 178)).alloc (.cells #[.int .i64 0,.int .i64 (n1:Int)] 3)).heap.size:=by simp
  go_enter Tryz.func171,Tryz.ntmps171
  go_wp2
  rw [World.size_alloc] at ho
  obtain ⟨w3,hw3⟩:∃ w3,w3=(w.alloc (.cells #[.bool false,.slice a1 n1 c1,.slice a2 n2 c2] 178)).alloc (.cells #[.int .i64 0,.int .i64 (n1:Int)] 3):=⟨_,rfl⟩
  rw [← hw3] at hc1 hc2 ho hbw hsz ⊢
  clear hw3
  have hst:w3.ownsRow (w.heap.size+1) 3 1 (.slice (some ⟨w.heap.size+1,0,none⟩) 2 2) (0*2+2) ((numsTo 0 n1 (R++W) 0).map (Value.int .i64)):=ho.1
  obtain ⟨X,hX⟩:∃ X,X=w.heap.size:=⟨_,rfl⟩
  have HX:=Lib.hid hX
  rw [show w.heap.size+1=X+1 by rw [hX]] at hst hsz
  rw [← hX] at hc1 hc2 ⊢
  clear hX ho
  go_loopw [3,4] (fun v i wr=>∃ k:Nat,k≤n1∧i = .int .i64 k∧wr.ownsRow (X+1) 3 1 v (k*2+2) ((numsTo 0 n1 (R++W) k).map (Value.int .i64))∧v≠.slice none 0 0∧Below (X+1) w3 wr) (fun _ i _=>n1 - (intOf i).toNat)
  case atStart=>exact ⟨0,Nat.zero_le _,rfl,hst,by simp,Below.refl _ _⟩
  case round =>
   clear hst
   obtain ⟨k,hk,rfl,hown,hnn,hb⟩:=hrel
   have d1:=below_ch hb (Nat.lt_succ_self X) hc1
   have d2:=below_ch hb (Nat.lt_succ_self X) hc2
   have hbwr:=hbw.trans (hb.mono (by rw [HX.out];omega))
   by_cases hlt:k < n1
   · have hr:=H1.out.below hbwr
     obtain ⟨b',of,rfl,hcc⟩:=hr.2.2.1 (by omega)
     obtain ⟨e1,e2⟩:=hcc k hlt
     have hbl:b' < wr.heap.size:=World.block_lt_of_cell? wr ⟨b',of+k*2,none⟩ e1
     have hwb:=rowE_lt4 H1.out (by omega) b' of rfl
     have HN:=Lib.hid (numsTo_left 0 n1 R W k (by rw [HR.out];exact hlt))
     clear hcc hr
     obtain ⟨p,hp⟩:∃ p,p=(R.getD k (0,0)).1:=⟨_,rfl⟩
     obtain ⟨y,hy⟩:∃ y,y=(R.getD k (0,0)).2:=⟨_,rfl⟩
     rw [← hp] at e1 HN
     rw [← hy] at e2 HN
     clear hp hy
     have hX1:X < X+1:=Nat.lt_succ_self X
     have hXw:X+1≤wr.heap.size:=Nat.le_trans hsz hb.size
     have hbX:b' < X+1:=by rw [HX.out];omega
     have q1:(0:Int)≤(k:Int):=by omega
     have q2:(k:Int) < (n1:Int):=by omega
     have hcA:=below_ch ((Below.refl (X+1) wr).alloc hXw (.cells #[.int .i64 p,.int .i64 y] 3)) hX1 d1
     have hs1:=World.new_ne wr
     go_wp2_with fail
     go_region_held3 (fun w'=>w'.cell? ⟨X,1,none⟩=some (.slice (some ⟨b',of,none⟩) n1 c1)∧w'.cell? ⟨b',of+k*2,none⟩=some (.int .i64 p)∧w'.cell? ⟨b',of+k*2+1,none⟩=some (.int .i64 y)) (first | exact ⟨d1,e1,e2⟩ | exact ⟨g1,g2,g3⟩ | exact ⟨below_ch (Below.refl (X+1) wr |>.alloc hXw _) hX1 d1,below_ch (Below.refl (X+1) wr |>.alloc hXw _) hbX e1,below_ch (Below.refl (X+1) wr |>.alloc hXw _) hbX e2⟩ | go_keep)
      (first | (refine step_lit rfl (.tmp 21) (.tmp 34) 25 (by rfl) (X+1) 3 _ (.int .i64 0) 1 8 2 Tryz.underlying25 infoInt rfl (by decide) _ (k*2+2) _ [.int .i64 p,.int .i64 y] (by rfl) hown (by rfl) rfl (by intro u hu;simp at hu;rcases hu with rfl | rfl <;> rfl) (by decide) (by omega) (by decide) hXw ?_;intro v2 w2 ho2 hnn2 hg2;have hb2:Below (X+1) wr w2:=((Below.refl (X+1) wr).alloc hXw _).grown hg2 (by simp;omega) (fun q hq=>(hown.lt q hq).1);have g1:=below_ch hb2 hX1 d1;have g2:=below_ch hb2 hbX e1;have g3:=below_ch hb2 hbX e2) | (refine step_litd rfl (.tmp 21) (.tmp 34) 25 (by rfl) (X+1) 3 _ (.int .i64 0) 1 8 2 Tryz.underlying25 infoInt rfl (by decide) _ (k*2+2) _ [.int .i64 p,.int .i64 y] (by rfl) hown (by rfl) rfl (by intro u hu;simp at hu;rcases hu with rfl | rfl <;> rfl) (by decide) (by omega) (by decide) hXw ?_;intro v2 w2 ho2 hnn2 hg2;have hb2:Below (X+1) wr w2:=((Below.refl (X+1) wr).alloc hXw _).grown hg2 (by simp;omega) (fun q hq=>(hown.lt q hq).1);have g1:=below_ch hb2 hX1 d1;have g2:=below_ch hb2 hbX e1;have g3:=below_ch hb2 hbX e2))
     all_goals
      have HO2:=Lib.hid ho2
      have HB2:=Lib.hid (hb.trans hb2)
      clear ho2 hg2 hb2 hown hb g1 g2 g3 e1 e2 d1 d2 hcA
      go_wp2
      go_roundw
      case rel=>exact ⟨k+1,by omega,by go_num,by have hq:=HO2.out;rw [show k*2+2+2=(k+1)*2+2 by omega] at hq;rw [HN.out,List.map_append];exact hq,hnn2,HB2.out⟩
      case measure=>simp [intOf];omega
   · obtain rfl:k=n1:=by omega
     have HOW:=Lib.hid hown
     have HBB:=Lib.hid hb
     clear hown hb hbwr
     go_wp2
     obtain ⟨wo,hwo⟩:∃ wo,wo=wr:=⟨wr,rfl⟩
     subst hwo
     go_loopw [3,5] (fun v i wr=>∃ j:Nat,j≤n2∧i = .int .i64 j∧wr.ownsRow (X+1) 3 1 v ((k+j)*2+2) ((numsTo 0 k (R++W) (k+j)).map (Value.int .i64))∧v≠.slice none 0 0∧Below (X+1) w3 wr) (fun _ i _=>n2 - (intOf i).toNat)
     case atStart=>exact ⟨0,Nat.zero_le _,rfl,HOW.out,hnn,HBB.out⟩
     case round =>
      clear d1 d2 hnn hlt hk
      obtain ⟨j,hj,rfl,hown,hnn,hb⟩:=hrel
      have d1:=below_ch hb (Nat.lt_succ_self X) hc1
      have d2:=below_ch hb (Nat.lt_succ_self X) hc2
      have hbwr:=hbw.trans (hb.mono (by rw [HX.out];omega))
      by_cases hlt:j < n2
      · have hr:=H2.out.below hbwr
        obtain ⟨b',of,rfl,hcc⟩:=hr.2.2.1 (by omega)
        obtain ⟨e1,e2⟩:=hcc j hlt
        have hbl:b' < wr.heap.size:=World.block_lt_of_cell? wr ⟨b',of+j*2,none⟩ e1
        have hwb:=rowE_lt4 H2.out (by omega) b' of rfl
        have HN:=Lib.hid ((by have hq:=numsTo_right 0 k R W j (by rw [HW.out];exact hlt);rw [HR.out] at hq;exact hq:numsTo 0 k (R++W) (k+j+1)=numsTo 0 k (R++W) (k+j)++[(W.getD j (0,0)).1,(W.getD j (0,0)).2]))
        clear hcc hr
        obtain ⟨p,hp⟩:∃ p,p=(W.getD j (0,0)).1:=⟨_,rfl⟩
        obtain ⟨y,hy⟩:∃ y,y=(W.getD j (0,0)).2:=⟨_,rfl⟩
        rw [← hp] at e1 HN
        rw [← hy] at e2 HN
        clear hp hy
        have hX1:X < X+1:=Nat.lt_succ_self X
        have hXw:X+1≤wr.heap.size:=Nat.le_trans hsz hb.size
        have hbX:b' < X+1:=by rw [HX.out];omega
        have q1:(0:Int)≤(j:Int):=by omega
        have q2:(j:Int) < (n2:Int):=by omega
        have hcA:=below_ch ((Below.refl (X+1) wr).alloc hXw (.cells #[.int .i64 p,.int .i64 y] 3)) hX1 d2
        have hs1:=World.new_ne wr
        go_wp2_with fail
        go_region_held3 (fun w'=>w'.cell? ⟨X,2,none⟩=some (.slice (some ⟨b',of,none⟩) n2 c2)∧w'.cell? ⟨b',of+j*2,none⟩=some (.int .i64 p)∧w'.cell? ⟨b',of+j*2+1,none⟩=some (.int .i64 y)) (first | exact ⟨d2,e1,e2⟩ | exact ⟨g1,g2,g3⟩ | exact ⟨below_ch (Below.refl (X+1) wr |>.alloc hXw _) hX1 d2,below_ch (Below.refl (X+1) wr |>.alloc hXw _) hbX e1,below_ch (Below.refl (X+1) wr |>.alloc hXw _) hbX e2⟩ | go_keep)
         (first | (refine step_lit rfl (.tmp 43) (.tmp 56) 25 (by rfl) (X+1) 3 _ (.int .i64 0) 1 8 2 Tryz.underlying25 infoInt rfl (by decide) _ ((k+j)*2+2) _ [.int .i64 p,.int .i64 y] (by rfl) hown (by rfl) rfl (by intro u hu;simp at hu;rcases hu with rfl | rfl <;> rfl) (by decide) (by omega) (by decide) hXw ?_;intro v2 w2 ho2 hnn2 hg2;have hb2:Below (X+1) wr w2:=((Below.refl (X+1) wr).alloc hXw _).grown hg2 (by simp;omega) (fun q hq=>(hown.lt q hq).1);have g1:=below_ch hb2 hX1 d2;have g2:=below_ch hb2 hbX e1;have g3:=below_ch hb2 hbX e2) | (refine step_litd rfl (.tmp 43) (.tmp 56) 25 (by rfl) (X+1) 3 _ (.int .i64 0) 1 8 2 Tryz.underlying25 infoInt rfl (by decide) _ ((k+j)*2+2) _ [.int .i64 p,.int .i64 y] (by rfl) hown (by rfl) rfl (by intro u hu;simp at hu;rcases hu with rfl | rfl <;> rfl) (by decide) (by omega) (by decide) hXw ?_;intro v2 w2 ho2 hnn2 hg2;have hb2:Below (X+1) wr w2:=((Below.refl (X+1) wr).alloc hXw _).grown hg2 (by simp;omega) (fun q hq=>(hown.lt q hq).1);have g1:=below_ch hb2 hX1 d2;have g2:=below_ch hb2 hbX e1;have g3:=below_ch hb2 hbX e2))
        all_goals
         have HO2:=Lib.hid ho2
         have HB2:=Lib.hid (hb.trans hb2)
         clear ho2 hg2 hb2 hown hb g1 g2 g3 e1 e2 d1 d2 hcA
         go_wp2
         go_roundw
         case rel=>exact ⟨j+1,by omega,by go_num,by have hq:=HO2.out;rw [show (k+j)*2+2+2=(k+(j+1))*2+2 by omega] at hq;rw [show k+(j+1)=k+j+1 by omega,HN.out,List.map_append];exact hq,hnn2,HB2.out⟩
         case measure=>simp [intOf];omega
      · obtain rfl:j=n2:=by omega
        have hl:=numsTo_len 0 k (R++W) (k+j) (by rw [List.length_append,HR.out,HW.out];exact Nat.le_refl _)
        have hw':=HWF.out
        rw [HNM.out] at hw'
        have HSM:Hid (effSumM ⟨false,R,W⟩=sumOfM 3 (numsTo 0 k (R++W) (k+j))):=Lib.hid (by unfold effSumM;rw [HNM.out])
        obtain ⟨l,hll⟩:∃ l,l=numsTo 0 k (R++W) (k+j):=⟨_,rfl⟩
        rw [← hll] at hl hw' hown HSM
        rw [← hl] at hown
        obtain ⟨g,c,rfl,-,-,hri⟩:=rowI_of_own ⟨hown,hnn⟩ (by omega) hw'
        have HBF:=Lib.hid hbwr
        have hll4:l.length≤4000000:=by omega
        clear hll hl hw' hown hnn hb hbwr
        go_wp2_with fail
        refine (sumOf_spec 3 _ _ c l _ hri).mono ?_;rintro e w' ⟨rfl,rfl⟩
        go_wp2
        go_ret
        exact ⟨by rw [HSM.out];rfl,HBF.out⟩
end Go.Proofs.YtpnjgmgmakmgeaaGreat
