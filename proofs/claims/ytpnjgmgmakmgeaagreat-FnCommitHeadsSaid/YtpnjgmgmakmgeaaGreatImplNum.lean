/- The contracts of slices.Grow and slices.Concat at entries,and of the program's numbers and EffectSum. -/
import Derived.Test.YtpnjgmgmakmgeaaGreatEffA
import Derived.Test.YtpnjgmgmakmgeaaGreatOne
import Derived.Test.YtpnjgmgmakmgeaaGreatConv
import Derived.Test.YtpnjgmgmakmgeaaGreatTwo
import Derived.Lib.AppendZeros
namespace Go.Proofs.YtpnjgmgmakmgeaaGreat
open Go.RowKit
set_option linter.unusedVariables false
def Both (w:World) (l:List Ent) (e:Ending) (w':World):Prop:=∃ v,e = .returned v∧w'.ownsRow w.heap.size 142 2 v l.length (flatE l)∧Below w.heap.size w w'
theorem wpList_append_lit {P:Program} {W:World} {ops:Array Oper} {rest:List Oper} {o:Oper} {a:Act} {Q:Exit→Act→World→Prop} (hgd:Region.wanted o (yielded ops a.tmps)=true) (s x:Operand) (t:TypeId)
  (ho:o.op = .call { callee:=.builtin .append,args:=#[s,x],argTypes:=#[t,t] })
  (B:Nat) (e e':TypeId) (z:Value) (size bytes m:Nat) (ht:P.underlying t=some (.slice e)) (hinfo:(P.info? e).map (fun i=>(i.zero,i.size,i.bytes))=some (some z,size,bytes))
  (hzs:z.cells.size=size) (hsz:0 < size)
  (v:Value) (n:Nat) (xs news:List Value) (hs:a.eval s=v) (hown:W.ownsRow B e size v n xs) (hx:a.eval x = .slice (some ⟨W.heap.size,0,none⟩) m m)
  (hl:news.length=m*size) (h1:∀ u∈news,u.oneCell'=true) (hm:0 < m)
  (hn:n+m≤4000000) (hby:bytes≤100000) (hbase:B≤W.heap.size)
  (h:∀ v' w',w'.ownsRow B e size v' (n+m) (xs++news)→v'≠.slice none 0 0→(W.alloc (.cells news.toArray e')).grownBy w' v.ownBlock→(v'.ownBlock=v.ownBlock∨v'.ownBlock=some (W.heap.size+1))→wpList P ops Q rest (a.put o.dst v') w') :
  wpList P ops Q (o :: rest) a (W.alloc (.cells news.toArray e')):=by
 refine BigFrame.wpList_want hgd fun K hK=>?_
 obtain ⟨i0,hi,hz0,hz1,hz2⟩:=info_parts hinfo
 have hcell:∀ j u,news[j]? = some u→(W.alloc (.cells news.toArray e')).cell? ((⟨W.heap.size,0,none⟩:Addr).add j)=some u:=by
  intro j u hu
  rw [show (⟨W.heap.size,0,none⟩:Addr).add j=⟨W.heap.size,j,none⟩ by unfold Addr.add;split <;> simp_all]
  rw [cell_of_row (W.alloc (.cells news.toArray e')) W.heap.size j news.toArray e' (0,0) (heap_alloc_new W _)]
  rw [List.getElem?_toArray];exact hu
 have hbytes:(n+m)*bytes≤140737488355328:=by
  calc (n+m)*bytes≤4000000*100000:=Nat.mul_le_mul hn hby
   _≤140737488355328:=by decide
 obtain ⟨v',w',hr,h2,h3,h4,h5⟩:=run_append_own_at (P:=P) (W.alloc (.cells news.toArray e')) B t o.type e i0 z size bytes ht hi hz0 hz1 hz2 hzs hsz v n xs (hown.alloc _) ⟨W.heap.size,0,none⟩ m m news hl hcell h1 (by unfold maxLen;omega) hbytes (by simp;omega)
 unfold Oper.wp execOp
 simp only [ho,resolve,invoke,builtin,Sem.run_bind,Sem.run_pure,Result.andThen_ok,List.map_toArray,List.map_cons,List.map_nil,hs,hx,hr]
 refine hK _ _ (h v' w' h2 (fun e=>by have:=(h4.1 e).2;omega) h3 ?_)
 rw [show (W.alloc (.cells news.toArray e')).heap.size=W.heap.size+1 by simp] at h5
 exact h5
def numsTo (d n:Int) (Z:List Ent) (k:Nat):List Int:=[d,n]++numsE (Z.take k)
theorem numsTo_len (d n:Int) (Z:List Ent) (k:Nat) (h:k≤Z.length):(numsTo d n Z k).length=k*2+2:=by
 simp [numsTo,numsE_len,Nat.min_eq_left h]
theorem numsTo_next (d n:Int) (Z:List Ent) (k:Nat) (h:k < Z.length):numsTo d n Z (k+1)=numsTo d n Z k++[(Z.getD k (0,0)).1,(Z.getD k (0,0)).2]:=by
 simp only [numsTo,takeE_snoc Z k h,numsE_append,numsE,List.append_assoc]
theorem numsM_wf {x:Eff} (h1:WfE x.rds) (h2:WfE x.wrs) (hn:x.rds.length≤4000000):∀ n∈numsM x,(Lit.int .i64 n).wf=true:=by
 intro n hn'
 simp only [numsM,List.mem_cons] at hn'
 rcases hn' with rfl | rfl | hn'
 · unfold bitB;split <;> decide
 · exact WalkArith.wf_i64 (by omega)
 · obtain ⟨e,he,h⟩:=numsE_mem _ _ hn'
   have:WfE (x.rds++x.wrs):=fun f hf=>by
    rcases List.mem_append.1 hf with h | h
    · exact h1 f h
    · exact h2 f h
   rcases h with rfl | rfl
   · exact (this e he).1
   · exact (this e he).2
end Go.Proofs.YtpnjgmgmakmgeaaGreat
