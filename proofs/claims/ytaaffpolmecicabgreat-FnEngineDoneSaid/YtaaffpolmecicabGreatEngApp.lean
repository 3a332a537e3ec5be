/- An engine that a call owns: tries written,a version appended,a read appended to a slot. No function of the program is named here. -/
import Derived.Test.YtaaffpolmecicabGreatSpStep
namespace Go.Proofs.YtaaffpolmecicabGreat
open Go.RowKit
set_option linter.unusedVariables false
set_option linter.unusedSimpArgs false
theorem eng_tries {w:World} {B T:Nat} {t0:EngT} {x1 x2 x3:Value} {g m c:Nat} {e:Eng} {ts:List (Value × Value × Value)} (h:EngOwn w B T t0 x1 x2 x3 (.slice (some ⟨g,0,none⟩) m c) e ts) {n:Nat} (hn:n < e.slots.length) (st:Int) (hst:(Lit.int .i64 st).wf=true) :
  EngOwn (w.setCell ⟨g,n*6+1,none⟩ (.int .i64 st)) B T t0 x1 x2 x3 (.slice (some ⟨g,0,none⟩) m c) ⟨e.base,e.list,e.vers,e.slots.set n ⟨(e.slots.getD n noSlt).stage,st,(e.slots.getD n noSlt).from_,(e.slots.getD n noSlt).res⟩⟩ ts:=by
 obtain ⟨htl,ho,hwf⟩:=h
 have hp:OwnR w B T (⟨.slice (some ⟨g,0,none⟩) m c,t0.tS,6,e.slots.length,slsCs e.slots ts⟩ :: ⟨x1,t0.tE,2,e.base.length,flatE e.base⟩ :: ⟨x2,t0.tA,4,e.list.length,flatA e.list⟩ :: ⟨x3,t0.tV,3,e.vers.length,flatV e.vers⟩ :: slsRs t0.tI t0.tE e.slots ts) :=
  ho.perm (List.perm_middle (l₁:=[_,_,_]))
 obtain rfl:m=e.slots.length:=by
  rcases slice_of_owns hp.head with ⟨h1,-⟩ | ⟨g',cap,h1,-⟩
  · simp at h1
  · simp only [Value.slice.injEq] at h1;exact h1.2.1
 have h1:=hp.store (n*6+1) (.int .i64 st)
 rw [show (slsCs e.slots ts).set (n*6+1) (.int .i64 st) = _ from slsCs_set htl hn ⟨(e.slots.getD n noSlt).stage,st,(e.slots.getD n noSlt).from_,(e.slots.getD n noSlt).res⟩ 1 (by omega) (.int .i64 st) rfl] at h1
 have hsw:=hwf.slots _ (getD_memS e.slots n hn)
 refine ⟨by simp [htl],?_,⟨hwf.base,hwf.list,hwf.vers,fun x hx=>?_,hwf.blen,hwf.llen,hwf.vlen,by simpa using hwf.slen⟩⟩
 · unfold engRs
   simp only [List.length_set]
   rw [slsRs_set htl hn]
   rw [slsRs_at htl hn] at h1
   exact h1.perm (List.perm_middle (l₁:=[_,_,_])).symm
 · rcases List.mem_or_eq_of_mem_set hx with hx | rfl
   · exact hwf.slots x hx
   · exact ⟨hsw.stage,hst,hsw.from_,hsw.rds,hsw.wrs,hsw.flen,hsw.rlen,hsw.wlen⟩
theorem eng_vers_app {w w':World} {B T:Nat} {t0:EngT} {x1 x2 x3 x4 v':Value} {e:Eng} {ts:List (Value × Value × Value)} (h:EngOwn w B T t0 x1 x2 x3 x4 e ts) (y:Ver)
  (ho:w'.ownsRow B t0.tV 3 v' (e.vers.length+1) (flatV e.vers++flatV [y])) (hg:w.grownBy w' x3.ownBlock) (hloc:v'.ownBlock=x3.ownBlock∨v'.ownBlock=some w.heap.size) (hy:WfV y) (hl:e.vers.length+1≤4000000) :
  EngOwn w' B w'.heap.size t0 x1 x2 v' x4 ⟨e.base,e.list,e.vers++[y],e.slots⟩ ts:=by
 obtain ⟨htl,ho0,hwf⟩:=h
 have hp:OwnR w B w.heap.size (⟨x3,t0.tV,3,e.vers.length,flatV e.vers⟩ :: ⟨x1,t0.tE,2,e.base.length,flatE e.base⟩ :: ⟨x2,t0.tA,4,e.list.length,flatA e.list⟩ :: ⟨x4,t0.tS,6,e.slots.length,slsCs e.slots ts⟩ :: slsRs t0.tI t0.tE e.slots ts) :=
  ho0.top.perm (List.perm_middle (l₁:=[_,_]))
 have hgw:=hp.grow (T':=w'.heap.size+1) (r':=⟨v',t0.tV,3,(e.vers++[y]).length,flatV (e.vers++[y])⟩) (by rw [List.length_append,flatV_append];exact ho) hg hloc (by have:=hg.size;omega) (.inl (by have:=hg.size;omega))
 exact ⟨htl,(hgw.perm (List.perm_middle (l₁:=[_,_])).symm).top,⟨hwf.base,hwf.list,hwf.vers.snoc hy,hwf.slots,hwf.blen,hwf.llen,by simpa using hl,hwf.slen⟩⟩
theorem zip_set2 {L:List Slt} {ts:List (Value × Value × Value)} (hl:ts.length=L.length) {j:Nat} (hj:j < L.length) (s':Slt) (t':Value × Value × Value):(L.zip ts).set j (s',t')=(L.set j s').zip (ts.set j t'):=by
 apply List.ext_getElem?
 intro i
 rw [List.getElem?_set]
 by_cases e:j=i
 · subst e
   rw [if_pos rfl,if_pos (by simp;omega),zip_get (by simp [hl]) (by simpa using hj)]
   congr 2
   · rw [List.getD_eq_getElem?_getD,List.getElem?_set_self hj];rfl
   · rw [List.getD_eq_getElem?_getD,List.getElem?_set_self (by omega)];rfl
 · rw [if_neg e]
   by_cases hi:i < L.length
   · rw [zip_get hl hi,zip_get (by simp [hl]) (by simpa using hi)]
     congr 2
     · rw [List.getD_eq_getElem?_getD,List.getD_eq_getElem?_getD,List.getElem?_set_ne e]
     · rw [List.getD_eq_getElem?_getD,List.getD_eq_getElem?_getD,List.getElem?_set_ne e]
   · rw [List.getElem?_eq_none (by simp;omega),List.getElem?_eq_none (by simp;omega)]
theorem slsCs_set2 {L:List Slt} {ts:List (Value × Value × Value)} (hl:ts.length=L.length) {j:Nat} (hj:j < L.length) (s':Slt) (t':Value × Value × Value) (i:Nat) (hi:i < 6) (c:Value)
  (h:slCs s' t'=(slCs (L.getD j noSlt) (ts.getD j (undef,undef,undef))).set i c):(slsCs L ts).set (j*6+i) c=slsCs (L.set j s') (ts.set j t'):=by
 unfold slsCs
 rw [← zip_set2 hl hj]
 exact (flatMap_set (fun p:Slt × (Value × Value × Value)=>slCs p.1 p.2) 6 (fun _=>rfl) (L.zip ts) j i _ _ c (zip_get hl hj) hi h).symm
theorem slot_rds {w:World} {B T:Nat} {t0:EngT} {x1 x2 x3 x4:Value} {e:Eng} {ts:List (Value × Value × Value)} (h:EngOwn w B T t0 x1 x2 x3 x4 e ts) {n:Nat} (hn:n < e.slots.length) :
  w.ownsRow B t0.tE 2 (ts.getD n (undef,undef,undef)).2.1 (e.slots.getD n noSlt).res.rds.length (flatE (e.slots.getD n noSlt).res.rds)∧∀ b,(ts.getD n (undef,undef,undef)).2.1.ownBlock=some b→B≤b∧b < T∧b < w.heap.size:=by
 have hm:(⟨(ts.getD n (undef,undef,undef)).2.1,t0.tE,2,(e.slots.getD n noSlt).res.rds.length,flatE (e.slots.getD n noSlt).res.rds⟩:Rw)∈engRs t0 x1 x2 x3 x4 e ts:=by
  unfold engRs
  exact List.mem_cons_of_mem _ (List.mem_cons_of_mem _ (List.mem_cons_of_mem _ (List.mem_cons_of_mem _ (slsRs_mem h.tl hn _ (by simp [slRs])))))
 have ho:=h.own.own _ hm
 exact ⟨ho,fun b hb=>h.own.ge hm (by rw [owns_blk ho];exact hb)⟩
theorem slot_rds_cell {w:World} {B T:Nat} {t0:EngT} {x1 x2 x3:Value} {g m c:Nat} {e:Eng} {ts:List (Value × Value × Value)} (h:EngOwn w B T t0 x1 x2 x3 (.slice (some ⟨g,0,none⟩) m c) e ts) {n:Nat} (hn:n < e.slots.length) :
  w.cell? ⟨g,n*6+4,none⟩=some (ts.getD n (undef,undef,undef)).2.1:=by
 obtain ⟨ho,-⟩:=h.slots
 obtain rfl:m=e.slots.length:=by
  rcases slice_of_owns ho with ⟨h1,-⟩ | ⟨g',cap,h1,-⟩
  · simp at h1
  · simp only [Value.slice.injEq] at h1;exact h1.2.1
 exact (World.ownsRow.cellAt ho (n*6+4) (show n*6+4 < e.slots.length*6 by omega)).trans (by rw [slsCs_get h.tl hn (by omega:4 < 6)];rfl)
theorem slot_rds_ne {w:World} {B T:Nat} {t0:EngT} {x1 x2 x3:Value} {g m c:Nat} {e:Eng} {ts:List (Value × Value × Value)} (h:EngOwn w B T t0 x1 x2 x3 (.slice (some ⟨g,0,none⟩) m c) e ts) {n:Nat} (hn:n < e.slots.length) :
  some g≠(ts.getD n (undef,undef,undef)).2.1.ownBlock:=by
 intro he
 have hm:(⟨(ts.getD n (undef,undef,undef)).2.1,t0.tE,2,(e.slots.getD n noSlt).res.rds.length,flatE (e.slots.getD n noSlt).res.rds⟩:Rw)∈slsRs t0.tI t0.tE e.slots ts:=slsRs_mem h.tl hn _ (by simp [slRs])
 have hp:=h.own.perm (List.perm_middle (l₁:=[_,_,_]))
 have hoff:=hp.off _ (List.mem_cons_of_mem _ (List.mem_cons_of_mem _ (List.mem_cons_of_mem _ hm))) g rfl
 have ho:=h.own.own _ (List.mem_cons_of_mem _ (List.mem_cons_of_mem _ (List.mem_cons_of_mem _ (List.mem_cons_of_mem _ hm))))
 exact hoff (by rw [owns_blk ho];exact he.symm)
theorem eng_rds_app {w w':World} {B T:Nat} {t0:EngT} {x1 x2 x3 v':Value} {g m c:Nat} {e:Eng} {ts:List (Value × Value × Value)} (h:EngOwn w B T t0 x1 x2 x3 (.slice (some ⟨g,0,none⟩) m c) e ts) {n:Nat} (hn:n < e.slots.length) (y:Ent)
  (ho:w'.ownsRow B t0.tE 2 v' ((e.slots.getD n noSlt).res.rds.length+1) (flatE (e.slots.getD n noSlt).res.rds++flatE [y])) (hg:w.grownBy w' (ts.getD n (undef,undef,undef)).2.1.ownBlock)
  (hloc:v'.ownBlock=(ts.getD n (undef,undef,undef)).2.1.ownBlock∨v'.ownBlock=some w.heap.size) (hy:(Lit.int .i64 y.1).wf=true∧(Lit.int .i64 y.2).wf=true) (hl:(e.slots.getD n noSlt).res.rds.length+1≤4000000) :
  EngOwn (w'.setCell ⟨g,n*6+4,none⟩ v') B w'.heap.size t0 x1 x2 x3 (.slice (some ⟨g,0,none⟩) m c)
   ⟨e.base,e.list,e.vers,e.slots.set n ⟨(e.slots.getD n noSlt).stage,(e.slots.getD n noSlt).tries,(e.slots.getD n noSlt).from_,⟨(e.slots.getD n noSlt).res.done,(e.slots.getD n noSlt).res.rds++[y],(e.slots.getD n noSlt).res.wrs⟩⟩⟩
   (ts.set n ((ts.getD n (undef,undef,undef)).1,v',(ts.getD n (undef,undef,undef)).2.2)):=by
 obtain ⟨htl,ho0,hwf⟩:=h
 obtain rfl:m=e.slots.length:=by
  have hs:=ho0.own ⟨.slice (some ⟨g,0,none⟩) m c,t0.tS,6,e.slots.length,slsCs e.slots ts⟩ (by simp [engRs])
  rcases slice_of_owns hs with ⟨h1,-⟩ | ⟨g',cap,h1,-⟩
  · simp at h1
  · simp only [Value.slice.injEq] at h1;exact h1.2.1
 obtain ⟨s,hs⟩:∃ s,s=e.slots.getD n noSlt:=⟨_,rfl⟩
 obtain ⟨t,ht⟩:∃ t,t=ts.getD n (undef,undef,undef):=⟨_,rfl⟩
 have hsw:=hwf.slots _ (getD_memS e.slots n hn)
 have htop:=ho0.top
 unfold engRs at htop
 rw [slsRs_at htl hn] at htop
 rw [← hs] at ho htop hsw hl ⊢
 rw [← ht] at hg hloc htop ⊢
 have e1:∀ (a b c d p r q:Rw) (X Y:List Rw),(a :: b :: c :: d :: (X++([p,r,q]++Y))).Perm (r :: d :: a :: b :: c :: (X++([p,q]++Y))):=fun a b c d p r q X Y=>by
  have s1:(a :: b :: c :: d :: (X++([p,r,q]++Y))).Perm (r :: a :: b :: c :: d :: (X++([p,q]++Y))):=by
   have:=List.perm_middle (l₁:=a :: b :: c :: d :: (X++[p])) (a:=r) (l₂:=q :: Y)
   simpa only [List.cons_append,List.append_assoc,List.nil_append] using this
  exact s1.trans (List.Perm.cons _ (List.perm_middle (l₁:=[a,b,c])))
 have hp:=htop.perm (e1 _ _ _ _ _ _ _ _ _)
 have hgw:=hp.grow (T':=w'.heap.size+1) (r':=⟨v',t0.tE,2,(s.res.rds++[y]).length,flatE (s.res.rds++[y])⟩) (by rw [List.length_append,flatE_append];exact ho) hg hloc (by have:=hg.size;omega) (.inl (by have:=hg.size;omega))
 have hq:=(hgw.top.perm (List.Perm.swap _ _ _)).store (n*6+4) v'
 rw [show (slsCs e.slots ts).set (n*6+4) v' = _ from slsCs_set2 htl hn ⟨s.stage,s.tries,s.from_,⟨s.res.done,s.res.rds++[y],s.res.wrs⟩⟩ (t.1,v',t.2.2) 4 (by omega) v' (by rw [← hs,← ht];rfl)] at hq
 refine ⟨by simp [htl],?_,⟨hwf.base,hwf.list,hwf.vers,fun x hx=>?_,hwf.blen,hwf.llen,hwf.vlen,by simpa using hwf.slen⟩⟩
 · unfold engRs
   simp only [List.length_set]
   rw [rs_set htl hn]
   exact (hq.perm ((List.Perm.swap _ _ _).trans (e1 _ _ _ _ _ _ _ _ _).symm)).mono (Nat.le_refl _) (Nat.le_refl _)
 · rcases List.mem_or_eq_of_mem_set hx with hx | rfl
   · exact hwf.slots x hx
   · exact ⟨hsw.stage,hsw.tries,hsw.from_,WfE.snoc hsw.rds hy.1 hy.2,hsw.wrs,hsw.flen,by simpa using hl,hsw.wlen⟩
theorem wpList_append_eng {P:Program} {W:World} {ops:Array Oper} {rest:List Oper} {o:Oper} {a:Act} {Q:Exit→Act→World→Prop} (hgd:Region.wanted o (yielded ops a.tmps)=true) (s x:Operand) (t:TypeId)
  (ho:o.op = .call { callee:=.builtin .append,args:=#[s,x],argTypes:=#[t,t] })
  (B:Nat) (e e':TypeId) (z:Value) (size bytes:Nat) (ht:P.underlying t=some (.slice e)) (hinfo:(P.info? e).map (fun i=>(i.zero,i.size,i.bytes))=some (some z,size,bytes))
  (hzs:z.cells.size=size) (hsz:0 < size)
  (v:Value) (n:Nat) (xs news:List Value) (hs:a.eval s=v) (hown:W.ownsRow B e size v n xs) (hx:a.eval x = .slice (some ⟨W.heap.size,0,none⟩) 1 1)
  (hl:news.length=size) (h1:∀ u∈news,u.oneCell'=true)
  (hn:n≤4000000) (hby:bytes≤100000) (hbase:B≤W.heap.size)
  (h:∀ v' w',w'.ownsRow B e size v' (n+1) (xs++news)→(W.alloc (.cells news.toArray e')).grownBy w' v.ownBlock→(v'.ownBlock=v.ownBlock∨v'.ownBlock=some (W.heap.size+1))→wpList P ops Q rest (a.put o.dst v') w') :
  wpList P ops Q (o :: rest) a (W.alloc (.cells news.toArray e')):=by
 obtain ⟨i0,hi,hz0,hz1,hz2⟩:=info_parts hinfo
 have hcell:∀ j u,news[j]? = some u→(W.alloc (.cells news.toArray e')).cell? ((⟨W.heap.size,0,none⟩:Addr).add j)=some u:=by
  intro j u hu
  rw [show (⟨W.heap.size,0,none⟩:Addr).add j=⟨W.heap.size,j,none⟩ by unfold Addr.add;split <;> simp_all]
  rw [cell_of_row (W.alloc (.cells news.toArray e')) W.heap.size j news.toArray e' (0,0) (heap_alloc_new W _)]
  rw [List.getElem?_toArray];exact hu
 have hbytes:(n+1)*bytes≤140737488355328:=by
  calc (n+1)*bytes≤4000001*100000:=Nat.mul_le_mul (by omega) hby
   _≤140737488355328:=by decide
 obtain ⟨v',w',hr,h2,h3,h4,h5⟩:=run_append_own_at (P:=P) (W.alloc (.cells news.toArray e')) B t o.type e i0 z size bytes ht hi hz0 hz1 hz2 hzs hsz v n xs (hown.alloc _) ⟨W.heap.size,0,none⟩ 1 1 news (by rw [hl,Nat.one_mul]) hcell h1 (by unfold maxLen;omega) hbytes (by simp;omega)
 refine BigFrame.wpList_want hgd fun K hK=>?_
 unfold Oper.wp execOp
 simp only [ho,resolve,invoke,builtin,Sem.run_bind,Sem.run_pure,Result.andThen_ok,List.map_toArray,List.map_cons,List.map_nil,hs,hx,hr]
 exact hK _ _ (h v' w' h2 h3 (by rw [show (W.alloc (.cells news.toArray e')).heap.size=W.heap.size+1 by simp] at h5;exact h5))
end Go.Proofs.YtaaffpolmecicabGreat
