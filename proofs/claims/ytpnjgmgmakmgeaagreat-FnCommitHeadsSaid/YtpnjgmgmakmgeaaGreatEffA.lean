/- Texts of ours that stand together: EffMath, EffMem -/
import Derived.Test.YtpnjgmgmakmgeaaGreatActs
import Derived.Test.YtpnjgmgmakmgeaaGreatLay
import Derived.Test.YtpnjgmgmakmgeaaGreatCore
import Derived.Maps.AppendAt
/- Effects: plain mathematics. No function of the program is named here. -/
namespace Go.Proofs.YtpnjgmgmakmgeaaGreat
structure Eff where
 done:Bool
 rds:List Ent
 wrs:List Ent
def noEff:Eff:=⟨false,[],[]⟩
def outsK (k s d m f t:Int):List Ent :=
 if k=1 then [(s,m)] else if k=6 then [(s,max 0 (f - m))] else if k=3 then [(d,f)] else if k=5 then [(d,f+t)] else
 if k=4 then pm d f [(s,t)] else if s=d then [(s,f)] else pm d (t+m) [(s,f - m)]
def doneK (k s d m f t:Int):Bool :=
 if k=5 then decide (f+t≤1000000) else if k=2 then (decide (m≤f) && (decide (s=d) || decide (t+m≤1000000))) else true
def rdsK (k s d f t:Int):List Ent:=(readsK k s d).map (fun key=>(key,if key=s then f else t))
def effK (k s d m f t:Int):Eff:=⟨doneK k s d m f t,rdsK k s d f t,if doneK k s d m f t then outsK k s d m f t else []⟩
def runM (S:List Ent) (x:Acn):Eff:=if storeB S && actB x then effK x.kind x.src x.dst x.amt (atM S x.src) (atM S x.dst) else noEff
theorem runM_yes {S:List Ent} {x:Acn} (h:storeB S=true) (h2:actB x=true):runM S x=effK x.kind x.src x.dst x.amt (atM S x.src) (atM S x.dst):=by simp [runM,h,h2]
theorem runM_no {S:List Ent} {x:Acn} (h:(storeB S && actB x)=false):runM S x=noEff:=by simp [runM,h]
def applyL (S:List Ent) (W:List Ent):List Ent:=W.foldl (fun l e=>putRaw e.1 e.2 l) S
def applyM (S:List Ent) (W:List Ent):List Ent:=if storeB S && writesB W then applyL S W else []
theorem applyM_yes {S W:List Ent} (h:storeB S=true) (h2:writesB W=true):applyM S W=applyL S W:=by simp [applyM,h,h2]
theorem applyM_no {S W:List Ent} (h:(storeB S && writesB W)=false):applyM S W=[]:=by simp [applyM,h]
theorem applyL_snoc (S W:List Ent) (e:Ent):applyL S (W++[e])=putRaw e.1 e.2 (applyL S W):=by simp [applyL]
theorem ok_applyL {S W:List Ent} (hS:Ok S) (hW:WrE W):Ok (applyL S W):=by
 unfold applyL
 induction W generalizing S with
 | nil=>exact hS
 | cons e r ih =>
  have:=hW e (by simp)
  exact ih (ok_put hS this.1 this.2.1 this.2.2.1 this.2.2.2) (fun f hf=>hW f (List.mem_cons_of_mem _ hf))
theorem writesB_take {l:List Ent} (h:writesB l=true) (k:Nat):writesB (l.take k)=true:=(writesB_ok _).2 (wr_take ((writesB_ok _).1 h) k)
theorem applyL_take (S W:List Ent) (k:Nat) (hk:k < W.length):applyL S (W.take (k+1))=putRaw (W.getD k (0,0)).1 (W.getD k (0,0)).2 (applyL S (W.take k)):=by
 rw [takeE_snoc W k hk,applyL_snoc]
theorem wrE_mem {W:List Ent} (h:writesB W=true) (k:Nat) (hk:k < W.length):(0≤(W.getD k (0,0)).1∧(W.getD k (0,0)).1≤31)∧0≤(W.getD k (0,0)).2∧(W.getD k (0,0)).2≤1000000:=((wrAt_iff _ _).1 ((writesB_iff W).1 h k hk)).1
theorem ok_applyM {S W:List Ent} (hS:storeB S=true) (hW:writesB W=true):storeB (applyL S W)=true :=
 (storeB_ok _).2 (ok_applyL ((storeB_ok _).1 hS) ((writesB_ok _).1 hW).2)
theorem wr_one {s v:Int} (h0:0≤s) (h1:s≤31) (h2:0≤v) (h3:v≤1000000):Wr [(s,v)] :=
 ⟨List.pairwise_singleton _ _,fun e he=>by simp at he;subst he;exact ⟨h0,h1,h2,h3⟩⟩
theorem wr_outs {k s d m f t:Int} (ha:actB ⟨k,s,d,m⟩=true) (hf0:0≤f) (hf1:f≤1000000) (ht0:0≤t) (ht1:t≤1000000) (hd:doneK k s d m f t=true):Wr (outsK k s d m f t):=by
 obtain ⟨⟨s0,s1⟩,⟨d0,d1⟩,m0,m1⟩:=actB_bd ha
 simp only at s0 s1 d0 d1 m0 m1
 unfold outsK
 unfold doneK at hd
 split
 · exact wr_one s0 s1 m0 m1
 split
 · exact wr_one s0 s1 (by omega) (by omega)
 split
 · exact wr_one d0 d1 hf0 hf1
 split
 · rename_i h5
   rw [if_pos h5,decide_eq_true_eq] at hd
   exact wr_one d0 d1 (by omega) hd
 split
 · exact wr_pm (wr_one s0 s1 ht0 ht1) d0 d1 hf0 hf1
 split
 · exact wr_one s0 s1 hf0 hf1
 · rename_i h1 h6 h3 h5 h4 hsd
   have hk:=kind_of ha
   simp only at hk
   rw [if_neg h5,if_pos (by omega)] at hd
   simp only [Bool.and_eq_true,Bool.or_eq_true,decide_eq_true_eq] at hd
   exact wr_pm (wr_one s0 s1 (by omega) (by omega)) d0 d1 (by omega) (by omega)
theorem wr_run (S:List Ent) (x:Acn):writesB (runM S x).wrs=true:=by
 rw [writesB_ok]
 cases h:storeB S && actB x with
 | false=>rw [runM_no h];exact ⟨List.Pairwise.nil,fun e he=>by cases he⟩
 | true =>
  rw [Bool.and_eq_true] at h
  rw [runM_yes h.1 h.2]
  have hb:=fun k=>atM_bd ((storeB_ok S).1 h.1).2 k
  unfold effK
  simp only
  split
  · rename_i hd
    exact wr_outs h.2 (hb _).1 (hb _).2 (hb _).1 (hb _).2 hd
  · exact ⟨List.Pairwise.nil,fun e he=>by cases he⟩
theorem runM_wlen (S:List Ent) (x:Acn):(runM S x).wrs.length≤32:=wr_len (wr_run S x)
theorem runM_rlen (S:List Ent) (x:Acn):(runM S x).rds.length≤2:=by
 cases h:storeB S && actB x with
 | false=>rw [runM_no h];simp [noEff]
 | true =>
  rw [Bool.and_eq_true] at h
  rw [runM_yes h.1 h.2]
  have:=readsM_len x
  rw [readsM,if_pos h.2] at this
  simpa [effK,rdsK] using this
theorem runM_read {S:List Ent} {x:Acn} (h:storeB S=true) (h2:actB x=true) (e:Ent) (he:e∈(runM S x).rds):(0≤e.1∧e.1≤31)∧atM S e.1=e.2:=by
 rw [runM_yes h h2] at he
 obtain ⟨key,hk,rfl⟩:=List.mem_map.1 (show e∈(readsK x.kind x.src x.dst).map _ from he)
 have hm:key∈readsM x:=by rw [readsM,if_pos h2];exact hk
 have hsd:key=x.src∨key=x.dst:=by
  unfold readsK at hk
  split at hk
  · cases hk
  · split at hk
    · simp at hk;exact .inl hk
    · unfold onceM at hk;split at hk
      · simp at hk;exact .inl hk
      · simpa using hk
 refine ⟨readsM_bd x key hm,?_⟩
 simp only
 split
 · rename_i hks;rw [hks]
 · rename_i hks
   rcases hsd with h | h
   · exact absurd h hks
   · rw [h]
theorem runM_wf (S:List Ent) (x:Acn) (hS:∀ k,0≤atM S k∧atM S k≤1000000):∀ e∈(runM S x).rds,(0≤e.1∧e.1≤31)∧0≤e.2∧e.2≤1000000:=by
 intro e he
 cases h:storeB S && actB x with
 | false=>rw [runM_no h] at he;cases he
 | true =>
  rw [Bool.and_eq_true] at h
  obtain ⟨h1,h2⟩:=runM_read h.1 h.2 e he
  exact ⟨h1,by rw [← h2];exact hS _⟩
def numsE:List Ent→List Int
 | []=>[]
 | e :: r=>e.1 :: e.2 :: numsE r
theorem numsE_append (l m:List Ent):numsE (l++m)=numsE l++numsE m:=by
 induction l with
 | nil=>rfl
 | cons e r ih=>simp [numsE,ih]
theorem numsE_len (l:List Ent):(numsE l).length=l.length*2:=by
 induction l with
 | nil=>rfl
 | cons e r ih=>simp [numsE,ih];omega
theorem numsE_mem (l:List Ent):∀ n∈numsE l,∃ e∈l,n=e.1∨n=e.2:=by
 induction l with
 | nil=>intro n hn;cases hn
 | cons e r ih =>
  intro n hn
  simp only [numsE,List.mem_cons] at hn
  rcases hn with rfl | rfl | hn
  · exact ⟨e,by simp,.inl rfl⟩
  · exact ⟨e,by simp,.inr rfl⟩
  · obtain ⟨f,hf,h⟩:=ih n hn
    exact ⟨f,List.mem_cons_of_mem _ hf,h⟩
def bitB (b:Bool):Int:=if b then 1 else 0
def numsM (x:Eff):List Int:=bitB x.done :: (x.rds.length:Int) :: numsE (x.rds++x.wrs)
def effSumM (x:Eff):Int:=sumOfM 3 (numsM x)
theorem sumOfM_cases (t:Int) (l:List Int):sumOfM t l = -1∨(0≤sumOfM t l∧sumOfM t l≤1000002∧okTag t=true∧l.all okSummed=true∧sumOfM t l=sumFold (17+t) l):=by
 unfold sumOfM
 cases h:okTag t && l.all okSummed with
 | false=>exact .inl rfl
 | true =>
  rw [Bool.and_eq_true] at h
  have ht:0≤t∧t≤9:=by simpa [okTag] using h.1
  have:=sumFold_bd (17+t) l (by omega) (by omega)
  exact .inr ⟨this.1,this.2,h.1,h.2,rfl⟩
open Go.RowKit
set_option linter.unusedVariables false
def OwnF (w:World) (B:Nat) (e:TypeId) (v:Value) (x:Eff):Prop :=
 ∃ a b,v = .agg #[.bool x.done,a,b]∧w.ownsRow B e 2 a x.rds.length (flatE x.rds)∧w.ownsRow B e 2 b x.wrs.length (flatE x.wrs)∧WfE x.rds∧WfE x.wrs∧∀ p,a.ownBlock=some p→b.ownBlock≠some p
def RowF (w:World) (a:Option Addr) (n:Nat) (b:Option Addr) (m:Nat) (x:Eff):Prop:=RowE w a n x.rds∧RowE w b m x.wrs
theorem RowF.below {w w':World} {a b:Option Addr} {n m:Nat} {x:Eff} (h:RowF w a n b m x) (hb:Below w.heap.size w w'):RowF w' a n b m x:=⟨h.1.below hb,h.2.below hb⟩
def NewF (w:World) (e0:TypeId) (x:Eff) (e:Ending) (w':World):Prop:=∃ v,e = .returned v∧OwnF w' w.heap.size e0 v x∧Below w.heap.size w w'
theorem OwnF.mono {w:World} {B B':Nat} {e:TypeId} {v:Value} {x:Eff} (h:OwnF w B e v x) (hB:B'≤B):OwnF w B' e v x:=by
 obtain ⟨a,b,h1,h2,h3,h4,h5,h6⟩:=h;exact ⟨a,b,h1,owns_mono h2 hB,owns_mono h3 hB,h4,h5,h6⟩
theorem OwnF.below {w w':World} {B:Nat} {e:TypeId} {v:Value} {x:Eff} (h:OwnF w B e v x) (hb:Below w.heap.size w w'):OwnF w' B e v x:=by
 obtain ⟨a,b,h1,h2,h3,h4,h5,h6⟩:=h;exact ⟨a,b,h1,owns_below h2 hb,owns_below h3 hb,h4,h5,h6⟩
theorem NewF.after {w w0:World} {e0:TypeId} {x:Eff} {e:Ending} {w':World} (h:NewF w0 e0 x e w') (hb:Below w.heap.size w w0):NewF w e0 x e w':=by
 obtain ⟨v,h1,h2,h3⟩:=h
 exact ⟨v,h1,h2.mono hb.size,hb.trans (h3.mono hb.size)⟩
theorem OwnF.rows {w:World} {B:Nat} {e:TypeId} {v:Value} {x:Eff} (h:OwnF w B e v x) (h1:x.rds.length≤4000000) (h2:x.wrs.length≤4000000) :
  ∃ a c b d,v = .agg #[.bool x.done,.slice a x.rds.length c,.slice b x.wrs.length d]∧RowF w a x.rds.length b x.wrs.length x ∧
   w.ownsRow B e 2 (.slice a x.rds.length c) x.rds.length (flatE x.rds)∧w.ownsRow B e 2 (.slice b x.wrs.length d) x.wrs.length (flatE x.wrs) ∧
   (∀ p,Value.ownBlock (.slice a x.rds.length c)=some p→Value.ownBlock (.slice b x.wrs.length d)≠some p)∧(a=none→c=0)∧(b=none→d=0):=by
 obtain ⟨va,vb,e0,g1,g2,g3,g4,g5⟩:=h
 obtain ⟨a,c,rfl,hr,hz⟩:=rowE_of_owns g1 h1 g3
 obtain ⟨b,d,rfl,hs,hz'⟩:=rowE_of_owns g2 h2 g4
 exact ⟨a,c,b,d,e0,⟨hr,hs⟩,g1,g2,g5,hz,hz'⟩
theorem ownF_mk {w:World} {B:Nat} {e:TypeId} {a b:Value} (x:Eff) (h1:w.ownsRow B e 2 a x.rds.length (flatE x.rds)) (h2:w.ownsRow B e 2 b x.wrs.length (flatE x.wrs)) (h3:WfE x.rds) (h4:WfE x.wrs)
  (h5:∀ p,a.ownBlock=some p→b.ownBlock≠some p):OwnF w B e (.agg #[.bool x.done,a,b]) x:=⟨a,b,rfl,h1,h2,h3,h4,h5⟩
theorem ownF_zero (w:World) (B:Nat) (e:TypeId):OwnF w B e (.agg #[.bool false,.slice none 0 0,.slice none 0 0]) noEff :=
 ⟨_,_,rfl,World.ownsRow_nil _ _ _ _,World.ownsRow_nil _ _ _ _,fun x hx=>(by cases hx),fun x hx=>(by cases hx),fun p hp=>(by cases hp)⟩
theorem step_app1 {P:Program} {W:World} {ops:Array Oper} {o:Oper} {a:Act} {K:Act→World→Prop} {Q:Exit→Act→World→Prop} {E:Prop} (hgd:o.guard=none) (s x:Operand) (t:TypeId)
  (ho:o.op = .call { callee:=.builtin .append,args:=#[s,x],argTypes:=#[t,t] })
  (B:Nat) (e e':TypeId) (z:Value) (size bytes:Nat) (ht:P.underlying t=some (.slice e)) (hinfo:(P.info? e).map (fun i=>(i.zero,i.size,i.bytes))=some (some z,size,bytes))
  (hzs:z.cells.size=size) (hsz:0 < size)
  (v:Value) (n:Nat) (xs news:List Value) (hs:a.eval s=v) (hown:W.ownsRow B e size v n xs) (hx:a.eval x = .slice (some ⟨W.heap.size,0,none⟩) 1 1)
  (hl:news.length=size) (h1:∀ u∈news,u.oneCell'=true)
  (hn:n≤4000000) (hby:bytes≤100000) (hbase:B≤W.heap.size)
  (h:∀ v' w',w'.ownsRow B e size v' (n+1) (xs++news)→v'≠.slice none 0 0→(W.alloc (.cells news.toArray e')).grownBy w' v.ownBlock→(v'.ownBlock=v.ownBlock∨v'.ownBlock=some (W.heap.size+1))→K (a.put o.dst v') w') :
  if Region.wanted o (yielded ops a.tmps)=true then Oper.wp P o a (W.alloc (.cells news.toArray e')) K Q else E:=by
 have hw:Region.wanted o (yielded ops a.tmps)=true:=by simp [Region.wanted,hgd]
 rw [if_pos hw]
 obtain ⟨i0,hi,hz0,hz1,hz2⟩:=info_parts hinfo
 have hcell:∀ j u,news[j]? = some u→(W.alloc (.cells news.toArray e')).cell? ((⟨W.heap.size,0,none⟩:Addr).add j)=some u:=by
  intro j u hu
  rw [show (⟨W.heap.size,0,none⟩:Addr).add j=⟨W.heap.size,j,none⟩ by unfold Addr.add;split <;> simp_all]
  rw [cell_of_row (W.alloc (.cells news.toArray e')) W.heap.size j news.toArray e' (0,0) (heap_alloc_new W _)]
  rw [List.getElem?_toArray];exact hu
 have hbytes:(n+1)*bytes≤140737488355328:=by
  calc (n+1)*bytes≤4000001*100000:=Nat.mul_le_mul (by omega) hby
   _≤140737488355328:=by decide
 obtain ⟨v',w',hr,h2,h3,h4,h5⟩:=run_append_own_at (P:=P) (W.alloc (.cells news.toArray e')) B t o.type e i0 z size bytes ht hi hz0 hz1 hz2 hzs hsz v n xs (hown.alloc _) ⟨W.heap.size,0,none⟩ 1 1 news (by rw [hl,Nat.one_mul]) hcell h1 (by unfold maxLen;omega) hbytes (by simp;omega)
 unfold Oper.wp execOp
 simp only [ho,resolve,invoke,builtin,Sem.run_bind,Sem.run_pure,Result.andThen_ok,List.map_toArray,List.map_cons,List.map_nil,hs,hx,hr]
 refine h v' w' h2 (fun e=>by have:=(h4.1 e).2;omega) h3 ?_
 rw [show (W.alloc (.cells news.toArray e')).heap.size=W.heap.size+1 by simp] at h5
 exact h5
theorem grown_undrew {W w':World} {o:Obj} {row:Option Nat} (h:(W.drew.alloc o).grownBy w' row):(W.alloc o).grownBy w' row:=⟨h.os,h.tape,h.output,h.size,h.block⟩
theorem step_app1d {P:Program} {W:World} {ops:Array Oper} {o:Oper} {a:Act} {K:Act→World→Prop} {Q:Exit→Act→World→Prop} {E:Prop} (hgd:o.guard=none) (s x:Operand) (t:TypeId)
  (ho:o.op = .call { callee:=.builtin .append,args:=#[s,x],argTypes:=#[t,t] })
  (B:Nat) (e e':TypeId) (z:Value) (size bytes:Nat) (ht:P.underlying t=some (.slice e)) (hinfo:(P.info? e).map (fun i=>(i.zero,i.size,i.bytes))=some (some z,size,bytes))
  (hzs:z.cells.size=size) (hsz:0 < size)
  (v:Value) (n:Nat) (xs news:List Value) (hs:a.eval s=v) (hown:W.ownsRow B e size v n xs) (hx:a.eval x = .slice (some ⟨W.heap.size,0,none⟩) 1 1)
  (hl:news.length=size) (h1:∀ u∈news,u.oneCell'=true)
  (hn:n≤4000000) (hby:bytes≤100000) (hbase:B≤W.heap.size)
  (h:∀ v' w',w'.ownsRow B e size v' (n+1) (xs++news)→v'≠.slice none 0 0→(W.alloc (.cells news.toArray e')).grownBy w' v.ownBlock→(v'.ownBlock=v.ownBlock∨v'.ownBlock=some (W.heap.size+1))→K (a.put o.dst v') w') :
  if Region.wanted o (yielded ops a.tmps)=true then Oper.wp P o a (W.alloc (.cells news.toArray e')).drew K Q else E :=
 step_app1 (W:=W.drew) hgd s x t ho B e e' z size bytes ht hinfo hzs hsz v n xs news hs hown hx hl h1 hn hby hbase
  (fun v' w' g1 g2 g3 g4=>h v' w' g1 g2 (grown_undrew g3) g4)
theorem set_grown (w:World) (g o:Nat) (v:Value):w.grownBy (w.setCell ⟨g,o,none⟩ v) (some g) :=
 ⟨rfl,rfl,rfl,by simp [World.setCell],fun k _ hk=>Below.heap_setCell _ _ _ _ (fun e=>hk (by simp [e]))⟩
theorem owns_set {w:World} {B:Nat} {e:TypeId} {size n:Nat} {v:Value} {xs:List Value} (h:w.ownsRow B e size v n xs) {g:Nat} (hne:v.ownBlock≠some g) (o:Nat) (u:Value):(w.setCell ⟨g,o,none⟩ u).ownsRow B e size v n xs :=
 h.kept (set_grown w g o u) (.inr hne)
theorem ownF_set3 {w:World} {B:Nat} {e:TypeId} {v:Value} {x:Eff} (h:OwnF w B e v x) {Z:Nat} (hz:∀ a b,v = .agg #[.bool x.done,a,b]→a.ownBlock≠some Z∧b.ownBlock≠some Z) (o1 o2 o3:Nat) (p q r:Value) :
  OwnF (((w.setCell ⟨Z,o1,none⟩ p).setCell ⟨Z,o2,none⟩ q).setCell ⟨Z,o3,none⟩ r) B e v x:=by
 obtain ⟨a,b,h1,h2,h3,h4,h5,h6⟩:=h
 obtain ⟨n1,n2⟩:=hz a b h1
 exact ⟨a,b,h1,owns_set (owns_set (owns_set h2 n1 o1 p) n1 o2 q) n1 o3 r,owns_set (owns_set (owns_set h3 n2 o1 p) n2 o2 q) n2 o3 r,h4,h5,h6⟩
theorem below_set3 {B:Nat} {a w:World} (h:Below B a w) {Z:Nat} (hz:B≤Z) (o1 o2 o3:Nat) (p q r:Value):Below B a (((w.setCell ⟨Z,o1,none⟩ p).setCell ⟨Z,o2,none⟩ q).setCell ⟨Z,o3,none⟩ r) :=
 ((h.setCell hz p).setCell hz q).setCell hz r
def ZAt (w:World) (Z:Nat):Prop :=
 (w.cell? ⟨Z,0,none⟩=some (.bool false)∧w.cell? ⟨Z,1,none⟩=some (.slice none 0 0)∧w.cell? ⟨Z,2,none⟩=some (.slice none 0 0))∧(w.frozen? ⟨Z,0,none⟩=false∧w.frozen? ⟨Z,1,none⟩=false∧w.frozen? ⟨Z,2,none⟩=false)∧Z < w.heap.size
theorem zAt_new (w:World) (T:TypeId):ZAt (w.alloc (.cells #[.bool false,.slice none 0 0,.slice none 0 0] T)) w.heap.size:=by simp [ZAt,go_sem]
theorem ZAt.grown {w w':World} {Z:Nat} {row:Option Nat} (h:ZAt w Z) (hg:w.grownBy w' row) (hne:some Z≠row):ZAt w' Z:=by
 obtain ⟨⟨h1,h2,h3⟩,⟨h4,h5,h6⟩,h7⟩:=h
 have hf:∀ o,w'.frozen? ⟨Z,o,none⟩=w.frozen? ⟨Z,o,none⟩:=fun o=>World.frozen?_of_block (hg.block Z h7 hne)
 exact ⟨⟨hg.cell h1 hne,hg.cell h2 hne,hg.cell h3 hne⟩,⟨(hf 0).trans h4,(hf 1).trans h5,(hf 2).trans h6⟩,Nat.lt_of_lt_of_le h7 hg.size⟩
theorem ZAt.below {w w':World} {Z B:Nat} (h:ZAt w Z) (hb:Below B w w') (hB:Z < B):ZAt w' Z:=by
 obtain ⟨⟨h1,h2,h3⟩,⟨h4,h5,h6⟩,h7⟩:=h
 have hf:∀ o,w'.frozen? ⟨Z,o,none⟩=w.frozen? ⟨Z,o,none⟩:=fun o=>World.frozen?_of_block (hb.block Z hB)
 have hc:∀ o,w'.cell? ⟨Z,o,none⟩=w.cell? ⟨Z,o,none⟩:=fun o=>World.cell?_of_block (hb.block Z hB)
 exact ⟨⟨(hc 0).trans h1,(hc 1).trans h2,(hc 2).trans h3⟩,⟨(hf 0).trans h4,(hf 1).trans h5,(hf 2).trans h6⟩,Nat.lt_of_lt_of_le h7 hb.size⟩
theorem OwnF.apart {w:World} {B:Nat} {e:TypeId} {v:Value} {x:Eff} (h:OwnF w B e v x) {Z:Nat} (hZ:Z < B):∀ a b,v = .agg #[.bool x.done,a,b]→a.ownBlock≠some Z∧b.ownBlock≠some Z:=by
 obtain ⟨va,vb,h1,h2,h3,-⟩:=h
 intro a b e
 rw [h1] at e
 simp only [Value.agg.injEq,Array.mk.injEq,List.cons.injEq,and_true,true_and] at e
 obtain ⟨rfl,rfl⟩:=e
 exact ⟨fun e=>by have:=(h2.lt _ e).1;omega,fun e=>by have:=(h3.lt _ e).1;omega⟩
def VCells (w:World) (G:Nat) (A:List Int) (v:Value) (m:Nat):Prop :=
 (∀ k,k < 32→w.cell? ⟨G,k,none⟩=some (.int .i64 (A.getD k 0)))∧w.cell? ⟨G,32,none⟩=some v∧w.cell? ⟨G,33,none⟩=some (.int .i64 (-1))∧w.cell? ⟨G,34,none⟩=some (.map (some m))∧w.frozen? ⟨G,32,none⟩=false
theorem VCells.lt {w:World} {G:Nat} {A:List Int} {v:Value} {m:Nat} (h:VCells w G A v m):G < w.heap.size:=World.block_lt_of_cell? w ⟨G,33,none⟩ h.2.2.1
theorem VCells.grown {w w':World} {G:Nat} {A:List Int} {v:Value} {m:Nat} {row:Option Nat} (h:VCells w G A v m) (hg:w.grownBy w' row) (hne:some G≠row):VCells w' G A v m:=by
 have hlt:=h.lt
 obtain ⟨h1,h2,h3,h4,h5⟩:=h
 exact ⟨fun k hk=>hg.cell (h1 k hk) hne,hg.cell h2 hne,hg.cell h3 hne,hg.cell h4 hne,(World.frozen?_of_block (hg.block G hlt hne)).trans h5⟩
theorem VCells.set {w:World} {G:Nat} {A:List Int} {v:Value} {m:Nat} (h:VCells w G A v m) (v':Value):VCells (w.setCell ⟨G,32,none⟩ v') G A v' m:=by
 obtain ⟨h1,h2,h3,h4,h5⟩:=h
 refine ⟨fun k hk=>by simp [go_sem,h1 k hk],?_,?_,?_,?_⟩
 · simp [go_sem,h2]
 · simp [go_sem,h3]
 · simp [go_sem,h4]
 · simp [go_sem,h5]
end Go.Proofs.YtpnjgmgmakmgeaaGreat
