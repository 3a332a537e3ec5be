/- Texts of ours that stand together: SerMath, SerMem, SerMem2 -/
import Derived.Test.YtpnjgmgmakmgeaaGreatEffA
import Derived.Test.YtpnjgmgmakmgeaaGreatLay
/- Serial runs: plain mathematics. No function of the program is named here. -/
namespace Go.Proofs.YtpnjgmgmakmgeaaGreat
def serL:List Ent→List Acn→List Ent × List Eff
 | S,[]=>(S,[])
 | S,a :: L=>((serL (applyM S (runM S a).wrs) L).1,runM S a :: (serL (applyM S (runM S a).wrs) L).2)
def serM (S:List Ent) (L:List Acn):List Ent × List Eff:=if storeB S && actsB L then serL S L else ([],[])
theorem serM_yes {S:List Ent} {L:List Acn} (h:storeB S=true) (h2:actsB L=true):serM S L=serL S L:=by simp [serM,h,h2]
theorem serM_no {S:List Ent} {L:List Acn} (h:(storeB S && actsB L)=false):serM S L=([],[]):=by simp [serM,h]
theorem serL_append (S:List Ent) (L M:List Acn):serL S (L++M)=((serL (serL S L).1 M).1,(serL S L).2++(serL (serL S L).1 M).2):=by
 induction L generalizing S with
 | nil=>rfl
 | cons a r ih=>simp only [List.cons_append,serL,ih]
theorem serL_snoc (S:List Ent) (L:List Acn) (a:Acn):serL S (L++[a])=(applyM (serL S L).1 (runM (serL S L).1 a).wrs,(serL S L).2++[runM (serL S L).1 a]):=by
 rw [serL_append];rfl
theorem serL_len (S:List Ent) (L:List Acn):(serL S L).2.length=L.length:=by
 induction L generalizing S with
 | nil=>rfl
 | cons a r ih=>simp only [serL,List.length_cons,ih]
theorem store_run {S:List Ent} (a:Acn) (h:storeB S=true):storeB (applyM S (runM S a).wrs)=true:=by
 rw [applyM_yes h (wr_run S a)];exact ok_applyM h (wr_run S a)
theorem store_ser {S:List Ent} (L:List Acn) (h:storeB S=true):storeB (serL S L).1=true:=by
 induction L generalizing S with
 | nil=>exact h
 | cons a r ih=>exact ih (store_run a h)
theorem takeA_one (L:List Acn) (k:Nat) (h:k < L.length):L.take (k+1)=L.take k++[L.getD k noA]:=by
 rw [List.take_succ_eq_append_getElem h,List.getD_eq_getElem?_getD,List.getElem?_eq_getElem h];rfl
theorem serL_next (S:List Ent) (L:List Acn) (k:Nat) (h:k < L.length) :
  serL S (L.take (k+1))=(applyM (serL S (L.take k)).1 (runM (serL S (L.take k)).1 (L.getD k noA)).wrs,(serL S (L.take k)).2++[runM (serL S (L.take k)).1 (L.getD k noA)]):=by
 rw [takeA_one L k h,serL_snoc]
theorem serL_eff (S:List Ent) (L:List Acn):∀ x∈(serL S L).2,x.rds.length≤2∧x.wrs.length≤32:=by
 induction L generalizing S with
 | nil=>intro x h;cases h
 | cons a r ih =>
  intro x h
  rcases List.mem_cons.1 h with rfl | h
  · exact ⟨runM_rlen S a,runM_wlen S a⟩
  · exact ih _ x h
theorem serM_eff (S:List Ent) (L:List Acn):∀ x∈(serM S L).2,x.rds.length≤2∧x.wrs.length≤32:=by
 unfold serM;split
 · exact serL_eff S L
 · intro x h;cases h
theorem serM_len (S:List Ent) (L:List Acn):(serM S L).2.length≤10:=by
 unfold serM
 split
 · rename_i h
   rw [Bool.and_eq_true] at h
   rw [serL_len];exact (actsB_true h.2).1
 · simp
theorem serM_store (S:List Ent) (L:List Acn):(serM S L).1.length≤32:=by
 unfold serM
 split
 · rename_i h
   rw [Bool.and_eq_true] at h
   exact store_len (store_ser L h.1)
 · simp
theorem takeF_one (L:List Eff) (k:Nat) (h:k < L.length):L.take (k+1)=L.take k++[L.getD k noEff]:=by
 rw [List.take_succ_eq_append_getElem h,List.getD_eq_getElem?_getD,List.getElem?_eq_getElem h];rfl
def effsSumM (L:List Eff):Int:=if L.length≤10 then sumOfM 4 (L.map effSumM) else -1
theorem effsSum_cases (L:List Eff):effsSumM L = -1∨(0≤effsSumM L∧effsSumM L≤1000002):=by
 unfold effsSumM
 split
 · rcases sumOfM_cases 4 (L.map effSumM) with h1 | ⟨h1,h2,-⟩
   · exact .inl h1
   · exact .inr ⟨h1,h2⟩
 · exact .inl rfl
open Go.RowKit
set_option linter.unusedVariables false
def RowFs (w:World) (a:Option Addr) (n:Nat) (L:List Eff):Prop :=
 L.length=n∧n≤maxLen∧(0 < n→∃ b off,a=some ⟨b,off,none⟩∧∀ i,i < n→w.cell? ⟨b,off+i*3,none⟩=some (.bool (L.getD i noEff).done) ∧
  (∃ x,w.cell? ⟨b,off+i*3+1,none⟩=some x∧SliE w x (L.getD i noEff).rds)∧∃ y,w.cell? ⟨b,off+i*3+2,none⟩=some y∧SliE w y (L.getD i noEff).wrs)
theorem RowFs.below {w w':World} {a:Option Addr} {n:Nat} {L:List Eff} (h:RowFs w a n L) (hb:Below w.heap.size w w'):RowFs w' a n L:=by
 obtain ⟨h1,h2,h3⟩:=h
 refine ⟨h1,h2,fun hl=>?_⟩
 obtain ⟨b,off,he,hc⟩:=h3 hl
 refine ⟨b,off,he,fun i hi=>?_⟩
 obtain ⟨c0,⟨x,c1,s1⟩,y,c2,s2⟩:=hc i hi
 have hlt:b < w.heap.size:=World.block_lt_of_cell? w ⟨b,off+i*3,none⟩ c0
 exact ⟨by rw [hb.cell (p:=⟨b,off+i*3,none⟩) hlt];exact c0,⟨x,by rw [hb.cell (p:=⟨b,off+i*3+1,none⟩) hlt];exact c1,s1.below hb⟩,y,by rw [hb.cell (p:=⟨b,off+i*3+2,none⟩) hlt];exact c2,s2.below hb⟩
theorem rowFs_empty (w:World) (a:Option Addr):RowFs w a 0 []:=⟨rfl,by unfold maxLen;omega,fun h=>absurd h (by omega)⟩
theorem getD_memF (L:List Eff) (k:Nat) (h:k < L.length):L.getD k noEff∈L:=by
 rw [List.getD_eq_getElem?_getD,List.getElem?_eq_getElem h];exact List.getElem_mem h
theorem RowFs.take {w:World} {a:Option Addr} {n:Nat} {L:List Eff} (h:RowFs w a n L) (k:Nat) (hk:k≤n):RowFs w a k (L.take k):=by
 obtain ⟨h1,h2,h3⟩:=h
 refine ⟨by rw [List.length_take];omega,by omega,fun hl=>?_⟩
 obtain ⟨b,off,he,hc⟩:=h3 (by omega)
 refine ⟨b,off,he,fun i hi=>?_⟩
 have e:(L.take k).getD i noEff=L.getD i noEff:=by
  rw [List.getD_eq_getElem?_getD,List.getD_eq_getElem?_getD,List.getElem?_take,if_pos hi]
 rw [e];exact hc i (by omega)
theorem RowFs.drop {w:World} {b off n:Nat} {L:List Eff} (h:RowFs w (some ⟨b,off,none⟩) n L) (k:Nat) (hk:k≤n):RowFs w (some ⟨b,off+k*3,none⟩) (n - k) (L.drop k):=by
 obtain ⟨h1,h2,h3⟩:=h
 refine ⟨by rw [List.length_drop];omega,by omega,fun hl=>?_⟩
 obtain ⟨b',off',he,hc⟩:=h3 (by omega)
 obtain ⟨rfl,rfl⟩:b=b'∧off=off':=by simpa using he
 refine ⟨b,off+k*3,rfl,fun i hi=>?_⟩
 have e:(L.drop k).getD i noEff=L.getD (k+i) noEff:=by
  rw [List.getD_eq_getElem?_getD,List.getD_eq_getElem?_getD,List.getElem?_drop]
 have:=hc (k+i) (by omega)
 rw [e,show off+k*3+i*3=off+(k+i)*3 by omega];exact this
def effC (e:TypeId) (x:Eff):List Cel:=[.bool x.done,.ents e x.rds,.ents e x.wrs]
theorem effC_len (e:TypeId) (x:Eff):(effC e x).length=3:=rfl
theorem effC_get (e:TypeId) (L:List Eff) (i:Nat) (h:i < L.length):(L.flatMap (effC e))[i*3]? = some (.bool (L.getD i noEff).done)∧(L.flatMap (effC e))[i*3+1]? = some (.ents e (L.getD i noEff).rds)∧(L.flatMap (effC e))[i*3+2]? = some (.ents e (L.getD i noEff).wrs):=by
 have h0:=flatMap_get (effC e) 3 (effC_len e) L i 0 _ (getD_some L i noEff h) (by omega)
 have h1:=flatMap_get (effC e) 3 (effC_len e) L i 1 _ (getD_some L i noEff h) (by omega)
 have h2:=flatMap_get (effC e) 3 (effC_len e) L i 2 _ (getD_some L i noEff h) (by omega)
 rw [Nat.add_zero] at h0
 exact ⟨h0,h1,h2⟩
def OwnFs (w:World) (B T:Nat) (eX eE:TypeId) (v:Value) (L:List Eff):Prop:=L.length≤4000000∧∃ xs,Own2 w B T eX 3 v L.length (L.flatMap (effC eE)) xs
theorem OwnFs.below {w w':World} {B T:Nat} {eX eE:TypeId} {v:Value} {L:List Eff} (h:OwnFs w B T eX eE v L) (hb:Below w.heap.size w w'):OwnFs w' B T eX eE v L:=by
 obtain ⟨h0,xs,h1⟩:=h;exact ⟨h0,xs,h1.below hb⟩
theorem OwnFs.mono {w:World} {B T B' T':Nat} {eX eE:TypeId} {v:Value} {L:List Eff} (h:OwnFs w B T eX eE v L) (hB:B'≤B) (hT:T≤T'):OwnFs w B' T' eX eE v L:=by
 obtain ⟨h0,xs,h1⟩:=h;exact ⟨h0,xs,h1.mono hB hT⟩
theorem OwnFs.turn {w w':World} {B T B' T':Nat} {eX eE:TypeId} {v:Value} {L:List Eff} (h:OwnFs w B T eX eE v L) (ht:Turn B' T' w w') (hd:T≤B'∨T'≤B∨w.heap.size≤B'):OwnFs w' B T eX eE v L:=by
 obtain ⟨h0,xs,h1⟩:=h;exact ⟨h0,xs,h1.turn ht hd⟩
theorem rowFs_of_own {w:World} {B T:Nat} {eX eE:TypeId} {v:Value} {L:List Eff} (h:OwnFs w B T eX eE v L):∃ a cap,v = .slice a L.length cap∧RowFs w a L.length L∧(a=none→cap=0)∧L.length≤cap:=by
 obtain ⟨h0,xs,h1⟩:=h
 rcases slice_of_owns h1.1 with ⟨rfl,hn⟩ | ⟨g,cap,rfl,hB,hg,hnc,hcm⟩
 · obtain rfl:L=[]:=List.eq_nil_of_length_eq_zero hn
   exact ⟨none,0,rfl,rowFs_empty _ _,fun _=>rfl,Nat.le_refl _⟩
 · refine ⟨_,cap,rfl,⟨rfl,by unfold maxLen;omega,fun _=>⟨g,0,rfl,fun i hi=>?_⟩⟩,fun h=>(by cases h),hnc⟩
   obtain ⟨c0,c1,c2⟩:=effC_get eE L i hi
   obtain ⟨x,hx,hcx,hox,-⟩:=h1.at c0
   obtain ⟨y,hy,hcy,hoy,-⟩:=h1.at c1
   obtain ⟨z,hz,hcz,hoz,-⟩:=h1.at c2
   rw [Nat.zero_add]
   have hox':x = .bool (L.getD i noEff).done:=hox
   exact ⟨by rw [hcx,hox'],⟨y,hcy,sliE_of_own hoy⟩,z,hcz,sliE_of_own hoz⟩
def OwnSF (w:World) (B T:Nat) (eX eE:TypeId) (v u:Value) (S:List Ent) (L:List Eff):Prop :=
 w.ownsRow B eE 2 v S.length (flatE S)∧WfE S∧(∀ p,v.ownBlock=some p→p < T)∧L.length≤4000000∧∃ xs,Own2 w B T eX 3 u L.length (L.flatMap (effC eE)) xs∧∀ x∈u :: xs,∀ p,v.ownBlock=some p→blk x≠some p
theorem OwnSF.effs {w:World} {B T:Nat} {eX eE:TypeId} {v u:Value} {S:List Ent} {L:List Eff} (h:OwnSF w B T eX eE v u S L):OwnFs w B T eX eE u L:=by
 obtain ⟨-,-,-,h4,xs,h5,-⟩:=h;exact ⟨h4,xs,h5⟩
theorem OwnSF.below {w w':World} {B T:Nat} {eX eE:TypeId} {v u:Value} {S:List Ent} {L:List Eff} (h:OwnSF w B T eX eE v u S L) (hb:Below w.heap.size w w'):OwnSF w' B T eX eE v u S L:=by
 obtain ⟨h1,h2,h3,h4,xs,h5,h6⟩:=h;exact ⟨owns_below h1 hb,h2,h3,h4,xs,h5.below hb,h6⟩
theorem OwnSF.mono {w:World} {B T B' T':Nat} {eX eE:TypeId} {v u:Value} {S:List Ent} {L:List Eff} (h:OwnSF w B T eX eE v u S L) (hB:B'≤B) (hT:T≤T'):OwnSF w B' T' eX eE v u S L:=by
 obtain ⟨h1,h2,h3,h4,xs,h5,h6⟩:=h;exact ⟨owns_mono h1 hB,h2,fun p hp=>Nat.lt_of_lt_of_le (h3 p hp) hT,h4,xs,h5.mono hB hT,h6⟩
theorem OwnSF.row {w:World} {B T:Nat} {eX eE:TypeId} {v u:Value} {S:List Ent} {L:List Eff} (h:OwnSF w B T eX eE v u S L) (hl:S.length≤4000000):∃ a c,v = .slice a S.length c∧RowE w a S.length S∧(a=none→c=0):=by
 obtain ⟨h1,h2,-⟩:=h
 obtain ⟨a,c,e,r,z⟩:=rowE_of_owns h1 hl h2;exact ⟨a,c,e,r,z⟩
theorem OwnSF.store {w w':World} {B T T':Nat} {eX eE:TypeId} {v u v':Value} {S S':List Ent} {L:List Eff} (h:OwnSF w B T eX eE v u S L) (hb:Below w.heap.size w w') {B':Nat} (ho:w'.ownsRow B' eE 2 v' S'.length (flatE S')) (hw:WfE S')
  (hB:B≤B') (hT:T≤B') (hT':w'.heap.size≤T') (hTT:T≤T'):OwnSF w' B T' eX eE v' u S' L:=by
 obtain ⟨h1,h2,h3,h4,xs,h5,h6⟩:=h
 refine ⟨owns_mono ho hB,hw,fun p hp=>Nat.lt_of_lt_of_le (ho.lt p hp).2 hT',h4,xs,(h5.below hb).mono (Nat.le_refl _) hTT,fun x hx p hp hq=>?_⟩
 have:=(h5.blk_lt x hx p hq).2.1
 have:=(ho.lt p hp).1
 omega
def NewSF (w:World) (eX eE:TypeId) (S:List Ent) (L:List Eff) (e:Ending) (w':World):Prop :=
 ∃ v u,e = .returned (.tuple #[v,u])∧OwnSF w' w.heap.size w'.heap.size eX eE v u S L∧Below w.heap.size w w'
theorem effNew {w:World} {B:Nat} {eE:TypeId} {x:Eff} {a b:Value} (h:OwnF w B eE (.agg #[.bool x.done,a,b]) x) (h1:x.rds.length≤4000000) (h2:x.wrs.length≤4000000) :
  (∀ (i:Nat) (c:Cel) (y:Value),(effC eE x)[i]? = some c→([.bool x.done,a,b]:List Value)[i]? = some y→c.own w y∧∀ p,blk y=some p→B≤p)∧Apart [.bool x.done,a,b]:=by
 obtain ⟨va,vb,e0,g1,g2,g3,g4,g5⟩:=h
 simp only [Value.agg.injEq,Array.mk.injEq,List.cons.injEq,and_true,true_and] at e0
 obtain ⟨rfl,rfl⟩:=e0
 have k1:=owns_blk g1
 have k2:=owns_blk g2
 refine ⟨fun i c y hc hy=>?_,?_⟩
 · match i,hc,hy with
   | 0,hc,hy =>
    simp [effC] at hc hy
    subst hc hy
    exact ⟨rfl,fun p hp=>by cases hp⟩
   | 1,hc,hy =>
    simp [effC] at hc hy
    subst hc hy
    exact ⟨ents_own g1 g3 h1,fun p hp=>(g1.lt p (by rw [← k1];exact hp)).1⟩
   | 2,hc,hy =>
    simp [effC] at hc hy
    subst hc hy
    exact ⟨ents_own g2 g4 h2,fun p hp=>(g2.lt p (by rw [← k2];exact hp)).1⟩
   | (n+3),hc,hy=>simp [effC] at hc
 · refine apart_cons.2 ⟨fun x hx p hp=>(by cases hp),apart_cons.2 ⟨fun y hy p hp hq=>?_,by simp [Apart]⟩⟩
   simp at hy;subst hy
   rw [k1] at hp;rw [k2] at hq
   exact g5 p hp hq
theorem flatMap_snoc {α β : Type} (f : α→List β) (L:List α) (x : α):(L++[x]).flatMap f=L.flatMap f++f x:=by simp
theorem wp_append_el2 {P:Program} {W:World} {o:Oper} {a:Act} {K:Act→World→Prop} {Q:Exit→Act→World→Prop} (s x:Operand) (t:TypeId)
  (ho:o.op = .call { callee:=.builtin .append,args:=#[s,x],argTypes:=#[t,t] })
  (B T:Nat) (e e':TypeId) (z:Value) (size bytes:Nat) (ht:P.underlying t=some (.slice e)) (hinfo:(P.info? e).map (fun i=>(i.zero,i.size,i.bytes))=some (some z,size,bytes))
  (hzs:z.cells.size=size) (hsz:0 < size) (v:Value) (n:Nat) (cs:List Cel) (xs:List Value) (cs':List Cel) (news:List Value) (hs:a.eval s=v) (hown:Own2 W B T e size v n cs xs)
  (hx:a.eval x = .slice (some ⟨W.heap.size,0,none⟩) 1 1) (hl:news.length=size) (hlc:cs'.length=size)
  (hnw:∀ (i:Nat) (c:Cel) (y:Value),cs'[i]? = some c→news[i]? = some y→c.own W y∧∀ b,blk y=some b→T≤b) (ha:Apart news)
  (hn:n≤4000000) (hby:bytes≤100000) (hbase:B≤W.heap.size) (hBT:B≤T) (hT:T≤W.heap.size)
  (h:∀ v' w',Own2 w' B w'.heap.size e size v' (n+1) (cs++cs') (xs++news)→v'≠.slice none 0 0→Below B W w'→W.heap.size < w'.heap.size→(W.alloc (.cells news.toArray e')).grownBy w' v.ownBlock→(v'.ownBlock=v.ownBlock∨v'.ownBlock=some (W.heap.size+1))→K (a.put o.dst v') w'):Oper.wp P o a (W.alloc (.cells news.toArray e')) K Q:=by
 obtain ⟨i0,hi,hz0,hz1,hz2⟩:=info_parts hinfo
 have hcell:∀ j u,news[j]? = some u→(W.alloc (.cells news.toArray e')).cell? ((⟨W.heap.size,0,none⟩:Addr).add j)=some u:=by
  intro j u hu
  rw [show (⟨W.heap.size,0,none⟩:Addr).add j=⟨W.heap.size,j,none⟩ by unfold Addr.add;split <;> simp_all]
  rw [cell_of_row (W.alloc (.cells news.toArray e')) W.heap.size j news.toArray e' (0,0) (heap_alloc_new W _)]
  rw [List.getElem?_toArray];exact hu
 have hone:∀ u∈news,u.oneCell'=true:=fun u hu=>by
  obtain ⟨i,hi⟩:=List.getElem?_of_mem hu
  obtain ⟨c,hc⟩:=getElem?_both (hl.trans hlc.symm) hi
  exact c.one (hnw i c u hc hi).1
 have hbytes:(n+1)*bytes≤140737488355328:=by
  calc (n+1)*bytes≤4000001*100000:=Nat.mul_le_mul (by omega) hby
   _≤140737488355328:=by decide
 have hownW:=hown.alloc (.cells news.toArray e')
 obtain ⟨v',w',hr,h2,h3,h4,h5⟩:=run_append_own_at (P:=P) (W.alloc (.cells news.toArray e')) B t o.type e i0 z size bytes ht hi hz0 hz1 hz2 hzs hsz v n xs hownW.1 ⟨W.heap.size,0,none⟩ 1 1 news (by rw [hl,Nat.one_mul]) hcell hone (by unfold maxLen;omega) hbytes (by simp;omega)
 have hsz':(W.alloc (.cells news.toArray e')).heap.size=W.heap.size+1:=by simp
 have hsn:Own2 w' B (w'.heap.size+1) e size v' (n+1) (cs++cs') (xs++news):=by
  refine hownW.snoc h2 h3 h5 (hl.trans hlc.symm) (fun i c y hc hy=>⟨c.keep (hnw i c y hc hy).1 (fun b hb=>?_),fun b hb=>?_⟩) ha (fun y hy z hz p hp hq=>?_) ?_ ?_
  · exact Below.heap_alloc W _ b (c.lt (hnw i c y hc hy).1 hb)
  · have:=(hnw i c y hc hy).2 b hb
    have:=c.lt (hnw i c y hc hy).1 hb
    have:=h3.size
    omega
  · obtain ⟨i,hi⟩:=List.getElem?_of_mem hz
    obtain ⟨c,hc⟩:=getElem?_both (hl.trans hlc.symm) hi
    have:=(hnw i c z hc hi).2 p hq
    have:=hown.blk_lt y hy p hp
    omega
  · have:=h3.size;omega
  · have:=h3.size;omega
 have hfin:Own2 w' B w'.heap.size e size v' (n+1) (cs++cs') (xs++news):=by
  have hlt:=hsn.blk_lt
  obtain ⟨g1,g2,g3,g4,g5⟩:=hsn
  exact ⟨g1,fun b hb=>(hlt v' List.mem_cons_self b hb).2.2,g3,fun i c y hc hy=>⟨(g4 i c y hc hy).1,fun b hb=>⟨((g4 i c y hc hy).2 b hb).1,(hlt y (List.mem_cons_of_mem _ (List.mem_of_getElem? hy)) b hb).2.2⟩⟩,g5⟩
 unfold Oper.wp execOp
 simp only [ho,resolve,invoke,builtin,Sem.run_bind,Sem.run_pure,Result.andThen_ok,List.map_toArray,List.map_cons,List.map_nil,hs,hx,hr]
 refine h v' w' hfin (fun e=>by have:=(h4.1 e).2;omega) ?_ (by have:=h3.size;omega) h3 (by rw [hsz'] at h5;exact h5)
 exact ((Below.refl _ _).alloc hbase _).grown h3 (by simp;omega) (fun k hk=>(hownW.1.lt k hk).1)
theorem wpList_append_el2 {P:Program} {W:World} {ops:Array Oper} {rest:List Oper} {o:Oper} {a:Act} {Q:Exit→Act→World→Prop} (hgd:Region.wanted o (yielded ops a.tmps)=true) (s x:Operand) (t:TypeId)
  (ho:o.op = .call { callee:=.builtin .append,args:=#[s,x],argTypes:=#[t,t] })
  (B T:Nat) (e e':TypeId) (z:Value) (size bytes:Nat) (ht:P.underlying t=some (.slice e)) (hinfo:(P.info? e).map (fun i=>(i.zero,i.size,i.bytes))=some (some z,size,bytes))
  (hzs:z.cells.size=size) (hsz:0 < size) (v:Value) (n:Nat) (cs:List Cel) (xs:List Value) (cs':List Cel) (news:List Value) (hs:a.eval s=v) (hown:Own2 W B T e size v n cs xs)
  (hx:a.eval x = .slice (some ⟨W.heap.size,0,none⟩) 1 1) (hl:news.length=size) (hlc:cs'.length=size)
  (hnw:∀ (i:Nat) (c:Cel) (y:Value),cs'[i]? = some c→news[i]? = some y→c.own W y∧∀ b,blk y=some b→T≤b) (ha:Apart news)
  (hn:n≤4000000) (hby:bytes≤100000) (hbase:B≤W.heap.size) (hBT:B≤T) (hT:T≤W.heap.size)
  (h:∀ v' w',Own2 w' B w'.heap.size e size v' (n+1) (cs++cs') (xs++news)→v'≠.slice none 0 0→Below B W w'→W.heap.size < w'.heap.size→(W.alloc (.cells news.toArray e')).grownBy w' v.ownBlock→(v'.ownBlock=v.ownBlock∨v'.ownBlock=some (W.heap.size+1))→wpList P ops Q rest (a.put o.dst v') w') :
  wpList P ops Q (o :: rest) a (W.alloc (.cells news.toArray e')) :=
 BigFrame.wpList_want hgd fun _ hK=>wp_append_el2 s x t ho B T e e' z size bytes ht hinfo hzs hsz v n cs xs cs' news hs hown hx hl hlc hnw ha hn hby hbase hBT hT fun v' w' h1 h2 h3 h4 h5 h6=>hK _ _ (h v' w' h1 h2 h3 h4 h5 h6)
theorem OwnSF.snoc {W w':World} {B T:Nat} {eX eE:TypeId} {v u u':Value} {S:List Ent} {L:List Eff} {x:Eff} {a b:Value} {xs:List Value} {o:Obj} (h1:W.ownsRow B eE 2 v S.length (flatE S)) (h2:WfE S) (h4:L.length≤3999999)
  (h6:∀ y∈u :: (xs++[.bool x.done,a,b]),∀ p,v.ownBlock=some p→blk y≠some p) (hub:blk u=u.ownBlock)
  (ho:Own2 w' B w'.heap.size eX 3 u' (L.length+1) (L.flatMap (effC eE)++effC eE x) (xs++[.bool x.done,a,b])) (hg:(W.alloc o).grownBy w' u.ownBlock) (hat:u'.ownBlock=u.ownBlock∨u'.ownBlock=some (W.heap.size+1)) :
  OwnSF w' B w'.heap.size eX eE v u' S (L++[x]):=by
 have hk:w'.ownsRow B eE 2 v S.length (flatE S):=(h1.alloc o).kept hg (by
  rcases hq:v.ownBlock with _ | q
  · exact .inl rfl
  · refine .inr (fun e=>?_)
    exact h6 u List.mem_cons_self q hq (by rw [hub];exact e.symm))
 refine ⟨hk,h2,fun p hp=>(hk.lt p hp).2,by simp;omega,xs++[.bool x.done,a,b],by rw [flatMap_snoc,List.length_append];exact ho,fun y hy p hp hq=>?_⟩
 rcases List.mem_cons.1 hy with rfl | hy
 · rw [owns_blk ho.1] at hq
   rcases hat with e | e
   · rw [e,← hub] at hq;exact h6 u List.mem_cons_self p hp hq
   · rw [e] at hq
     have:=(h1.lt p hp).2
     simp at hq;omega
 · exact h6 y (List.mem_cons_of_mem _ hy) p hp hq
theorem ser_ready {wr w2 w4:World} {B C:Nat} {eX eE:TypeId} {v u v' a b:Value} {S S':List Ent} {L:List Eff} {x:Eff} (h:OwnSF wr B wr.heap.size eX eE v u S L) (hF:OwnF w2 wr.heap.size eE (.agg #[.bool x.done,a,b]) x) (h1:x.rds.length≤4000000) (h2:x.wrs.length≤4000000)
  (hb2:Below wr.heap.size wr w2) (hb4:Below w2.heap.size w2 w4) (ho:w4.ownsRow C eE 2 v' S'.length (flatE S')) (hC:w2.heap.size≤C) :
  ∃ xs,Own2 w4 B wr.heap.size eX 3 u L.length (L.flatMap (effC eE)) xs∧blk u=u.ownBlock∧(∀ y∈u :: (xs++[.bool x.done,a,b]),∀ p,v'.ownBlock=some p→blk y≠some p) ∧
   (∀ (i:Nat) (c:Cel) (y:Value),(effC eE x)[i]? = some c→([.bool x.done,a,b]:List Value)[i]? = some y→c.own w4 y∧∀ p,blk y=some p→wr.heap.size≤p)∧Apart [.bool x.done,a,b]:=by
 obtain ⟨-,-,-,-,xs,h5,-⟩:=h
 have hb24:=hb2.trans (hb4.mono hb2.size)
 have h54:=h5.below hb24
 obtain ⟨hn,hap⟩:=effNew (hF.below hb4) h1 h2
 have hlt:=h5.blk_lt
 have hs2:=hb2.size
 obtain ⟨va,vb,e0,g1,g2,g3,g4,g5⟩:=hF
 simp only [Value.agg.injEq,Array.mk.injEq,List.cons.injEq,and_true,true_and] at e0
 obtain ⟨rfl,rfl⟩:=e0
 refine ⟨xs,h54,owns_blk h5.1,fun y hy p hp hq=>?_,hn,hap⟩
 have hpC:=(ho.lt p hp).1
 rcases List.mem_cons.1 hy with rfl | hy
 · have:=(hlt y List.mem_cons_self p hq).2.2;omega
 · rcases List.mem_append.1 hy with hy | hy
   · have:=(hlt y (List.mem_cons_of_mem _ hy) p hq).2.2;omega
   · simp at hy
     rcases hy with rfl | rfl | rfl
     · cases hq
     · rw [owns_blk g1] at hq;have:=(g1.lt p hq).2;omega
     · rw [owns_blk g2] at hq;have:=(g2.lt p hq).2;omega
theorem flatMap_set3 {α β : Type} (f : α→List β) (hf:∀ x,(f x).length=3):∀ (L:List α) (i:Nat) (y : α) (c0 c1 c2 : β),i < L.length→f y=[c0,c1,c2]→(L.set i y).flatMap f=(((L.flatMap f).set (i*3) c0).set (i*3+1) c1).set (i*3+2) c2:=by
 intro L
 induction L with
 | nil=>intro i y c0 c1 c2 h;cases h
 | cons a r ih =>
  intro i y c0 c1 c2 h he
  rw [List.flatMap_cons]
  obtain ⟨p,q,t,hpq⟩:∃ p q t,f a=[p,q,t]:=by
   have:=hf a
   match f a,this with
   | [p,q,t],_=>exact ⟨p,q,t,rfl⟩
  rw [hpq]
  cases i with
  | zero=>simp [he]
  | succ i =>
   rw [List.set_cons_succ,List.flatMap_cons,ih i y c0 c1 c2 (by simpa using h) he,hpq,show (i+1)*3=i*3+1+1+1 by omega]
   simp
theorem made3_get (p q r:Value) (n i:Nat) (x:Value) (h:(madeCells (Value.agg #[p,q,r]).cells (n*3)).toList[i]? = some x):(i % 3=0∧x=p)∨(i % 3=1∧x=q)∨(i % 3=2∧x=r):=by
 obtain ⟨hi,rfl⟩:=List.getElem?_eq_some_iff.1 h
 simp [Value.cells,madeCells] at hi ⊢
 rcases (by omega:i % 3=0∨i % 3=1∨i % 3=2) with h | h | h <;> simp [h]
theorem rep3_get {α : Type} (f : α→List Cel) (a : α) (c0 c1 c2:Cel) (hf:f a=[c0,c1,c2]):∀ (n i:Nat) (c:Cel),((List.replicate n a).flatMap f)[i]? = some c→(i % 3=0∧c=c0)∨(i % 3=1∧c=c1)∨(i % 3=2∧c=c2):=by
 intro n
 induction n with
 | zero=>intro i c h;simp at h
 | succ n ih =>
  intro i c h
  rw [List.replicate_succ,List.flatMap_cons,hf] at h
  match i,h with
  | 0,h=>simp at h;exact .inl ⟨rfl,h.symm⟩
  | 1,h=>simp at h;exact .inr (.inl ⟨rfl,h.symm⟩)
  | 2,h=>simp at h;exact .inr (.inr ⟨rfl,h.symm⟩)
  | i+3,h =>
   rcases ih i c (by simpa using h) with ⟨h1,h2⟩ | ⟨h1,h2⟩ | ⟨h1,h2⟩
   · exact .inl ⟨by omega,h2⟩
   · exact .inr (.inl ⟨by omega,h2⟩)
   · exact .inr (.inr ⟨by omega,h2⟩)
theorem own2_made3 {α : Type} {w:World} {B T:Nat} {e:TypeId} {n:Nat} {v:Value} (p q r:Value) (c0 c1 c2:Cel) (f : α→List Cel) (a : α) (hf:f a=[c0,c1,c2])
  (h:w.ownsRow B e 3 v n (madeCells (Value.agg #[p,q,r]).cells (n*3)).toList) (hv:∀ b,blk v=some b→b < T) (hp:c0.own w p) (hq:c1.own w q) (hr:c2.own w r) (hbp:blk p=none) (hbq:blk q=none) (hbr:blk r=none) (hff:∀ x,(f x).length=3) :
  Own2 w B T e 3 v n ((List.replicate n a).flatMap f) (madeCells (Value.agg #[p,q,r]).cells (n*3)).toList:=by
 refine own2_plain h hv (by rw [flatMap_len f 3 hff,List.length_replicate];exact h.1) fun i c x hc hx=>?_
 rcases made3_get p q r n i x hx with ⟨h1,rfl⟩ | ⟨h1,rfl⟩ | ⟨h1,rfl⟩ <;> rcases rep3_get f a c0 c1 c2 hf n i c hc with ⟨h2,rfl⟩ | ⟨h2,rfl⟩ | ⟨h2,rfl⟩
 · exact ⟨hp,hbp⟩
 · omega
 · omega
 · omega
 · exact ⟨hq,hbq⟩
 · omega
 · omega
 · omega
 · exact ⟨hr,hbr⟩
theorem Own2.store3 {w:World} {B T T':Nat} {e:TypeId} {n g cap:Nat} {cs:List Cel} {xs:List Value} (h:Own2 w B T e 3 (.slice (some ⟨g,0,none⟩) n cap) n cs xs) (k:Nat) (c0 c1 c2:Cel) (x y z:Value)
  (hx:∀ w,c0.own w x) (hxb:blk x=none) (hy:c1.own w y) (hyb:∀ b,blk y=some b→T≤b∧b < T') (hz:c2.own w z) (hzb:∀ b,blk z=some b→T≤b∧b < T') (hap:∀ p,blk y=some p→blk z≠some p) (hT:T≤T') (hB:B≤T) :
  Own2 (((w.setCell ⟨g,k*3,none⟩ x).setCell ⟨g,k*3+1,none⟩ y).setCell ⟨g,k*3+2,none⟩ z) B T' e 3 (.slice (some ⟨g,0,none⟩) n cap) n (((cs.set (k*3) c0).set (k*3+1) c1).set (k*3+2) c2) (((xs.set (k*3) x).set (k*3+1) y).set (k*3+2) z):=by
 have hg:=h.2.1 g rfl
 have hlt:=h.blk_lt
 have h1:=h.setNew (T':=T) (k*3) c0 x (hx w) (fun b hb=>by rw [hxb] at hb;cases hb) (Nat.le_refl _) hB
 have h2:=h1.setNew (k*3+1) c1 y (c1.keep hy (fun b hb=>heap_setCell_other w ⟨g,k*3,none⟩ b x (by have:=hyb b hb;simp;omega))) hyb hT hB
 refine h2.set (k*3+2) c2 z ?_ (fun b hb=>by have:=hzb b hb;omega) (fun hb=>by have:=hzb g hb;omega) (fun i u hi hu p hp hq=>?_) (Nat.le_refl _)
 · refine c2.keep hz (fun b hb=>?_)
   have:=hzb b hb
   exact (heap_setCell_other _ ⟨g,k*3+1,none⟩ b y (by simp;omega)).trans (heap_setCell_other w ⟨g,k*3,none⟩ b x (by simp;omega))
 · have hq':=hzb p hq
   rw [List.getElem?_set] at hu
   split at hu
   · split at hu
     · cases hu;exact hap p hp hq
     · cases hu
   · rw [List.getElem?_set] at hu
     split at hu
     · split at hu
       · cases hu;rw [hxb] at hp;cases hp
       · cases hu
     · have:=hlt u (List.mem_cons_of_mem _ (List.mem_of_getElem? hu)) p hp;omega
def oeC (e:TypeId):Option Eff→List Cel
 | some x=>[.bool x.done,.ents e x.rds,.ents e x.wrs]
 | none=>[.bool false,.ents e [],.ents e []]
theorem oeC_len (e:TypeId) (x:Option Eff):(oeC e x).length=3:=by cases x <;> rfl
theorem oeC_all (e:TypeId) (L:List Eff):(L.map some).flatMap (oeC e)=L.flatMap (effC e):=by
 induction L with
 | nil=>rfl
 | cons a r ih=>rw [List.map_cons,List.flatMap_cons,List.flatMap_cons,ih];rfl
def FillF (w:World) (B g n:Nat) (eX eE:TypeId) (L:List Eff) (k:Nat):Prop:=∃ xs,Own2 w B w.heap.size eX 3 (.slice (some ⟨g,0,none⟩) n n) n ((fillO L k).flatMap (oeC eE)) xs
theorem FillF.store {w:World} {B g n:Nat} {eX eE:TypeId} {L:List Eff} {k T:Nat} {xs:List Value} (h:Own2 w B T eX 3 (.slice (some ⟨g,0,none⟩) n n) n ((fillO L k).flatMap (oeC eE)) xs) (hk:k < L.length) (a b:Value)
  (hF:OwnF w T eE (.agg #[.bool (L.getD k noEff).done,a,b]) (L.getD k noEff)) (hl1:(L.getD k noEff).rds.length≤4000000) (hl2:(L.getD k noEff).wrs.length≤4000000) (hB:B≤T) (hTw:T≤w.heap.size) :
  FillF (((w.setCell ⟨g,k*3,none⟩ (.bool (L.getD k noEff).done)).setCell ⟨g,k*3+1,none⟩ a).setCell ⟨g,k*3+2,none⟩ b) B g n eX eE L (k+1):=by
 obtain ⟨va,vb,e0,g1,g2,g3,g4,g5⟩:=hF
 simp only [Value.agg.injEq,Array.mk.injEq,List.cons.injEq,and_true,true_and] at e0
 obtain ⟨rfl,rfl⟩:=e0
 have k1:=owns_blk g1
 have k2:=owns_blk g2
 have h1:=h.store3 (T':=w.heap.size) k (.bool (L.getD k noEff).done) (.ents eE (L.getD k noEff).rds) (.ents eE (L.getD k noEff).wrs) (.bool (L.getD k noEff).done) a b (fun _=>rfl) rfl (ents_own g1 g3 hl1) (fun p hp=>by rw [k1] at hp;exact g1.lt p hp) (ents_own g2 g4 hl2) (fun p hp=>by rw [k2] at hp;exact g2.lt p hp)
  (fun p hp=>by rw [k1] at hp;rw [k2];exact g5 p hp) hTw hB
 rw [← flatMap_set3 (oeC eE) (oeC_len eE) (fillO L k) k (some (L.getD k noEff)) _ _ _ (by rw [fillO_len L k (by omega)];exact hk) rfl,fillO_set L k noEff hk] at h1
 exact ⟨_,h1.mono (Nat.le_refl _) (by simp [World.setCell])⟩
theorem FillF.next {w:World} {B T g n:Nat} {eX eE:TypeId} {L:List Eff} {k:Nat} {xs:List Value} (h:Own2 w B T eX 3 (.slice (some ⟨g,0,none⟩) n n) n ((fillO L k).flatMap (oeC eE)) xs) (hk:k < L.length) :
  w.cell? ⟨g,k*3,none⟩=some (.bool false)∧(∃ x,w.cell? ⟨g,k*3+1,none⟩=some x)∧(∃ x,w.cell? ⟨g,k*3+2,none⟩=some x)∧w.frozen? ⟨g,k*3,none⟩=false∧w.frozen? ⟨g,k*3+1,none⟩=false∧w.frozen? ⟨g,k*3+2,none⟩=false:=by
 have hfg:=fillO_get L k hk
 obtain ⟨x0,-,hcx0,hox0,-⟩:=h.at (k:=k*3) (c:=.bool false) (by have:=flatMap_get (oeC eE) 3 (oeC_len eE) (fillO L k) k 0 none hfg (by omega);rw [Nat.add_zero] at this;exact this)
 obtain ⟨x1,-,hcx1,-,-⟩:=h.at (k:=k*3+1) (c:=.ents eE []) (flatMap_get (oeC eE) 3 (oeC_len eE) (fillO L k) k 1 none hfg (by omega))
 obtain ⟨x2,-,hcx2,-,-⟩:=h.at (k:=k*3+2) (c:=.ents eE []) (flatMap_get (oeC eE) 3 (oeC_len eE) (fillO L k) k 2 none hfg (by omega))
 have hb:x0 = .bool false:=hox0
 subst hb
 exact ⟨hcx0,⟨x1,hcx1⟩,⟨x2,hcx2⟩,h.1.frozenAt _,h.1.frozenAt _,h.1.frozenAt _⟩
theorem OwnFs.cell {w:World} {B T g n cap:Nat} {L:List Eff} {eX eE:TypeId} (h:OwnFs w B T eX eE (.slice (some ⟨g,0,none⟩) n cap) L) (j:Nat) (hj:j < L.length) :
  n=L.length∧∃ x y z,w.cell? ⟨g,j*3,none⟩=some x∧w.cell? ⟨g,j*3+1,none⟩=some y∧w.cell? ⟨g,j*3+2,none⟩=some z∧w.frozen? ⟨g,j*3,none⟩=false∧g < w.heap.size∧B≤g∧g < T:=by
 obtain ⟨h0,xs,h1⟩:=h
 have hn:n=L.length:=by
  rcases slice_of_owns h1.1 with ⟨h2,_⟩ | ⟨g',cap',h2,_⟩
  · cases h2
  · simp at h2;exact h2.2.1
 subst hn
 obtain ⟨c0,c1,c2⟩:=effC_get eE L j hj
 obtain ⟨x,-,hx,-,-⟩:=h1.at c0
 obtain ⟨y,-,hy,-,-⟩:=h1.at c1
 obtain ⟨z,-,hz,-,-⟩:=h1.at c2
 have:=h1.blk_lt _ List.mem_cons_self g rfl
 exact ⟨rfl,x,y,z,hx,hy,hz,h1.1.frozenAt _,this.2.2,this.1,this.2.1⟩
end Go.Proofs.YtpnjgmgmakmgeaaGreat
