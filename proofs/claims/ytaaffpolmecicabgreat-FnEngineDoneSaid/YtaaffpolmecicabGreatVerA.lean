/- Texts of ours that stand together: VerMem, VerMath, VerMath2, VerNew, KeyMath -/
import Derived.Test.YtaaffpolmecicabGreatCore
import Derived.Test.YtaaffpolmecicabGreatEff
/- Rows of Ver (a struct of 3 ints) in memory (gen9/structs.py). No function of the program is named here. -/
namespace Go.Proofs.YtaaffpolmecicabGreat
open Go.RowKit
set_option linter.unusedVariables false
structure Ver where
 key:Int
 by_:Int
 val:Int
def noV:Ver:=⟨0,0,0⟩
theorem getD_memV (l:List Ver) (k:Nat) (h:k < l.length):l.getD k noV∈l:=by
 rw [List.getD_eq_getElem?_getD,List.getElem?_eq_getElem h];exact List.getElem_mem h
def WfV (x:Ver):Prop:=(Lit.int .i64 x.key).wf=true∧(Lit.int .i64 x.by_).wf=true∧(Lit.int .i64 x.val).wf=true
def RowV (w:World) (a:Option Addr) (n:Nat) (l:List Ver):Prop :=
 l.length=n∧n≤maxLen∧(0 < n→∃ b off,a=some ⟨b,off,none⟩∧∀ i,i < n→w.cell? ⟨b,off+i*3,none⟩=some (.int .i64 (l.getD i noV).key)∧w.cell? ⟨b,off+i*3+1,none⟩=some (.int .i64 (l.getD i noV).by_)∧w.cell? ⟨b,off+i*3+2,none⟩=some (.int .i64 (l.getD i noV).val))∧∀ x∈l,WfV x
theorem RowV.below {w w':World} {a:Option Addr} {n:Nat} {l:List Ver} (h:RowV w a n l) (hb:Below w.heap.size w w'):RowV w' a n l:=by
 obtain ⟨h1,h2,h3,h4⟩:=h
 refine ⟨h1,h2,fun hl=>?_,h4⟩
 obtain ⟨b,off,he,hc⟩:=h3 hl
 refine ⟨b,off,he,fun i hi=>?_⟩
 have hlt:b < w.heap.size:=World.block_lt_of_cell? w ⟨b,off+i*3,none⟩ (hc i hi).1
 rw [hb.cell (p:=⟨b,off+i*3,none⟩) hlt,hb.cell (p:=⟨b,off+i*3+1,none⟩) hlt,hb.cell (p:=⟨b,off+i*3+2,none⟩) hlt]
 exact hc i hi
theorem rowV_empty (w:World) (a:Option Addr):RowV w a 0 []:=⟨rfl,by unfold maxLen;omega,fun h=>absurd h (by omega),fun n hn=>by cases hn⟩
theorem RowV.cut {w:World} {a:Option Addr} {n m:Nat} {l:List Ver} (h:RowV w a n l) (hm:m≤n):RowV w a m (l.take m):=by
 obtain ⟨h1,h2,h3,h4⟩:=h
 refine ⟨by rw [List.length_take];omega,by omega,fun h0=>?_,fun e he=>h4 e (List.mem_of_mem_take he)⟩
 obtain ⟨b,off,he,hc⟩:=h3 (by omega)
 refine ⟨b,off,he,fun i hi=>?_⟩
 have hg:(l.take m).getD i noV=l.getD i noV:=by rw [List.getD_eq_getElem?_getD,List.getD_eq_getElem?_getD,List.getElem?_take,if_pos hi]
 rw [hg];exact hc i (by omega)
theorem RowV.drop {w:World} {b off n:Nat} {l:List Ver} (h:RowV w (some ⟨b,off,none⟩) n l) (k:Nat) (hk:k≤n):RowV w (some ⟨b,off+k*3,none⟩) (n - k) (l.drop k):=by
 obtain ⟨h1,h2,h3,h4⟩:=h
 refine ⟨by rw [List.length_drop];omega,by omega,fun hl=>?_,fun x hx=>h4 x (List.mem_of_mem_drop hx)⟩
 obtain ⟨b',off',he,hc⟩:=h3 (by omega)
 obtain ⟨rfl,rfl⟩:b=b'∧off=off':=by simpa using he
 refine ⟨b,off+k*3,rfl,fun i hi=>?_⟩
 have e:(l.drop k).getD i noV=l.getD (k+i) noV:=by
  rw [List.getD_eq_getElem?_getD,List.getD_eq_getElem?_getD,List.getElem?_drop]
 have:=hc (k+i) (by omega)
 rw [e,show off+k*3+i*3=off+(k+i)*3 by omega];exact this
def celV (x:Ver):List Value:=[.int .i64 x.key,.int .i64 x.by_,.int .i64 x.val]
def flatV (l:List Ver):List Value:=l.flatMap celV
theorem flatV_append (l m:List Ver):flatV (l++m)=flatV l++flatV m:=by simp [flatV]
theorem flatV_cons (x:Ver) (l:List Ver):flatV (x :: l) = .int .i64 x.key :: .int .i64 x.by_ :: .int .i64 x.val :: flatV l:=rfl
theorem flatV_len (l:List Ver):(flatV l).length=l.length*3:=by
 induction l with
 | nil=>rfl
 | cons e r ih=>rw [flatV_cons];simp only [List.length_cons,ih];omega
theorem flatV_get (l:List Ver):∀ k,k < l.length→(flatV l)[k*3]? = some (.int .i64 (l.getD k noV).key)∧(flatV l)[k*3+1]? = some (.int .i64 (l.getD k noV).by_)∧(flatV l)[k*3+2]? = some (.int .i64 (l.getD k noV).val):=by
 induction l with
 | nil=>intro k h;cases h
 | cons e r ih =>
  intro k h
  cases k with
  | zero=>simp [flatV_cons]
  | succ k =>
   have:=ih k (by simpa using h)
   rw [flatV_cons,show (k+1)*3=k*3+1+1+1 by omega,show k*3+1+1+1+1=(k*3+1)+1+1+1 by omega,show k*3+1+1+1+2=(k*3+2)+1+1+1 by omega]
   simpa using this
theorem flatV_one (l:List Ver):∀ u∈flatV l,u.oneCell'=true:=by
 induction l with
 | nil=>intro u hu;cases hu
 | cons e r ih =>
  intro u hu
  rw [flatV_cons] at hu
  simp only [List.mem_cons] at hu
  rcases hu with rfl | rfl | rfl | hu
  · rfl
  · rfl
  · rfl
  · exact ih u hu
theorem celV_one (x:Ver):∀ u∈celV x,u.oneCell'=true:=fun u hu=>flatV_one [x] u (by simpa [flatV] using hu)
def WfVs (l:List Ver):Prop:=∀ x∈l,WfV x
theorem WfVs.snoc {l:List Ver} {x:Ver} (h:WfVs l) (hx:WfV x):WfVs (l++[x]):=by
 intro e he
 rcases List.mem_append.1 he with h' | h'
 · exact h e h'
 · simp at h';subst h';exact hx
theorem rowV_of_owns {w:World} {B:Nat} {e:TypeId} {v:Value} {l:List Ver} (h:w.ownsRow B e 3 v l.length (flatV l)) (hm:l.length≤4000000) (hw:WfVs l) :
  ∃ a cap,v = .slice a l.length cap∧RowV w a l.length l∧(a=none→cap=0)∧l.length≤cap∧∀ b o,a=some ⟨b,o,none⟩→B≤b:=by
 rcases h.2 with ⟨hv,h0⟩ | ⟨g,cap,cur,hv,hB,hg,hnc,-⟩
 · obtain rfl:l=[]:=List.eq_nil_of_length_eq_zero h0
   exact ⟨none,0,hv,rowV_empty _ _,fun _=>rfl,Nat.le_refl _,fun b o he=>by cases he⟩
 · subst hv
   refine ⟨_,cap,rfl,⟨rfl,by unfold maxLen;omega,fun _=>⟨g,0,rfl,fun i hi=>?_⟩,hw⟩,fun he=>(by cases he),hnc,fun b o he=>by simp at he;omega⟩
   obtain ⟨f1,f2,f3⟩:=flatV_get l i hi
   rw [Nat.zero_add]
   exact ⟨(h.cellAt (i*3) (by omega)).trans f1,(h.cellAt (i*3+1) (by omega)).trans f2,(h.cellAt (i*3+2) (by omega)).trans f3⟩
theorem rowV_of_own {w:World} {B:Nat} {e:TypeId} {v:Value} {l:List Ver} (h:Own w B e 3 v l.length (flatV l)) (hm:l.length≤4000000) (hw:WfVs l) :
  ∃ g cap,v = .slice (some ⟨g,0,none⟩) l.length cap∧B≤g∧g < w.heap.size∧RowV w (some ⟨g,0,none⟩) l.length l∧l.length≤cap:=by
 obtain ⟨g,cap,rfl,hB,hg⟩:=h.slice
 obtain ⟨a',c',he,hr,_,hlc,_⟩:=rowV_of_owns h.1 hm hw
 simp only [Value.slice.injEq] at he
 obtain ⟨rfl,-,rfl⟩:=he
 exact ⟨g,cap,rfl,hB,hg,hr,hlc⟩
theorem rowV_owned {w:World} {B:Nat} {e:TypeId} {a:Option Addr} {n cap:Nat} {l:List Ver} (h:w.ownsRow B e 3 (.slice a n cap) n (flatV l)) (hl:l.length=n) (hm:n≤4000000) (hw:WfVs l):RowV w a n l:=by
 subst hl
 obtain ⟨a',c',e',hr,-⟩:=rowV_of_owns h hm hw
 simp only [Value.slice.injEq,true_and] at e'
 obtain ⟨rfl,-⟩:=e'
 exact hr
theorem RowV.news {w:World} {a:Option Addr} {n:Nat} {l:List Ver} (h:RowV w a n l):∀ ad,a=some ad→∀ j u,(flatV l)[j]? = some u→w.cell? (ad.add j)=some u:=by
 intro ad he j u hu
 have hj:j < n*3:=by
  have:=(List.getElem?_eq_some_iff.1 hu).1
  rw [flatV_len,h.1] at this;exact this
 obtain ⟨b,off,he',hc⟩:=h.2.2.1 (by omega)
 rw [he] at he'
 obtain rfl:=Option.some.inj he'
 rw [show (⟨b,off,none⟩:Addr).add j=⟨b,off+j,none⟩ by unfold Addr.add;split <;> simp_all]
 obtain ⟨h1,h2,h3⟩:=hc (j / 3) (by omega)
 obtain ⟨f1,f2,f3⟩:=flatV_get l (j / 3) (by rw [h.1];omega)
 rcases (by omega:j=j / 3*3∨j=j / 3*3+1∨j=j / 3*3+2) with e | e | e
 · rw [← e] at f1
   rw [f1] at hu
   rw [show off+j=off+j / 3*3 by omega,h1];exact hu
 · rw [← e] at f2
   rw [f2] at hu
   rw [show off+j=off+j / 3*3+1 by omega,h2];exact hu
 · rw [← e] at f3
   rw [f3] at hu
   rw [show off+j=off+j / 3*3+2 by omega,h3];exact hu
theorem RowV.bd {w:World} {a:Option Addr} {n:Nat} {l:List Ver} (h:RowV w a n l) (k:Nat) (hk:k < n):WfV (l.getD k noV) :=
 h.2.2.2 _ (getD_memV l k (by rw [h.1];exact hk))
theorem RowV.grown {w w':World} {b n:Nat} {row:Option Nat} {l:List Ver} (h:RowV w (some ⟨b,0,none⟩) n l) (hg:w.grownBy w' row) (hne:some b≠row):RowV w' (some ⟨b,0,none⟩) n l:=by
 obtain ⟨h1,h2,h3,h4⟩:=h
 refine ⟨h1,h2,fun hl=>?_,h4⟩
 obtain ⟨b',off,he,hc⟩:=h3 hl
 obtain ⟨rfl,rfl⟩:b=b'∧0=off:=by simpa using he
 refine ⟨b,0,rfl,fun i hi=>?_⟩
 obtain ⟨c1,c2,c3⟩:=hc i hi
 exact ⟨World.grownBy.cell hg c1 hne,World.grownBy.cell hg c2 hne,World.grownBy.cell hg c3 hne⟩
theorem RowV.cells {w:World} {b off n:Nat} {l:List Ver} (h:RowV w (some ⟨b,off,none⟩) n l) {i:Nat} (hi:i < n):w.cell? ⟨b,off+i*3,none⟩=some (.int .i64 (l.getD i noV).key)∧w.cell? ⟨b,off+i*3+1,none⟩=some (.int .i64 (l.getD i noV).by_)∧w.cell? ⟨b,off+i*3+2,none⟩=some (.int .i64 (l.getD i noV).val):=by
 obtain ⟨b',off',he,hc⟩:=h.2.2.1 (by omega)
 obtain ⟨rfl,rfl⟩:b=b'∧off=off':=by simpa using he
 exact hc i hi
def NewV (w:World) (e0:TypeId) (l:List Ver) (e:Ending) (w':World):Prop :=
 ∃ v,e = .returned v∧Own w' w.heap.size e0 3 v l.length (flatV l)∧WfVs l∧Below w.heap.size w w'
end Go.Proofs.YtaaffpolmecicabGreat
/- Versions: plain mathematics. No function of the program is named here. -/
namespace Go.Proofs.YtaaffpolmecicabGreat
set_option linter.unusedVariables false
def verB (x:Ver):Bool:=inB x.key 0 31 && inB x.by_ 0 9 && inB x.val 0 1000000
theorem verB_iff (x:Ver):verB x=true ↔ (0≤x.key∧x.key≤31)∧(0≤x.by_∧x.by_≤9)∧(0≤x.val∧x.val≤1000000):=by
 simp only [verB,inB,Bool.and_eq_true,decide_eq_true_eq,and_assoc]
def vLt (x y:Ver):Prop:=x.key < y.key∨(x.key=y.key∧x.by_ < y.by_)
instance (x y:Ver):Decidable (vLt x y):=by unfold vLt;infer_instance
theorem vLt_trans {x y z:Ver} (h:vLt x y) (h2:vLt y z):vLt x z:=by unfold vLt at *;omega
theorem vLt_irrefl {x:Ver} (h:vLt x x):False:=by unfold vLt at h;omega
theorem vLt_total {x y:Ver} (h:¬ vLt x y) (h2:¬ (x.key=y.key∧x.by_=y.by_)):vLt y x:=by unfold vLt at *;omega
def verAt (L:List Ver) (k:Nat):Bool:=verB (L.getD k noV) && (k == 0 || decide (vLt (L.getD (k - 1) noV) (L.getD k noV)))
def VersTo (L:List Ver) (k:Nat):Prop:=∀ j,j < k→verAt L j=true
theorem VersTo.zero (L:List Ver):VersTo L 0:=fun j hj=>absurd hj (Nat.not_lt_zero j)
theorem VersTo.next {L:List Ver} {k:Nat} (h:VersTo L k) (hk:verAt L k=true):VersTo L (k+1):=by
 intro j hj
 by_cases e:j=k
 · rw [e];exact hk
 · exact h j (by omega)
def VOk (L:List Ver):Prop:=(∀ x∈L,verB x=true)∧L.Pairwise vLt
theorem VOk.sub {L M:List Ver} (h:VOk L) (hs:M.Sublist L):VOk M:=⟨fun x hx=>h.1 x (hs.subset hx),h.2.sublist hs⟩
theorem VOk.get {L:List Ver} (h:VOk L) {i j:Nat} (hij:i < j) (hj:j < L.length):vLt (L.getD i noV) (L.getD j noV):=by
 have:=List.pairwise_iff_getElem.1 h.2 i j (by omega) hj hij
 rw [List.getD_eq_getElem?_getD,List.getD_eq_getElem?_getD,List.getElem?_eq_getElem (by omega:i < L.length),List.getElem?_eq_getElem hj]
 exact this
theorem VOk.at {L:List Ver} (h:VOk L) {i:Nat} (hi:i < L.length):verB (L.getD i noV)=true:=h.1 _ (getD_memV L i hi)
theorem mem_getV {L:List Ver} {x:Ver} (h:x∈L):∃ i,i < L.length∧L.getD i noV=x:=by
 obtain ⟨i,hi,rfl⟩:=List.getElem_of_mem h
 exact ⟨i,hi,by rw [List.getD_eq_getElem?_getD,List.getElem?_eq_getElem hi];rfl⟩
theorem VOk.uniq {L:List Ver} (h:VOk L) {x y:Ver} (hx:x∈L) (hy:y∈L) (h1:x.key=y.key) (h2:x.by_=y.by_):x=y:=by
 obtain ⟨i,hi,rfl⟩:=mem_getV hx
 obtain ⟨j,hj,rfl⟩:=mem_getV hy
 rcases (by omega:i < j∨i=j∨j < i) with h3 | rfl | h3
 · have:=h.get h3 hj;unfold vLt at this;omega
 · rfl
 · have:=h.get h3 hi;unfold vLt at this;omega
theorem VOk.ext {L M:List Ver} (h:VOk L) (h2:VOk M) (hm:∀ x,x∈L ↔ x∈M):L=M:=by
 have nd:∀ {K:List Ver},VOk K→K.Nodup:=fun hK=>hK.2.imp fun {a b} hl e=>by subst e;exact vLt_irrefl hl
 exact List.Perm.eq_of_pairwise (le:=vLt) (fun a b _ _ h3 h4=>(vLt_irrefl (vLt_trans h3 h4)).elim) h.2 h2.2 ((List.perm_ext_iff_of_nodup (nd h) (nd h2)).2 hm)
theorem vers_len {L:List Ver} (h:VOk L):L.length≤320:=by
 have key:∀ k,k < L.length→(k:Int)≤(L.getD k noV).key*10+(L.getD k noV).by_:=by
  intro k
  induction k with
  | zero=>intro hk;have:=(verB_iff _).1 (h.at hk);omega
  | succ k ih =>
   intro hk
   have h1:=ih (by omega)
   have h2:=h.get (show k < k+1 by omega) hk
   have h3:=(verB_iff _).1 (h.at hk)
   have h4:=(verB_iff _).1 (h.at (show k < L.length by omega))
   unfold vLt at h2
   omega
 rcases Nat.eq_zero_or_pos L.length with h0 | h0
 · omega
 · have h1:=key (L.length - 1) (by omega)
   have h2:=(verB_iff _).1 (h.at (show L.length - 1 < L.length by omega))
   omega
/-! Reading. -/
def canR (key by_:Int) (x:Ver):Bool:=decide (x.key=key∧x.by_ < by_)
theorem canR_iff {key by_:Int} {x:Ver}:canR key by_ x=true ↔ x.key=key∧x.by_ < by_:=by simp [canR]
def rdN (L:List Ver) (key by_:Int) (a:Int × Int):Nat→Int × Int
 | 0=>a
 | k+1=>if canR key by_ (L.getD k noV) then ((L.getD k noV).val,(L.getD k noV).by_) else rdN L key by_ a k
def readL (S:List Ent) (L:List Ver) (key by_:Int):Int × Int:=rdN L key by_ (atM S key,-1) L.length
theorem rdN_spec (L:List Ver) (key by_:Int) (a:Int × Int):∀ k,(∃ i,i < k∧canR key by_ (L.getD i noV)=true∧(∀ j,i < j→j < k→canR key by_ (L.getD j noV)=false)∧rdN L key by_ a k=((L.getD i noV).val,(L.getD i noV).by_)) ∨
  ((∀ j,j < k→canR key by_ (L.getD j noV)=false)∧rdN L key by_ a k=a):=by
 intro k
 induction k with
 | zero=>exact .inr ⟨fun j hj=>absurd hj (Nat.not_lt_zero j),rfl⟩
 | succ k ih =>
  cases hc:canR key by_ (L.getD k noV) with
  | true=>exact .inl ⟨k,Nat.lt_succ_self k,hc,fun j h1 h2=>by omega,by simp only [rdN,hc,if_true]⟩
  | false =>
   have hr:rdN L key by_ a (k+1)=rdN L key by_ a k:=by simp only [rdN,hc,Bool.false_eq_true,if_false]
   rw [hr]
   rcases ih with ⟨i,h1,h2,h3,h4⟩ | ⟨h1,h2⟩
   · refine .inl ⟨i,by omega,h2,fun j hj hk=>?_,h4⟩
     rcases (by omega:j < k∨j=k) with h5 | rfl
     · exact h3 j hj h5
     · exact hc
   · refine .inr ⟨fun j hj=>?_,h2⟩
     rcases (by omega:j < k∨j=k) with h5 | rfl
     · exact h1 j h5
     · exact hc
theorem readL_spec {S:List Ent} {L:List Ver} (hL:VOk L) (key by_:Int) :
  (∃ x,x∈L∧x.key=key∧x.by_ < by_∧(∀ y∈L,y.key=key→y.by_ < by_→y.by_≤x.by_)∧readL S L key by_=(x.val,x.by_)) ∨
  ((∀ y∈L,¬ (y.key=key∧y.by_ < by_))∧readL S L key by_=(atM S key,-1)):=by
 rcases rdN_spec L key by_ (atM S key,-1) L.length with ⟨i,h1,h2,h3,h4⟩ | ⟨h1,h2⟩
 · obtain ⟨g1,g2⟩:=canR_iff.1 h2
   refine .inl ⟨L.getD i noV,getD_memV L i h1,g1,g2,fun y hy hk hb=>?_,h4⟩
   obtain ⟨j,hj,rfl⟩:=mem_getV hy
   rcases (by omega:i < j∨i=j∨j < i) with h5 | rfl | h5
   · have:=h3 j h5 hj
     rw [canR_iff.2 ⟨hk,hb⟩] at this;cases this
   · exact Int.le_refl _
   · have:=hL.get h5 h1;unfold vLt at this;omega
 · refine .inr ⟨fun y hy hc=>?_,h2⟩
   obtain ⟨j,hj,rfl⟩:=mem_getV hy
   have:=h1 j hj
   rw [canR_iff.2 hc] at this;cases this
theorem readL_hit {S:List Ent} {L:List Ver} (hL:VOk L) {key by_:Int} {x:Ver} (hx:x∈L) (h1:x.key=key) (h2:x.by_ < by_) (h3:∀ y∈L,y.key=key→y.by_ < by_→y.by_≤x.by_):readL S L key by_=(x.val,x.by_):=by
 rcases readL_spec (S:=S) hL key by_ with ⟨z,g1,g2,g3,g4,g5⟩ | ⟨g1,-⟩
 · have:=g4 x hx h1 h2
   have:=h3 z g1 g2 g3
   obtain rfl:=hL.uniq hx g1 (by omega) (by omega)
   exact g5
 · exact absurd ⟨h1,h2⟩ (g1 x hx)
theorem readL_miss {S:List Ent} {L:List Ver} (hL:VOk L) {key by_:Int} (h:∀ y∈L,¬ (y.key=key∧y.by_ < by_)):readL S L key by_=(atM S key,-1):=by
 rcases readL_spec (S:=S) hL key by_ with ⟨z,g1,g2,g3,-⟩ | ⟨-,g2⟩
 · exact absurd ⟨g2,g3⟩ (h z g1)
 · exact g2
theorem readL_congr {S T:List Ent} {L M:List Ver} (hL:VOk L) (hM:VOk M) {key by_:Int} (hS:atM S key=atM T key) (h:∀ x,x.key=key→x.by_ < by_→(x∈L ↔ x∈M)):readL S L key by_=readL T M key by_:=by
 rcases readL_spec (S:=S) hL key by_ with ⟨z,g1,g2,g3,g4,g5⟩ | ⟨g1,g2⟩
 · rw [g5]
   exact (readL_hit hM ((h z g2 g3).1 g1) g2 g3 fun y hy h1 h2=>g4 y ((h y h1 h2).2 hy) h1 h2).symm
 · rw [g2,hS]
   exact (readL_miss hM fun y hy hc=>g1 y ((h y hc.1 hc.2).2 hy) hc).symm
theorem readL_bd {S:List Ent} {L:List Ver} (hS:storeB S=true) (hL:VOk L) (key by_:Int):(0≤(readL S L key by_).1∧(readL S L key by_).1≤1000000)∧-1≤(readL S L key by_).2∧(readL S L key by_).2≤9∧(0≤by_→(readL S L key by_).2 < by_)∧((readL S L key by_).2 < 0→(readL S L key by_).1=atM S key):=by
 rcases readL_spec (S:=S) hL key by_ with ⟨z,g1,g2,g3,g4,g5⟩ | ⟨g1,g2⟩
 · rw [g5]
   have:=(verB_iff _).1 (hL.1 z g1)
   refine ⟨by simp only;omega,by simp only;omega,by simp only;omega,fun _=>g3,fun h=>?_⟩
   simp only at h;omega
 · rw [g2]
   have:=atM_bd ((storeB_ok _).1 hS).2 key
   exact ⟨this,by simp,by simp,fun h=>by simp only;omega,fun _=>rfl⟩
/-! Dropping and putting. -/
def dropL (L:List Ver) (by_:Int):List Ver:=L.filter (fun x=>decide (x.by_≠by_))
theorem mem_dropL {L:List Ver} {by_:Int} {x:Ver}:x∈dropL L by_ ↔ x∈L∧x.by_≠by_:=by simp [dropL]
theorem ok_dropL {L:List Ver} (h:VOk L) (by_:Int):VOk (dropL L by_):=h.sub List.filter_sublist
theorem dropL_next (L:List Ver) (by_:Int) (k:Nat) (h:k < L.length):dropL (L.take (k+1)) by_=if (L.getD k noV).by_≠by_ then dropL (L.take k) by_++[L.getD k noV] else dropL (L.take k) by_:=by
 have e:L.take (k+1)=L.take k++[L.getD k noV]:=by
  rw [List.take_succ_eq_append_getElem h,List.getD_eq_getElem?_getD,List.getElem?_eq_getElem h];rfl
 unfold dropL
 rw [e,List.filter_append]
 by_cases hc:(L.getD k noV).by_=by_
 · rw [if_neg (fun h=>h hc)]
   simp only [List.filter_cons,List.filter_nil]
   rw [if_neg (by rw [decide_eq_true_eq];exact fun h=>h hc),List.append_nil]
 · rw [if_pos hc]
   simp only [List.filter_cons,List.filter_nil]
   rw [if_pos (by rw [decide_eq_true_eq];exact hc)]
def insV (v:Ver):List Ver→List Ver
 | []=>[v]
 | x :: r=>if vLt x v then x :: insV v r else v :: x :: r
theorem mem_insV {v x:Ver} {L:List Ver}:x∈insV v L ↔ x=v∨x∈L:=by
 induction L with
 | nil=>simp [insV]
 | cons y r ih =>
  unfold insV
  split
  · simp only [List.mem_cons,ih]
    constructor
    · rintro (h | h | h)
      · exact .inr (.inl h)
      · exact .inl h
      · exact .inr (.inr h)
    · rintro (h | h | h)
      · exact .inr (.inl h)
      · exact .inl h
      · exact .inr (.inr h)
  · simp only [List.mem_cons]
theorem insV_len (v:Ver) (L:List Ver):(insV v L).length=L.length+1:=by
 induction L with
 | nil=>rfl
 | cons y r ih=>unfold insV;split <;> simp [ih]
theorem ok_insV {v:Ver} {L:List Ver} (hv:verB v=true) (hL:VOk L) (h:∀ x∈L,¬ (x.key=v.key∧x.by_=v.by_)):VOk (insV v L):=by
 refine ⟨fun x hx=>?_,?_⟩
 · rcases mem_insV.1 hx with rfl | hx
   · exact hv
   · exact hL.1 x hx
 · obtain ⟨-,hp⟩:=hL
   induction L with
   | nil=>simp [insV]
   | cons y r ih =>
    rw [List.pairwise_cons] at hp
    unfold insV
    by_cases hy:vLt y v
    · rw [if_pos hy,List.pairwise_cons]
      refine ⟨fun x hx=>?_,ih (fun x hx=>h x (List.mem_cons_of_mem _ hx)) hp.2⟩
      rcases mem_insV.1 hx with rfl | hx
      · exact hy
      · exact hp.1 x hx
    · rw [if_neg hy,List.pairwise_cons]
      have hvy:=vLt_total hy (h y List.mem_cons_self)
      refine ⟨fun x hx=>?_,List.pairwise_cons.2 hp⟩
      rcases List.mem_cons.1 hx with rfl | hx
      · exact hvy
      · exact vLt_trans hvy (hp.1 x hx)
theorem insV_at (v:Ver):∀ (L:List Ver) (k:Nat),k≤L.length→(∀ i,i < k→vLt (L.getD i noV) v)→(k < L.length→¬ vLt (L.getD k noV) v)→insV v L=L.take k++v :: L.drop k:=by
 intro L
 induction L with
 | nil => intro k hk _ _; obtain rfl : k = 0 := by simpa using hk
          rfl
 | cons y r ih =>
  intro k hk h1 h2
  cases k with
  | zero =>
   have:=h2 (by simp)
   unfold insV
   rw [if_neg (by simpa using this)];simp
  | succ k =>
   have h0:=h1 0 (by omega)
   unfold insV
   rw [if_pos (by simpa using h0),ih k (by simpa using hk) (fun i hi=>by simpa using h1 (i+1) (by omega)) (fun hk2=>by simpa using h2 (by simpa using hk2))]
   simp
def putN (L:List Ver) (by_:Int) (W:List Ent):Nat→List Ver
 | 0=>dropL L by_
 | k+1=>insV ⟨(W.getD k (0,0)).1,by_,(W.getD k (0,0)).2⟩ (putN L by_ W k)
def putL (L:List Ver) (by_:Int) (W:List Ent):List Ver:=putN L by_ W W.length
theorem mem_putN {L:List Ver} {by_:Int} {W:List Ent} {x:Ver}:∀ k,x∈putN L by_ W k ↔ (x∈L∧x.by_≠by_)∨∃ i,i < k∧x=⟨(W.getD i (0,0)).1,by_,(W.getD i (0,0)).2⟩:=by
 intro k
 induction k with
 | zero => simp only [putN, mem_dropL]
           exact ⟨.inl,fun h=>h.elim id fun ⟨i,hi,_⟩=>absurd hi (Nat.not_lt_zero i)⟩
 | succ k ih =>
  rw [putN,mem_insV,ih]
  constructor
  · rintro (h | h | ⟨i,hi,h⟩)
    · exact .inr ⟨k,Nat.lt_succ_self k,h⟩
    · exact .inl h
    · exact .inr ⟨i,by omega,h⟩
  · rintro (h | ⟨i,hi,h⟩)
    · exact .inr (.inl h)
    · rcases (by omega:i < k∨i=k) with h1 | rfl
      · exact .inr (.inr ⟨i,h1,h⟩)
      · exact .inl h
theorem putN_len (L:List Ver) (by_:Int) (W:List Ent):∀ k,(putN L by_ W k).length≤L.length+k:=by
 intro k
 induction k with
 | zero=>simp only [putN,dropL];exact List.length_filter_le _ _
 | succ k ih=>rw [putN,insV_len];omega
theorem ok_putN {L:List Ver} {by_:Int} {W:List Ent} (hL:VOk L) (hb:inB by_ 0 9=true) (hW:writesB W=true):∀ k,k≤W.length→VOk (putN L by_ W k):=by
 intro k
 induction k with
 | zero=>intro _;exact ok_dropL hL by_
 | succ k ih =>
  intro hk
  have hw:=wrE_mem hW k (by omega)
  have hb2:=inB_true hb
  refine ok_insV ((verB_iff _).2 ⟨hw.1,hb2,hw.2⟩) (ih (by omega)) fun x hx hc=>?_
  rcases (mem_putN k).1 hx with ⟨-,h1⟩ | ⟨i,hi,rfl⟩
  · exact h1 hc.2
  · have ha:=((writesB_ok _).1 hW).1
    have:=List.pairwise_iff_getElem.1 ha i k (by omega) (by omega) hi
    have e1:W.getD i (0,0)=W[i]'(by omega):=by rw [List.getD_eq_getElem?_getD,List.getElem?_eq_getElem (by omega:i < W.length)];rfl
    have e2:W.getD k (0,0)=W[k]'(by omega):=by rw [List.getD_eq_getElem?_getD,List.getElem?_eq_getElem (by omega:k < W.length)];rfl
    have hk2:=hc.1
    simp only [e1,e2] at hk2
    omega
theorem ok_putL {L:List Ver} {by_:Int} {W:List Ent} (hL:VOk L) (hb:inB by_ 0 9=true) (hW:writesB W=true):VOk (putL L by_ W):=ok_putN hL hb hW _ (Nat.le_refl _)
theorem mem_putL {L:List Ver} {by_:Int} {W:List Ent} {x:Ver}:x∈putL L by_ W ↔ (x∈L∧x.by_≠by_)∨(x.by_=by_∧(x.key,x.val)∈W):=by
 unfold putL
 rw [mem_putN]
 constructor
 · rintro (h | ⟨i,hi,rfl⟩)
   · exact .inl h
   · refine .inr ⟨rfl,?_⟩
     have e1:W.getD i (0,0)=W[i]:=by rw [List.getD_eq_getElem?_getD,List.getElem?_eq_getElem hi];rfl
     simp only [e1];exact List.getElem_mem hi
 · rintro (h | ⟨h1,h2⟩)
   · exact .inl h
   · obtain ⟨i,hi,e⟩:=List.getElem_of_mem h2
     refine .inr ⟨i,hi,?_⟩
     have e1:W.getD i (0,0)=W[i]:=by rw [List.getD_eq_getElem?_getD,List.getElem?_eq_getElem hi];rfl
     rw [e1,e]
     obtain ⟨a,b,c⟩:=x
     simp only at h1
     subst h1;rfl
/-! The last versions. -/
end Go.Proofs.YtaaffpolmecicabGreat
/- Versions tell serial runs: plain mathematics. No function of the program is named here. -/
namespace Go.Proofs.YtaaffpolmecicabGreat
set_option linter.unusedVariables false
def vsN (E:List Eff):Nat→List Ver
 | 0=>[]
 | k+1=>putL (vsN E k) (k:Int) (E.getD k noEff).wrs
theorem vsN_spec {E:List Eff} (hE:E.length≤10) (hW:∀ k,k < E.length→writesB (E.getD k noEff).wrs=true):∀ k,k≤E.length→VOk (vsN E k)∧∀ x,x∈vsN E k ↔ ∃ i:Nat,i < k∧x.by_=i∧(x.key,x.val)∈(E.getD i noEff).wrs:=by
 intro k
 induction k with
 | zero=>intro _;exact ⟨⟨fun x hx=>(by cases hx),List.Pairwise.nil⟩,fun x=>⟨fun h=>(by cases h),fun ⟨i,hi,_⟩=>absurd hi (Nat.not_lt_zero i)⟩⟩
 | succ k ih =>
  intro hk
  obtain ⟨h1,h2⟩:=ih (by omega)
  have hb:inB (k:Int) 0 9=true:=inB_yes (by omega) (by omega)
  refine ⟨ok_putL h1 hb (hW k (by omega)),fun x=>?_⟩
  rw [vsN,mem_putL,h2]
  constructor
  · rintro (⟨⟨i,hi,e,h⟩,-⟩ | ⟨h,h'⟩)
    · exact ⟨i,by omega,e,h⟩
    · exact ⟨k,Nat.lt_succ_self k,h,h'⟩
  · rintro ⟨i,hi,e,h⟩
    rcases (by omega:i < k∨i=k) with h3 | rfl
    · exact .inl ⟨⟨i,h3,e,h⟩,by omega⟩
    · exact .inr ⟨e,h⟩
end Go.Proofs.YtaaffpolmecicabGreat
/- What the program's functions over versions answer: rows that may be nil. No function of the program is named here. -/
namespace Go.Proofs.YtaaffpolmecicabGreat
open Go.RowKit
def NewVN (w:World) (e0:TypeId) (l:List Ver) (e:Ending) (w':World):Prop :=
 ∃ v,e = .returned v∧w'.ownsRow w.heap.size e0 3 v l.length (flatV l)∧WfVs l∧Below w.heap.size w w'
end Go.Proofs.YtaaffpolmecicabGreat
/- Versions in a list of their own for every key: plain mathematics. No function of the program is named here. -/
namespace Go.Proofs.YtaaffpolmecicabGreat
set_option linter.unusedVariables false
def KOk (F:Nat→List Ver):Prop:=∀ k,k < 32→(∀ x∈F k,verB x=true∧x.key=(k:Int))∧(F k).Pairwise (fun x y=>x.by_ < y.by_)
def catK (F:Nat→List Ver):Nat→List Ver
 | 0=>[]
 | n+1=>catK F n++F n
theorem mem_catK {F:Nat→List Ver} {x:Ver}:∀ n,x∈catK F n ↔ ∃ k,k < n∧x∈F k:=by
 intro n
 induction n with
 | zero=>simp only [catK,List.not_mem_nil,false_iff];rintro ⟨k,hk,-⟩;omega
 | succ n ih =>
  rw [catK,List.mem_append,ih]
  constructor
  · rintro (⟨k,hk,h⟩ | h)
    · exact ⟨k,by omega,h⟩
    · exact ⟨n,by omega,h⟩
  · rintro ⟨k,hk,h⟩
    by_cases e:k=n
    · subst e;exact .inr h
    · exact .inl ⟨k,by omega,h⟩
theorem catK_ok {F:Nat→List Ver} (h:KOk F):∀ n,n≤32→VOk (catK F n):=by
 intro n
 induction n with
 | zero=>intro _;exact ⟨fun x hx=>(by cases hx),List.Pairwise.nil⟩
 | succ n ih =>
  intro hn
  obtain ⟨h1,h2⟩:=ih (by omega)
  obtain ⟨g1,g2⟩:=h n (by omega)
  refine ⟨fun x hx=>?_,?_⟩
  · rcases List.mem_append.1 hx with hx | hx
    · exact h1 x hx
    · exact (g1 x hx).1
  · rw [catK,List.pairwise_append]
    refine ⟨h2,List.Pairwise.imp_of_mem (fun {a b} ha hb hl=>?_) g2,fun a ha b hb=>?_⟩
    · exact .inr ⟨by rw [(g1 a ha).2,(g1 b hb).2],hl⟩
    · obtain ⟨k,hk,ha⟩:=(mem_catK n).1 ha
      have:=((h k (by omega)).1 a ha).2
      have:=(g1 b hb).2
      exact .inl (by omega)
theorem catK_len {F:Nat→List Ver} (h:KOk F) {k:Nat} (hk:k < 32):(F k).length≤320:=by
 have h1:=vers_len (catK_ok h (k+1) (by omega))
 rw [catK,List.length_append] at h1
 omega
theorem catK_len' {F:Nat→List Ver} (h:KOk F) {n:Nat} (hn:n≤32):(catK F n).length≤320:=vers_len (catK_ok h n hn)
def ofK (L:List Ver) (k:Nat):List Ver:=L.filter (fun x=>decide (x.key=(k:Int)))
theorem mem_ofK {L:List Ver} {k:Nat} {x:Ver}:x∈ofK L k ↔ x∈L∧x.key=(k:Int):=by simp [ofK]
theorem kok_ofK {L:List Ver} (h:VOk L):KOk (ofK L):=by
 intro k hk
 refine ⟨fun x hx=>⟨h.1 x (mem_ofK.1 hx).1,(mem_ofK.1 hx).2⟩,?_⟩
 have h2:=(h.sub (List.filter_sublist (p:=fun x:Ver=>decide (x.key=(k:Int))))).2
 refine List.Pairwise.imp_of_mem (fun {a b} ha hb hl=>?_) h2
 have h3:=(mem_ofK.1 ha).2
 have h4:=(mem_ofK.1 hb).2
 rcases hl with hl | hl
 · omega
 · exact hl.2
/-! Dropping. -/
/-! Where an action stands among those of a key. -/
def CutB (l:List Ver) (by_:Int) (c:Nat):Prop:=c≤l.length∧(∀ i,i < c→(l.getD i noV).by_ < by_)∧∀ i,c≤i→i < l.length→by_≤(l.getD i noV).by_
theorem asc_get {l:List Ver} (h:l.Pairwise (fun x y=>x.by_ < y.by_)) {i j:Nat} (hij:i < j) (hj:j < l.length):(l.getD i noV).by_ < (l.getD j noV).by_:=by
 have:=List.pairwise_iff_getElem.1 h i j (by omega) hj hij
 rw [List.getD_eq_getElem?_getD,List.getD_eq_getElem?_getD,List.getElem?_eq_getElem (by omega:i < l.length),List.getElem?_eq_getElem hj]
 exact this
/-! Putting. -/
def insK (F:Nat→List Ver) (k:Nat) (v:Ver):Nat→List Ver:=fun j=>if j=k then insV v (F j) else F j
theorem insK_at (F:Nat→List Ver) (k:Nat) (v:Ver):insK F k v k=insV v (F k):=by simp [insK]
theorem insK_ne (F:Nat→List Ver) {k j:Nat} (v:Ver) (h:j≠k):insK F k v j=F j:=by simp [insK,h]
theorem insV_cut {F:Nat→List Ver} (h:KOk F) {k:Nat} (hk:k < 32) {v:Ver} (hv:v.key=(k:Int)) {c:Nat} (hc:CutB (F k) v.by_ c):insV v (F k)=(F k).take c++v :: (F k).drop c:=by
 obtain ⟨c1,c2,c3⟩:=hc
 have g:=(h k hk).1
 refine insV_at v _ c c1 (fun i hi=>?_) (fun hi hl=>?_)
 · exact .inr ⟨by rw [(g _ (getD_memV _ i (by omega))).2,hv],c2 i hi⟩
 · have h1:=c3 c (Nat.le_refl _) hi
   have h2:=(g _ (getD_memV _ c hi)).2
   rcases hl with hl | hl
   · omega
   · omega
theorem kok_insK {F:Nat→List Ver} (h:KOk F) {k:Nat} (hk:k < 32) {v:Ver} (hb:verB v=true) (hv:v.key=(k:Int)) (hn:∀ x∈F k,x.by_≠v.by_):KOk (insK F k v):=by
 intro j hj
 by_cases e:j=k
 · subst e
   rw [insK_at]
   obtain ⟨g1,g2⟩:=h j hj
   have hF:VOk (F j):=⟨fun x hx=>(g1 x hx).1,List.Pairwise.imp_of_mem (fun {a b} ha hb hl=>.inr ⟨by rw [(g1 a ha).2,(g1 b hb).2],hl⟩) g2⟩
   have hI:=ok_insV hb hF fun x hx hc=>hn x hx hc.2
   have hm:∀ x∈insV v (F j),verB x=true∧x.key=(j:Int):=fun x hx=>by
    rcases mem_insV.1 hx with rfl | hx
    · exact ⟨hb,hv⟩
    · exact g1 x hx
   refine ⟨hm,List.Pairwise.imp_of_mem (fun {a b} ha hb hl=>?_) hI.2⟩
   have h1:=(hm a ha).2
   have h2:=(hm b hb).2
   rcases hl with hl | hl
   · omega
   · exact hl.2
 · rw [insK_ne F v e];exact h j hj
theorem catK_insK {F:Nat→List Ver} (h:KOk F) {k:Nat} (hk:k < 32) {v:Ver} (hb:verB v=true) (hv:v.key=(k:Int)) (hn:∀ x∈F k,x.by_≠v.by_):catK (insK F k v) 32=insV v (catK F 32):=by
 refine (catK_ok (kok_insK h hk hb hv hn) 32 (Nat.le_refl _)).ext (ok_insV hb (catK_ok h 32 (Nat.le_refl _)) fun x hx hc=>?_) fun x=>?_
 · obtain ⟨j,hj,hx⟩:=(mem_catK 32).1 hx
   have:=((h j hj).1 x hx).2
   obtain rfl:j=k:=by omega
   exact hn x hx hc.2
 · rw [mem_insV,mem_catK,mem_catK]
   constructor
   · rintro ⟨j,hj,hx⟩
     by_cases e:j=k
     · subst e
       rw [insK_at,mem_insV] at hx
       rcases hx with hx | hx
       · exact .inl hx
       · exact .inr ⟨j,hj,hx⟩
     · rw [insK_ne F v e] at hx;exact .inr ⟨j,hj,hx⟩
   · rintro (rfl | ⟨j,hj,hx⟩)
     · exact ⟨k,hk,by rw [insK_at,mem_insV];exact .inl rfl⟩
     · by_cases e:j=k
       · subst e;exact ⟨j,hj,by rw [insK_at,mem_insV];exact .inr hx⟩
       · exact ⟨j,hj,by rw [insK_ne F v e];exact hx⟩
/-! Reading. -/
theorem readK {S:List Ent} {L:List Ver} (hL:VOk L) {k:Nat} (hk:k < 32) {by_:Int} {c:Nat} (hc:CutB (ofK L k) by_ c) :
  readL S L (k:Int) by_=if c=0 then (atM S (k:Int),-1) else (((ofK L k).getD (c - 1) noV).val,((ofK L k).getD (c - 1) noV).by_):=by
 obtain ⟨c1,c2,c3⟩:=hc
 have hK:=kok_ofK hL k hk
 by_cases h0:c=0
 · rw [if_pos h0]
   subst h0
   refine readL_miss hL fun y hy hc=>?_
   obtain ⟨i,hi,e⟩:=mem_getV (mem_ofK.2 ⟨hy,hc.1⟩)
   have:=c3 i (Nat.zero_le _) hi
   rw [e] at this
   omega
 · rw [if_neg h0]
   have hm:=getD_memV (ofK L k) (c - 1) (by omega)
   refine readL_hit hL (mem_ofK.1 hm).1 (mem_ofK.1 hm).2 (c2 (c - 1) (by omega)) fun y hy hyk hyb=>?_
   obtain ⟨i,hi,e⟩:=mem_getV (mem_ofK.2 ⟨hy,hyk⟩)
   rcases (by omega:i < c - 1∨i=c - 1∨c≤i) with h1 | h1 | h1
   · have:=asc_get hK.2 h1 (by omega)
     rw [e] at this;omega
   · rw [← e,h1];exact Int.le_refl _
   · have:=c3 i h1 hi
     rw [e] at this;omega
end Go.Proofs.YtaaffpolmecicabGreat
