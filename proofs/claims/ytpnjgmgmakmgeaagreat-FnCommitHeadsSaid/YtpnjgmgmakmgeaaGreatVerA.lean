/- Texts of ours that stand together: VerMem, VerMath, VerMath2, VerNew, KeyMath -/
import Derived.Test.YtpnjgmgmakmgeaaGreatCore
import Derived.Test.YtpnjgmgmakmgeaaGreatEff
/- Rows of Ver (a struct of 3 ints) in memory (gen9/structs.py). No function of the program is named here. -/
namespace Go.Proofs.YtpnjgmgmakmgeaaGreat
open Go.RowKit
set_option linter.unusedVariables false
structure Ver where
 key:Int
 by_:Int
 val:Int
def noV:Ver:=⟨0,0,0⟩
theorem getD_memV (l:List Ver) (k:Nat) (h:k < l.length):l.getD k noV∈l:=by
 rw [List.getD_eq_getElem?_getD,List.getElem?_eq_getElem h];exact List.getElem_mem h
def WfV (x:Ver):Prop:=(Lit.int .i64 x.key).wf=true∧(Lit.int .i64 x.by_).wf=true∧(Lit.int .i64 x.val).wf=true
def RowV (w:World) (a:Option Addr) (n:Nat) (l:List Ver):Prop :=
 l.length=n∧n≤maxLen∧(0 < n→∃ b off,a=some ⟨b,off,none⟩∧∀ i,i < n→w.cell? ⟨b,off+i*3,none⟩=some (.int .i64 (l.getD i noV).key)∧w.cell? ⟨b,off+i*3+1,none⟩=some (.int .i64 (l.getD i noV).by_)∧w.cell? ⟨b,off+i*3+2,none⟩=some (.int .i64 (l.getD i noV).val))∧∀ x∈l,WfV x
theorem RowV.below {w w':World} {a:Option Addr} {n:Nat} {l:List Ver} (h:RowV w a n l) (hb:Below w.heap.size w w'):RowV w' a n l:=by
 obtain ⟨h1,h2,h3,h4⟩:=h
 refine ⟨h1,h2,fun hl=>?_,h4⟩
 obtain ⟨b,off,he,hc⟩:=h3 hl
 refine ⟨b,off,he,fun i hi=>?_⟩
 have hlt:b < w.heap.size:=World.block_lt_of_cell? w ⟨b,off+i*3,none⟩ (hc i hi).1
 rw [hb.cell (p:=⟨b,off+i*3,none⟩) hlt,hb.cell (p:=⟨b,off+i*3+1,none⟩) hlt,hb.cell (p:=⟨b,off+i*3+2,none⟩) hlt]
 exact hc i hi
theorem rowV_empty (w:World) (a:Option Addr):RowV w a 0 []:=⟨rfl,by unfold maxLen;omega,fun h=>absurd h (by omega),fun n hn=>by cases hn⟩
theorem RowV.cut {w:World} {a:Option Addr} {n m:Nat} {l:List Ver} (h:RowV w a n l) (hm:m≤n):RowV w a m (l.take m):=by
 obtain ⟨h1,h2,h3,h4⟩:=h
 refine ⟨by rw [List.length_take];omega,by omega,fun h0=>?_,fun e he=>h4 e (List.mem_of_mem_take he)⟩
 obtain ⟨b,off,he,hc⟩:=h3 (by omega)
 refine ⟨b,off,he,fun i hi=>?_⟩
 have hg:(l.take m).getD i noV=l.getD i noV:=by rw [List.getD_eq_getElem?_getD,List.getD_eq_getElem?_getD,List.getElem?_take,if_pos hi]
 rw [hg];exact hc i (by omega)
theorem RowV.drop {w:World} {b off n:Nat} {l:List Ver} (h:RowV w (some ⟨b,off,none⟩) n l) (k:Nat) (hk:k≤n):RowV w (some ⟨b,off+k*3,none⟩) (n - k) (l.drop k):=by
 obtain ⟨h1,h2,h3,h4⟩:=h
 refine ⟨by rw [List.length_drop];omega,by omega,fun hl=>?_,fun x hx=>h4 x (List.mem_of_mem_drop hx)⟩
 obtain ⟨b',off',he,hc⟩:=h3 (by omega)
 obtain ⟨rfl,rfl⟩:b=b'∧off=off':=by simpa using he
 refine ⟨b,off+k*3,rfl,fun i hi=>?_⟩
 have e:(l.drop k).getD i noV=l.getD (k+i) noV:=by
  rw [List.getD_eq_getElem?_getD,List.getD_eq_getElem?_getD,List.getElem?_drop]
 have:=hc (k+i) (by omega)
 rw [e,show off+k*3+i*3=off+(k+i)*3 by omega];exact this
def celV (x:Ver):List Value:=[.int .i64 x.key,.int .i64 x.by_,.int .i64 x.val]
def flatV (l:List Ver):List Value:=l.flatMap celV
theorem flatV_append (l m:List Ver):flatV (l++m)=flatV l++flatV m:=by simp [flatV]
theorem flatV_cons (x:Ver) (l:List Ver):flatV (x :: l) = .int .i64 x.key :: .int .i64 x.by_ :: .int .i64 x.val :: flatV l:=rfl
theorem flatV_len (l:List Ver):(flatV l).length=l.length*3:=by
 induction l with
 | nil=>rfl
 | cons e r ih=>rw [flatV_cons];simp only [List.length_cons,ih];omega
theorem flatV_get (l:List Ver):∀ k,k < l.length→(flatV l)[k*3]? = some (.int .i64 (l.getD k noV).key)∧(flatV l)[k*3+1]? = some (.int .i64 (l.getD k noV).by_)∧(flatV l)[k*3+2]? = some (.int .i64 (l.getD k noV).val):=by
 induction l with
 | nil=>intro k h;cases h
 | cons e r ih =>
  intro k h
  cases k with
  | zero=>simp [flatV_cons]
  | succ k =>
   have:=ih k (by simpa using h)
   rw [flatV_cons,show (k+1)*3=k*3+1+1+1 by omega,show k*3+1+1+1+1=(k*3+1)+1+1+1 by omega,show k*3+1+1+1+2=(k*3+2)+1+1+1 by omega]
   simpa using this
def WfVs (l:List Ver):Prop:=∀ x∈l,WfV x
theorem WfVs.snoc {l:List Ver} {x:Ver} (h:WfVs l) (hx:WfV x):WfVs (l++[x]):=by
 intro e he
 rcases List.mem_append.1 he with h' | h'
 · exact h e h'
 · simp at h';subst h';exact hx
theorem rowV_of_owns {w:World} {B:Nat} {e:TypeId} {v:Value} {l:List Ver} (h:w.ownsRow B e 3 v l.length (flatV l)) (hm:l.length≤4000000) (hw:WfVs l) :
  ∃ a cap,v = .slice a l.length cap∧RowV w a l.length l∧(a=none→cap=0)∧l.length≤cap∧∀ b o,a=some ⟨b,o,none⟩→B≤b:=by
 rcases h.2 with ⟨hv,h0⟩ | ⟨g,cap,cur,hv,hB,hg,hnc,-⟩
 · obtain rfl:l=[]:=List.eq_nil_of_length_eq_zero h0
   exact ⟨none,0,hv,rowV_empty _ _,fun _=>rfl,Nat.le_refl _,fun b o he=>by cases he⟩
 · subst hv
   refine ⟨_,cap,rfl,⟨rfl,by unfold maxLen;omega,fun _=>⟨g,0,rfl,fun i hi=>?_⟩,hw⟩,fun he=>(by cases he),hnc,fun b o he=>by simp at he;omega⟩
   obtain ⟨f1,f2,f3⟩:=flatV_get l i hi
   rw [Nat.zero_add]
   exact ⟨(h.cellAt (i*3) (by omega)).trans f1,(h.cellAt (i*3+1) (by omega)).trans f2,(h.cellAt (i*3+2) (by omega)).trans f3⟩
theorem rowV_of_own {w:World} {B:Nat} {e:TypeId} {v:Value} {l:List Ver} (h:Own w B e 3 v l.length (flatV l)) (hm:l.length≤4000000) (hw:WfVs l) :
  ∃ g cap,v = .slice (some ⟨g,0,none⟩) l.length cap∧B≤g∧g < w.heap.size∧RowV w (some ⟨g,0,none⟩) l.length l∧l.length≤cap:=by
 obtain ⟨g,cap,rfl,hB,hg⟩:=h.slice
 obtain ⟨a',c',he,hr,_,hlc,_⟩:=rowV_of_owns h.1 hm hw
 simp only [Value.slice.injEq] at he
 obtain ⟨rfl,-,rfl⟩:=he
 exact ⟨g,cap,rfl,hB,hg,hr,hlc⟩
theorem rowV_owned {w:World} {B:Nat} {e:TypeId} {a:Option Addr} {n cap:Nat} {l:List Ver} (h:w.ownsRow B e 3 (.slice a n cap) n (flatV l)) (hl:l.length=n) (hm:n≤4000000) (hw:WfVs l):RowV w a n l:=by
 subst hl
 obtain ⟨a',c',e',hr,-⟩:=rowV_of_owns h hm hw
 simp only [Value.slice.injEq,true_and] at e'
 obtain ⟨rfl,-⟩:=e'
 exact hr
theorem RowV.news {w:World} {a:Option Addr} {n:Nat} {l:List Ver} (h:RowV w a n l):∀ ad,a=some ad→∀ j u,(flatV l)[j]? = some u→w.cell? (ad.add j)=some u:=by
 intro ad he j u hu
 have hj:j < n*3:=by
  have:=(List.getElem?_eq_some_iff.1 hu).1
  rw [flatV_len,h.1] at this;exact this
 obtain ⟨b,off,he',hc⟩:=h.2.2.1 (by omega)
 rw [he] at he'
 obtain rfl:=Option.some.inj he'
 rw [show (⟨b,off,none⟩:Addr).add j=⟨b,off+j,none⟩ by unfold Addr.add;split <;> simp_all]
 obtain ⟨h1,h2,h3⟩:=hc (j / 3) (by omega)
 obtain ⟨f1,f2,f3⟩:=flatV_get l (j / 3) (by rw [h.1];omega)
 rcases (by omega:j=j / 3*3∨j=j / 3*3+1∨j=j / 3*3+2) with e | e | e
 · rw [← e] at f1
   rw [f1] at hu
   rw [show off+j=off+j / 3*3 by omega,h1];exact hu
 · rw [← e] at f2
   rw [f2] at hu
   rw [show off+j=off+j / 3*3+1 by omega,h2];exact hu
 · rw [← e] at f3
   rw [f3] at hu
   rw [show off+j=off+j / 3*3+2 by omega,h3];exact hu
theorem RowV.bd {w:World} {a:Option Addr} {n:Nat} {l:List Ver} (h:RowV w a n l) (k:Nat) (hk:k < n):WfV (l.getD k noV) :=
 h.2.2.2 _ (getD_memV l k (by rw [h.1];exact hk))
theorem RowV.grown {w w':World} {b n:Nat} {row:Option Nat} {l:List Ver} (h:RowV w (some ⟨b,0,none⟩) n l) (hg:w.grownBy w' row) (hne:some b≠row):RowV w' (some ⟨b,0,none⟩) n l:=by
 obtain ⟨h1,h2,h3,h4⟩:=h
 refine ⟨h1,h2,fun hl=>?_,h4⟩
 obtain ⟨b',off,he,hc⟩:=h3 hl
 obtain ⟨rfl,rfl⟩:b=b'∧0=off:=by simpa using he
 refine ⟨b,0,rfl,fun i hi=>?_⟩
 obtain ⟨c1,c2,c3⟩:=hc i hi
 exact ⟨World.grownBy.cell hg c1 hne,World.grownBy.cell hg c2 hne,World.grownBy.cell hg c3 hne⟩
theorem RowV.cells {w:World} {b off n:Nat} {l:List Ver} (h:RowV w (some ⟨b,off,none⟩) n l) {i:Nat} (hi:i < n):w.cell? ⟨b,off+i*3,none⟩=some (.int .i64 (l.getD i noV).key)∧w.cell? ⟨b,off+i*3+1,none⟩=some (.int .i64 (l.getD i noV).by_)∧w.cell? ⟨b,off+i*3+2,none⟩=some (.int .i64 (l.getD i noV).val):=by
 obtain ⟨b',off',he,hc⟩:=h.2.2.1 (by omega)
 obtain ⟨rfl,rfl⟩:b=b'∧off=off':=by simpa using he
 exact hc i hi
def verB (x:Ver):Bool:=inB x.key 0 31 && inB x.by_ 0 9 && inB x.val 0 1000000
def vLt (x y:Ver):Prop:=x.key < y.key∨(x.key=y.key∧x.by_ < y.by_)
instance (x y:Ver):Decidable (vLt x y):=by unfold vLt;infer_instance
theorem vLt_trans {x y z:Ver} (h:vLt x y) (h2:vLt y z):vLt x z:=by unfold vLt at *;omega
theorem vLt_irrefl {x:Ver} (h:vLt x x):False:=by unfold vLt at h;omega
def verAt (L:List Ver) (k:Nat):Bool:=verB (L.getD k noV) && (k == 0 || decide (vLt (L.getD (k - 1) noV) (L.getD k noV)))
def VersTo (L:List Ver) (k:Nat):Prop:=∀ j,j < k→verAt L j=true
theorem VersTo.zero (L:List Ver):VersTo L 0:=fun j hj=>absurd hj (Nat.not_lt_zero j)
theorem VersTo.next {L:List Ver} {k:Nat} (h:VersTo L k) (hk:verAt L k=true):VersTo L (k+1):=by
 intro j hj
 by_cases e:j=k
 · rw [e];exact hk
 · exact h j (by omega)
def VOk (L:List Ver):Prop:=(∀ x∈L,verB x=true)∧L.Pairwise vLt
theorem VOk.sub {L M:List Ver} (h:VOk L) (hs:M.Sublist L):VOk M:=⟨fun x hx=>h.1 x (hs.subset hx),h.2.sublist hs⟩
theorem VOk.get {L:List Ver} (h:VOk L) {i j:Nat} (hij:i < j) (hj:j < L.length):vLt (L.getD i noV) (L.getD j noV):=by
 have:=List.pairwise_iff_getElem.1 h.2 i j (by omega) hj hij
 rw [List.getD_eq_getElem?_getD,List.getD_eq_getElem?_getD,List.getElem?_eq_getElem (by omega:i < L.length),List.getElem?_eq_getElem hj]
 exact this
theorem VOk.at {L:List Ver} (h:VOk L) {i:Nat} (hi:i < L.length):verB (L.getD i noV)=true:=h.1 _ (getD_memV L i hi)
theorem VOk.ext {L M:List Ver} (h:VOk L) (h2:VOk M) (hm:∀ x,x∈L ↔ x∈M):L=M:=by
 have nd:∀ {K:List Ver},VOk K→K.Nodup:=fun hK=>hK.2.imp fun {a b} hl e=>by subst e;exact vLt_irrefl hl
 exact List.Perm.eq_of_pairwise (le:=vLt) (fun a b _ _ h3 h4=>(vLt_irrefl (vLt_trans h3 h4)).elim) h.2 h2.2 ((List.perm_ext_iff_of_nodup (nd h) (nd h2)).2 hm)
/-! Reading. -/
def canR (key by_:Int) (x:Ver):Bool:=decide (x.key=key∧x.by_ < by_)
def rdN (L:List Ver) (key by_:Int) (a:Int × Int):Nat→Int × Int
 | 0=>a
 | k+1=>if canR key by_ (L.getD k noV) then ((L.getD k noV).val,(L.getD k noV).by_) else rdN L key by_ a k
def readL (S:List Ent) (L:List Ver) (key by_:Int):Int × Int:=rdN L key by_ (atM S key,-1) L.length
/-! Dropping and putting. -/
def dropL (L:List Ver) (by_:Int):List Ver:=L.filter (fun x=>decide (x.by_≠by_))
def insV (v:Ver):List Ver→List Ver
 | []=>[v]
 | x :: r=>if vLt x v then x :: insV v r else v :: x :: r
theorem insV_at (v:Ver):∀ (L:List Ver) (k:Nat),k≤L.length→(∀ i,i < k→vLt (L.getD i noV) v)→(k < L.length→¬ vLt (L.getD k noV) v)→insV v L=L.take k++v :: L.drop k:=by
 intro L
 induction L with
 | nil => intro k hk _ _; obtain rfl : k = 0 := by simpa using hk
          rfl
 | cons y r ih =>
  intro k hk h1 h2
  cases k with
  | zero =>
   have:=h2 (by simp)
   unfold insV
   rw [if_neg (by simpa using this)];simp
  | succ k =>
   have h0:=h1 0 (by omega)
   unfold insV
   rw [if_pos (by simpa using h0),ih k (by simpa using hk) (fun i hi=>by simpa using h1 (i+1) (by omega)) (fun hk2=>by simpa using h2 (by simpa using hk2))]
   simp
def putN (L:List Ver) (by_:Int) (W:List Ent):Nat→List Ver
 | 0=>dropL L by_
 | k+1=>insV ⟨(W.getD k (0,0)).1,by_,(W.getD k (0,0)).2⟩ (putN L by_ W k)
def putL (L:List Ver) (by_:Int) (W:List Ent):List Ver:=putN L by_ W W.length
/-! The last versions. -/
def vsN (E:List Eff):Nat→List Ver
 | 0=>[]
 | k+1=>putL (vsN E k) (k:Int) (E.getD k noEff).wrs
/-! Dropping. -/
/-! Where an action stands among those of a key. -/
/-! Putting. -/
/-! Reading. -/
end Go.Proofs.YtpnjgmgmakmgeaaGreat
