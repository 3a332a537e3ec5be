/- Texts of ours that stand together: ActMath, ActMem, InG, InA -/
import Derived.Test.YtpnjgmgmakmgeaaGreatCore
import Derived.Deep.SlicePairs
import Derived.ProofKit
import Derived.Lib.SmallJoins
/- Actions: plain mathematics. No function of the program is named here. -/
namespace Go.Proofs.YtpnjgmgmakmgeaaGreat
structure Acn where
 kind:Int
 src:Int
 dst:Int
 amt:Int
def noA:Acn:=⟨0,0,0,0⟩
def restB (k d m:Int):Bool :=
 if k=1∨k=6 then decide (d=0) else if k=2 then true else if k=3∨k=4∨k=5 then decide (m=0) else false
def actB (x:Acn):Bool:=inB x.src 0 31 && inB x.dst 0 31 && inB x.amt 0 1000000 && restB x.kind x.dst x.amt
theorem kind_cases (k:Int):k=1∨k=2∨k=3∨k=4∨k=5∨k=6∨(k≠1∧k≠2∧k≠3∧k≠4∧k≠5∧k≠6):=by omega
theorem restB_no {k d m:Int} (h:k≠1∧k≠2∧k≠3∧k≠4∧k≠5∧k≠6):restB k d m=false:=by
 unfold restB
 rw [if_neg (by omega),if_neg (by omega),if_neg (by omega)]
theorem actB_src {k s d m:Int} (h:inB s 0 31=false):actB ⟨k,s,d,m⟩=false:=by simp [actB,h]
theorem actB_dst {k s d m:Int} (h:inB d 0 31=false):actB ⟨k,s,d,m⟩=false:=by simp [actB,h]
theorem actB_amt {k s d m:Int} (h:inB m 0 1000000=false):actB ⟨k,s,d,m⟩=false:=by simp [actB,h]
theorem actB_rest {k s d m:Int} (h0:inB s 0 31=true) (h1:inB d 0 31=true) (h2:inB m 0 1000000=true):actB ⟨k,s,d,m⟩=restB k d m:=by simp [actB,h0,h1,h2]
theorem actB_kind {k s d m:Int} (h:k≠1∧k≠2∧k≠3∧k≠4∧k≠5∧k≠6):actB ⟨k,s,d,m⟩=false:=by simp [actB,restB_no h]
def onceM (a b:Int):List Int:=if a=b then [a] else [a,b]
def ascM (a b:Int):List Int:=onceM (min a b) (max a b)
def readsK (k s d:Int):List Int:=if k=1 then [] else if k=3∨k=6 then [s] else onceM s d
def readsM (x:Acn):List Int:=if actB x then readsK x.kind x.src x.dst else []
def actsB (l:List Acn):Bool:=decide (l.length≤10) && l.all actB
theorem kind_of {x:Acn} (h:actB x=true):1≤x.kind∧x.kind≤6:=by
 rcases kind_cases x.kind with e | e | e | e | e | e | e
 · omega
 · omega
 · omega
 · omega
 · omega
 · omega
 · have:actB ⟨x.kind,x.src,x.dst,x.amt⟩=false:=actB_kind e
   rw [this] at h;cases h
theorem once_bd {a b:Int} {P:Int→Prop} (ha:P a) (hb:P b):∀ x∈onceM a b,P x:=by
 unfold onceM;split <;> simp [ha,hb]
theorem once_len (a b:Int):1≤(onceM a b).length∧(onceM a b).length≤2:=by unfold onceM;split <;> simp
theorem actB_bd {x:Acn} (h:actB x=true):(0≤x.src∧x.src≤31)∧(0≤x.dst∧x.dst≤31)∧0≤x.amt∧x.amt≤1000000:=by
 simp only [actB,Bool.and_eq_true] at h
 exact ⟨inB_true h.1.1.1,inB_true h.1.1.2,inB_true h.1.2⟩
theorem readsM_bd (x:Acn):∀ n∈readsM x,0≤n∧n≤31:=by
 unfold readsM
 split
 · rename_i h
   have:=actB_bd h
   unfold readsK
   split
   · intro n hn;cases hn
   · split
     · intro n hn;simp at hn;subst hn;exact this.1
     · exact once_bd this.1 this.2.1
 · intro n hn;cases hn
theorem readsM_len (x:Acn):(readsM x).length≤2:=by
 unfold readsM
 split
 · unfold readsK
   split
   · simp
   · split
     · simp
     · exact (once_len _ _).2
 · simp
theorem actsB_no {l:List Acn} (h:10 < l.length):actsB l=false:=by
 unfold actsB
 have:decide (l.length≤10)=false:=by simp;omega
 rw [this];rfl
theorem actsB_bad {l:List Acn} {x:Acn} (hx:x∈l) (h:actB x=false):actsB l=false:=by
 unfold actsB
 have:l.all actB=false:=by
  rw [List.all_eq_false];exact ⟨x,hx,by simp [h]⟩
 rw [this];simp
theorem actsB_yes {l:List Acn} (h0:l.length≤10) (h:∀ x∈l,actB x=true):actsB l=true:=by
 unfold actsB
 rw [Bool.and_eq_true,decide_eq_true_eq,List.all_eq_true];exact ⟨h0,h⟩
theorem actsB_true {l:List Acn} (h:actsB l=true):l.length≤10∧∀ x∈l,actB x=true:=by
 unfold actsB at h
 rw [Bool.and_eq_true,decide_eq_true_eq,List.all_eq_true] at h;exact h
def OkActs (l:List Acn) (k:Nat):Prop:=∀ j,j < k→actB (l.getD j noA)=true
theorem OkActs.next {l:List Acn} {k:Nat} (h:OkActs l k) (hk:actB (l.getD k noA)=true):OkActs l (k+1):=by
 intro j hj
 rcases (by omega:j < k∨j=k) with h1 | rfl
 · exact h j h1
 · exact hk
theorem getD_memA (l:List Acn) (k:Nat) (h:k < l.length):l.getD k noA∈l:=by
 rw [List.getD_eq_getElem?_getD,List.getElem?_eq_getElem h];exact List.getElem_mem h
theorem OkActs.all {l:List Acn} (h:OkActs l l.length):∀ x∈l,actB x=true:=by
 intro x hx
 obtain ⟨j,hj,rfl⟩:=List.getElem_of_mem hx
 have:=h j hj
 rwa [List.getD_eq_getElem?_getD,List.getElem?_eq_getElem hj] at this
open Go.RowKit
set_option linter.unusedVariables false
def WfA (x:Acn):Prop:=(Lit.int .i64 x.kind).wf=true∧(Lit.int .i64 x.src).wf=true∧(Lit.int .i64 x.dst).wf=true∧(Lit.int .i64 x.amt).wf=true
def RowA (w:World) (a:Option Addr) (n:Nat) (l:List Acn):Prop :=
 l.length=n∧n≤maxLen∧(0 < n→∃ b off,a=some ⟨b,off,none⟩∧∀ i,i < n→w.cell? ⟨b,off+i*4,none⟩=some (.int .i64 (l.getD i noA).kind)∧w.cell? ⟨b,off+i*4+1,none⟩=some (.int .i64 (l.getD i noA).src) ∧
  w.cell? ⟨b,off+i*4+2,none⟩=some (.int .i64 (l.getD i noA).dst)∧w.cell? ⟨b,off+i*4+3,none⟩=some (.int .i64 (l.getD i noA).amt))∧∀ x∈l,WfA x
theorem RowA.below {w w':World} {a:Option Addr} {n:Nat} {l:List Acn} (h:RowA w a n l) (hb:Below w.heap.size w w'):RowA w' a n l:=by
 obtain ⟨h1,h2,h3,h4⟩:=h
 refine ⟨h1,h2,fun hl=>?_,h4⟩
 obtain ⟨b,off,he,hc⟩:=h3 hl
 refine ⟨b,off,he,fun i hi=>?_⟩
 have hlt:b < w.heap.size:=World.block_lt_of_cell? w ⟨b,off+i*4,none⟩ (hc i hi).1
 rw [hb.cell (p:=⟨b,off+i*4,none⟩) hlt,hb.cell (p:=⟨b,off+i*4+1,none⟩) hlt,hb.cell (p:=⟨b,off+i*4+2,none⟩) hlt,hb.cell (p:=⟨b,off+i*4+3,none⟩) hlt]
 exact hc i hi
theorem RowA.drewN {w:World} {a:Option Addr} {n:Nat} {l:List Acn} (h:RowA w a n l) (m:Nat):RowA (w.drewN m) a n l:=h
theorem rowA_empty (w:World) (a:Option Addr):RowA w a 0 []:=⟨rfl,by unfold maxLen;omega,fun h=>absurd h (by omega),fun n hn=>by cases hn⟩
theorem RowA.cut {w:World} {a:Option Addr} {n m:Nat} {l:List Acn} (h:RowA w a n l) (hm:m≤n):RowA w a m (l.take m):=by
 obtain ⟨h1,h2,h3,h4⟩:=h
 refine ⟨by rw [List.length_take];omega,by omega,fun h0=>?_,fun e he=>h4 e (List.mem_of_mem_take he)⟩
 obtain ⟨b,off,he,hc⟩:=h3 (by omega)
 refine ⟨b,off,he,fun i hi=>?_⟩
 have hg:(l.take m).getD i noA=l.getD i noA:=by rw [List.getD_eq_getElem?_getD,List.getD_eq_getElem?_getD,List.getElem?_take,if_pos hi]
 rw [hg];exact hc i (by omega)
def celA (x:Acn):List Value:=[.int .i64 x.kind,.int .i64 x.src,.int .i64 x.dst,.int .i64 x.amt]
def flatA (l:List Acn):List Value:=l.flatMap celA
theorem flatA_append (l m:List Acn):flatA (l++m)=flatA l++flatA m:=by simp [flatA]
theorem flatA_cons (x:Acn) (l:List Acn):flatA (x :: l) = .int .i64 x.kind :: .int .i64 x.src :: .int .i64 x.dst :: .int .i64 x.amt :: flatA l:=rfl
theorem flatA_len (l:List Acn):(flatA l).length=l.length*4:=by
 induction l with
 | nil=>rfl
 | cons e r ih=>rw [flatA_cons];simp only [List.length_cons,ih];omega
theorem flatA_get (l:List Acn):∀ k,k < l.length→(flatA l)[k*4]? = some (.int .i64 (l.getD k noA).kind)∧(flatA l)[k*4+1]? = some (.int .i64 (l.getD k noA).src)∧(flatA l)[k*4+2]? = some (.int .i64 (l.getD k noA).dst)∧(flatA l)[k*4+3]? = some (.int .i64 (l.getD k noA).amt):=by
 induction l with
 | nil=>intro k h;cases h
 | cons e r ih =>
  intro k h
  cases k with
  | zero=>simp [flatA_cons]
  | succ k =>
   have:=ih k (by simpa using h)
   rw [flatA_cons,show (k+1)*4=k*4+1+1+1+1 by omega,show k*4+1+1+1+1+1=(k*4+1)+1+1+1+1 by omega,show k*4+1+1+1+1+2=(k*4+2)+1+1+1+1 by omega,show k*4+1+1+1+1+3=(k*4+3)+1+1+1+1 by omega]
   simpa using this
theorem flatA_one (l:List Acn):∀ u∈flatA l,u.oneCell'=true:=by
 induction l with
 | nil=>intro u hu;cases hu
 | cons e r ih =>
  intro u hu
  rw [flatA_cons] at hu
  simp only [List.mem_cons] at hu
  rcases hu with rfl | rfl | rfl | rfl | hu
  · rfl
  · rfl
  · rfl
  · rfl
  · exact ih u hu
def WfAs (l:List Acn):Prop:=∀ x∈l,WfA x
theorem WfAs.snoc {l:List Acn} {x:Acn} (h:WfAs l) (hx:WfA x):WfAs (l++[x]):=by
 intro e he
 rcases List.mem_append.1 he with h' | h'
 · exact h e h'
 · simp at h';subst h';exact hx
theorem rowA_of_owns {w:World} {B:Nat} {e:TypeId} {v:Value} {l:List Acn} (h:w.ownsRow B e 4 v l.length (flatA l)) (hm:l.length≤4000000) (hw:WfAs l) :
  ∃ a cap,v = .slice a l.length cap∧RowA w a l.length l∧(a=none→cap=0)∧l.length≤cap∧∀ b o,a=some ⟨b,o,none⟩→B≤b:=by
 rcases h.2 with ⟨hv,h0⟩ | ⟨g,cap,cur,hv,hB,hg,hnc,-⟩
 · obtain rfl:l=[]:=List.eq_nil_of_length_eq_zero h0
   exact ⟨none,0,hv,rowA_empty _ _,fun _=>rfl,Nat.le_refl _,fun b o he=>by cases he⟩
 · subst hv
   refine ⟨_,cap,rfl,⟨rfl,by unfold maxLen;omega,fun _=>⟨g,0,rfl,fun i hi=>?_⟩,hw⟩,fun he=>(by cases he),hnc,fun b o he=>by simp at he;omega⟩
   obtain ⟨f1,f2,f3,f4⟩:=flatA_get l i hi
   rw [Nat.zero_add]
   exact ⟨(h.cellAt (i*4) (by omega)).trans f1,(h.cellAt (i*4+1) (by omega)).trans f2,(h.cellAt (i*4+2) (by omega)).trans f3,(h.cellAt (i*4+3) (by omega)).trans f4⟩
theorem RowA.news {w:World} {a:Option Addr} {n:Nat} {l:List Acn} (h:RowA w a n l):∀ ad,a=some ad→∀ j u,(flatA l)[j]? = some u→w.cell? (ad.add j)=some u:=by
 intro ad he j u hu
 have hj:j < n*4:=by
  have:=(List.getElem?_eq_some_iff.1 hu).1
  rw [flatA_len,h.1] at this;exact this
 obtain ⟨b,off,he',hc⟩:=h.2.2.1 (by omega)
 rw [he] at he'
 obtain rfl:=Option.some.inj he'
 rw [show (⟨b,off,none⟩:Addr).add j=⟨b,off+j,none⟩ by unfold Addr.add;split <;> simp_all]
 obtain ⟨h1,h2,h3,h4⟩:=hc (j / 4) (by omega)
 obtain ⟨f1,f2,f3,f4⟩:=flatA_get l (j / 4) (by rw [h.1];omega)
 rcases (by omega:j=j / 4*4∨j=j / 4*4+1∨j=j / 4*4+2∨j=j / 4*4+3) with e | e | e | e
 · rw [← e] at f1
   rw [f1] at hu
   rw [show off+j=off+j / 4*4 by omega,h1];exact hu
 · rw [← e] at f2
   rw [f2] at hu
   rw [show off+j=off+j / 4*4+1 by omega,h2];exact hu
 · rw [← e] at f3
   rw [f3] at hu
   rw [show off+j=off+j / 4*4+2 by omega,h3];exact hu
 · rw [← e] at f4
   rw [f4] at hu
   rw [show off+j=off+j / 4*4+3 by omega,h4];exact hu
theorem RowA.bd {w:World} {a:Option Addr} {n:Nat} {l:List Acn} (h:RowA w a n l) (k:Nat) (hk:k < n):WfA (l.getD k noA) :=
 h.2.2.2 _ (getD_memA l k (by rw [h.1];exact hk))
theorem RowA.grown {w w':World} {b n:Nat} {row:Option Nat} {l:List Acn} (h:RowA w (some ⟨b,0,none⟩) n l) (hg:w.grownBy w' row) (hne:some b≠row):RowA w' (some ⟨b,0,none⟩) n l:=by
 obtain ⟨h1,h2,h3,h4⟩:=h
 refine ⟨h1,h2,fun hl=>?_,h4⟩
 obtain ⟨b',off,he,hc⟩:=h3 hl
 obtain ⟨rfl,rfl⟩:b=b'∧0=off:=by simpa using he
 refine ⟨b,0,rfl,fun i hi=>?_⟩
 obtain ⟨c1,c2,c3,c4⟩:=hc i hi
 exact ⟨World.grownBy.cell hg c1 hne,World.grownBy.cell hg c2 hne,World.grownBy.cell hg c3 hne,World.grownBy.cell hg c4 hne⟩
open Go.RowKit Go.Joins Go.Deep
end Go.Proofs.YtpnjgmgmakmgeaaGreat
