/- Texts of ours that stand together: Base, SumsMath, StoreMath, RowE, Own, Reader, RegionInv, StoreLaws, ArrMath, Arr, SumLemmas, TreeMath -/
import Derived.Test.YtpnjgmgmakmgeaaGreatRows
import Derived.WalkKit
import Derived.Lib.Hide
import Derived.Deep.QuietTactic
import Derived.BigQuiet
import Derived.WalkSmall
import Derived.WalkSpells
import Derived.Laws.AppendOwnNone
import Derived.Orders
import Derived.Deep.WholeRow
/- General words for rows of integers in memory and small facts on worlds;no function of the program is named here. -/
namespace Go.Proofs.YtpnjgmgmakmgeaaGreat
open Go.RowKit
def RowI (w:World) (a:Option Addr) (len:Nat) (l:List Int):Prop :=
 l.length=len∧len≤maxLen∧(0 < len→∃ b off,a=some ⟨b,off,none⟩∧∀ i,i < len→w.cell? ⟨b,off+i,none⟩=some (.int .i64 (l.getD i 0)))∧∀ n∈l,(Lit.int .i64 n).wf=true
theorem RowI.below {w w':World} {a:Option Addr} {len:Nat} {l:List Int} (h:RowI w a len l) (hb:Below w.heap.size w w'):RowI w' a len l:=by
 obtain ⟨h1,h2,h3,h4⟩:=h
 refine ⟨h1,h2,fun hl=>?_,h4⟩
 obtain ⟨b,off,he,hc⟩:=h3 hl
 refine ⟨b,off,he,fun i hi=>?_⟩
 have hlt:b < w.heap.size:=World.block_lt_of_cell? w ⟨b,off+i,none⟩ (hc i hi)
 rw [hb.cell (p:=⟨b,off+i,none⟩) hlt]
 exact hc i hi
theorem wf_i64_bd {n:Int} (h:(Lit.int .i64 n).wf=true) : -9223372036854775808≤n∧n≤9223372036854775807:=by
 simpa [Lit.wf,IntKind.min,IntKind.max,IntKind.signed,IntKind.bits] using h
theorem getD_mem (l:List Int) (k:Nat) (h:k < l.length):l.getD k 0∈l:=by
 rw [List.getD_eq_getElem?_getD,List.getElem?_eq_getElem h];exact List.getElem_mem h
theorem RowI.bd {w:World} {a:Option Addr} {len:Nat} {l:List Int} (h:RowI w a len l) (k:Nat) (hk:k < len) : -9223372036854775808≤l.getD k 0∧l.getD k 0≤9223372036854775807 :=
 wf_i64_bd (h.2.2.2 _ (getD_mem l k (by rw [h.1];exact hk)))
theorem take_snoc (l:List Int) (k:Nat) (h:k < l.length):l.take (k+1)=l.take k++[l.getD k 0]:=by
 rw [List.take_succ_eq_append_getElem h,List.getD_eq_getElem?_getD,List.getElem?_eq_getElem h];rfl
theorem ret_int {k:IntKind} {a b:Int} (h:a=b):Ending.returned (.int k a) = .returned (.int k b):=by rw [h]
theorem bcell {B:Nat} {W w1:World} (hb:Below B W w1):(∀ b o,b < B→w1.cell? ⟨b,o,none⟩=W.cell? ⟨b,o,none⟩)∧(∀ b o,b < B→w1.frozen? ⟨b,o,none⟩=W.frozen? ⟨b,o,none⟩) :=
 ⟨fun b o h=>hb.cell (p:=⟨b,o,none⟩) h,fun b o h=>hb.frozen (p:=⟨b,o,none⟩) h⟩
theorem rowI_of_owns {w:World} {base e n:Nat} {v:Value} {l:List Int} (h:w.ownsRow base e 1 v n (l.map (Value.int .i64))) (hm:n≤maxLen) (hw:∀ n∈l,(Lit.int .i64 n).wf=true) :
  ∃ a cap,v = .slice a n cap∧RowI w a n l:=by
 have hlen:l.length=n:=by have:=h.1;simpa using this
 rcases h.2 with ⟨rfl,h0⟩ | ⟨g,cap,cur,rfl,hb,hg,hnc,hcm,hcs,htake⟩
 · subst h0
   exact ⟨none,0,rfl,hlen,hm,fun h=>absurd h (by omega),hw⟩
 · refine ⟨_,cap,rfl,hlen,hm,fun _=>⟨g,0,rfl,fun i hi=>?_⟩,hw⟩
   have:=h.cellAt i (by omega)
   rw [Nat.zero_add,this,List.getElem?_map,List.getElem?_eq_getElem (by omega),List.getD_eq_getElem?_getD,List.getElem?_eq_getElem (by omega)];rfl
def fillI (l:List Int) (k:Nat):List Int:=l.take k++List.replicate (l.length - k) 0
theorem fillI_zero (l:List Int):fillI l 0=List.replicate l.length 0:=by simp [fillI]
theorem below_drewN' {B:Nat} {a w:World} (h:Below B a w) (n:Nat):Below B a (w.drewN n):=h.trans ⟨rfl,rfl,rfl,Nat.le_refl _,fun _ _=>rfl⟩
def LawTrue (w:World) (e:Ending) (w':World):Prop:=e = .returned (.bool true)∧Below w.heap.size w w'
def sumStep (s n:Int):Int:=(31*s+n+7) % 1000003
def okSummed (n:Int):Bool:=decide (0≤n∧n≤2000000)
def okTag (t:Int):Bool:=decide (0≤t∧t≤9)
def sumFold (s:Int) (l:List Int):Int:=l.foldl sumStep s
def sumOfM (t:Int) (l:List Int):Int:=if okTag t && l.all okSummed then sumFold (17+t) l else -1
theorem sumStep_bd (s n:Int):0≤sumStep s n∧sumStep s n≤1000002:=by unfold sumStep;omega
theorem sumFold_bd (s:Int) (l:List Int) (h0:0≤s) (h1:s≤1000002):0≤sumFold s l∧sumFold s l≤1000002:=by
 unfold sumFold
 induction l generalizing s with
 | nil=>exact ⟨h0,h1⟩
 | cons a l ih=>exact ih _ (sumStep_bd s a).1 (sumStep_bd s a).2
theorem sumFold_snoc (s:Int) (l:List Int) (n:Int):sumFold s (l++[n])=sumStep (sumFold s l) n:=by
 simp [sumFold]
def inB (n lo hi:Int):Bool:=decide (lo≤n∧n≤hi)
theorem inB_true {n lo hi:Int} (h:inB n lo hi=true):lo≤n∧n≤hi:=by simpa [inB] using h
theorem inB_false {n lo hi:Int} (h:inB n lo hi=false):¬ (lo≤n∧n≤hi):=by simpa only [inB,decide_eq_false_iff_not] using h
theorem inB_yes {n lo hi:Int} (h0:lo≤n) (h1:n≤hi):inB n lo hi=true:=by simp [inB,h0,h1]
theorem inB_no {n lo hi:Int} (h:¬ (lo≤n∧n≤hi)):inB n lo hi=false:=by simpa only [inB,decide_eq_false_iff_not] using h
abbrev Ent:=Int × Int
def okAt (l:List Ent) (k:Nat):Bool :=
 inB (l.getD k (0,0)).1 0 31 && inB (l.getD k (0,0)).2 1 1000000 && (k == 0 || decide ((l.getD (k - 1) (0,0)).1 < (l.getD k (0,0)).1))
def storeB (l:List Ent):Bool:=(List.range l.length).all (okAt l)
theorem storeB_iff (l:List Ent):storeB l=true ↔ ∀ k,k < l.length→okAt l k=true:=by
 simp [storeB,List.all_eq_true]
theorem storeB_bad (l:List Ent) (k:Nat) (hk:k < l.length) (h:okAt l k=false):storeB l=false:=by
 rw [Bool.eq_false_iff];intro hh;rw [(storeB_iff l).1 hh k hk] at h;cases h
def OkTo (l:List Ent) (k:Nat):Prop:=∀ j,j < k→okAt l j=true
theorem OkTo.next {l:List Ent} {k:Nat} (h:OkTo l k) (hk:okAt l k=true):OkTo l (k+1):=by
 intro j hj
 by_cases e:j=k
 · rw [e];exact hk
 · exact h j (by omega)
def atM:List Ent→Int→Int
 | [],_=>0
 | e :: r,key=>if e.1=key then e.2 else atM r key
def Absent (l:List Ent) (key:Int) (k:Nat):Prop:=∀ j,j < k→(l.getD j (0,0)).1≠key
theorem Absent.zero (l:List Ent) (key:Int):Absent l key 0:=fun j hj=>absurd hj (Nat.not_lt_zero j)
theorem Absent.next {l:List Ent} {key:Int} {k:Nat} (h:Absent l key k) (hk:(l.getD k (0,0)).1≠key):Absent l key (k+1):=by
 intro j hj
 by_cases e:j=k
 · rw [e];exact hk
 · exact h j (by omega)
theorem atM_hit:∀ (l:List Ent) (key:Int) (k:Nat),k < l.length→Absent l key k→(l.getD k (0,0)).1=key→atM l key=(l.getD k (0,0)).2:=by
 intro l;induction l with
 | nil=>intro key k h;cases h
 | cons e r ih =>
  intro key k h ha he
  cases k with
  | zero=>simp at he;simp [atM,he]
  | succ k =>
   have h0:e.1≠key:=by simpa using ha 0 (by omega)
   simp only [atM,if_neg h0,List.getD_cons_succ] at he ⊢
   exact ih key k (by simpa using h) (fun j hj=>by simpa using ha (j+1) (by omega)) he
theorem atM_miss:∀ (l:List Ent) (key:Int),Absent l key l.length→atM l key=0:=by
 intro l;induction l with
 | nil=>intro key _;rfl
 | cons e r ih =>
  intro key ha
  have h0:e.1≠key:=by simpa using ha 0 (by simp)
  simp only [atM,if_neg h0]
  exact ih key (fun j hj=>by simpa using ha (j+1) (by simp;omega))
theorem okAt_bd {l:List Ent} {k:Nat} (h:okAt l k=true) :
  0≤(l.getD k (0,0)).1∧(l.getD k (0,0)).1≤31∧1≤(l.getD k (0,0)).2∧(l.getD k (0,0)).2≤1000000∧(0 < k→(l.getD (k - 1) (0,0)).1 < (l.getD k (0,0)).1):=by
 simp only [okAt,Bool.and_eq_true,Bool.or_eq_true,beq_iff_eq,decide_eq_true_eq] at h
 obtain ⟨⟨h1,h2⟩,h3⟩:=h
 have:=inB_true h1;have:=inB_true h2
 exact ⟨by omega,by omega,by omega,by omega,fun hk=>by omega⟩
theorem store_key_ge {l:List Ent} (h:storeB l=true) (k:Nat) (hk:k < l.length):(k:Int)≤(l.getD k (0,0)).1:=by
 induction k with
 | zero=>have:=okAt_bd ((storeB_iff l).1 h 0 hk);omega
 | succ k ih =>
  have:=okAt_bd ((storeB_iff l).1 h (k+1) hk)
  have h2:=this.2.2.2.2 (by omega)
  have:=ih (by omega)
  rw [Nat.add_sub_cancel] at h2
  omega
theorem store_len {l:List Ent} (h:storeB l=true):l.length≤32:=by
 rcases Nat.lt_or_ge 32 l.length with hl | hl
 · have h1:=store_key_ge h 32 hl
   have:=okAt_bd ((storeB_iff l).1 h 32 hl)
   omega
 · exact hl
theorem takeE_snoc (l:List Ent) (k:Nat) (h:k < l.length):l.take (k+1)=l.take k++[l.getD k (0,0)]:=by
 rw [List.take_succ_eq_append_getElem h,List.getD_eq_getElem?_getD,List.getElem?_eq_getElem h];rfl
def putStep (key val:Int) (st:List Ent × Bool) (e:Ent):List Ent × Bool :=
 let st1:=if !st.2 && decide (key≤e.1) then (st.1++[(key,val)],true) else st
 if e.1=key then st1 else (st1.1++[e],st1.2)
def putFold (key val:Int) (l:List Ent):List Ent × Bool:=l.foldl (putStep key val) ([],val == 0)
def putRaw (key val:Int) (l:List Ent):List Ent:=if (putFold key val l).2 then (putFold key val l).1 else (putFold key val l).1++[(key,val)]
theorem putFold_snoc (key val:Int) (l:List Ent) (e:Ent):putFold key val (l++[e])=putStep key val (putFold key val l) e:=by simp [putFold]
theorem putStep_len (key val:Int) (st:List Ent × Bool) (e:Ent):(putStep key val st e).1.length≤st.1.length+2:=by
 unfold putStep
 split <;> split <;> simp <;> omega
theorem putFold_len (key val:Int) (l:List Ent):(putFold key val l).1.length≤2*l.length:=by
 suffices h:∀ (l:List Ent) (st:List Ent × Bool),(l.foldl (putStep key val) st).1.length≤st.1.length+2*l.length by
  have:=h l ([],val == 0);simpa [putFold] using this
 intro l;induction l with
 | nil=>intro st;simp
 | cons e r ih=>intro st;have:=ih (putStep key val st e);have:=putStep_len key val st e;simp only [List.foldl_cons,List.length_cons];omega
def putM (l:List Ent) (key val:Int):List Ent × Bool :=
 if storeB l then (if inB key 0 31 && inB val 0 1000000 then (putRaw key val l,true) else (l,false)) else ([],false)
def RowE (w:World) (a:Option Addr) (n:Nat) (l:List Ent):Prop :=
 l.length=n∧n≤maxLen∧(0 < n→∃ b off,a=some ⟨b,off,none⟩∧∀ i,i < n→w.cell? ⟨b,off+i*2,none⟩=some (.int .i64 (l.getD i (0,0)).1)∧w.cell? ⟨b,off+i*2+1,none⟩=some (.int .i64 (l.getD i (0,0)).2)) ∧
 ∀ e∈l,(Lit.int .i64 e.1).wf=true∧(Lit.int .i64 e.2).wf=true
theorem RowE.below {w w':World} {a:Option Addr} {n:Nat} {l:List Ent} (h:RowE w a n l) (hb:Below w.heap.size w w'):RowE w' a n l:=by
 obtain ⟨h1,h2,h3,h4⟩:=h
 refine ⟨h1,h2,fun hl=>?_,h4⟩
 obtain ⟨b,off,he,hc⟩:=h3 hl
 refine ⟨b,off,he,fun i hi=>?_⟩
 have hlt:b < w.heap.size:=World.block_lt_of_cell? w ⟨b,off+i*2,none⟩ (hc i hi).1
 rw [hb.cell (p:=⟨b,off+i*2,none⟩) hlt,hb.cell (p:=⟨b,off+i*2+1,none⟩) hlt]
 exact hc i hi
theorem RowE.drewN {w:World} {a:Option Addr} {n:Nat} {l:List Ent} (h:RowE w a n l) (m:Nat):RowE (w.drewN m) a n l:=h
theorem rowE_empty (w:World) (a:Option Addr):RowE w a 0 []:=⟨rfl,by unfold maxLen;omega,fun h=>absurd h (by omega),fun n hn=>by cases hn⟩
theorem getD_memE (l:List Ent) (k:Nat) (h:k < l.length):l.getD k (0,0)∈l:=by
 rw [List.getD_eq_getElem?_getD,List.getElem?_eq_getElem h];exact List.getElem_mem h
theorem RowE.bd {w:World} {a:Option Addr} {n:Nat} {l:List Ent} (h:RowE w a n l) (k:Nat) (hk:k < n) :
  (-9223372036854775808≤(l.getD k (0,0)).1∧(l.getD k (0,0)).1≤9223372036854775807)∧(-9223372036854775808≤(l.getD k (0,0)).2∧(l.getD k (0,0)).2≤9223372036854775807) :=
 have:=h.2.2.2 _ (getD_memE l k (by rw [h.1];exact hk))
 ⟨wf_i64_bd this.1,wf_i64_bd this.2⟩
def Drawn (w w':World):Prop:=∃ m,w'=w.drewN m
theorem Drawn.refl (w:World):Drawn w w:=⟨0,rfl⟩
theorem Drawn.cell {w w':World} (h:Drawn w w') (a:Addr):w'.cell? a=w.cell? a:=by obtain ⟨m,rfl⟩:=h;rfl
theorem Drawn.drewN {w w':World} (h:Drawn w w') (m:Nat):Drawn w (w'.drewN m):=by obtain ⟨k,rfl⟩:=h;exact ⟨_,World.drewN_drewN _ _ _⟩
theorem Drawn.trans {a b c:World} (h:Drawn a b) (k:Drawn b c):Drawn a c:=by obtain ⟨m,rfl⟩:=k;exact h.drewN m
theorem Drawn.below {w w':World} (h:Drawn w w') (B:Nat):Below B w w':=by obtain ⟨m,rfl⟩:=h;exact below_drewN' (Below.refl _ _) m
def BoolQ (b:Bool) (w:World) (e:Ending) (w':World):Prop:=e = .returned (.bool b)∧Drawn w w'
def Own (w:World) (B:Nat) (e:TypeId) (size:Nat) (v:Value) (n:Nat) (xs:List Value):Prop:=w.ownsRow B e size v n xs∧v≠.slice none 0 0
theorem Own.grown {w w':World} {B:Nat} {e:TypeId} {size n:Nat} {v:Value} {xs:List Value} {row:Option Nat} (h:Own w B e size v n xs) (hg:w.grownBy w' row) (hrow:∀ k,row=some k→k < B):Own w' B e size v n xs:=by
 refine ⟨h.1.kept hg ?_,h.2⟩
 rcases hv:v.ownBlock with _ | k
 · exact .inl rfl
 · have:=(h.1.lt k hv).1
   exact .inr (fun e=>by have:=hrow k e.symm;omega)
theorem Own.alloc {w:World} {B:Nat} {e:TypeId} {size n:Nat} {v:Value} {xs:List Value} (h:Own w B e size v n xs) (o:Obj):Own (w.alloc o) B e size v n xs:=⟨h.1.alloc o,h.2⟩
theorem Own.drewN {w:World} {B:Nat} {e:TypeId} {size n:Nat} {v:Value} {xs:List Value} (h:Own w B e size v n xs) (m:Nat):Own (w.drewN m) B e size v n xs:=h
theorem Own.drawn {w w':World} {B:Nat} {e:TypeId} {size n:Nat} {v:Value} {xs:List Value} (h:Own w B e size v n xs) (hd:Drawn w w'):Own w' B e size v n xs:=by obtain ⟨m,rfl⟩:=hd;exact h
theorem Below.grownBy {w w':World} (hb:Below w.heap.size w w') (row:Option Nat):w.grownBy w' row:=⟨hb.os,hb.tape,hb.output,hb.size,fun k hk _=>hb.block k hk⟩
theorem Own.below {w w':World} {B:Nat} {e:TypeId} {size n:Nat} {v:Value} {xs:List Value} (h:Own w B e size v n xs) (hb:Below w.heap.size w w'):Own w' B e size v n xs :=
 h.grown (row:=none) (Below.grownBy hb none) (fun k hk=>by cases hk)
theorem own_lit {w:World} {B:Nat} (e:TypeId) (size:Nat) (cs:Array Value) (n:Nat) (hB:B≤w.heap.size) (hn:n≤maxLen) (hs:cs.size=n*size) :
  Own (w.alloc (.cells cs e)) B e size (.slice (some ⟨w.heap.size,0,none⟩) n n) n cs.toList :=
 ⟨World.ownsRow_lit w cs n hB hn hs,by simp⟩
theorem Own.slice {w:World} {B:Nat} {e:TypeId} {size n:Nat} {v:Value} {xs:List Value} (h:Own w B e size v n xs):∃ g cap,v = .slice (some ⟨g,0,none⟩) n cap∧B≤g∧g < w.heap.size:=by
 rcases h.1.2 with ⟨h1,_⟩ | ⟨g,cap,cur,h1,hB,hg,_⟩
 · exact absurd h1 h.2
 · exact ⟨g,cap,h1,hB,(Array.getElem?_eq_some_iff.1 hg).1⟩
theorem Own.mono {w:World} {B B':Nat} {e:TypeId} {size n:Nat} {v:Value} {xs:List Value} (h:Own w B e size v n xs) (hB:B'≤B):Own w B' e size v n xs:=by
 refine ⟨⟨h.1.1,?_⟩,h.2⟩
 rcases h.1.2 with h1 | ⟨g,cap,cur,h1,hb,r⟩
 · exact .inl h1
 · exact .inr ⟨g,cap,cur,h1,by omega,r⟩
theorem wpList_append_wanted {P:Program} (w:World) {ops:Array Oper} {rest:List Oper} {o:Oper} {a:Act} {Q:Exit→Act→World→Prop} (hgd:Region.wanted o (yielded ops a.tmps)=true) (s x:Operand) (t:TypeId)
  (ho:o.op = .call { callee:=.builtin .append,args:=#[s,x],argTypes:=#[t,t] })
  (base:Nat) (e:TypeId) (i:TypeInfo) (z:Value) (size bytes:Nat) (ht:P.underlying t=some (.slice e)) (hi:P.info? e=some i) (hz:i.zero=some z)
  (hsize:i.size=size) (hby:i.bytes=bytes) (hzs:z.cells.size=size) (hsz:0 < size)
  (v:Value) (n:Nat) (xs:List Value) (hs:a.eval s=v) (hown:w.ownsRow base e size v n xs)
  (ad:Addr) (m c:Nat) (news:List Value) (hx:a.eval x = .slice (some ad) m c) (hl:news.length=m*size) (hnews:∀ j u,news[j]? = some u→w.cell? (ad.add j)=some u) (h1:∀ u∈news,u.oneCell'=true)
  (h63:n+m≤maxLen) (hbytes:(n+m)*bytes≤140737488355328) (hbase:base≤w.heap.size)
  (h:∀ v' w',w'.ownsRow base e size v' (n+m) (xs++news)→w.grownBy w' v.ownBlock→(v' = .slice none 0 0 ↔ v = .slice none 0 0∧m=0)→wpList P ops Q rest (a.put o.dst v') w'):wpList P ops Q (o :: rest) a w :=
 BigFrame.wpList_want hgd fun _ hK=>wp_append_own w s x t ho base e i z size bytes ht hi hz hsize hby hzs hsz v n xs hs hown ad m c news hx hl hnews h1 h63 hbytes hbase fun v' w' h2 h3 h4=>hK _ _ (h v' w' h2 h3 h4)
theorem wpList_append_none_wanted {P:Program} {w:World} {ops:Array Oper} {rest:List Oper} {o:Oper} {a:Act} {Q:Exit→Act→World→Prop} (hgd:Region.wanted o (yielded ops a.tmps)=true) (s x:Operand) (t:TypeId)
  (ho:o.op = .call { callee:=.builtin .append,args:=#[s,x],argTypes:=#[t,t] })
  (base:Nat) (e:TypeId) (i:TypeInfo) (size:Nat) (ht:P.underlying t=some (.slice e)) (hi:P.info? e=some i)
  (v:Value) (n:Nat) (xs:List Value) (hs:a.eval s=v) (hown:w.ownsRow base e size v n xs) (hx:a.eval x = .slice none 0 0)
  (h:wpList P ops Q rest (a.put o.dst v) w):wpList P ops Q (o :: rest) a w:=by
 refine BigFrame.wpList_want hgd fun K hK=>?_
 have hrun:=run_append_owned_none (P:=P) (w:=w) base t o.type e i size ht hi v n xs hown
 unfold Oper.wp
 simp [execOp,ho,resolve,invoke,builtin,hs,hx,hrun,Result.andThen]
 exact hK _ _ h
theorem wpList_append_one {P:Program} {W:World} {ops:Array Oper} {rest:List Oper} {o:Oper} {a:Act} {Q:Exit→Act→World→Prop} (hgd:Region.wanted o (yielded ops a.tmps)=true) (s x:Operand) (t:TypeId)
  (ho:o.op = .call { callee:=.builtin .append,args:=#[s,x],argTypes:=#[t,t] })
  (B:Nat) (e e':TypeId) (z:Value) (size bytes:Nat) (ht:P.underlying t=some (.slice e)) (hinfo:(P.info? e).map (fun i=>(i.zero,i.size,i.bytes))=some (some z,size,bytes))
  (hzs:z.cells.size=size) (hsz:0 < size)
  (v:Value) (n:Nat) (xs news:List Value) (hs:a.eval s=v) (hown:Own W B e size v n xs) (hx:a.eval x = .slice (some ⟨W.heap.size,0,none⟩) 1 1)
  (hl:news.length=size) (h1:∀ u∈news,u.oneCell'=true)
  (hn:n≤4000000) (hby:bytes≤100000) (hbase:B≤W.heap.size)
  (h:∀ v' w',Own w' B e size v' (n+1) (xs++news)→(W.alloc (.cells news.toArray e')).grownBy w' v.ownBlock→wpList P ops Q rest (a.put o.dst v') w') :
  wpList P ops Q (o :: rest) a (W.alloc (.cells news.toArray e')):=by
 obtain ⟨i0,hi,hz0,hz1,hz2⟩:=info_parts hinfo
 refine wpList_append_wanted (P:=P) (W.alloc (.cells news.toArray e')) hgd s x t ho B e i0 z size bytes ht hi hz0 hz1 hz2 hzs hsz v n xs hs (hown.1.alloc _) ⟨W.heap.size,0,none⟩ 1 1 news hx (by rw [hl,Nat.one_mul]) ?_ h1 (by unfold maxLen;omega) ?_ (by simp;omega) ?_
 · intro j u hu
   rw [show (⟨W.heap.size,0,none⟩:Addr).add j=⟨W.heap.size,j,none⟩ by unfold Addr.add;split <;> simp_all]
   rw [cell_of_row (W.alloc (.cells news.toArray e')) W.heap.size j news.toArray e' (0,0) (heap_alloc_new W _)]
   rw [List.getElem?_toArray];exact hu
 · calc (n+1)*bytes≤4000001*100000:=Nat.mul_le_mul (by omega) hby
    _≤140737488355328:=by decide
 · intro v' w' h2 h3 h4
   refine h v' w' ⟨h2,fun e=>?_⟩ h3
   have:=(h4.1 e).1
   exact hown.2 this
def flatE:List Ent→List Value
 | []=>[]
 | e :: r=>.int .i64 e.1 :: .int .i64 e.2 :: flatE r
theorem flatE_append (l m:List Ent):flatE (l++m)=flatE l++flatE m:=by
 induction l with
 | nil=>rfl
 | cons e r ih=>simp [flatE,ih]
theorem flatE_len (l:List Ent):(flatE l).length=l.length*2:=by
 induction l with
 | nil=>rfl
 | cons e r ih=>simp [flatE,ih];omega
theorem flatE_get (l:List Ent):∀ k,k < l.length→(flatE l)[k*2]? = some (.int .i64 (l.getD k (0,0)).1)∧(flatE l)[k*2+1]? = some (.int .i64 (l.getD k (0,0)).2):=by
 induction l with
 | nil=>intro k h;cases h
 | cons e r ih =>
  intro k h
  cases k with
  | zero=>simp [flatE]
  | succ k =>
   have:=ih k (by simpa using h)
   rw [show (k+1)*2=k*2+1+1 by omega,show k*2+1+1+1=(k*2+1)+1+1 by omega]
   simpa [flatE] using this
def WfE (l:List Ent):Prop:=∀ e∈l,(Lit.int .i64 e.1).wf=true∧(Lit.int .i64 e.2).wf=true
theorem WfE.snoc {l:List Ent} (h:WfE l) {x y:Int} (hx:(Lit.int .i64 x).wf=true) (hy:(Lit.int .i64 y).wf=true):WfE (l++[(x,y)]):=by
 intro e he
 rcases List.mem_append.1 he with h' | h'
 · exact h e h'
 · simp at h';subst h';exact ⟨hx,hy⟩
theorem rowE_of_own {w:World} {B:Nat} {e:TypeId} {v:Value} {l:List Ent} (h:Own w B e 2 v l.length (flatE l)) (hm:l.length≤4000000) (hw:WfE l) :
  ∃ g cap,v = .slice (some ⟨g,0,none⟩) l.length cap∧B≤g∧RowE w (some ⟨g,0,none⟩) l.length l:=by
 obtain ⟨g,cap,rfl,hB,hlt⟩:=h.slice
 refine ⟨g,cap,rfl,hB,rfl,by unfold maxLen;omega,fun _=>⟨g,0,rfl,fun i hi=>?_⟩,hw⟩
 have h1:=h.1.cellAt (i*2) (by omega)
 have h2:=h.1.cellAt (i*2+1) (by omega)
 have:=flatE_get l i hi
 rw [Nat.zero_add]
 exact ⟨h1.trans this.1,h2.trans this.2⟩
def NewE (w:World) (e0:TypeId) (l:List Ent) (e:Ending) (w':World):Prop :=
 ∃ v,e = .returned v∧Own w' w.heap.size e0 2 v l.length (flatE l)∧WfE l∧Below w.heap.size w w'
theorem wpList_append_rows {P:Program} {W:World} {ops:Array Oper} {rest:List Oper} {o:Oper} {a:Act} {Q:Exit→Act→World→Prop} (hgd:Region.wanted o (yielded ops a.tmps)=true) (s x:Operand) (t:TypeId)
  (ho:o.op = .call { callee:=.builtin .append,args:=#[s,x],argTypes:=#[t,t] })
  (B:Nat) (e:TypeId) (z:Value) (size bytes:Nat) (ht:P.underlying t=some (.slice e)) (hinfo:(P.info? e).map (fun i=>(i.zero,i.size,i.bytes))=some (some z,size,bytes))
  (hzs:z.cells.size=size) (hsz:0 < size)
  (v:Value) (n:Nat) (xs news:List Value) (hs:a.eval s=v) (hown:Own W B e size v n xs) (ad:Option Addr) (m c:Nat) (hx:a.eval x = .slice ad m c)
  (hnil:ad=none→m=0∧c=0)
  (hl:news.length=m*size) (hnews:∀ ad',ad=some ad'→∀ j u,news[j]? = some u→W.cell? (ad'.add j)=some u) (h1:∀ u∈news,u.oneCell'=true)
  (hn:n+m≤4000000) (hby:bytes≤100000) (hbase:B≤W.heap.size)
  (h:∀ v' w',Own w' B e size v' (n+m) (xs++news)→W.grownBy w' v.ownBlock→wpList P ops Q rest (a.put o.dst v') w') :
  wpList P ops Q (o :: rest) a W:=by
 obtain ⟨i0,hi,hz0,hz1,hz2⟩:=info_parts hinfo
 cases ad with
 | none =>
  obtain ⟨rfl,rfl⟩:=hnil rfl
  have hnn:news=[]:=List.eq_nil_of_length_eq_zero (by omega)
  refine wpList_append_none_wanted hgd s x t ho B e i0 size ht hi v n xs hs hown.1 hx ?_
  refine h v W ?_ (World.grownBy.refl W _)
  rw [hnn,List.append_nil,Nat.add_zero];exact hown
 | some ad =>
  refine wpList_append_wanted (P:=P) W hgd s x t ho B e i0 z size bytes ht hi hz0 hz1 hz2 hzs hsz v n xs hs hown.1 ad m c news hx hl (hnews ad rfl) h1 (by unfold maxLen;omega) ?_ hbase ?_
  · calc (n+m)*bytes≤4000000*100000:=Nat.mul_le_mul hn hby
     _≤140737488355328:=by decide
  · intro v' w' h2 h3 h4
    exact h v' w' ⟨h2,fun e=>hown.2 (h4.1 e).1⟩ h3
theorem flatE_oneCell (l:List Ent):∀ u∈flatE l,u.oneCell'=true:=by
 induction l with
 | nil=>intro u hu;cases hu
 | cons e r ih =>
  intro u hu
  simp only [flatE,List.mem_cons] at hu
  rcases hu with rfl | rfl | hu
  · rfl
  · rfl
  · exact ih u hu
theorem RowE.news {w:World} {a:Option Addr} {n:Nat} {l:List Ent} (h:RowE w a n l):∀ ad,a=some ad→∀ j u,(flatE l)[j]? = some u→w.cell? (ad.add j)=some u:=by
 intro ad he j u hu
 have hj:j < n*2:=by
  have:=(List.getElem?_eq_some_iff.1 hu).1
  rw [flatE_len,h.1] at this;exact this
 obtain ⟨b,off,he',hc⟩:=h.2.2.1 (by omega)
 rw [he] at he'
 obtain rfl:=Option.some.inj he'
 rw [show (⟨b,off,none⟩:Addr).add j=⟨b,off+j,none⟩ by unfold Addr.add;split <;> simp_all]
 obtain ⟨h1,h2⟩:=hc (j / 2) (by omega)
 obtain ⟨f1,f2⟩:=flatE_get l (j / 2) (by rw [h.1];omega)
 rcases (by omega:j=j / 2*2∨j=j / 2*2+1) with e | e
 · rw [← e] at f1
   rw [f1] at hu
   rw [show off+j=off+j / 2*2 by omega,h1];exact hu
 · rw [← e] at f2
   rw [f2] at hu
   rw [show off+j=off+j / 2*2+1 by omega,h2];exact hu
theorem RowE.cut {w:World} {a:Option Addr} {n m:Nat} {l:List Ent} (h:RowE w a n l) (hm:m≤n):RowE w a m (l.take m):=by
 obtain ⟨h1,h2,h3,h4⟩:=h
 refine ⟨by rw [List.length_take];omega,by omega,fun h0=>?_,fun e he=>h4 e (List.mem_of_mem_take he)⟩
 obtain ⟨b,off,he,hc⟩:=h3 (by omega)
 refine ⟨b,off,he,fun i hi=>?_⟩
 have hg:(l.take m).getD i (0,0)=l.getD i (0,0):=by rw [List.getD_eq_getElem?_getD,List.getD_eq_getElem?_getD,List.getElem?_take,if_pos hi]
 rw [hg];exact hc i (by omega)
theorem owns_mono {w:World} {B B':Nat} {e:TypeId} {size n:Nat} {v:Value} {xs:List Value} (h:w.ownsRow B e size v n xs) (hB:B'≤B):w.ownsRow B' e size v n xs:=by
 refine ⟨h.1,?_⟩
 rcases h.2 with h1 | ⟨g,cap,cur,h1,hb,r⟩
 · exact .inl h1
 · exact .inr ⟨g,cap,cur,h1,by omega,r⟩
theorem owns_grown {w w':World} {B:Nat} {e:TypeId} {size n:Nat} {v:Value} {xs:List Value} {row:Option Nat} (h:w.ownsRow B e size v n xs) (hg:w.grownBy w' row) (hrow:∀ k,row=some k→k < B):w'.ownsRow B e size v n xs:=by
 refine h.kept hg ?_
 rcases hv:v.ownBlock with _ | k
 · exact .inl rfl
 · have:=(h.lt k hv).1
   exact .inr (fun e=>by have:=hrow k e.symm;omega)
theorem owns_below {w w':World} {B:Nat} {e:TypeId} {size n:Nat} {v:Value} {xs:List Value} (h:w.ownsRow B e size v n xs) (hb:Below w.heap.size w w'):w'.ownsRow B e size v n xs :=
 owns_grown h (row:=none) (Below.grownBy hb none) (fun k hk=>by cases hk)
theorem rowE_of_owns {w:World} {B:Nat} {e:TypeId} {v:Value} {l:List Ent} (h:w.ownsRow B e 2 v l.length (flatE l)) (hm:l.length≤4000000) (hw:WfE l) :
  ∃ a cap,v = .slice a l.length cap∧RowE w a l.length l∧(a=none→cap=0):=by
 by_cases hv:v = .slice none 0 0
 · have h0:l.length=0:=by
    rcases h.2 with ⟨_,h1⟩ | ⟨g,cap,cur,h1,_⟩
    · exact h1
    · rw [hv] at h1;simp at h1
   obtain rfl:l=[]:=List.eq_nil_of_length_eq_zero h0
   exact ⟨none,0,hv,rowE_empty _ _,fun _=>rfl⟩
 · obtain ⟨g,cap,h1,_,h2⟩:=rowE_of_own ⟨h,hv⟩ hm hw
   exact ⟨_,cap,h1,h2,fun h=>by cases h⟩
theorem rowE_owned {w:World} {B:Nat} {e:TypeId} {a:Option Addr} {n cap:Nat} {l:List Ent} (h:w.ownsRow B e 2 (.slice a n cap) n (flatE l)) (hl:l.length=n) (hm:l.length≤4000000) (hw:WfE l):RowE w a n l:=by
 subst hl
 obtain ⟨a',c',he,hr,_⟩:=rowE_of_owns h hm hw
 simp only [Value.slice.injEq] at he
 obtain ⟨rfl,-,-⟩:=he
 exact hr
theorem RowE.grown {w w':World} {b n:Nat} {row:Option Nat} {l:List Ent} (h:RowE w (some ⟨b,0,none⟩) n l) (hg:w.grownBy w' row) (hne:some b≠row):RowE w' (some ⟨b,0,none⟩) n l:=by
 obtain ⟨h1,h2,h3,h4⟩:=h
 refine ⟨h1,h2,fun hl=>?_,h4⟩
 obtain ⟨b',off,he,hc⟩:=h3 hl
 obtain ⟨rfl,rfl⟩:b=b'∧0=off:=by simpa using he
 refine ⟨b,0,rfl,fun i hi=>?_⟩
 exact ⟨World.grownBy.cell hg (hc i hi).1 hne,World.grownBy.cell hg (hc i hi).2 hne⟩
def RowB (w:World) (a:Option Addr) (len:Nat) (z:List Int):Prop :=
 z.length=len∧len≤maxLen∧(0 < len→∃ b off,a=some ⟨b,off,none⟩∧∀ i,i < len→w.cell? ⟨b,off+i,none⟩=some (.int .u8 (z.getD i 0)))∧∀ n∈z,(Lit.int .u8 n).wf=true
theorem rowB_of_in {w:World} {a:Option Addr} {len cap:Nat} {zs:List Int}
  (h:(a=none∧len=0∧cap=0∧zs=[])∨∃ x,a=some x∧len≤cap∧cap≤maxLen∧zs.length=cap∧(∀ i,i < zs.length→w.cell? (x.add i)=some (.int .u8 (zs.getD i 0)))∧∀ n∈zs,(Lit.int .u8 n).wf=true) :
  RowB w a len (zs.take len):=by
 rcases h with ⟨rfl,rfl,rfl,rfl⟩ | ⟨x,rfl,hl,hm,hz,hc,hw⟩
 · exact ⟨rfl,by unfold maxLen;omega,fun h=>absurd h (by omega),fun n hn=>by cases hn⟩
 · refine ⟨by rw [List.length_take];omega,by omega,fun h0=>?_,fun n hn=>hw n (List.mem_of_mem_take hn)⟩
   obtain ⟨b,off,spot⟩:=x
   have hc0:=hc 0 (by omega)
   have hspot:spot=none:=by simpa [Addr.add] using World.cell?_spot hc0
   subst hspot
   refine ⟨b,off,rfl,fun i hi=>?_⟩
   have:=hc i (by omega)
   rw [show (⟨b,off,none⟩:Addr).add i=⟨b,off+i,none⟩ by simp [Addr.add]] at this
   rw [this,List.getD_eq_getElem?_getD,List.getD_eq_getElem?_getD,List.getElem?_take,if_pos hi]
theorem RowB.bd {w:World} {a:Option Addr} {len:Nat} {z:List Int} (h:RowB w a len z) (k:Nat) (hk:k < len):0≤z.getD k 0∧z.getD k 0≤255:=by
 have:=h.2.2.2 _ (getD_mem z k (by rw [h.1];exact hk))
 simpa [Lit.wf,IntKind.min,IntKind.max,IntKind.signed,IntKind.bits] using this
theorem RowB.cut {w:World} {a:Option Addr} {len m:Nat} {z:List Int} (h:RowB w a len z) (hm:m≤len):RowB w a m (z.take m):=by
 obtain ⟨h1,h2,h3,h4⟩:=h
 refine ⟨by rw [List.length_take];omega,by omega,fun h0=>?_,fun n hn=>h4 n (List.mem_of_mem_take hn)⟩
 obtain ⟨b,off,he,hc⟩:=h3 (by omega)
 refine ⟨b,off,he,fun i hi=>?_⟩
 rw [hc i (by omega),List.getD_eq_getElem?_getD,List.getD_eq_getElem?_getD,List.getElem?_take,if_pos hi]
def Upd (R:Nat) (w w':World):Prop:=w.grownBy w' (some R)
theorem Upd.refl (R:Nat) (w:World):Upd R w w:=World.grownBy.refl w _
theorem Upd.trans {R:Nat} {a b c:World} (h:Upd R a b) (k:Upd R b c):Upd R a c :=
 ⟨k.os.trans h.os,k.tape.trans h.tape,k.output.trans h.output,Nat.le_trans h.size k.size,fun i hi hr=>(k.block i (Nat.lt_of_lt_of_le hi h.size) hr).trans (h.block i hi hr)⟩
theorem Upd.alloc {R:Nat} {a w:World} (h:Upd R a w) (o:Obj):Upd R a (w.alloc o):=h.trans (World.grownBy_alloc w o _)
theorem Upd.drewN {R:Nat} {a w:World} (h:Upd R a w) (n:Nat):Upd R a (w.drewN n):=h.trans ⟨rfl,rfl,rfl,Nat.le_refl _,fun _ _ _=>rfl⟩
theorem Upd.drew {R:Nat} {a w:World} (h:Upd R a w):Upd R a w.drew:=h.trans ⟨rfl,rfl,rfl,Nat.le_refl _,fun _ _ _=>rfl⟩
theorem Upd.setCell {R:Nat} {a w:World} (h:Upd R a w) (o:Nat) (v:Value):Upd R a (w.setCell ⟨R,o,none⟩ v) :=
 h.trans ⟨rfl,rfl,rfl,by simp [World.setCell],fun k _ hk=>Below.heap_setCell _ _ _ _ (fun e=>hk (by simp [e]))⟩
theorem Upd.cell {R:Nat} {w w':World} (h:Upd R w w') {b o:Nat} {v:Value} (hc:w.cell? ⟨b,o,none⟩=some v) (hne:b≠R):w'.cell? ⟨b,o,none⟩=some v :=
 World.grownBy.cell h hc (by simpa using hne)
theorem Upd.below {R B:Nat} {a w w':World} (h:Upd R w w') (hb:Below B a w) (hB:B≤w.heap.size) (hR:B≤R):Below B a w' :=
 hb.grown h hB (fun k hk=>by simp at hk;omega)
def Rdr (w:World) (R:Nat) (a:Option Addr) (len cap:Nat) (z:List Int) (p:Nat):Prop :=
 w.cell? ⟨R,0,none⟩=some (.slice a len cap)∧w.cell? ⟨R,1,none⟩=some (.int .i64 p)∧w.frozen? ⟨R,1,none⟩=false∧len≤2000∧z.length=len ∧
 (0 < len→∀ b o,a=some ⟨b,o,none⟩→b < R)∧RowB w a len z
theorem Rdr.grown {w w':World} {R:Nat} {row:Option Nat} {a:Option Addr} {len cap:Nat} {z:List Int} {p:Nat} (h:Rdr w R a len cap z p) (hg:w.grownBy w' row) (hrow:∀ k,row=some k→R < k):Rdr w' R a len cap z p:=by
 obtain ⟨h1,h2,h3,h4,h5,h6,h7,h8,h9,h10⟩:=h
 have hlt:R < w.heap.size:=World.block_lt_of_cell? w ⟨R,1,none⟩ h2
 have hne:some R≠row:=fun e=>by have:=hrow R e.symm;omega
 refine ⟨hg.cell h1 hne,hg.cell h2 hne,?_,h4,h5,h6,h7,h8,fun hl=>?_,h10⟩
 · have:w'.frozen? ⟨R,1,none⟩=w.frozen? ⟨R,1,none⟩:=World.frozen?_of_block (hg.block R hlt hne)
   rw [this];exact h3
 · obtain ⟨b,off,he,hc⟩:=h9 hl
   exact ⟨b,off,he,fun i hi=>hg.cell (hc i hi) (fun e=>by have:=hrow b e.symm;have:=h6 hl b off he;omega)⟩
def Rd (w:World) (R:Nat) (P:Nat):Prop:=∃ a len cap z p,Rdr w R a len cap z p∧p≤P
theorem Rd.mono {w:World} {R P P':Nat} (h:Rd w R P) (hP:P≤P'):Rd w R P':=by
 obtain ⟨a,len,cap,z,p,h1,h2⟩:=h;exact ⟨a,len,cap,z,p,h1,by omega⟩
theorem xor_i64_nn (x y:Int) (hx:0≤x) (hx':x≤1152921504606846976) (hy:0≤y) (hy':y≤1152921504606846976) :
  0≤bits .xor .i64 x y∧bits .xor .i64 x y≤2305843009213693951:=by
 obtain ⟨a,rfl⟩:=Int.eq_ofNat_of_zero_le hx
 obtain ⟨b,rfl⟩:=Int.eq_ofNat_of_zero_le hy
 have hz:a ^^^ b < 2 ^ 61:=Nat.xor_lt_two_pow (by omega) (by omega)
 have h1:(BitVec.ofInt 64 (a:Int)).toNat=a:=by
  rw [BitVec.ofInt_natCast,BitVec.toNat_ofNat];exact Nat.mod_eq_of_lt (by omega)
 have h2:(BitVec.ofInt 64 (b:Int)).toNat=b:=by
  rw [BitVec.ofInt_natCast,BitVec.toNat_ofNat];exact Nat.mod_eq_of_lt (by omega)
 have e:bits .xor .i64 (a:Int) (b:Int)=((a ^^^ b:Nat):Int):=by
  show IntKind.i64.wrap ((BitVec.ofInt 64 (a:Int) ^^^ BitVec.ofInt 64 (b:Int)).toNat:Int) = _
  rw [BitVec.toNat_xor,h1,h2]
  exact IntWalk.i64_in _ (by omega)
 rw [e];omega
def Picked (w:World) (R P:Nat) (n:Int) (e:Ending) (w':World):Prop :=
 ∃ x:Int,e = .returned (.int .i64 x)∧0≤x∧(1≤n→x < n)∧(n < 1→x=0)∧Rd w' R (P+1)∧Upd R w w'
theorem Rd.grown {w w':World} {R P:Nat} {row:Option Nat} (h:Rd w R P) (hg:w.grownBy w' row) (hrow:∀ k,row=some k→R < k):Rd w' R P:=by
 obtain ⟨a,len,cap,z,p,h1,h2⟩:=h;exact ⟨a,len,cap,z,p,h1.grown hg hrow,h2⟩
theorem Rd.alloc {w:World} {R P:Nat} (h:Rd w R P) (o:Obj):Rd (w.alloc o) R P :=
 h.grown (World.grownBy_alloc w o none) (fun k hk=>by cases hk)
theorem Rd.drewN {w:World} {R P:Nat} (h:Rd w R P) (n:Nat):Rd (w.drewN n) R P:=h
theorem Rd.drew {w:World} {R P:Nat} (h:Rd w R P):Rd w.drew R P:=h
theorem Rd.lt {w:World} {R P:Nat} (h:Rd w R P):R < w.heap.size:=by
 obtain ⟨a,len,cap,z,p,h1,h2⟩:=h;exact World.block_lt_of_cell? w ⟨R,1,none⟩ h1.2.1
section
variable {P:Program} {ops:Array Oper} {Q:Exit→Act→World→Prop}
def Fr (a0:Act) (ops:Array Oper) (a:Act):Prop :=
 a.defers=a0.defers∧a.tmps.size=a0.tmps.size∧∀ s,(∀ (i:Nat) (o:Oper),ops[i]? = some o→o.dst≠some s)→a.tmps.getD s undef=a0.tmps.getD s undef
theorem Fr.refl (a0:Act):Fr a0 ops a0:=⟨rfl,rfl,fun _ _=>rfl⟩
theorem Fr.put {a0 a:Act} (h:Fr a0 ops a) {i:Nat} {o:Oper} (ho:ops[i]? = some o) (v:Value):Fr a0 ops (a.put o.dst v):=by
 obtain ⟨h1,h2,h3⟩:=h
 cases hd:o.dst with
 | none=>exact ⟨h1,h2,h3⟩
 | some d =>
  refine ⟨h1,by simpa [Act.put] using h2,fun s hs=>?_⟩
  have hne:d≠s:=fun e=>hs i o ho (by rw [hd,e])
  rw [← h3 s hs]
  simp [Act.put,Array.getD_eq_getD_getElem?,Array.getElem?_setIfInBounds_ne hne]
def edgesBack (ops:Array Oper):Bool:=(List.range ops.size).all fun i=>match ops[i]? with | some o=>o.after.all fun e=>!Region.binds .any e || decide (e.on < i) | none=>true
theorem edgesBack_spec (h:edgesBack ops=true) (i:Nat) (o:Oper) (hi:ops[i]? = some o) (e:Edge) (he:e∈o.after) (hbe:Region.binds .any e=true):e.on < i:=by
 have:=(List.all_eq_true.1 h) i (List.mem_range.2 (Array.getElem?_eq_some_iff.1 hi).1)
 simp only [hi,Array.all_eq_true_iff_forall_mem] at this
 simpa [hbe] using this e he
def dstsFit (ops:Array Oper) (n:Nat):Bool:=ops.all fun o=>match o.dst with | some d=>decide (d < n) | none=>true
theorem dstsFit_spec {n:Nat} (h:dstsFit ops n=true) (i:Nat) (o:Oper) (d:Nat) (hi:ops[i]? = some o) (hd:o.dst=some d):d < n:=by
 have:=(Array.all_eq_true_iff_forall_mem.1 h) o (Array.mem_of_getElem? hi)
 simp only [hd] at this
 simpa using this
theorem ready_some (hb:edgesBack ops=true) (listed:Array Bool) (i:Nat):∀ (o:Oper),ops[i]? = some o→listed.getD i true=false→Region.ready .any ops listed≠[]:=by
 induction i using Nat.strongRecOn with
 | _ i ih =>
  intro o ho hl
  by_cases h:∀ e∈o.after,Region.binds .any e=true→listed.getD e.on false=true
  · intro hn
    have:i∈Region.ready .any ops listed:=mem_ready.2 ⟨hl,o,ho,h⟩
    rw [hn] at this;cases this
  · simp only [Classical.not_forall] at h
    obtain ⟨e,he,hbe,hf⟩:=h
    have hlt:=edgesBack_spec hb i o ho e he hbe
    have hi:i < ops.size:=(Array.getElem?_eq_some_iff.1 ho).1
    by_cases hin:e.on < listed.size
    · refine ih e.on hlt (ops[e.on]'(by omega)) (Array.getElem?_eq_getElem (by omega)) ?_
      simp [Array.getD_eq_getD_getElem?,Array.getElem?_eq_getElem hin] at hf ⊢
      exact hf
    · exfalso
      have:listed.getD i true=true:=by
       simp [Array.getD_eq_getD_getElem?,Array.getElem?_eq_none (show listed.size≤i by omega)]
      rw [this] at hl;cases hl
def leftOps (ops:Array Oper) (listed:Array Bool):Nat:=((List.range ops.size).filter fun i=>!listed.getD i true).length
theorem filter_length_lt {α : Type} (f g : α→Bool):∀ (l:List α),(∀ x∈l,g x=true→f x=true)→(∃ x∈l,f x=true∧g x=false)→(l.filter g).length < (l.filter f).length:=by
 intro l
 induction l with
 | nil=>rintro _ ⟨x,hx,_⟩;cases hx
 | cons a l ih =>
  intro h1 ⟨x,hx,hf,hg⟩
  have hle:(l.filter g).length≤(l.filter f).length:=by
   clear ih hx hf hg x
   induction l with
   | nil=>simp
   | cons b l ihb =>
    have:=ihb (fun y hy=>h1 y (by simp at hy ⊢;rcases hy with h | h <;> simp [h]))
    have hb:=h1 b (by simp)
    simp only [List.filter_cons]
    cases hgb:g b <;> cases hfb:f b <;> simp_all <;> omega
  rcases List.mem_cons.1 hx with rfl | hx'
  · simp only [List.filter_cons,hf,hg];simp;omega
  · have:=ih (fun y hy=>h1 y (List.mem_cons_of_mem _ hy)) ⟨x,hx',hf,hg⟩
    have ha:=h1 a (by simp)
    simp only [List.filter_cons]
    cases hga:g a <;> cases hfa:f a <;> simp_all <;> omega
def mixF (f:Nat→Value) (ds:List Nat):Nat→List Value→List Value
 | _,[]=>[]
 | s,v :: r=>(if ds.contains s then f s else v) :: mixF f ds (s+1) r
theorem mixF_len (f:Nat→Value) (ds:List Nat):∀ (l:List Value) (s:Nat),(mixF f ds s l).length=l.length:=by
 intro l;induction l with
 | nil=>intro s;rfl
 | cons a l ih=>intro s;simp [mixF,ih]
theorem mixF_get (f:Nat→Value) (ds:List Nat):∀ (l:List Value) (s k:Nat),k < l.length→(mixF f ds s l)[k]? = some (if ds.contains (s+k) then f (s+k) else l.getD k undef):=by
 intro l;induction l with
 | nil=>intro s k h;cases h
 | cons a l ih =>
  intro s k h
  cases k with
  | zero=>simp [mixF]
  | succ k =>
   have:=ih (s+1) k (by simpa using h)
   simp only [mixF,List.getElem?_cons_succ,this,List.getD_cons_succ]
   rw [show s+1+k=s+(k+1) by omega]
def dstsOf (ops:Array Oper):List Nat:=ops.toList.filterMap (·.dst)
theorem frame_mix {a:Act} {l0:List Value} (h:Fr { tmps:=l0.toArray,defers:=[] } ops a):a = { tmps:=(mixF (fun s=>a.tmps.getD s undef) (dstsOf ops) 0 l0).toArray,defers:=[] }:=by
 obtain ⟨h1,h2,h3⟩:=h
 obtain ⟨t,d⟩:=a
 simp only at h1 h2 h3
 subst h1
 simp only [Act.mk.injEq,and_true]
 refine Array.ext ?_ ?_
 · simp [mixF_len,h2]
 · intro k hk hk'
   have hkl:k < l0.length:=by simpa [h2] using hk
   have hg:=mixF_get (fun s=>t.getD s undef) (dstsOf ops) l0 0 k hkl
   have:(mixF (fun s=>t.getD s undef) (dstsOf ops) 0 l0).toArray[k]? = some t[k]:=by
    rw [List.getElem?_toArray,hg,Nat.zero_add]
    by_cases hc:(dstsOf ops).contains k=true
    · simp only [if_pos hc];simp [Array.getD_eq_getD_getElem?,Array.getElem?_eq_getElem hk]
    · simp only [if_neg hc]
      have:=h3 k (fun i o ho hd=>hc (by
       have hm:k∈dstsOf ops:=List.mem_filterMap.2 ⟨o,by simpa using Array.mem_of_getElem? ho,hd⟩
       simpa using hm))
      simp [Array.getD_eq_getD_getElem?,Array.getElem?_eq_getElem hk,List.getElem?_eq_getElem hkl] at this ⊢
      exact this.symm
   rw [Array.getElem?_eq_getElem hk'] at this
   exact (Option.some.inj this).symm
end
inductive SK where
 | is (v:Value) | int (lo hi:Int) | lit (n:Nat) (lo hi:Int) | to (lo hi:Int) | any
def SK.ok (R:Nat):SK→Value→World→Prop
 | .is v0,v,_=>v=v0
 | .int lo hi,v,_=>∃ x:Int,v = .int .i64 x∧lo≤x∧x≤hi
 | .lit n lo hi,v,w=>∃ g,v = .slice (some ⟨g,0,none⟩) n n∧R < g∧∀ i,i < n→∃ x:Int,w.cell? ⟨g,i,none⟩=some (.int .i64 x)∧lo≤x∧x≤hi
 | .to lo hi,v,w=>∃ g i,v = .pointer (some ⟨g,i,none⟩)∧R < g∧∃ x:Int,w.cell? ⟨g,i,none⟩=some (.int .i64 x)∧lo≤x∧x≤hi
 | .any,_,_=>True
def Asc (l:List Ent):Prop:=l.Pairwise (fun a b=>a.1 < b.1)
def OkE (l:List Ent):Prop:=∀ e∈l,0≤e.1∧e.1≤31∧1≤e.2∧e.2≤1000000
def Ok (l:List Ent):Prop:=Asc l∧OkE l
theorem okAt_iff (l:List Ent) (k:Nat):okAt l k=true ↔ ((0≤(l.getD k (0,0)).1∧(l.getD k (0,0)).1≤31)∧(1≤(l.getD k (0,0)).2∧(l.getD k (0,0)).2≤1000000))∧(k=0∨(l.getD (k - 1) (0,0)).1 < (l.getD k (0,0)).1):=by
 simp only [okAt,inB,Bool.and_eq_true,Bool.or_eq_true,beq_iff_eq,decide_eq_true_eq]
theorem storeB_cons (e:Ent) (r:List Ent):storeB (e :: r)=true ↔ (0≤e.1∧e.1≤31∧1≤e.2∧e.2≤1000000)∧(∀ f,r.head? = some f→e.1 < f.1)∧storeB r=true:=by
 rw [storeB_iff,storeB_iff]
 constructor
 · intro h
   have h0:=(okAt_iff _ _).1 (h 0 (by simp))
   simp at h0
   refine ⟨by omega,?_,?_⟩
   · intro f hf
     cases r with
     | nil=>cases hf
     | cons g s =>
      simp at hf;subst hf
      have:=(okAt_iff _ _).1 (h 1 (by simp))
      simp at this;omega
   · intro k hk
     have:=(okAt_iff _ _).1 (h (k+1) (by simpa using hk))
     rw [okAt_iff]
     refine ⟨by simpa using this.1,?_⟩
     cases k with
     | zero=>exact .inl rfl
     | succ k=>right;simpa using this.2
 · rintro ⟨h0,h1,h2⟩ k hk
   cases k with
   | zero=>rw [okAt_iff];simp;omega
   | succ k =>
    have hk':k < r.length:=by simpa using hk
    have:=(okAt_iff _ _).1 (h2 k hk')
    rw [okAt_iff]
    refine ⟨by simpa using this.1,.inr ?_⟩
    cases k with
    | zero =>
     cases r with
     | nil=>cases hk'
     | cons g s=>simpa using h1 g rfl
    | succ k =>
     rcases this.2 with h | h
     · omega
     · simpa using h
theorem storeB_ok (l:List Ent):storeB l=true ↔ Ok l:=by
 induction l with
 | nil=>simp [Ok,Asc,OkE,storeB]
 | cons e r ih =>
  rw [storeB_cons,ih]
  constructor
  · rintro ⟨h0,h1,ha,ho⟩
    refine ⟨List.pairwise_cons.2 ⟨fun f hf=>?_,ha⟩,fun f hf=>?_⟩
    · cases r with
      | nil=>cases hf
      | cons g s =>
       have hg:=h1 g rfl
       rcases List.mem_cons.1 hf with rfl | hf
       · exact hg
       · have:=(List.pairwise_cons.1 ha).1 f hf;omega
    · rcases List.mem_cons.1 hf with rfl | hf
      · exact h0
      · exact ho f hf
  · rintro ⟨ha,ho⟩
    have:=List.pairwise_cons.1 ha
    refine ⟨ho e (by simp),fun f hf=>this.1 f (List.mem_of_mem_head? hf),this.2,fun f hf=>ho f (List.mem_cons_of_mem _ hf)⟩
def pm (key val:Int):List Ent→List Ent
 | []=>[(key,val)]
 | e :: r=>if key≤e.1 then (key,val) :: (e :: r).filter (fun f=>decide (f.1≠key)) else e :: pm key val r
theorem fold_true (key val:Int) (l:List Ent):∀ out,l.foldl (putStep key val) (out,true)=(out++l.filter (fun f=>decide (f.1≠key)),true):=by
 induction l with
 | nil=>intro out;simp
 | cons e r ih =>
  intro out
  by_cases he:e.1=key
  · simp [putStep,he,ih]
  · simp [putStep,he,ih]
theorem fold_false (key val:Int) (l:List Ent):∀ out,(let st:=l.foldl (putStep key val) (out,false);if st.2 then st.1 else st.1++[(key,val)])=out++pm key val l:=by
 induction l with
 | nil=>intro out;simp [pm]
 | cons e r ih =>
  intro out
  by_cases hle:key≤e.1
  · by_cases he:e.1=key
    · simp [putStep,he,fold_true,pm]
    · simp [putStep,hle,he,fold_true,pm]
  · have he:e.1≠key:=by omega
    have:=ih (out++[e])
    simp only [List.foldl_cons,putStep,hle,he,decide_false,Bool.not_false,Bool.and_false,if_false,Bool.false_eq_true] at this ⊢
    rw [this]
    simp [pm,hle]
theorem putRaw_eq (key val:Int) (l:List Ent):putRaw key val l=if val=0 then l.filter (fun f=>decide (f.1≠key)) else pm key val l:=by
 unfold putRaw putFold
 by_cases hv:val=0
 · have:(val == 0)=true:=by simpa using hv
   rw [this,fold_true];simp [hv]
 · have:(val == 0)=false:=by simpa using hv
   rw [this,if_neg hv]
   have:=fold_false key val l []
   simpa using this
theorem mem_pm (key val:Int) (l:List Ent):∀ f∈pm key val l,f=(key,val)∨f∈l:=by
 induction l with
 | nil=>intro f hf;simp [pm] at hf;exact .inl hf
 | cons e r ih =>
  intro f hf
  by_cases hle:key≤e.1
  · simp only [pm,if_pos hle,List.mem_cons] at hf
    rcases hf with h | h
    · exact .inl h
    · exact .inr (List.mem_filter.1 h).1
  · simp only [pm,if_neg hle,List.mem_cons] at hf
    rcases hf with h | h
    · exact .inr (by simp [h])
    · rcases ih f h with h | h
      · exact .inl h
      · exact .inr (List.mem_cons_of_mem _ h)
theorem asc_pm (key val:Int) (l:List Ent) (h:Asc l):Asc (pm key val l):=by
 induction l with
 | nil=>simp [pm,Asc]
 | cons e r ih =>
  have hc:=List.pairwise_cons.1 h
  by_cases hle:key≤e.1
  · simp only [pm,if_pos hle]
    refine List.pairwise_cons.2 ⟨fun f hf=>?_,List.Pairwise.filter _ h⟩
    have hm:=List.mem_filter.1 hf
    have hne:f.1≠key:=by simpa using hm.2
    rcases List.mem_cons.1 hm.1 with rfl | h'
    · show key < f.1;omega
    · have:=hc.1 f h';show key < f.1;omega
  · simp only [pm,if_neg hle]
    refine List.pairwise_cons.2 ⟨fun f hf=>?_,ih hc.2⟩
    rcases mem_pm key val r f hf with h' | h'
    · subst h';show e.1 < key;omega
    · exact hc.1 f h'
theorem ok_put {l:List Ent} {key val:Int} (h:Ok l) (hk0:0≤key) (hk1:key≤31) (hv0:0≤val) (hv1:val≤1000000):Ok (putRaw key val l):=by
 rw [putRaw_eq]
 by_cases hv:val=0
 · rw [if_pos hv]
   exact ⟨List.Pairwise.filter _ h.1,fun f hf=>h.2 f (List.mem_filter.1 hf).1⟩
 · rw [if_neg hv]
   refine ⟨asc_pm _ _ _ h.1,fun f hf=>?_⟩
   rcases mem_pm key val l f hf with h' | h'
   · subst h';exact ⟨hk0,hk1,by show 1≤val;omega,hv1⟩
   · exact h.2 f h'
theorem atM_bd {l:List Ent} (h:OkE l) (k:Int):0≤atM l k∧atM l k≤1000000:=by
 induction l with
 | nil=>simp [atM]
 | cons a r ih =>
  have ha:=h a (by simp)
  rw [atM];split
  · omega
  · exact ih (fun e he=>h e (List.mem_cons_of_mem _ he))
theorem ok_take {l:List Ent} (h:Ok l) (k:Nat):Ok (l.take k):=⟨List.Pairwise.sublist (List.take_sublist k l) h.1,fun e he=>h.2 e (List.mem_of_mem_take he)⟩
def arrOf (l:List Ent):List Int:=(List.range 32).map (fun k:Nat=>atM l (k:Int))
theorem arrOf_len (l:List Ent):(arrOf l).length=32:=by simp [arrOf]
theorem arrOf_get (l:List Ent) (k:Nat) (h:k < 32):(arrOf l).getD k 0=atM l k:=by
 unfold arrOf
 rw [List.getD_eq_getElem?_getD,List.getElem?_map,List.getElem?_range h];rfl
theorem arrOf_nil:arrOf []=List.replicate 32 0:=rfl
theorem atM_append (l m:List Ent) (k:Int):(∀ f∈l,f.1≠k)→atM (l++m) k=atM m k:=by
 induction l with
 | nil=>intro _;rfl
 | cons e r ih=>intro h;rw [List.cons_append,atM,if_neg (h e (by simp))];exact ih (fun f hf=>h f (List.mem_cons_of_mem _ hf))
theorem atM_snoc_other (l:List Ent) (e:Ent) (k:Int) (h:e.1≠k):atM (l++[e]) k=atM l k:=by
 induction l with
 | nil=>simp [atM,h]
 | cons a r ih=>simp only [List.cons_append,atM,ih]
theorem arrOf_snoc {l:List Ent} {e:Ent} (ha:∀ f∈l,f.1≠e.1) (h0:0≤e.1):arrOf (l++[e])=(arrOf l).set e.1.toNat e.2:=by
 apply List.ext_getElem?
 intro k
 by_cases hk:k < 32
 · rw [List.getElem?_set]
   have h1:(arrOf (l++[e]))[k]? = some (atM (l++[e]) k):=by
    unfold arrOf;rw [List.getElem?_map,List.getElem?_range hk];rfl
   have h2:(arrOf l)[k]? = some (atM l k):=by
    unfold arrOf;rw [List.getElem?_map,List.getElem?_range hk];rfl
   by_cases hke:e.1.toNat=k
   · have hk':e.1=(k:Int):=by omega
     rw [if_pos hke,if_pos (by rw [arrOf_len];omega),h1,← hk',atM_append l [e] e.1 ha]
     simp [atM]
   · rw [if_neg hke,h1,h2,atM_snoc_other l e k (by omega)]
 · rw [List.getElem?_eq_none (by rw [arrOf_len];omega),List.getElem?_eq_none (by rw [List.length_set,arrOf_len];omega)]
theorem getD_set (A:List Int) (i k:Nat) (v:Int) (hi:i < A.length):(A.set i v).getD k 0=if k=i then v else A.getD k 0:=by
 rw [List.getD_eq_getElem?_getD,List.getElem?_set,List.getD_eq_getElem?_getD]
 by_cases h:i=k
 · subst h;simp [hi]
 · have:¬ k=i:=fun e=>h e.symm
   simp [h,this]
theorem arrOf_take {l:List Ent} (h:Ok l) (j:Nat) (hj:j < l.length):arrOf (l.take (j+1))=(arrOf (l.take j)).set (l.getD j (0,0)).1.toNat (l.getD j (0,0)).2:=by
 have hm:l.getD j (0,0)∈l:=by rw [List.getD_eq_getElem?_getD,List.getElem?_eq_getElem hj];exact List.getElem_mem hj
 rw [takeE_snoc l j hj]
 refine arrOf_snoc (fun f hf=>?_) (h.2 _ hm).1
 have hp:=(ok_take h (j+1)).1
 rw [takeE_snoc l j hj] at hp
 have:=(List.pairwise_append.1 hp).2.2 f hf _ (List.mem_singleton.2 rfl)
 omega
def cellsI (A:List Int):Array Value:=(A.map (Value.int .i64)).toArray
theorem cellsI_size (A:List Int):(cellsI A).size=A.length:=by simp [cellsI]
theorem cellsI_one (A:List Int):(cellsI A).all (·.oneCell')=true:=by
 rw [Array.all_eq_true_iff_forall_mem]
 intro u hu
 simp only [cellsI,List.mem_toArray,List.mem_map] at hu
 obtain ⟨x,_,rfl⟩:=hu
 rfl
theorem cellsI_get (A:List Int) (j:Nat) (hj:j < A.length):(cellsI A)[j]? = some (.int .i64 (A.getD j 0)):=by
 simp [cellsI,hj]
theorem cellsI_set (A:List Int) (i:Nat) (v:Int):(cellsI A).setIfInBounds i (.int .i64 v)=cellsI (A.set i v):=by
 simp [cellsI,List.map_set]
def Arr (w:World) (g:Nat) (T:TypeId) (A:List Int):Prop:=w.heap[g]? = some (.cells (cellsI A) T (0,0))
theorem Arr.lt {w:World} {g:Nat} {T:TypeId} {A:List Int} (h:Arr w g T A):g < w.heap.size:=(Array.getElem?_eq_some_iff.1 h).1
theorem Arr.new (w:World) (T:TypeId) (A:List Int):Arr (w.alloc (.cells (cellsI A) T)) w.heap.size T A:=heap_alloc_new w _
theorem Arr.alloc {w:World} {g:Nat} {T:TypeId} {A:List Int} (h:Arr w g T A) (o:Obj):Arr (w.alloc o) g T A:=(Below.heap_alloc w o g h.lt).trans h
theorem Arr.below {B:Nat} {w w':World} {g:Nat} {T:TypeId} {A:List Int} (h:Arr w g T A) (hb:Below B w w') (hg:g < B):Arr w' g T A:=(hb.block g hg).trans h
theorem Arr.after {w w':World} {g:Nat} {T:TypeId} {A:List Int} (h:Arr w g T A) (hb:Below w.heap.size w w'):Arr w' g T A:=h.below hb h.lt
theorem Arr.drewN {w:World} {g:Nat} {T:TypeId} {A:List Int} (h:Arr w g T A) (m:Nat):Arr (w.drewN m) g T A:=h
theorem Arr.set {w:World} {g:Nat} {T:TypeId} {A:List Int} (h:Arr w g T A) (i:Nat) (v:Int):Arr (w.setCell ⟨g,i,none⟩ (.int .i64 v)) g T (A.set i v):=by
 have:=heap_setCell_same w g i (cellsI A) T (.int .i64 v) h
 rw [cellsI_set] at this;exact this
theorem Arr.setOther {w:World} {g:Nat} {T:TypeId} {A:List Int} (h:Arr w g T A) (a:Addr) (v:Value) (hne:g≠a.block):Arr (w.setCell a v) g T A:=(heap_setCell_other w a g v hne).trans h
theorem Arr.setRow {w:World} {g:Nat} {T:TypeId} {A:List Int} (h:Arr w g T A) (A':List Int):Arr (w.setRow g (cellsI A')) g T A':=setRow_heap w g _ _ T _ h
theorem Arr.grown {w w':World} {row:Option Nat} {g:Nat} {T:TypeId} {A:List Int} (h:Arr w g T A) (hg:w.grownBy w' row) (hne:some g≠row):Arr w' g T A:=(hg.block g h.lt hne).trans h
theorem Arr.cell {w:World} {g:Nat} {T:TypeId} {A:List Int} (h:Arr w g T A) (j:Nat) (hj:j < A.length):w.cell? ⟨g,j,none⟩=some (.int .i64 (A.getD j 0)):=by
 rw [cell_of_row w g j (cellsI A) T (0,0) h];exact cellsI_get A j hj
theorem Arr.frozen {w:World} {g:Nat} {T:TypeId} {A:List Int} (h:Arr w g T A) (j:Nat):w.frozen? ⟨g,j,none⟩=false:=frozen_of_row w g j (cellsI A) T h
theorem below_setRow {B:Nat} {a w:World} {g:Nat} (h:Below B a w) (hg:B≤g) (cs:Array Value):Below B a (w.setRow g cs) :=
 h.trans ⟨rfl,rfl,rfl,by simp,fun k hk=>setRow_other w g k cs (by omega)⟩
theorem size_setCell (w:World) (a:Addr) (v:Value):(w.setCell a v).heap.size=w.heap.size:=by simp [World.setCell]
theorem wpList_load_arr {P:Program} {ops:Array Oper} {rest:List Oper} {o:Oper} {a:Act} {w:World} {Q:Exit→Act→World→Prop} (hgd:o.guard=none) (ty:TypeId) (x:Operand) (ho:o.op = .load ty x)
  (g:Nat) (hx:a.eval x = .pointer (some ⟨g,0,none⟩)) (T:TypeId) (A:List Int) (h:Arr w g T A) (n:Nat) (e:TypeId)
  (hu:P.underlying ty=some (.array n e)) (hi:(P.info? ty).map (·.size)=some A.length)
  (hk:wpList P ops Q rest (a.put o.dst (.agg (cellsI A))) w):wpList P ops Q (o :: rest) a w :=
 wpList_load_row hgd ty x ho g hx T (cellsI A) (0,0) _ h hu rfl (by rw [cellsI_size];exact hi) hk
theorem wpList_store_arr {P:Program} {ops:Array Oper} {rest:List Oper} {o:Oper} {a:Act} {w:World} {Q:Exit→Act→World→Prop} (hgd:o.guard=none) (ty:TypeId) (x y:Operand) (ho:o.op = .store ty x y)
  (g:Nat) (A':List Int) (hx:a.eval x = .pointer (some ⟨g,0,none⟩)) (hy:a.eval y = .agg (cellsI A')) (T:TypeId) (A:List Int) (h:Arr w g T A)
  (hi:(P.info? ty).map (·.size)=some A'.length) (hl:A.length=A'.length)
  (hk:wpList P ops Q rest (a.put o.dst undef) (w.setRow g (cellsI A'))):wpList P ops Q (o :: rest) a w :=
 wpList_store_row hgd ty x y ho g (cellsI A') hx hy T (cellsI A) h (by rw [cellsI_size];exact hi) (by rw [cellsI_size,cellsI_size,hl]) (cellsI_one A') hk
theorem wpList_store_arr' {P:Program} {ops:Array Oper} {rest:List Oper} {o:Oper} {a:Act} {w:World} {Q:Exit→Act→World→Prop} (hgd:o.guard=none) (ty:TypeId) (x y:Operand) (ho:o.op = .store ty x y)
  (g:Nat) (A':List Int) (hx:a.eval x = .pointer (some ⟨g,0,none⟩)) (hy:a.eval y = .agg (cellsI A')) (T:TypeId) (A:List Int) (h:Arr w g T A)
  (hi:(P.info? ty).map (·.size)=some A'.length) (hl:A.length=A'.length)
  (hk:∀ w',Arr w' g T A'→w.grownBy w' (some g)→w'.heap.size=w.heap.size→wpList P ops Q rest (a.put o.dst undef) w'):wpList P ops Q (o :: rest) a w :=
 wpList_store_arr hgd ty x y ho g A' hx hy T A h hi hl (hk _ (h.setRow A') ⟨rfl,rfl,rfl,by simp,fun k _ hne=>setRow_other w g k _ (fun e=>hne (by rw [e]))⟩ (by simp))
theorem run_loadVar_arr {P:Program} {w:World} {g:Nat} {T:TypeId} {A:List Int} (h:Arr w g T A) (ty:TypeId) (n:Nat) (e:TypeId) (hu:P.underlying ty=some (.array n e)) (hi:(P.info? ty).map (·.size)=some A.length) :
  (loadVar ty ⟨g,0,none⟩).run P w = .ok (.agg (cellsI A)) w :=
 run_loadVar_row w g T ty (cellsI A) (0,0) _ h hu rfl (by rw [cellsI_size];exact hi)
theorem results_arr_slot {P:Program} {fn:Func} {p q:Tmp} {ty:TypeId} (h:fn.results=#[.cell p ty,.tmp q]) (tmps:Array Value) {w:World} {g:Nat} {T:TypeId} {A:List Int} (hp:tmps.getD p undef = .pointer (some ⟨g,0,none⟩)) (v:Value) (hq:tmps.getD q undef=v)
  (hA:Arr w g T A) (n:Nat) (e:TypeId) (hu:P.underlying ty=some (.array n e)) (hi:(P.info? ty).map (·.size)=some A.length) :
  (results fn tmps).run P w = .ok (.tuple #[.agg (cellsI A),v]) w:=by
 have hp':tmps[p]?.getD undef = .pointer (some ⟨g,0,none⟩):=by simpa using hp
 have hq':tmps[q]?.getD undef=v:=by simpa using hq
 simp [results,h,hp',hq',asAddr,run_loadVar_arr hA ty n e hu hi]
theorem run_index_arr {P:Program} (w:World) (ty:TypeId) (n:Nat) (e:TypeId) (d:TypeDesc) (hu:P.underlying ty=some (.array n e)) (he:P.underlying e=some d) (hd:(match d with | .struct _ | .array _ _=>true | _=>false)=false)
  (hs:(P.info? e).map (·.size)=some 1) (A:List Int) (hl:A.length=n) (k:Nat) (hk:k < n) :
  (Instr.index ty (.agg (cellsI A)) (.int .i64 (k:Int))).run P w = .ok (.int .i64 (A.getD k 0)) w:=by
 have hg:=cellsI_get A k (by omega)
 have hagg:(isAgg e).run P w = .ok false w:=by
  unfold isAgg
  rw [Sem.run_bind,run_underlying he w]
  cases d <;> simp_all
 cases hq:P.info? e with
 | none=>simp [hq] at hs
 | some i =>
  have hi:i.size=1:=by simpa [hq] using hs
  have h1:(0:Int)≤(k:Int)∧(k:Int) < (n:Int):=by omega
  simp [Instr.index,asIntOf,run_underlying hu,h1,part,hagg,sizeOf,typeInfo,hq,hi,hg,Sem.run_bind]
  intro h;omega
theorem sumOfM_no (t:Int) (l:List Int) (h:¬ (0≤t∧t≤9)):sumOfM t l = -1:=by
 have:okTag t=false:=by simp only [okTag,decide_eq_false_iff_not];omega
 simp [sumOfM,this]
theorem sumOfM_yes (t:Int) (l:List Int) (h1:0≤t) (h2:t≤9) (h:l.all okSummed=true):sumOfM t l=sumFold (17+t) l:=by
 have:okTag t=true:=by simp only [okTag,decide_eq_true_eq];omega
 simp only [sumOfM,this,h];rfl
theorem sumOfM_bad (t:Int) (l:List Int) (k:Nat) (hk:k < l.length) (h:¬ (0≤l.getD k 0∧l.getD k 0≤2000000)):sumOfM t l = -1:=by
 have:l.all okSummed=false:=by
  rw [Bool.eq_false_iff];intro hh
  have:=(List.all_eq_true.1 hh) _ (getD_mem l k hk)
  simp only [okSummed,decide_eq_true_eq] at this;exact h this
 simp [sumOfM,this]
theorem all_snoc (l:List Int) (k:Nat) (hk:k < l.length) (h:(l.take k).all okSummed=true) (h1:0≤l.getD k 0) (h2:l.getD k 0≤2000000):(l.take (k+1)).all okSummed=true:=by
 rw [take_snoc l k hk];simp only [List.all_append,h,List.all_cons,List.all_nil,okSummed,Bool.true_and,Bool.and_true,decide_eq_true_eq];omega
theorem all_of_bd (l:List Int) (h:∀ k,k < l.length→0≤l.getD k 0∧l.getD k 0≤2000000):l.all okSummed=true:=by
 rw [List.all_eq_true];intro x hx
 obtain ⟨k,hk,rfl⟩:=List.getElem_of_mem hx
 have:=h k hk
 rw [List.getD_eq_getElem?_getD,List.getElem?_eq_getElem hk] at this
 simp only [okSummed,decide_eq_true_eq];exact this
theorem all_bd (l:List Int) (h:l.all okSummed=true) (k:Nat) (hk:k < l.length):0≤l.getD k 0∧l.getD k 0≤2000000:=by
 have:=(List.all_eq_true.1 h) _ (getD_mem l k hk)
 simpa only [okSummed,decide_eq_true_eq] using this
def BdTo (l:List Int) (k:Nat):Prop:=∀ j,j < k→0≤l.getD j 0∧l.getD j 0≤2000000
def pairM (a b:Int):Int:=sumFold 19 [a,b]
def leafM (key val:Int):Int:=if inB key 0 31 && inB val 0 1000000 then sumFold 18 [key,val] else -1
def nodeF (f:Nat→Int):Nat→Nat→Int
 | 0,j=>f j
 | k+1,j=>pairM (nodeF f k (2*j)) (nodeF f k (2*j+1))
def leafF (l:List Ent) (j:Nat):Int:=leafM j (atM l j)
def nodeM (l:List Ent) (k j:Nat):Int:=nodeF (leafF l) k j
def levelL (l:List Ent) (k:Nat):List Int:=(List.range (32 / 2 ^ k)).map (nodeM l k)
def rootM (l:List Ent):Int:=if storeB l then nodeM l 5 0 else -1
theorem pairM_bd (a b:Int):0≤pairM a b∧pairM a b≤1000002:=sumFold_bd 19 [a,b] (by omega) (by omega)
theorem leafM_bd (k v:Int) : -1≤leafM k v∧leafM k v≤1000002:=by
 unfold leafM
 split
 · have:=sumFold_bd 18 [k,v] (by omega) (by omega);omega
 · omega
theorem leafM_in {k v:Int} (a:0≤k) (b:k≤31) (c:0≤v) (d:v≤1000000):leafM k v=sumFold 18 [k,v]:=by
 simp [leafM,inB_yes a b,inB_yes c d]
theorem leafM_no {k v:Int} (h:¬ (0≤k∧k≤31∧0≤v∧v≤1000000)):leafM k v = -1:=by
 unfold leafM
 rw [if_neg]
 intro hh
 simp only [Bool.and_eq_true] at hh
 have:=inB_true hh.1;have:=inB_true hh.2
 omega
theorem leafM_ok {k v:Int} (a:0≤k) (b:k≤31) (c:0≤v) (d:v≤1000000):0≤leafM k v:=by
 rw [leafM_in a b c d];exact (sumFold_bd 18 [k,v] (by omega) (by omega)).1
theorem two (s a b:Int):sumFold s [a,b]=sumStep (sumStep s a) b:=rfl
theorem leafF_bd {l:List Ent} (h:storeB l=true) (j:Nat) (hj:j < 32):0≤leafF l j∧leafF l j≤1000002:=by
 have hb:=atM_bd ((storeB_ok l).1 h).2 (j:Int)
 exact ⟨leafM_ok (by omega) (by omega) hb.1 hb.2,(leafM_bd _ _).2⟩
theorem nodeM_bd {l:List Ent} (h:storeB l=true) (k j:Nat) (hj:k=0→j < 32):0≤nodeM l k j∧nodeM l k j≤1000002:=by
 cases k with
 | zero=>exact leafF_bd h j (hj rfl)
 | succ k=>exact pairM_bd _ _
theorem rootM_bd (l:List Ent) : -1≤rootM l∧rootM l≤1000002:=by
 unfold rootM
 split
 · have:=pairM_bd (nodeM l 4 0) (nodeM l 4 1)
   show -1≤pairM (nodeM l 4 0) (nodeM l 4 1)∧pairM (nodeM l 4 0) (nodeM l 4 1)≤1000002
   omega
 · omega
theorem levelL_len (l:List Ent) (k:Nat):(levelL l k).length=32 / 2 ^ k:=by simp [levelL]
theorem levelL_get (l:List Ent) (k j:Nat) (h:j < 32 / 2 ^ k):(levelL l k).getD j 0=nodeM l k j:=by
 unfold levelL
 rw [List.getD_eq_getElem?_getD,List.getElem?_map,List.getElem?_range h];rfl
end Go.Proofs.YtpnjgmgmakmgeaaGreat
