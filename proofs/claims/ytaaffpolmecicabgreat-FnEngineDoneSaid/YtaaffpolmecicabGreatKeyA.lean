/- Texts of ours that stand together: KeyMem, VerBase, KeyRead, KeyCat, KeyPer -/
import Derived.Test.YtaaffpolmecicabGreatVerA
import Derived.Test.YtaaffpolmecicabGreatCore
import Derived.Test.YtaaffpolmecicabGreatLay
import Derived.Test.YtaaffpolmecicabGreatOwnG
import Derived.Test.YtaaffpolmecicabGreatTwo
import Derived.Test.YtaaffpolmecicabGreatSpecAct
import Derived.Deep.RegionHeld3
import Derived.BigQuiet
import Derived.Deep.Cut
import Derived.Test.YtaaffpolmecicabGreatSpecV
import Derived.Lib.AppendZeros
import Derived.Test.YtaaffpolmecicabGreatEffA
import Derived.Deep.RegionLaw
/- An array of slices of versions,each over a row of its own. No function of the program is named here. -/
namespace Go.Proofs.YtaaffpolmecicabGreat
open Go.RowKit
set_option linter.unusedVariables false
def ArrV (w:World) (g:Nat) (T:TypeId) (vs:List Value):Prop:=w.heap[g]? = some (.cells vs.toArray T (0,0))
theorem ArrV.lt {w:World} {g:Nat} {T:TypeId} {vs:List Value} (h:ArrV w g T vs):g < w.heap.size:=(Array.getElem?_eq_some_iff.1 h).1
theorem ArrV.new (w:World) (T:TypeId) (vs:List Value):ArrV (w.alloc (.cells vs.toArray T)) w.heap.size T vs:=heap_alloc_new w _
theorem ArrV.keep {w w':World} {g:Nat} {T:TypeId} {vs:List Value} (h:ArrV w g T vs) (hk:w'.heap[g]? = w.heap[g]?):ArrV w' g T vs:=hk.trans h
theorem ArrV.alloc {w:World} {g:Nat} {T:TypeId} {vs:List Value} (h:ArrV w g T vs) (o:Obj):ArrV (w.alloc o) g T vs:=h.keep (Below.heap_alloc w o g h.lt)
theorem ArrV.after {w w':World} {g:Nat} {T:TypeId} {vs:List Value} (h:ArrV w g T vs) (hb:Below w.heap.size w w'):ArrV w' g T vs:=h.keep (hb.block g h.lt)
theorem ArrV.grown {w w':World} {row:Option Nat} {g:Nat} {T:TypeId} {vs:List Value} (h:ArrV w g T vs) (hg:w.grownBy w' row) (hne:some g≠row):ArrV w' g T vs:=h.keep (hg.block g h.lt hne)
theorem ArrV.set {w:World} {g:Nat} {T:TypeId} {vs:List Value} (h:ArrV w g T vs) (i:Nat) (v:Value):ArrV (w.setCell ⟨g,i,none⟩ v) g T (vs.set i v):=by
 have:=heap_setCell_same w g i vs.toArray T v h
 rw [List.setIfInBounds_toArray] at this;exact this
theorem ArrV.setRow {w:World} {g:Nat} {T:TypeId} {vs:List Value} (h:ArrV w g T vs) (us:List Value):ArrV (w.setRow g us.toArray) g T us:=setRow_heap w g _ _ T _ h
theorem ArrV.cell {w:World} {g:Nat} {T:TypeId} {vs:List Value} (h:ArrV w g T vs) (j:Nat) (hj:j < vs.length):w.cell? ⟨g,j,none⟩=some (vs.getD j undef):=by
 rw [cell_of_row w g j vs.toArray T (0,0) h];simp [hj]
theorem ArrV.frozen {w:World} {g:Nat} {T:TypeId} {vs:List Value} (h:ArrV w g T vs) (j:Nat):w.frozen? ⟨g,j,none⟩=false:=frozen_of_row w g j vs.toArray T h
theorem wpList_load_arrV {P:Program} {ops:Array Oper} {rest:List Oper} {o:Oper} {a:Act} {w:World} {Q:Exit→Act→World→Prop} (hgd:o.guard=none) (ty:TypeId) (x:Operand) (ho:o.op = .load ty x)
  (g:Nat) (hx:a.eval x = .pointer (some ⟨g,0,none⟩)) (T:TypeId) (vs:List Value) (h:ArrV w g T vs) (n:Nat) (e:TypeId)
  (hu:P.underlying ty=some (.array n e)) (hi:(P.info? ty).map (·.size)=some vs.length)
  (hk:wpList P ops Q rest (a.put o.dst (.agg vs.toArray)) w):wpList P ops Q (o :: rest) a w :=
 wpList_load_row hgd ty x ho g hx T vs.toArray (0,0) _ h hu rfl (by simpa using hi) hk
theorem wpList_store_arrV {P:Program} {ops:Array Oper} {rest:List Oper} {o:Oper} {a:Act} {w:World} {Q:Exit→Act→World→Prop} (hgd:o.guard=none) (ty:TypeId) (x y:Operand) (ho:o.op = .store ty x y)
  (g:Nat) (us:List Value) (hx:a.eval x = .pointer (some ⟨g,0,none⟩)) (hy:a.eval y = .agg us.toArray) (T:TypeId) (vs:List Value) (h:ArrV w g T vs)
  (hi:(P.info? ty).map (·.size)=some us.length) (hl:vs.length=us.length) (h1:us.toArray.all (·.oneCell')=true)
  (hk:∀ w',ArrV w' g T us→w.grownBy w' (some g)→w'.heap.size=w.heap.size→wpList P ops Q rest (a.put o.dst undef) w'):wpList P ops Q (o :: rest) a w :=
 wpList_store_row hgd ty x y ho g us.toArray hx hy T vs.toArray h (by simpa using hi) (by simpa using hl) h1 (hk _ (h.setRow us) ⟨rfl,rfl,rfl,by simp,fun k _ hne=>setRow_other w g k _ (fun e=>hne (by rw [e]))⟩ (by simp))
structure KVs (w:World) (B:Nat) (e0:TypeId) (vs:List Value) (F:Nat→List Ver):Prop where
 len:vs.length=32
 own:∀ k,k < 32→w.ownsRow B e0 3 (vs.getD k undef) (F k).length (flatV (F k))
 apart:∀ i j,i < 32→j < 32→i≠j→∀ p,(vs.getD i undef).ownBlock=some p→(vs.getD j undef).ownBlock≠some p
theorem KVs.lt {w:World} {B:Nat} {e0:TypeId} {vs:List Value} {F:Nat→List Ver} (h:KVs w B e0 vs F) {k:Nat} (hk:k < 32) {b:Nat} (hb:(vs.getD k undef).ownBlock=some b):B≤b∧b < w.heap.size:=(h.own k hk).lt b hb
theorem KVs.keep {w w':World} {B:Nat} {e0:TypeId} {vs:List Value} {F:Nat→List Ver} (h:KVs w B e0 vs F) (hk:∀ k,k < 32→∀ b,(vs.getD k undef).ownBlock=some b→w'.heap[b]? = w.heap[b]?):KVs w' B e0 vs F :=
 ⟨h.len,fun k hl=>owns_keep (h.own k hl) fun b hb=>hk k hl b (by rw [← owns_blk (h.own k hl)];exact hb),h.apart⟩
theorem KVs.below {w w':World} {B:Nat} {e0:TypeId} {vs:List Value} {F:Nat→List Ver} (h:KVs w B e0 vs F) (hb:Below w.heap.size w w'):KVs w' B e0 vs F :=
 h.keep fun k hk b hq=>hb.block b (h.lt hk hq).2
theorem KVs.grown {w w':World} {B:Nat} {e0:TypeId} {vs:List Value} {F:Nat→List Ver} (h:KVs w B e0 vs F) {row:Option Nat} (hg:w.grownBy w' row) (hne:∀ k,k < 32→∀ b,(vs.getD k undef).ownBlock=some b→row≠some b):KVs w' B e0 vs F :=
 h.keep fun k hk b hq=>hg.block b (h.lt hk hq).2 fun e=>hne k hk b hq e.symm
theorem KVs.mono {w:World} {B B':Nat} {e0:TypeId} {vs:List Value} {F:Nat→List Ver} (h:KVs w B e0 vs F) (hB:B'≤B):KVs w B' e0 vs F :=
 ⟨h.len,fun k hk=>owns_mono (h.own k hk) hB,h.apart⟩
theorem KVs.congr {w:World} {B:Nat} {e0:TypeId} {vs:List Value} {F G:Nat→List Ver} (h:KVs w B e0 vs F) (hF:∀ k,k < 32→F k=G k):KVs w B e0 vs G :=
 ⟨h.len,fun k hk=>by rw [← hF k hk];exact h.own k hk,h.apart⟩
def nils:List Value:=List.replicate 32 (.slice none 0 0)
theorem nils_get {k:Nat} (hk:k < 32):nils.getD k undef = .slice none 0 0:=by
 rw [List.getD_eq_getElem?_getD,nils,List.getElem?_replicate,if_pos hk];rfl
theorem KVs.nils (w:World) (B:Nat) (e0:TypeId):KVs w B e0 nils (fun _=>[]) :=
 ⟨rfl,fun k hk=>by rw [nils_get hk];exact World.ownsRow_nil _ _ _ _,fun i j hi hj _ p hp=>by rw [nils_get hi] at hp;cases hp⟩
theorem KVs.one {w:World} {B:Nat} {e0:TypeId} {vs:List Value} {F:Nat→List Ver} (h:KVs w B e0 vs F):vs.toArray.all (·.oneCell')=true:=by
 rw [Array.all_eq_true_iff_forall_mem]
 intro u hu
 rw [List.mem_toArray] at hu
 obtain ⟨i,hi,rfl⟩:=List.getElem_of_mem hu
 have:=owns_one (h.own i (by rw [← h.len];exact hi))
 rwa [List.getD_eq_getElem?_getD,List.getElem?_eq_getElem hi] at this
theorem KOk.wf {F:Nat→List Ver} (h:KOk F) {k:Nat} (hk:k < 32):WfVs (F k):=fun x hx=>by
 have:=(verB_iff x).1 ((h k hk).1 x hx).1
 exact ⟨WalkArith.wf_i64 (by omega),WalkArith.wf_i64 (by omega),WalkArith.wf_i64 (by omega)⟩
theorem wf_ofVOk {L:List Ver} (h:VOk L):WfVs L:=fun x hx=>by
 have:=(verB_iff x).1 (h.1 x hx)
 exact ⟨WalkArith.wf_i64 (by omega),WalkArith.wf_i64 (by omega),WalkArith.wf_i64 (by omega)⟩
theorem KVs.row {w:World} {B:Nat} {e0:TypeId} {vs:List Value} {F:Nat→List Ver} (h:KVs w B e0 vs F) (hK:KOk F) {k:Nat} (hk:k < 32) :
  ∃ a cap,vs.getD k undef = .slice a (F k).length cap∧RowV w a (F k).length (F k)∧(a=none→cap=0)∧(F k).length≤cap∧∀ b o,a=some ⟨b,o,none⟩→B≤b :=
 rowV_of_owns (h.own k hk) (by have:=catK_len hK hk;omega) (hK.wf hk)
theorem KVs.put {w w':World} {B:Nat} {e0:TypeId} {vs:List Value} {F:Nat→List Ver} (h:KVs w B e0 vs F) {k:Nat} (hk:k < 32) {v':Value} {l:List Ver} (ho:w'.ownsRow B e0 3 v' l.length (flatV l))
  (hg:w.grownBy w' (vs.getD k undef).ownBlock) (hloc:v'.ownBlock=(vs.getD k undef).ownBlock∨∀ b,v'.ownBlock=some b→w.heap.size≤b):KVs w' B e0 (vs.set k v') (fun j=>if j=k then l else F j):=by
 have hkl:k < vs.length:=by rw [h.len];exact hk
 have e1:(vs.set k v').getD k undef=v':=by rw [List.getD_eq_getElem?_getD,List.getElem?_set_self hkl];rfl
 have e2:∀ j,j≠k→(vs.set k v').getD j undef=vs.getD j undef:=fun j hj=>by rw [List.getD_eq_getElem?_getD,List.getD_eq_getElem?_getD,List.getElem?_set_ne (Ne.symm hj)]
 have hx:∀ j,j < 32→j≠k→∀ p,(vs.getD j undef).ownBlock=some p→v'.ownBlock≠some p:=fun j hj hne p hp hq=>by
  rcases hloc with e | e
  · rw [e] at hq;exact h.apart j k hj hk hne p hp hq
  · have:=e p hq
    have:=(h.lt hj hp).2;omega
 refine ⟨by rw [List.length_set];exact h.len,fun j hj=>?_,fun i j hi hj hne p hp hq=>?_⟩
 · by_cases e:j=k
   · subst e;rw [e1,if_pos rfl];exact ho
   · rw [e2 j e,if_neg e]
     refine owns_keep (h.own j hj) fun b hb=>?_
     rw [owns_blk (h.own j hj)] at hb
     exact hg.block b (h.lt hj hb).2 fun e'=>h.apart j k hj hk e b hb e'.symm
 · by_cases e:i=k
   · subst e
     rw [e1] at hp
     rw [e2 j (Ne.symm hne)] at hq
     exact hx j hj (Ne.symm hne) p hq hp
   · rw [e2 i e] at hp
     by_cases e':j=k
     · subst e';rw [e1] at hq;exact hx i hi e p hp hq
     · rw [e2 j e'] at hq;exact h.apart i j hi hj hne p hp hq
def KV (w:World) (B g:Nat) (T e0:TypeId) (F:Nat→List Ver):Prop :=
 ∃ vs,ArrV w g T vs∧KVs w B e0 vs F∧∀ k,k < 32→(vs.getD k undef).ownBlock≠some g
theorem KV.below {w w':World} {B g:Nat} {T e0:TypeId} {F:Nat→List Ver} (h:KV w B g T e0 F) (hb:Below w.heap.size w w'):KV w' B g T e0 F:=by
 obtain ⟨vs,h1,h2,h3⟩:=h
 exact ⟨vs,h1.after hb,h2.below hb,h3⟩
theorem KV.lt {w:World} {B g:Nat} {T e0:TypeId} {F:Nat→List Ver} (h:KV w B g T e0 F):g < w.heap.size:=by
 obtain ⟨vs,h1,-⟩:=h
 exact h1.lt
theorem KV.congr {w:World} {B g:Nat} {T e0:TypeId} {F G:Nat→List Ver} (h:KV w B g T e0 F) (hF:∀ k,k < 32→F k=G k):KV w B g T e0 G:=by
 obtain ⟨vs,h1,h2,h3⟩:=h
 exact ⟨vs,h1,h2.congr hF,h3⟩
theorem KV.store {w w':World} {B g:Nat} {T e0:TypeId} {vs:List Value} {F:Nat→List Ver} (h1:ArrV w g T vs) (h2:KVs w B e0 vs F) (h3:∀ k,k < 32→(vs.getD k undef).ownBlock≠some g) {k:Nat} (hk:k < 32) {v':Value} {l:List Ver} (ho:w'.ownsRow B e0 3 v' l.length (flatV l))
  (hg:w.grownBy w' (vs.getD k undef).ownBlock) (hloc:v'.ownBlock=(vs.getD k undef).ownBlock∨∀ b,v'.ownBlock=some b→w.heap.size≤b):KV (w'.setCell ⟨g,k,none⟩ v') B g T e0 (fun j=>if j=k then l else F j):=by
 have hA:ArrV w' g T vs:=h1.grown hg fun e=>h3 k hk e.symm
 have hkl:k < vs.length:=by rw [h2.len];exact hk
 have h3':∀ j,j < 32→((vs.set k v').getD j undef).ownBlock≠some g:=fun j hj=>by
  by_cases e:j=k
  · subst e
    rw [List.getD_eq_getElem?_getD,List.getElem?_set_self hkl]
    intro hq
    replace hq:v'.ownBlock=some g:=hq
    rcases hloc with e | e
    · rw [e] at hq;exact h3 j hk hq
    · have:=e g hq
      have:=h1.lt;omega
  · rw [List.getD_eq_getElem?_getD,List.getElem?_set_ne (Ne.symm e),← List.getD_eq_getElem?_getD]
    exact h3 j hj
 refine ⟨vs.set k v',hA.set k v',(h2.put hk ho hg hloc).keep fun j hj b hb=>?_,h3'⟩
 exact Below.heap_setCell _ _ _ _ fun e=>h3' j hj (by rw [hb];simp at e;rw [e])
structure KVo (w:World) (B g:Nat) (T e0:TypeId) (pre post vs:List Value) (F:Nat→List Ver):Prop where
 arr:ArrV w g T (pre++vs++post)
 kvs:KVs w B e0 vs F
 off:∀ k,k < 32→(vs.getD k undef).ownBlock≠some g
theorem ArrV.cellO {w:World} {g o:Nat} {T:TypeId} {pre post vs:List Value} (h:ArrV w g T (pre++vs++post)) (ho:pre.length=o) {k:Nat} (hk:k < vs.length):w.cell? ⟨g,o+k,none⟩=some (vs.getD k undef):=by
 rw [h.cell (o+k) (by simp;omega)]
 congr 1
 rw [List.getD_eq_getElem?_getD,List.getD_eq_getElem?_getD,List.append_assoc,List.getElem?_append_right (by omega),List.getElem?_append_left (by omega),← ho]
 congr 2;omega
theorem set_mid {pre post vs:List Value} {o k:Nat} (ho:pre.length=o) (hk:k < vs.length) (v:Value):(pre++vs++post).set (o+k) v=pre++vs.set k v++post:=by
 rw [List.append_assoc,List.append_assoc,List.set_append_right _ _ (by omega),List.set_append_left _ _ (by omega)]
 congr 3;omega
theorem KVo.below {w w':World} {B g:Nat} {T e0:TypeId} {pre post vs:List Value} {F:Nat→List Ver} (h:KVo w B g T e0 pre post vs F) (hb:Below w.heap.size w w'):KVo w' B g T e0 pre post vs F:=⟨h.arr.after hb,h.kvs.below hb,h.off⟩
theorem KVo.lt {w:World} {B g:Nat} {T e0:TypeId} {pre post vs:List Value} {F:Nat→List Ver} (h:KVo w B g T e0 pre post vs F):g < w.heap.size:=h.arr.lt
theorem KVo.congr {w:World} {B g:Nat} {T e0:TypeId} {pre post vs:List Value} {F G:Nat→List Ver} (h:KVo w B g T e0 pre post vs F) (hF:∀ k,k < 32→F k=G k):KVo w B g T e0 pre post vs G:=⟨h.arr,h.kvs.congr hF,h.off⟩
theorem KV.o {w:World} {B g:Nat} {T e0:TypeId} {F:Nat→List Ver} (h:KV w B g T e0 F):∃ vs,KVo w B g T e0 [] [] vs F:=by
 obtain ⟨vs,h1,h2,h3⟩:=h
 exact ⟨vs,by simpa using h1,h2,h3⟩
theorem KVo.kv {w:World} {B g:Nat} {T e0:TypeId} {vs:List Value} {F:Nat→List Ver} (h:KVo w B g T e0 [] [] vs F):KV w B g T e0 F:=⟨vs,by simpa using h.arr,h.kvs,h.off⟩
def TouchV (g:Nat) (vs:List Value) (b:Nat):Prop:=b=g∨∃ i,i < 32∧(vs.getD i undef).ownBlock=some b
theorem KVo.store {w w':World} {B g o:Nat} {T e0:TypeId} {pre post vs:List Value} {F:Nat→List Ver} (h:KVo w B g T e0 pre post vs F) (hpo:pre.length=o) {k:Nat} (hk:k < 32) {v':Value} {l:List Ver} (ho:w'.ownsRow B e0 3 v' l.length (flatV l))
  (hg:w.grownBy w' (vs.getD k undef).ownBlock) (hloc:v'.ownBlock=(vs.getD k undef).ownBlock∨∀ b,v'.ownBlock=some b→w.heap.size≤b) :
  KVo (w'.setCell ⟨g,o+k,none⟩ v') B g T e0 pre post (vs.set k v') (fun j=>if j=k then l else F j)∧Frm (TouchV g vs) w (w'.setCell ⟨g,o+k,none⟩ v')∧∀ j b,j < 32→((vs.set k v').getD j undef).ownBlock=some b→(∃ i,i < 32∧(vs.getD i undef).ownBlock=some b)∨w.heap.size≤b:=by
 obtain ⟨h1,h2,h3⟩:=h
 have hA:=h1.grown hg fun e=>h3 k hk e.symm
 have hkl:k < vs.length:=by rw [h2.len];exact hk
 have hs:∀ j,j < 32→(vs.set k v').getD j undef=if j=k then v' else vs.getD j undef:=fun j hj=>by
  by_cases e:j=k
  · subst e
    rw [List.getD_eq_getElem?_getD,List.getElem?_set_self hkl,if_pos rfl];rfl
  · rw [List.getD_eq_getElem?_getD,List.getElem?_set_ne (Ne.symm e),← List.getD_eq_getElem?_getD,if_neg e]
 have h3':∀ j,j < 32→((vs.set k v').getD j undef).ownBlock≠some g:=fun j hj=>by
  rw [hs j hj]
  split
  · rename_i e
    intro hq
    rcases hloc with e | e
    · rw [e] at hq;exact h3 k hk hq
    · have:=e g hq
      have:=h1.lt;omega
  · exact h3 j hj
 have hset:=hA.set (o+k) v'
 rw [set_mid hpo hkl] at hset
 refine ⟨⟨hset,(h2.put hk ho hg hloc).keep fun j hj b hb=>?_,h3'⟩,?_,fun j b hj hb=>?_⟩
 · exact Below.heap_setCell _ _ _ _ fun e=>h3' j hj (by rw [hb];simp at e;rw [e])
 · exact (Frm.ofGrown hg (fun q hq=>.inr ⟨k,hk,hq⟩)).setCell (.inl rfl) _ _
 · rw [hs j hj] at hb
   split at hb
   · rcases hloc with e | e
     · rw [e] at hb;exact .inl ⟨k,hk,hb⟩
     · exact .inr (e b hb)
   · exact .inl ⟨j,hj,hb⟩
end Go.Proofs.YtaaffpolmecicabGreat
/- The contracts of the program's isActionNumber,isBehind,VersionsValid. -/
namespace Go.Proofs.YtaaffpolmecicabGreat
open Go.RowKit
set_option linter.unusedVariables false
theorem below_clV {B G o:Nat} {w w':World} {v:Value} (hb:Below B w w') (hG:G < B) (hc:w.cell? ⟨G,o,none⟩=some v):w'.cell? ⟨G,o,none⟩=some v:=(hb.cell (p:=⟨G,o,none⟩) hG).trans hc
end Go.Proofs.YtaaffpolmecicabGreat
/- The contracts of cmp.Compare (at versions),slices.BinarySearchFunc,and of the program's countBefore and keyVersions.read. -/
namespace Go.Proofs.YtaaffpolmecicabGreat
open Go.RowKit
set_option linter.unusedVariables false
def cmpV (x y:Int):Int:=if x < y then -1 else if y < x then 1 else 0
theorem isNaN_v (x:Int) (w:World):Calls Tryz.prog 192 #[.int .i64 x] w fun e w'=>e = .returned (.bool false)∧w=w':=by
 go_enter Tryz.func192,Tryz.ntmps192
 go_wp2
 go_ret
 exact ⟨by simp,rfl⟩
theorem compare_v (x y:Int) (w:World):Calls Tryz.prog 177 #[.int .i64 x,.int .i64 y] w fun e w'=>e = .returned (.int .i64 (cmpV x y))∧w=w':=by
 by_cases h:x < y
 · have HE:Hid (cmpV x y = -1):=Lib.hid (by simp [cmpV,h])
   rw [HE.out]
   go_enter Tryz.func177,Tryz.ntmps177
   go_wp2_with (first | (go_at_call 192;refine (isNaN_v _ _).mono ?_;rintro e w' ⟨rfl,rfl⟩))
   go_ret
   exact ⟨rfl,rfl⟩
 · by_cases h2:y < x
   · have HE:Hid (cmpV x y=1):=Lib.hid (by simp [cmpV,h,h2])
     rw [HE.out]
     go_enter Tryz.func177,Tryz.ntmps177
     go_wp2_with (first | (go_at_call 192;refine (isNaN_v _ _).mono ?_;rintro e w' ⟨rfl,rfl⟩))
     go_ret
     exact ⟨rfl,rfl⟩
   · have HE:Hid (cmpV x y=0):=Lib.hid (by simp [cmpV,h,h2])
     rw [HE.out]
     go_enter Tryz.func177,Tryz.ntmps177
     go_wp2_with (first | (go_at_call 192;refine (isNaN_v _ _).mono ?_;rintro e w' ⟨rfl,rfl⟩))
     go_ret
     exact ⟨rfl,rfl⟩
theorem countCmp_impl (p q r b:Int) (w:World):Calls Tryz.prog 176 #[.agg #[.int .i64 p,.int .i64 q,.int .i64 r],.int .i64 b] w fun e w'=>e = .returned (.int .i64 (cmpV q b))∧Below w.heap.size w w':=by
 have hB:=((Below.refl w.heap.size w).alloc (Nat.le_refl _) (.cells #[.int .i64 p,.int .i64 q,.int .i64 r] 73))
 go_enter Tryz.func176,Tryz.ntmps176
 go_wp2_with (first | (go_at_call 177;refine (compare_v _ _ _).mono ?_;rintro e w' ⟨rfl,rfl⟩))
 go_ret
 exact ⟨rfl,hB⟩
def CutR (l:List Ver) (b:Int) (w:World) (e:Ending) (w':World):Prop:=∃ (c:Nat) (t:Bool),e = .returned (.tuple #[.int .i64 c,.bool t])∧CutB l b c∧Below w.heap.size w w'
set_option maxRecDepth 100000 in
set_option maxHeartbeats 4000000 in
theorem search_v (a:Option Addr) (n cap:Nat) (l:List Ver) (b:Int) (w:World) (h:RowV w a n l) (hn:n≤4000000) (hs:l.Pairwise (fun x y=>x.by_ < y.by_)) :
  Calls Tryz.prog 175 #[.slice a n cap,.int .i64 b,.func (.func 176) #[] #[]] w (CutR l b w):=by
 have HL:=Lib.hid h.1
 have hc:=h.2.2.1
 have HS:=Lib.hid hs
 clear h hs
 go_enter Tryz.func175,Tryz.ntmps175
 go_wp2
 go_loopw [9,10] (fun i j wr=>∃ I J:Nat,I≤J∧J≤n∧i = .int .i64 I∧j = .int .i64 J∧Hid (∀ t,t < I→(l.getD t noV).by_ < b)∧Hid (∀ t,J≤t→t < n→b≤(l.getD t noV).by_)∧Below w.heap.size w wr) (fun i j _=>(intOf j).toNat - (intOf i).toNat)
 case atStart=>exact ⟨0,n,Nat.zero_le _,Nat.le_refl _,rfl,rfl,Lib.hid (fun t ht=>absurd ht (Nat.not_lt_zero t)),Lib.hid (fun t h1 h2=>absurd h2 (by omega)),Below.refl _ _⟩
 case round =>
  obtain ⟨I,J,hIJ,hJn,rfl,rfl,HI,HJ,hb⟩:=hrel
  by_cases hlt:I < J
  · obtain ⟨H,hH⟩:∃ H:Nat,H=(I+J) / 2:=⟨_,rfl⟩
    have hH1:I≤H:=by omega
    have hH2:H < J:=by omega
    have hlt':(I:Int) < (J:Int):=by omega
    have e1:((I:Int)+(J:Int)) / 2=(H:Int):=by omega
    obtain ⟨g,off,rfl,hcc⟩:=hc (by omega)
    obtain ⟨c1,c2,c3⟩:=hcc H (by omega)
    have hgs:g < w.heap.size:=World.block_lt_of_cell? w ⟨g,off+H*3,none⟩ c1
    have hc1:=(hb.cell (p:=⟨g,off+H*3,none⟩) hgs).trans c1
    have hc2:=(hb.cell (p:=⟨g,off+H*3+1,none⟩) hgs).trans c2
    have hc3:=(hb.cell (p:=⟨g,off+H*3+2,none⟩) hgs).trans c3
    have q1:(0:Int)≤(H:Int):=by omega
    have q2:(H:Int) < (n:Int):=by omega
    clear c1 c2 c3 hc hcc hH
    obtain ⟨X,hX⟩:∃ X,X=l.getD H noV:=⟨_,rfl⟩
    have HX:Hid (l.getD H noV=X):=Lib.hid hX.symm
    rw [← hX] at hc1 hc2 hc3
    clear hX
    obtain ⟨x,y,z⟩:=X
    simp only at hc1 hc2 hc3
    by_cases hq:y < b
    · have HZ:Hid (cmpV y b = -1):=Lib.hid (if_pos hq)
      have HI2:Hid (∀ t,t < H+1→(l.getD t noV).by_ < b):=Lib.hid fun t ht=>by
       by_cases e:t=H
       · rw [e,HX.out];exact hq
       · have:=asc_get HS.out (show t < H by omega) (by rw [HL.out];omega)
         rw [HX.out] at this
         exact Int.lt_trans this hq
      clear hq HI HX
      go_wp2_with (first | (go_at_call 176;refine (countCmp_impl _ _ _ _ _).mono ?_;rintro e w' ⟨rfl,hb'⟩;rw [HZ.out]))
      go_roundw
      case rel=>exact ⟨H+1,J,by omega,hJn,by go_num,rfl,HI2,HJ,hb.trans (hb'.mono hb.size)⟩
      case measure=>simp [intOf];omega
    · have HZ:Hid (¬ cmpV y b < 0):=Lib.hid (by unfold cmpV;rw [if_neg hq];split <;> omega)
      have HJ2:Hid (∀ t,H≤t→t < n→b≤(l.getD t noV).by_):=Lib.hid fun t h1 h2=>by
       by_cases e:t=H
       · rw [e,HX.out];exact Int.not_lt.1 hq
       · have:=asc_get HS.out (show H < t by omega) (by rw [HL.out];omega)
         rw [HX.out] at this
         exact Int.le_trans (Int.not_lt.1 hq) (Int.le_of_lt this)
      clear hq HJ HX
      obtain ⟨m,hm⟩:∃ m,m=cmpV y b:=⟨_,rfl⟩
      rw [← hm] at HZ
      have HZZ:=Lib.hid hm
      have hz0:decide (m < 0)=false:=decide_eq_false HZ.out
      clear hm
      go_wp2_with (first | (go_at_call 176;refine (countCmp_impl _ _ _ _ _).mono ?_;rintro e w' ⟨rfl,hb'⟩;rw [← HZZ.out]))
      go_roundw
      case rel=>exact ⟨I,H,hH1,by omega,rfl,rfl,HI,HJ2,hb.trans (hb'.mono hb.size)⟩
      case measure=>simp [intOf];omega
  · obtain rfl:I=J:=by omega
    have hcut:CutB l b I:=⟨by rw [HL.out];exact hJn,HI.out,fun t h1 h2=>HJ.out t h1 (by rw [← HL.out];exact h2)⟩
    have HC:=Lib.hid hcut
    clear hcut HI HJ
    by_cases hln:I < n
    · obtain ⟨g,off,rfl,hcc⟩:=hc (by omega)
      obtain ⟨c1,c2,c3⟩:=hcc I hln
      have hgs:g < w.heap.size:=World.block_lt_of_cell? w ⟨g,off+I*3,none⟩ c1
      have hc1:=(hb.cell (p:=⟨g,off+I*3,none⟩) hgs).trans c1
      have hc2:=(hb.cell (p:=⟨g,off+I*3+1,none⟩) hgs).trans c2
      have hc3:=(hb.cell (p:=⟨g,off+I*3+2,none⟩) hgs).trans c3
      have d1:decide ((I:Int) < (n:Int))=true:=decide_eq_true (by omega)
      clear c1 c2 c3 hc hcc
      go_wp2_with (first | (go_at_call 176;refine (countCmp_impl _ _ _ _ _).mono ?_;rintro e w' ⟨rfl,hb'⟩))
      go_ret2
      exact ⟨I,_,rfl,HC.out,hb.trans (hb'.mono hb.size)⟩
    · obtain rfl:I=n:=by omega
      have d1:decide ((I:Int) < (I:Int))=false:=decide_eq_false (by omega)
      clear hc
      go_wp2
      go_ret2
      exact ⟨I,_,rfl,HC.out,hb⟩
def CutN (l:List Ver) (b:Int) (w:World) (e:Ending) (w':World):Prop:=∃ c:Nat,e = .returned (.int .i64 c)∧CutB l b c∧Below w.heap.size w w'
theorem countBefore_impl (a:Option Addr) (n cap:Nat) (l:List Ver) (b:Int) (w:World) (h:RowV w a n l) (hn:n≤4000000) (hs:l.Pairwise (fun x y=>x.by_ < y.by_)) :
  Calls Tryz.prog 146 #[.slice a n cap,.int .i64 b] w (CutN l b w):=by
 have HS:=Lib.hid hs
 clear hs
 go_enter Tryz.func146,Tryz.ntmps146
 go_wp2_with (first | (go_at_call 175;refine (search_v a n cap l b _ h hn HS.out).mono ?_;rintro e w' ⟨c,t,rfl,hc,hb⟩))
 go_ret
 exact ⟨c,rfl,hc,hb⟩
set_option maxHeartbeats 2000000 in
theorem keyRead_o (g B o:Nat) (T e0:TypeId) (pre post vs:List Value) (A:List Int) (k:Nat) (b:Int) (S:List Ent) (L:List Ver) (w:World) (hKV:KVo w B g T e0 pre post vs (ofK L)) (hpo:pre.length=o) (hA:A.length=32) (hk:k < 32) (hv:A.getD k 0=atM S k) (hL:VOk L) :
  Calls Tryz.prog 82 #[.pointer (some ⟨g,o,none⟩),.agg (cellsI A),.int .i64 k,.int .i64 b] w (IntsB2 (readL S L k b) w):=by
 obtain ⟨hV,hR,-⟩:=hKV
 have hKK:=kok_ofK hL
 obtain ⟨a,cap,hvk,hrow,-⟩:=hR.row hKK hk
 have hln:=catK_len hKK hk
 have HS:=Lib.hid (hKK k hk).2
 have hgl:=hV.lt
 have hcell:=hV.cellO hpo (k:=k) (by rw [hR.len];exact hk)
 rw [hvk] at hcell
 have HRD:=Lib.hid (fun c (hc:CutB (ofK L k) b c)=>readK (S:=S) hL hk hc)
 obtain ⟨l,hl⟩:∃ l,l=ofK L k:=⟨_,rfl⟩
 rw [← hl] at hrow hln HS hcell HRD
 clear hl hR hV hvk hKK hpo
 have hb0:=(Below.refl w.heap.size w).alloc (Nat.le_refl _) (.cells (cellsI A) 103)
 have hA0:=Arr.new w 103 A
 obtain ⟨n,hn⟩:∃ n,n=l.length:=⟨_,rfl⟩
 rw [← hn] at hrow hcell hln
 have HN:=Lib.hid hn
 clear hn
 have hk0:(0:Int)≤(k:Int):=by omega
 have hk1:(k:Int) < 32:=by omega
 go_enter Tryz.func82,Tryz.ntmps82
 go_upto_region 1 with (fail)
 have hg1:g≠w.heap.size:=by omega
 have hcell1:=(hb0.cell (p:=⟨g,o+k,none⟩) hgl).trans hcell
 have hrow1:=hrow.below hb0
 have hlw:w.heap.size < (w.alloc (.cells (cellsI A) 103)).heap.size:=by simp
 have hgw:g < (w.alloc (.cells (cellsI A) 103)).heap.size:=by omega
 obtain ⟨w1,hw1⟩:∃ w1,w1=w.alloc (.cells (cellsI A) 103):=⟨_,rfl⟩
 rw [← hw1] at hb0 hA0 hcell1 hrow1 hlw hgw ⊢
 clear hw1 hcell hrow
 go_wp2_with fail
 refine (countBefore_impl a n cap l b _ hrow1 (by omega) HS.out).mono ?_;rintro e w2 ⟨c,rfl,hc,hb1⟩
 have hb2:=hb0.trans (hb1.mono hb0.size)
 have hcell2:=(hb1.cell (p:=⟨g,o+k,none⟩) hgw).trans hcell1
 have hA2:=hA0.after hb1
 have hrow2:=hrow1.below hb1
 have HR:=Lib.hid (HRD.out c hc)
 have hcl:c≤n:=by rw [HN.out];exact hc.1
 clear hcell1 hrow1 HRD hb0 hA0 hb1 hc
 by_cases hc0:c=0
 · subst hc0
   have hav:=hA2.cell k (by rw [hA];exact hk)
   rw [hv] at hav
   clear hcell2 hrow2 hA2
   go_wp2
   go_ret2
   exact ⟨by rw [HR.out];rfl,hb2⟩
 · have hc1:((c:Int) == 0)=false:=by rw [beq_eq_false_iff_ne];omega
   obtain ⟨j,rfl⟩:∃ j,c=j+1:=⟨c - 1,by omega⟩
   obtain ⟨g',off,rfl,hcc⟩:=hrow2.2.2.1 (by omega)
   obtain ⟨c1,c2,c3⟩:=hcc j (by omega)
   have hgs:g' < w2.heap.size:=World.block_lt_of_cell? w2 ⟨g',off+j*3,none⟩ c1
   rw [if_neg hc0,Nat.add_sub_cancel] at HR
   have e1:IntKind.i64.wrap (j:Int)=(j:Int):=by rw [IntKind.wrap_i64];omega
   have q1:(0:Int)≤(j:Int):=by omega
   have q2:(j:Int) < (n:Int):=by omega
   clear hcc hrow2 hA2 hv hc0
   obtain ⟨X,hX⟩:∃ X,X=l.getD j noV:=⟨_,rfl⟩
   rw [← hX] at c1 c2 c3 HR
   clear hX
   obtain ⟨x,y,z⟩:=X
   simp only at c1 c2 c3 HR
   have hb3:=hb2.alloc hb2.size (.cells #[.int .i64 x,.int .i64 y,.int .i64 z] 73)
   go_wp2
   go_quiet (fail)
   go_wp2
   go_ret2
   exact ⟨by rw [HR.out];rfl,below_drewN' hb3 _⟩
end Go.Proofs.YtaaffpolmecicabGreat
/- The contracts of slices.Grow and slices.Concat at versions,and of the program's keyVersions.list. -/
namespace Go.Proofs.YtaaffpolmecicabGreat
open Go.RowKit
set_option linter.unusedVariables false
theorem infoVerG:(Tryz.prog.info? 73).map (fun i=>(i.zero,i.size,i.bytes))=some (some (.agg #[.int .i64 0,.int .i64 0,.int .i64 0]),3,24):=by kernel_rfl
def RoomV (w:World) (e:Ending) (w':World):Prop:=∃ v,e = .returned v∧w'.ownsRow w.heap.size 73 3 v 0 []∧Below w.heap.size w w'
set_option maxRecDepth 100000 in
set_option maxHeartbeats 1000000 in
theorem growV_any (n:Nat) (w:World) (hn:n≤4000000) :
  Calls Tryz.prog 174 #[.slice none 0 0,.int .i64 n] w (RoomV w):=by
 by_cases h0:n=0
 · subst h0
   go_enter Tryz.func174,Tryz.ntmps174
   go_wp2
   go_ret
   exact ⟨_,rfl,World.ownsRow_nil _ _ _ _,Below.refl _ _⟩
 · obtain ⟨i0,hi,hz0,hz1,hz2⟩:=info_parts infoVerG
   have hb:decide ((0:Int) < (n:Int))=true:=by simp;omega
   have hrun:=Lib.run_append_nil_zeros (P:=Tryz.prog) w 35 3 35 73 i0 (.agg #[.int .i64 0,.int .i64 0,.int .i64 0]) .i64 .i64 Tryz.underlying35 Tryz.underlying3 hi hz0 n (by omega) (by omega) (by omega) (by rw [hz2];omega)
   have hge:=grownCap_ge w n 0 73
   have hle:=grownCap_le_maxLen w n 0 73 (by unfold maxLen;omega)
   have HR:=Lib.hid hrun
   clear hrun hi hz0 hz1 hz2
   obtain ⟨c,hc⟩:∃ c,c=grownCap w n 0 73:=⟨_,rfl⟩
   rw [← hc] at HR hge hle
   clear hc
   go_enter Tryz.func174,Tryz.ntmps174
   go_wp2_with (first | (at_builtin;refine Lib.wpList_append_run _ rfl _ _ _ _ rfl _ _ (by rfl) (by rfl) _ _ HR.out ?_))
   go_ret
   refine ⟨_,rfl,⟨rfl,.inr ⟨w.heap.size,c,_,rfl,Nat.le_refl _,heap_alloc_new w _,Nat.zero_le _,hle,?_,by simp⟩⟩,((Below.refl _ _).alloc (Nat.le_refl _) _).drew⟩
   rw [Array.size_append,size_zeroCells,size_zeroCells]
   show n*3+(c - n)*3=c*3
   omega
set_option maxRecDepth 100000 in
set_option maxHeartbeats 4000000 in
theorem concatV_o (g B o:Nat) (T e0:TypeId) (pre post vs:List Value) (F:Nat→List Ver) (w:World) (h:KVo w B g T e0 pre post vs F) (hpo:pre.length=o) (hK:KOk F) :
  Calls Tryz.prog 145 #[.slice (some ⟨g,o,none⟩) 32 32] w (NewVN w 73 (catK F 32)):=by
 obtain ⟨hV,hR,-⟩:=h
 have HC:Hid (∀ k,k < 32→∃ a c,w.cell? ⟨g,o+k,none⟩=some (.slice a (F k).length c)∧RowV w a (F k).length (F k)∧(a=none→c=0)):=Lib.hid fun k hk=>by
  obtain ⟨a,cap,hvk,hrow,hz,-⟩:=hR.row hK hk
  have hcell:=hV.cellO hpo (k:=k) (by rw [hR.len];exact hk)
  rw [hvk] at hcell
  exact ⟨a,cap,hcell,hrow,hz⟩
 have hgl:=hV.lt
 have HN:Hid (∀ k,k < 32→(catK F (k+1)).length=(catK F k).length+(F k).length):=Lib.hid fun k hk=>by rw [catK,List.length_append]
 have HLE:Hid (∀ k,k≤32→(catK F k).length≤320):=Lib.hid fun k hk=>catK_len' hK hk
 have HW:=Lib.hid (wf_ofVOk (catK_ok hK 32 (Nat.le_refl _)))
 clear hV hR hK hpo
 go_enter Tryz.func145,Tryz.ntmps145
 go_wp2
 go_loop [3,5,11] (fun s _ i=>∃ k:Nat,k≤32∧s = .int .i64 (catK F k).length∧i = .int .i64 k) (fun _ _ i=>32 - (intOf i).toNat)
 case atStart=>exact ⟨0,by omega,rfl,rfl⟩
 case round =>
  obtain ⟨k,hk,rfl,rfl⟩:=hrel
  by_cases hlt:k < 32
  · obtain ⟨a,c,hcell,hrow,hz⟩:=HC.out k hlt
    have h1:=HN.out k hlt
    have h2:=HLE.out (k+1) hlt
    obtain ⟨n,hn⟩:∃ n,n=(catK F k).length:=⟨_,rfl⟩
    obtain ⟨m,hm⟩:∃ m,m=(F k).length:=⟨_,rfl⟩
    rw [← hn,← hm] at h1
    rw [← hm] at hcell
    rw [← hn]
    clear hn hm hrow hz
    rw [h1] at h2
    have e1:¬ ((n:Int)+(m:Int) < 0):=by omega
    go_wp2
    go_round
    case rel=>exact ⟨k+1,by omega,by rw [h1];go_num,by go_num⟩
    case measure=>simp [intOf];omega
  · obtain rfl:k=32:=by omega
    have hle:=HLE.out 32 (Nat.le_refl _)
    obtain ⟨N,hN⟩:∃ N,N=(catK F 32).length:=⟨_,rfl⟩
    rw [← hN] at hle ⊢
    have HNN:=Lib.hid hN
    clear hN
    go_wp2_with fail
    refine (growV_any N _ (by omega)).mono ?_;rintro e w1 ⟨v1,rfl,ho1,hb1⟩
    go_wp2
    go_loopw [6,8,27] (fun v _ i wr=>∃ k:Nat,k≤32∧i = .int .i64 k∧wr.ownsRow w.heap.size 73 3 v (catK F k).length (flatV (catK F k))∧Below w.heap.size w wr) (fun _ _ i _=>32 - (intOf i).toNat)
    case atStart=>exact ⟨0,by omega,rfl,ho1,hb1⟩
    case round =>
     clear ho1 hb1
     obtain ⟨k,hk,rfl,ho,hb⟩:=hrel
     by_cases hlt:k < 32
     · obtain ⟨a,c,hcell,hrow,hz⟩:=HC.out k hlt
       have hcell1:=(hb.cell (p:=⟨g,o+k,none⟩) hgl).trans hcell
       have hrow1:=hrow.below hb
       have hnil:a=none→(F k).length=0∧c=0:=fun e=>⟨by
        rcases Nat.eq_zero_or_pos (F k).length with h | h
        · exact h
        · obtain ⟨b,o,he,-⟩:=hrow.2.2.1 h;(rw [e] at he;cases he),hz e⟩
       have h1:=HN.out k hlt
       have h2:=HLE.out (k+1) hlt
       have hE:Hid (flatV (catK F (k+1))=flatV (catK F k)++flatV (F k)):=Lib.hid (by rw [catK,flatV_append])
       have hfl:Hid ((flatV (F k)).length=(F k).length*3):=Lib.hid (flatV_len _)
       have hnew:=Lib.hid hrow1.news
       have hone:=Lib.hid (flatV_one (F k))
       have hsum:(catK F k).length+(F k).length≤4000000:=by omega
       have hnil':=Lib.hid hnil
       obtain ⟨X,hX⟩:∃ X,X=flatV (catK F k):=⟨_,rfl⟩
       obtain ⟨Y,hY⟩:∃ Y,Y=flatV (F k):=⟨_,rfl⟩
       obtain ⟨n,hn⟩:∃ n,n=(catK F k).length:=⟨_,rfl⟩
       obtain ⟨m,hm⟩:∃ m,m=(F k).length:=⟨_,rfl⟩
       rw [← hX,← hY] at hE
       rw [← hX,← hn] at ho
       rw [← hY] at hfl hnew hone
       rw [← hm] at hcell1 hfl hnil' hsum h1
       rw [← hn] at h1 hsum
       have HL1:=Lib.hid h1
       clear hX hY hn hm hcell hrow hrow1 hz hnil h1 h2
       go_wp2_with (first | (at_builtin;refine wpList_append_rows' rfl _ _ 35 rfl w.heap.size 73 (.agg #[.int .i64 0,.int .i64 0,.int .i64 0]) 3 24 Tryz.underlying35 infoVerG rfl (by decide) _ n X Y (by rfl) ho a m c (by rfl) hnil'.out hfl.out hnew.out hone.out hsum (by decide) hb.size ?_;intro v2 w2 ho2 hg2))
       have hb2:=hb.grown hg2 hb.size (fun k hk=>(ho.lt k hk).1)
       clear hg2 ho hb
       go_wp2
       go_roundw
       case rel=>exact ⟨k+1,by omega,by go_num,by rw [HL1.out,hE.out];exact ho2,hb2⟩
       case measure=>simp [intOf];omega
     · obtain rfl:k=32:=by omega
       go_wp2
       go_ret
       exact ⟨_,rfl,ho,HW.out,hb⟩
theorem list_o (g B o:Nat) (T e0:TypeId) (pre post vs:List Value) (F:Nat→List Ver) (w:World) (h:KVo w B g T e0 pre post vs F) (hpo:pre.length=o) (hK:KOk F) :
  Calls Tryz.prog 79 #[.pointer (some ⟨g,o,none⟩)] w (NewVN w 73 (catK F 32)):=by
 go_enter Tryz.func79,Tryz.ntmps79
 go_wp2_with (first | (go_at_call 145;refine (concatV_o g B o T e0 pre post vs F _ h hpo hK).mono ?_;rintro e w' ⟨v,rfl,ho,hw,hb⟩))
 go_ret
 exact ⟨v,rfl,ho,hw,hb⟩
theorem list_impl (g B:Nat) (T e0:TypeId) (F:Nat→List Ver) (w:World) (h:KV w B g T e0 F) (hK:KOk F) :
  Calls Tryz.prog 79 #[.pointer (some ⟨g,0,none⟩)] w (NewVN w 73 (catK F 32)):=by
 obtain ⟨vs,h⟩:=h.o
 exact list_o g B 0 T e0 [] [] vs F w h rfl hK
end Go.Proofs.YtaaffpolmecicabGreat
/- The contract of the program's versionsPerKey. -/
namespace Go.Proofs.YtaaffpolmecicabGreat
open Go.RowKit
set_option linter.unusedVariables false
theorem infoKeys:(Tryz.prog.info? 95).map (·.size)=some 32:=by kernel_rfl
theorem KVs.laid {w w5:World} {B:Nat} {T e0:TypeId} {vs:List Value} {F:Nat→List Ver} (h:KVs w B e0 vs F) (o:Obj) (hA:ArrV w5 w.heap.size T vs) (hg:(w.alloc o).grownBy w5 (some w.heap.size)):KV w5 B w.heap.size T e0 F:=by
 have hb:=(Below.refl w.heap.size w).alloc (Nat.le_refl _) o
 refine ⟨vs,hA,(h.below hb).grown hg fun k hk b hq e=>?_,fun k hk e=>?_⟩
 · have:=(h.lt hk hq).2
   simp only [Option.some.injEq] at e;omega
 · have:=(h.lt hk e).2;omega
end Go.Proofs.YtaaffpolmecicabGreat
