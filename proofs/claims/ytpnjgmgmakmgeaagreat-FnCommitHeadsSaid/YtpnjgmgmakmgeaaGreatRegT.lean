/- Texts of ours that stand together: RegionThg, RegionPtr, AppLit, RegionLit -/
import Derived.Test.YtpnjgmgmakmgeaaGreatSpecE0
import Derived.Test.YtpnjgmgmakmgeaaGreatEffA
import Derived.Test.YtpnjgmgmakmgeaaGreatEngM
import Derived.Lib.AppendZeros
/- Beside RowsJ: a value over new blocks that are no row's (an effect with its two rows),in a region that draws its order;a last write with operations behind it. No function of the program is named here. -/
namespace Go.Proofs.YtpnjgmgmakmgeaaGreat
open Go.RowKit
set_option linter.unusedVariables false
def ThgJ (w0:World) (R:List RowT) (pop ps:Nat) (bl:Value→Nat→Prop) (C:World→Value→Prop) (l:Nat→Bool) (f:Nat→Value) (w:World):Prop :=
 l pop=true→C w (f ps)∧∀ b,bl (f ps) b→(w0.heap.size≤b∧b < w.heap.size)∧∀ t∈R,t.live l=true→blk (f t.slot)≠some b
theorem ThgJ.nothing (w0:World) (R:List RowT) (pop ps:Nat) (bl:Value→Nat→Prop) (C:World→Value→Prop) (f:Nat→Value) (w:World):ThgJ w0 R pop ps bl C (fun _=>false) f w:=fun h=>by cases h
theorem ThgJ.go {w0 w w':World} {R:List RowT} {pop ps:Nat} {bl:Value→Nat→Prop} {C:World→Value→Prop} {l:Nat→Bool} {f:Nat→Value} (h:ThgJ w0 R pop ps bl C l f w) (hC:∀ (a b:World) (v:Value),(∀ k,bl v k→b.heap[k]? = a.heap[k]?)→C a v→C b v) (i d:Nat) (v:Value) (hi:i≠pop) (hd:d≠ps)
  (hblk:∀ b,b < w.heap.size→(∀ t∈R,t.live l=true→blk (f t.slot)≠some b)→w'.heap[b]? = w.heap[b]?) (hsz:w.heap.size≤w'.heap.size)
  (hR:∀ t∈R,t.live (fun j=>j == i || l j)=true→(t.live l=true∧(if some d=some t.slot then v else f t.slot)=f t.slot)∨(∀ b,blk (if some d=some t.slot then v else f t.slot)=some b→w.heap.size≤b)∨∃ u∈R,u.live l=true∧blk (if some d=some t.slot then v else f t.slot)=blk (f u.slot)) :
  ThgJ w0 R pop ps bl C (fun j=>j == i || l j) (fun s=>if some d=some s then v else f s) w':=by
 intro hl
 have e1:(pop == i)=false:=by simpa using fun e=>hi e.symm
 have hl':l pop=true:=by simpa [e1] using hl
 obtain ⟨h1,h2⟩:=h hl'
 have e2:(if some d=some ps then v else f ps)=f ps:=if_neg (by simpa using hd)
 show C w' (if some d=some ps then v else f ps)∧∀ b,bl (if some d=some ps then v else f ps) b→_
 rw [e2]
 refine ⟨hC _ _ _ (fun k hk=>hblk k (h2 k hk).1.2 (h2 k hk).2) h1,fun b hb=>⟨⟨(h2 b hb).1.1,Nat.lt_of_lt_of_le (h2 b hb).1.2 hsz⟩,fun t ht hlt hbb=>?_⟩⟩
 have hbb:blk (if some d=some t.slot then v else f t.slot)=some b:=hbb
 rcases hR t ht hlt with ⟨g1,g2⟩ | g | ⟨u,hu,g1,g2⟩
 · rw [g2] at hbb;exact (h2 b hb).2 t ht g1 hbb
 · have:=g b hbb;have:=(h2 b hb).1.2;omega
 · rw [g2] at hbb;exact (h2 b hb).2 u hu g1 hbb
theorem ThgJ.still {w0 w w':World} {R:List RowT} {pop ps:Nat} {bl:Value→Nat→Prop} {C:World→Value→Prop} {l:Nat→Bool} {f:Nat→Value} (h:ThgJ w0 R pop ps bl C l f w) (hC:∀ (a b:World) (v:Value),(∀ k,bl v k→b.heap[k]? = a.heap[k]?)→C a v→C b v) (i d:Nat) (v:Value) (hi:i≠pop) (hd:d≠ps)
  (hb:Below w.heap.size w w') (hR:∀ t∈R,(t.op≠i∧t.use≠some i)∧t.slot≠d):ThgJ w0 R pop ps bl C (fun j=>j == i || l j) (fun s=>if some d=some s then v else f s) w' :=
 h.go hC i d v hi hd (fun b hlt _=>hb.block b hlt) hb.size fun t ht hl=>.inl ⟨by rw [live_step (hR t ht).1.1 (hR t ht).1.2] at hl;exact hl,if_neg (by simp;exact fun e=>(hR t ht).2 e.symm)⟩
theorem ThgJ.new {w0 w w':World} {R:List RowT} {pop ps:Nat} {bl:Value→Nat→Prop} {C:World→Value→Prop} {l:Nat→Bool} {f:Nat→Value} (h:ThgJ w0 R pop ps bl C l f w) (hC:∀ (a b:World) (v:Value),(∀ k,bl v k→b.heap[k]? = a.heap[k]?)→C a v→C b v) (i d:Nat) (v:Value) (hi:i≠pop) (hd:d≠ps)
  (hb:Below w.heap.size w w') (hR:∀ t∈R,t.use≠some i∧(t.op=i→t.slot=d∧w'.ownsRow w.heap.size t.e t.size v t.n t.cs)∧(t.op≠i→t.slot≠d)):ThgJ w0 R pop ps bl C (fun j=>j == i || l j) (fun s=>if some d=some s then v else f s) w' :=
 h.go hC i d v hi hd (fun b hlt _=>hb.block b hlt) hb.size fun t ht hl=>by
  by_cases ho:t.op=i
  · obtain ⟨g1,g2⟩:=(hR t ht).2.1 ho
    refine .inr (.inl fun b hbb=>?_)
    rw [if_pos (by rw [g1]),owns_blk g2] at hbb
    exact (g2.lt b hbb).1
  · exact .inl ⟨by rw [live_step ho (hR t ht).1] at hl;exact hl,if_neg (by simp;exact fun e=>(hR t ht).2.2 ho e.symm)⟩
theorem ThgJ.repl {w0 w w':World} {R:List RowT} {pop ps:Nat} {bl:Value→Nat→Prop} {C:World→Value→Prop} {l:Nat→Bool} {f:Nat→Value} (h:ThgJ w0 R pop ps bl C l f w) (hC:∀ (a b:World) (v:Value),(∀ k,bl v k→b.heap[k]? = a.heap[k]?)→C a v→C b v) (hq:RowsJ w0 R l f w) (i d:Nat) (v:Value) (hi:i≠pop) (hd:d≠ps)
  (t0:RowT) (ht0:t0∈R) (hl0:t0.live l=true) (hg:w.grownBy w' (f t0.slot).ownBlock) (hloc:v.ownBlock=(f t0.slot).ownBlock∨v.ownBlock=some w.heap.size)
  (hR:∀ t∈R,(t.use=some i ↔ t.op=t0.op)∧(t.op=i→t.slot=d∧w'.ownsRow w0.heap.size t.e t.size v t.n t.cs)∧(t.op≠i→t.slot≠d)):ThgJ w0 R pop ps bl C (fun j=>j == i || l j) (fun s=>if some d=some s then v else f s) w':=by
 have b0:=owns_blk (hq.own t0 ht0 hl0)
 refine h.go hC i d v hi hd (fun b hlt hne=>hg.block b hlt fun e=>hne t0 ht0 hl0 (by rw [b0];exact e.symm)) hg.size fun t ht hl=>?_
 by_cases ho:t.op=i
 · obtain ⟨g1,g2⟩:=(hR t ht).2.1 ho
   rw [if_pos (by rw [g1]),owns_blk g2]
   rcases hloc with e | e
   · exact .inr (.inr ⟨t0,ht0,hl0,by rw [e,b0]⟩)
   · refine .inr (.inl fun b hbb=>?_)
     rw [e] at hbb;cases hbb;exact Nat.le_refl _
 · have hu:t.use≠some i:=fun e=>by
    unfold RowT.live at hl;rw [e] at hl;simp at hl
   exact .inl ⟨by rw [live_step ho hu] at hl;exact hl,if_neg (by simp;exact fun e=>(hR t ht).2.2 ho e.symm)⟩
theorem ThgJ.make {w0 w w':World} {R:List RowT} {pop ps:Nat} {bl:Value→Nat→Prop} {C:World→Value→Prop} {l:Nat→Bool} {f:Nat→Value} (hq:RowsJ w0 R l f w) (v:Value) (hC:C w' v) (hb:∀ b,bl v b→w.heap.size≤b∧b < w'.heap.size) (hR:∀ t∈R,(t.op≠pop∧t.use≠some pop)∧t.slot≠ps) :
  ThgJ w0 R pop ps bl C (fun j=>j == pop || l j) (fun s=>if some ps=some s then v else f s) w':=fun _=>by
 show C w' (if some ps=some ps then v else f ps)∧∀ b,bl (if some ps=some ps then v else f ps) b→_
 rw [if_pos rfl]
 refine ⟨hC,fun b hbv=>⟨⟨Nat.le_trans hq.below.size (hb b hbv).1,(hb b hbv).2⟩,fun t ht hl hbb=>?_⟩⟩
 have e:(if some ps=some t.slot then v else f t.slot)=f t.slot:=if_neg (by simp;exact fun e=>(hR t ht).2 e.symm)
 have hbb:blk (if some ps=some t.slot then v else f t.slot)=some b:=hbb
 rw [live_step (hR t ht).1.1 (hR t ht).1.2] at hl
 have g:=hq.own t ht hl
 rw [e,owns_blk g] at hbb
 have:=(g.lt _ hbb).2
 have:=(hb b hbv).1
 omega
def MidJ (P:(Nat→Bool)→(Nat→Value)→World→Prop) (m:Nat) (Q:(Nat→Bool)→(Nat→Value)→World→Prop) (l:Nat→Bool) (f:Nat→Value) (w:World):Prop :=
 (l m=false→P l f w)∧(l m=true→(∀ i,i < m→l i=true)∧Q l f w)
theorem MidJ.nothing {P Q:(Nat→Bool)→(Nat→Value)→World→Prop} {m:Nat} {f:Nat→Value} {w:World} (h:P (fun _=>false) f w):MidJ P m Q (fun _=>false) f w:=⟨fun _=>h,fun h=>by cases h⟩
theorem MidJ.now {P Q:(Nat→Bool)→(Nat→Value)→World→Prop} {m:Nat} {l:Nat→Bool} {f:Nat→Value} {w:World} (h:MidJ P m Q l f w) {i:Nat} (hi:i < m) (hli:l i=false):P l f w:=by
 refine h.1 ?_
 cases hm:l m with
 | false=>rfl
 | true=>rw [(h.2 hm).1 i hi] at hli;cases hli
theorem MidJ.step {P Q:(Nat→Bool)→(Nat→Value)→World→Prop} {m:Nat} {l:Nat→Bool} {f g:Nat→Value} {w w':World} (h:MidJ P m Q l f w) (i:Nat) (hi:i < m) (hli:l i=false) (hP:P (fun j=>j == i || l j) g w'):MidJ P m Q (fun j=>j == i || l j) g w':=by
 refine ⟨fun _=>hP,fun hm=>?_⟩
 have hne:(m == i)=false:=by simp;omega
 have:l m=true:=by simpa [hne] using hm
 have hl:=(h.2 this).1 i hi
 rw [hli] at hl;cases hl
theorem MidJ.mid {P Q:(Nat→Bool)→(Nat→Value)→World→Prop} {m:Nat} {l:Nat→Bool} {g:Nat→Value} {w':World} (hall:∀ i,i < m→l i=true) (hQ:Q (fun j=>j == m || l j) g w'):MidJ P m Q (fun j=>j == m || l j) g w' :=
 ⟨fun h=>by simp at h,fun _=>⟨fun i hi=>by simp [hall i hi],hQ⟩⟩
theorem MidJ.both {P Q:(Nat→Bool)→(Nat→Value)→World→Prop} {m:Nat} {l:Nat→Bool} {f g:Nat→Value} {w w':World} (h:MidJ P m Q l f w) (i:Nat) (hi:m < i) (hP:l m=false→P l f w→P (fun j=>j == i || l j) g w') (hQ:l m=true→Q l f w→Q (fun j=>j == i || l j) g w'):MidJ P m Q (fun j=>j == i || l j) g w':=by
 have hne:(m == i)=false:=by simp;omega
 refine ⟨fun hm=>?_,fun hm=>?_⟩
 · have hm:l m=false:=by simpa [hne] using hm
   exact hP hm (h.1 hm)
 · have hm:l m=true:=by simpa [hne] using hm
   exact ⟨fun j hj=>by simp [(h.2 hm).1 j hj],hQ hm (h.2 hm).2⟩
def PtrJ (w0:World) (R:List RowT) (pop ps:Nat) (C:World→Nat→Prop) (l:Nat→Bool) (f:Nat→Value) (w:World):Prop :=
 l pop=true→∃ b,f ps = .pointer (some ⟨b,0,none⟩)∧w0.heap.size≤b∧b < w.heap.size∧C w b∧∀ t∈R,t.live l=true→blk (f t.slot)≠some b
theorem PtrJ.nothing (w0:World) (R:List RowT) (pop ps:Nat) (C:World→Nat→Prop) (f:Nat→Value) (w:World):PtrJ w0 R pop ps C (fun _=>false) f w:=fun h=>by cases h
theorem PtrJ.go {w0 w w':World} {R:List RowT} {pop ps:Nat} {C:World→Nat→Prop} {l:Nat→Bool} {f:Nat→Value} (h:PtrJ w0 R pop ps C l f w) (hC:∀ (a b:World) (k:Nat),b.heap[k]? = a.heap[k]?→C a k→C b k) (i d:Nat) (v:Value) (hi:i≠pop) (hd:d≠ps)
  (hblk:∀ b,b < w.heap.size→(∀ t∈R,t.live l=true→blk (f t.slot)≠some b)→w'.heap[b]? = w.heap[b]?) (hsz:w.heap.size≤w'.heap.size)
  (hR:∀ t∈R,t.live (fun j=>j == i || l j)=true→(t.live l=true∧(if some d=some t.slot then v else f t.slot)=f t.slot)∨(∀ b,blk (if some d=some t.slot then v else f t.slot)=some b→w.heap.size≤b)∨∃ u∈R,u.live l=true∧blk (if some d=some t.slot then v else f t.slot)=blk (f u.slot)) :
  PtrJ w0 R pop ps C (fun j=>j == i || l j) (fun s=>if some d=some s then v else f s) w':=by
 intro hl
 have e1:(pop == i)=false:=by simpa using fun e=>hi e.symm
 have hl':l pop=true:=by simpa [e1] using hl
 obtain ⟨b,h1,h2,h3,h4,h5⟩:=h hl'
 refine ⟨b,?_,h2,Nat.lt_of_lt_of_le h3 hsz,hC _ _ _ (hblk b h3 h5) h4,fun t ht hlt hb=>?_⟩
 · show (if some d=some ps then v else f ps) = _
   rw [if_neg (by simpa using hd)];exact h1
 · have hb:blk (if some d=some t.slot then v else f t.slot)=some b:=hb
   rcases hR t ht hlt with ⟨g1,g2⟩ | g | ⟨u,hu,g1,g2⟩
   · rw [g2] at hb;exact h5 t ht g1 hb
   · have:=g b hb;omega
   · rw [g2] at hb;exact h5 u hu g1 hb
theorem PtrJ.still {w0 w w':World} {R:List RowT} {pop ps:Nat} {C:World→Nat→Prop} {l:Nat→Bool} {f:Nat→Value} (h:PtrJ w0 R pop ps C l f w) (hC:∀ (a b:World) (k:Nat),b.heap[k]? = a.heap[k]?→C a k→C b k) (i d:Nat) (v:Value) (hi:i≠pop) (hd:d≠ps)
  (hb:Below w.heap.size w w') (hR:∀ t∈R,(t.op≠i∧t.use≠some i)∧t.slot≠d):PtrJ w0 R pop ps C (fun j=>j == i || l j) (fun s=>if some d=some s then v else f s) w' :=
 h.go hC i d v hi hd (fun b hlt _=>hb.block b hlt) hb.size fun t ht hl=>.inl ⟨by rw [live_step (hR t ht).1.1 (hR t ht).1.2] at hl;exact hl,if_neg (by simp;exact fun e=>(hR t ht).2 e.symm)⟩
theorem PtrJ.new {w0 w w':World} {R:List RowT} {pop ps:Nat} {C:World→Nat→Prop} {l:Nat→Bool} {f:Nat→Value} (h:PtrJ w0 R pop ps C l f w) (hC:∀ (a b:World) (k:Nat),b.heap[k]? = a.heap[k]?→C a k→C b k) (i d:Nat) (v:Value) (hi:i≠pop) (hd:d≠ps)
  (hb:Below w.heap.size w w') (hR:∀ t∈R,t.use≠some i∧(t.op=i→t.slot=d∧w'.ownsRow w.heap.size t.e t.size v t.n t.cs)∧(t.op≠i→t.slot≠d)):PtrJ w0 R pop ps C (fun j=>j == i || l j) (fun s=>if some d=some s then v else f s) w' :=
 h.go hC i d v hi hd (fun b hlt _=>hb.block b hlt) hb.size fun t ht hl=>by
  by_cases ho:t.op=i
  · obtain ⟨g1,g2⟩:=(hR t ht).2.1 ho
    refine .inr (.inl fun b hbb=>?_)
    rw [if_pos (by rw [g1]),owns_blk g2] at hbb
    exact (g2.lt b hbb).1
  · exact .inl ⟨by rw [live_step ho (hR t ht).1] at hl;exact hl,if_neg (by simp;exact fun e=>(hR t ht).2.2 ho e.symm)⟩
theorem PtrJ.repl {w0 w w':World} {R:List RowT} {pop ps:Nat} {C:World→Nat→Prop} {l:Nat→Bool} {f:Nat→Value} (h:PtrJ w0 R pop ps C l f w) (hC:∀ (a b:World) (k:Nat),b.heap[k]? = a.heap[k]?→C a k→C b k) (hq:RowsJ w0 R l f w) (i d:Nat) (v:Value) (hi:i≠pop) (hd:d≠ps)
  (t0:RowT) (ht0:t0∈R) (hl0:t0.live l=true) (hg:w.grownBy w' (f t0.slot).ownBlock) (hloc:v.ownBlock=(f t0.slot).ownBlock∨v.ownBlock=some w.heap.size)
  (hR:∀ t∈R,(t.use=some i ↔ t.op=t0.op)∧(t.op=i→t.slot=d∧w'.ownsRow w0.heap.size t.e t.size v t.n t.cs)∧(t.op≠i→t.slot≠d)):PtrJ w0 R pop ps C (fun j=>j == i || l j) (fun s=>if some d=some s then v else f s) w':=by
 have b0:=owns_blk (hq.own t0 ht0 hl0)
 refine h.go hC i d v hi hd (fun b hlt hne=>hg.block b hlt fun e=>hne t0 ht0 hl0 (by rw [b0];exact e.symm)) hg.size fun t ht hl=>?_
 by_cases ho:t.op=i
 · obtain ⟨g1,g2⟩:=(hR t ht).2.1 ho
   rw [if_pos (by rw [g1]),owns_blk g2]
   rcases hloc with e | e
   · exact .inr (.inr ⟨t0,ht0,hl0,by rw [e,b0]⟩)
   · refine .inr (.inl fun b hbb=>?_)
     rw [e] at hbb;cases hbb;exact Nat.le_refl _
 · have hu:t.use≠some i:=fun e=>by
    unfold RowT.live at hl;rw [e] at hl;simp at hl
   exact .inl ⟨by rw [live_step ho hu] at hl;exact hl,if_neg (by simp;exact fun e=>(hR t ht).2.2 ho e.symm)⟩
theorem PtrJ.make {w0 w:World} {R:List RowT} {pop ps:Nat} {C:World→Nat→Prop} {l:Nat→Bool} {f:Nat→Value} (hq:RowsJ w0 R l f w) (o:Obj) (hC:C (w.alloc o) w.heap.size) (hR:∀ t∈R,(t.op≠pop∧t.use≠some pop)∧t.slot≠ps) :
  PtrJ w0 R pop ps C (fun j=>j == pop || l j) (fun s=>if some ps=some s then .pointer (some ⟨w.heap.size,0,none⟩) else f s) (w.alloc o):=fun _=>by
 refine ⟨w.heap.size,by simp,hq.below.size,by simp,hC,fun t ht hl hb=>?_⟩
 have e:(if some ps=some t.slot then Value.pointer (some ⟨w.heap.size,0,none⟩) else f t.slot)=f t.slot:=if_neg (by simp;exact fun e=>(hR t ht).2 e.symm)
 have hb:blk (if some ps=some t.slot then Value.pointer (some ⟨w.heap.size,0,none⟩) else f t.slot)=some w.heap.size:=hb
 rw [live_step (hR t ht).1.1 (hR t ht).1.2] at hl
 have g:=hq.own t ht hl
 rw [e,owns_blk g] at hb
 have:=(g.lt _ hb).2
 omega
def ClJ (C:List (Nat × List Nat)) (l:Nat→Bool):Prop:=∀ c∈C,l c.1=true→∀ j∈c.2,l j=true
theorem ClJ.nothing (C:List (Nat × List Nat)):ClJ C (fun _=>false):=fun c _ h=>by cases h
theorem ClJ.step {C:List (Nat × List Nat)} {l:Nat→Bool} (h:ClJ C l) (i:Nat) (hi:∀ c∈C,c.1=i→∀ j∈c.2,l j=true):ClJ C (fun j=>j == i || l j):=by
 intro c hc hl j hj
 by_cases e:c.1=i
 · simp [hi c hc e j hj]
 · have e1:(c.1 == i)=false:=by simpa using e
   have hl':l c.1=true:=by simpa [e1] using hl
   simp [h c hc hl' j hj]
def LitJ (lo pop ps src:Nat) (T:TypeId) (l:Nat→Bool) (f:Nat→Value) (w:World):Prop :=
 l pop=true→(∀ i,lo≤i→i < pop→l i=true)∧∃ p,f ps = .slice (some ⟨p,0,none⟩) 1 1∧w.heap[p]? = some (.cells (f src).cells T)
theorem LitJ.nothing (lo pop ps src:Nat) (T:TypeId) (f:Nat→Value) (w:World):LitJ lo pop ps src T (fun _=>false) f w:=fun h=>by cases h
theorem LitJ.before {lo pop ps src:Nat} {T:TypeId} {l:Nat→Bool} {f:Nat→Value} {w w':World} (h:LitJ lo pop ps src T l f w) (i d:Nat) (v:Value) (h1:lo≤i) (h2:i < pop) (hli:l i=false) :
  LitJ lo pop ps src T (fun j=>j == i || l j) (fun s=>if some d=some s then v else f s) w':=by
 intro hl
 have e1:(pop == i)=false:=by simp;omega
 have hl':l pop=true:=by simpa [e1] using hl
 have:=(h hl').1 i h1 h2
 rw [hli] at this;cases this
theorem LitJ.still {lo pop ps src:Nat} {T:TypeId} {l:Nat→Bool} {f:Nat→Value} {w:World} (h:LitJ lo pop ps src T l f w) (i d:Nat) (v:Value) (hi:i≠pop) (h1:d≠ps) (h2:d≠src) :
  LitJ lo pop ps src T (fun j=>j == i || l j) (fun s=>if some d=some s then v else f s) w:=by
 intro hl
 have e1:(pop == i)=false:=by simpa using fun e=>hi e.symm
 have hl':l pop=true:=by simpa [e1] using hl
 obtain ⟨g1,p,g2,g3⟩:=h hl'
 have n1:¬ (some d=some ps):=by simpa using h1
 have n2:¬ (some d=some src):=by simpa using h2
 refine ⟨fun j hj hj2=>by simp [g1 j hj hj2],p,?_,?_⟩
 · simp only [if_neg n1];exact g2
 · simp only [if_neg n2];exact g3
theorem LitJ.make {lo pop ps src:Nat} {T:TypeId} {l:Nat→Bool} {f:Nat→Value} {w:World} (hall:∀ i,lo≤i→i < pop→l i=true) (hne:ps≠src) (cs:Array Value) (hcs:(f src).cells=cs) :
  LitJ lo pop ps src T (fun j=>j == pop || l j) (fun s=>if some ps=some s then .slice (some ⟨w.heap.size,0,none⟩) 1 1 else f s) (w.alloc (.cells cs T)):=by
 intro _
 have n2:¬ (some ps=some src):=by simpa using hne
 refine ⟨fun j hj hj2=>by simp [hall j hj hj2],w.heap.size,by simp,?_⟩
 simp only [if_neg n2]
 rw [hcs];exact heap_alloc_new w _
theorem wp_append_litR {P:Program} {W:World} {o:Oper} {a:Act} {K:Act→World→Prop} {Q:Exit→Act→World→Prop} (s x:Operand) (t:TypeId)
  (ho:o.op = .call { callee:=.builtin .append,args:=#[s,x],argTypes:=#[t,t] })
  (B T:Nat) (e:TypeId) (z:Value) (size bytes:Nat) (ht:P.underlying t=some (.slice e)) (hinfo:(P.info? e).map (fun i=>(i.zero,i.size,i.bytes))=some (some z,size,bytes))
  (hzs:z.cells.size=size) (hsz:0 < size) (v:Value) (hs:a.eval s=v)
  (n:Nat) (xs news:List Value) (R:List Rw) (hown:OwnR W B T (⟨v,e,size,n,xs⟩ :: R)) (p:Nat) (T':TypeId) (hx:a.eval x = .slice (some ⟨p,0,none⟩) 1 1) (hp:W.heap[p]? = some (.cells news.toArray T'))
  (hl:news.length=size) (h1:∀ u∈news,u.oneCell'=true) (hn:n+1≤4000000) (hby:bytes≤100000) (hbase:B≤W.heap.size) (hT:T≤W.heap.size)
  (h:∀ v' w',OwnR w' B w'.heap.size (⟨v',e,size,n+1,xs++news⟩ :: R)→W.grownBy w' v.ownBlock→(v'.ownBlock=v.ownBlock∨v'.ownBlock=some W.heap.size)→K (a.put o.dst v') w'):Oper.wp P o a W K Q:=by
 obtain ⟨i0,hi,hz0,hz1,hz2⟩:=info_parts hinfo
 have hcell:∀ j u,news[j]? = some u→W.cell? ((⟨p,0,none⟩:Addr).add j)=some u:=by
  intro j u hu
  rw [show (⟨p,0,none⟩:Addr).add j=⟨p,j,none⟩ by unfold Addr.add;split <;> simp_all]
  rw [cell_of_row W p j news.toArray T' (0,0) hp]
  rw [List.getElem?_toArray];exact hu
 have hbytes:(n+1)*bytes≤140737488355328:=by
  calc (n+1)*bytes≤4000000*100000:=Nat.mul_le_mul hn hby
   _≤140737488355328:=by decide
 obtain ⟨v',w',hr,h2,h3,h4,h5⟩:=run_append_own_at (P:=P) W B t o.type e i0 z size bytes ht hi hz0 hz1 hz2 hzs hsz v n xs hown.head ⟨p,0,none⟩ 1 1 news (by rw [hl,Nat.one_mul]) hcell h1 (by unfold maxLen;omega) hbytes hbase
 unfold Oper.wp execOp
 simp only [ho,resolve,invoke,builtin,Sem.run_bind,Sem.run_pure,Result.andThen_ok,List.map_toArray,List.map_cons,List.map_nil,hs,hx,hr]
 have hTw:T≤w'.heap.size:=Nat.le_trans hT h3.size
 refine h v' w' (hown.grow (r':=⟨v',e,size,n+1,xs++news⟩) h2 h3 h5 hTw ?_) h3 h5
 rcases h5 with h5 | h5
 · exact .inr h5
 · exact .inl (h2.lt _ h5).2
end Go.Proofs.YtpnjgmgmakmgeaaGreat
