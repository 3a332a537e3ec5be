/- Texts of ours that stand together: RegionVals, RegionDep, RegionObj -/
import Derived.Test.YtpnjgmgmakmgeaaGreatRegJ
import Derived.Test.YtpnjgmgmakmgeaaGreatLayP
import Derived.Test.YtpnjgmgmakmgeaaGreatTrM
/- Values of slots by their place in the table. -/
namespace Go.Proofs.YtpnjgmgmakmgeaaGreat
theorem Vals.at {T:List (Nat × Nat × Value)} {l:Nat→Bool} {f:Nat→Value} (h:Vals T l f) (k:Nat) {i s:Nat} {v:Value} (hk:T[k]? = some (i,s,v)) (hl:l i=true):f s=v:=h _ (List.mem_of_getElem? hk) hl
def CallW (c:Nat) (S0 S1:World→Prop) (l:Nat→Bool) (w:World):Prop:=(l c=false→S0 w)∧(l c=true→S1 w)
theorem CallW.nothing {c:Nat} {S0 S1:World→Prop} {w:World} (h:S0 w):CallW c S0 S1 (fun _=>false) w:=⟨fun _=>h,fun h=>(by cases h)⟩
theorem CallW.still {c:Nat} {S0 S1:World→Prop} {l:Nat→Bool} {w:World} (h:CallW c S0 S1 l w) (i:Nat) (hi:c≠i):CallW c S0 S1 (fun j=>j == i || l j) w:=by
 have e:(c == i || l c)=l c:=by simp [hi]
 unfold CallW;simp only [e];exact h
theorem CallW.call {c:Nat} {S0 S1:World→Prop} {l:Nat→Bool} {w:World} (h:S1 w):CallW c S0 S1 (fun j=>j == c || l j) w:=⟨fun e=>(by simp at e),fun _=>h⟩
theorem CallW.imp {c:Nat} {S0 S1 S:World→Prop} {l:Nat→Bool} {w:World} (h:CallW c S0 S1 l w) (h0:∀ W,S0 W→S W) (h1:∀ W,S1 W→S W):S w:=by
 cases e:l c with
 | false=>exact h0 w (h.1 e)
 | true=>exact h1 w (h.2 e)
def Late (c:Nat) (l:Nat→Bool):Prop:=l c=false→∀ i,c < i→l i=false
theorem Late.nothing (c:Nat):Late c (fun _=>false):=fun _ _ _=>rfl
theorem Late.early {c:Nat} {l:Nat→Bool} (h:Late c l) (i:Nat) (hi:i < c):Late c (fun j=>j == i || l j):=by
 intro hc k hk
 have e1:(c == i)=false:=by simp;omega
 have e2:(k == i)=false:=by simp;omega
 simp only [e1,Bool.false_or] at hc
 simp only [e2,Bool.false_or]
 exact h hc k hk
theorem Late.late {c:Nat} {l:Nat→Bool} (h:Late c l) (i j:Nat) (hj:l j=true) (hcj:c≤j):Late c (fun k=>k == i || l k):=by
 intro hc
 exfalso
 simp only [Bool.or_eq_false_iff] at hc
 by_cases e:j=c
 · subst e;rw [hj] at hc;cases hc.2
 · rw [h hc.2 j (by omega)] at hj;cases hj
theorem Late.yes {c:Nat} {l:Nat→Bool} (h:Late c l) {j:Nat} (hj:l j=true) (hcj:c≤j):l c=true:=by
 cases e:l c with
 | true=>rfl
 | false =>
  by_cases e2:j=c
  · subst e2;rw [hj] at e;cases e
  · rw [h e j (by omega)] at hj;cases hj
theorem Late.call (c:Nat) (l:Nat→Bool):Late c (fun j=>j == c || l j):=fun hc=>by simp at hc
theorem Vals.late {c:Nat} {T:List (Nat × Nat × Value)} {l:Nat→Bool} {f:Nat→Value} (h:Late c l) (hc:l c=false) (hT:∀ t∈T,c < t.1):Vals T l f:=fun t ht hl=>by rw [h hc t.1 (hT t ht)] at hl;cases hl
open Go.RowKit
set_option linter.unusedVariables false
def allR2 (p:Nat × Nat→Bool):List (Nat × Nat)→Bool
 | []=>true
 | r :: t=>p r && allR2 p t
theorem allR2_mem {p:Nat × Nat→Bool} {L:List (Nat × Nat)} (h:allR2 p L=true):∀ r∈L,p r=true:=by
 induction L with
 | nil=>intro r hr;cases hr
 | cons x t ih =>
  simp only [allR2,Bool.and_eq_true] at h
  intro r hr
  rcases List.mem_cons.1 hr with rfl | hr
  · exact h.1
  · exact ih h.2 r hr
structure DepT2 where
 op:Nat
 slot:Nat
 refs:List (Nat × Nat)
 fn:(Nat→Value)→Value
 ext:∀ f g:Nat→Value,(∀ r∈refs,f r.2=g r.2)→fn f=fn g
def Deps2 (D:List DepT2) (l:Nat→Bool) (f:Nat→Value):Prop:=∀ t∈D,l t.op=true→(∀ r∈t.refs,l r.1=true)∧f t.slot=t.fn f
theorem Deps2.nothing (D:List DepT2) (f:Nat→Value):Deps2 D (fun _=>false) f:=fun t _ h=>by cases h
theorem Deps2.step {D:List DepT2} {l:Nat→Bool} {f:Nat→Value} (h:Deps2 D l f) (i d:Nat) (v:Value) (hli:l i=false)
  (hD:∀ t∈D,(t.op=i→t.slot=d∧allR2 (fun r=>l r.1 && r.2 != d) t.refs=true∧v=t.fn f)∧(t.op≠i→t.slot≠d∧allR2 (fun r=>r.2 != d || r.1 == i) t.refs=true)) :
  Deps2 D (fun j=>j == i || l j) (fun s=>if some d=some s then v else f s):=by
 intro t ht hl
 by_cases ho:t.op=i
 · obtain ⟨g1,g2,g3⟩:=(hD t ht).1 ho
   have g2:∀ r∈t.refs,l r.1=true∧r.2≠d:=fun r hr=>by have:=allR2_mem g2 r hr;simpa using this
   refine ⟨fun r hr=>by simp [(g2 r hr).1],?_⟩
   simp only [g1,if_true]
   rw [g3]
   exact t.ext _ _ fun r hr=>(if_neg (by simp;exact fun e=>(g2 r hr).2 e.symm)).symm
 · obtain ⟨g1,g2⟩:=(hD t ht).2 ho
   have g2:∀ r∈t.refs,r.2=d→r.1=i:=fun r hr e=>by
    have:=allR2_mem g2 r hr
    simp [e] at this;exact this
   have hl':l t.op=true:=by
    have e1:(t.op == i)=false:=by simpa using ho
    simpa [e1] using hl
   obtain ⟨g3,g4⟩:=h t ht hl'
   refine ⟨fun r hr=>by simp [g3 r hr],?_⟩
   have hne:¬ (some d=some t.slot):=by simp;exact fun e=>g1 e.symm
   simp only [if_neg hne]
   rw [g4]
   exact t.ext _ _ fun r hr=>(if_neg (by
    simp
    intro e
    have h1:=g2 r hr e.symm
    have h2:=g3 r hr
    rw [h1,hli] at h2;cases h2)).symm
structure ObT where
 op:Nat
 slot:Nat
 c:Cel
structure ObJ (w0:World) (R:List ObT) (l:Nat→Bool) (f:Nat→Value) (w:World):Prop where
 below:Below w0.heap.size w0 w
 own:∀ t∈R,l t.op=true→t.c.own w (f t.slot)∧∀ b,blk (f t.slot)=some b→w0.heap.size≤b
 apart:∀ t∈R,∀ u∈R,t.op≠u.op→l t.op=true→l u.op=true→∀ b,blk (f t.slot)=some b→blk (f u.slot)≠some b
theorem ObJ.nothing (w0:World) (R:List ObT) (f:Nat→Value):ObJ w0 R (fun _=>false) f w0.drew:=⟨(Below.refl _ _).drew,fun _ _ h=>(by cases h),fun _ _ _ _ _ h=>(by cases h)⟩
theorem ObJ.lt {w0 w:World} {R:List ObT} {l:Nat→Bool} {f:Nat→Value} (h:ObJ w0 R l f w) {t:ObT} (ht:t∈R) (hl:l t.op=true) {b:Nat} (hb:blk (f t.slot)=some b):b < w.heap.size:=t.c.lt (h.own t ht hl).1 hb
theorem ObJ.still {w0 w w':World} {R:List ObT} {l:Nat→Bool} {f:Nat→Value} (h:ObJ w0 R l f w) (i:Nat) (d:Option Nat) (v:Value) (hb:Below w.heap.size w w') (hR:∀ t∈R,t.op≠i∧d≠some t.slot) :
  ObJ w0 R (fun j=>j == i || l j) (fun s=>if d=some s then v else f s) w':=by
 have hl:∀ t∈R,(t.op == i || l t.op)=true→l t.op=true:=fun t ht h'=>by simpa [(hR t ht).1] using h'
 refine ⟨h.below.trans (hb.mono h.below.size),fun t ht h'=>?_,fun t ht u hu hne h1 h2 b hb1 hb2=>?_⟩
 · simp only [if_neg (hR t ht).2]
   have:=h.own t ht (hl t ht h')
   exact ⟨t.c.keep this.1 (fun b hbb=>hb.block b (t.c.lt this.1 hbb)),this.2⟩
 · simp only [if_neg (hR t ht).2] at hb1
   simp only [if_neg (hR u hu).2] at hb2
   exact h.apart t ht u hu hne (hl t ht h1) (hl u hu h2) b hb1 hb2
theorem ObJ.new {w0 w w':World} {R:List ObT} {l:Nat→Bool} {f:Nat→Value} (h:ObJ w0 R l f w) (i d:Nat) (v:Value) (hb:Below w.heap.size w w') (hv:∀ b,blk v=some b→w.heap.size≤b) (hR:∀ t∈R,(t.op=i→t.slot=d∧t.c.own w' v)∧(t.op≠i→t.slot≠d)) :
  ObJ w0 R (fun j=>j == i || l j) (fun s=>if some d=some s then v else f s) w':=by
 have hl:∀ t∈R,t.op≠i→(t.op == i || l t.op)=true→l t.op=true:=fun t ht hne h'=>by simpa [hne] using h'
 have hs:∀ t∈R,t.op≠i→¬ (some d=some t.slot):=fun t ht hne e=>(hR t ht).2 hne (by simpa using e.symm)
 refine ⟨h.below.trans (hb.mono h.below.size),fun t ht h'=>?_,fun t ht u hu hne h1 h2 b hb1 hb2=>?_⟩
 · by_cases e:t.op=i
   · obtain ⟨e1,e2⟩:=(hR t ht).1 e
     simp only [e1,if_true]
     exact ⟨e2,fun b hbb=>Nat.le_trans h.below.size (hv b hbb)⟩
   · simp only [if_neg (hs t ht e)]
     have:=h.own t ht (hl t ht e h')
     exact ⟨t.c.keep this.1 (fun b hbb=>hb.block b (t.c.lt this.1 hbb)),this.2⟩
 · by_cases e:t.op=i
   · have eu:u.op≠i:=fun e'=>hne (by rw [e,e'])
     simp only [((hR t ht).1 e).1,if_true] at hb1
     simp only [if_neg (hs u hu eu)] at hb2
     have:=h.lt hu (hl u hu eu h2) hb2
     have:=hv b hb1
     omega
   · simp only [if_neg (hs t ht e)] at hb1
     by_cases eu:u.op=i
     · simp only [((hR u hu).1 eu).1,if_true] at hb2
       have:=h.lt ht (hl t ht e h1) hb1
       have:=hv b hb2
       omega
     · simp only [if_neg (hs u hu eu)] at hb2
       exact h.apart t ht u hu hne (hl t ht e h1) (hl u hu eu h2) b hb1 hb2
theorem ObJ.turn {w0 w w':World} {R:List ObT} {l:Nat→Bool} {f:Nat→Value} (h:ObJ w0 R l f w) (i:Nat) (v:Value) (m:Nat) (hg:w.grownBy w' (some m)) (t0:ObT) (h0:t0∈R) (hl0:l t0.op=true) (hm:blk (f t0.slot)=some m) (hu:∀ t∈R,t.op=t0.op→t.c.own w' (f t.slot)) (hR:∀ t∈R,t.op≠i) :
  ObJ w0 R (fun j=>j == i || l j) (fun s=>if none=some s then v else f s) w':=by
 have hl:∀ t∈R,(t.op == i || l t.op)=true→l t.op=true:=fun t ht h'=>by simpa [hR t ht] using h'
 have hmw:=(h.own t0 h0 hl0).2 m hm
 refine ⟨h.below.grown hg h.below.size (fun k hk=>by cases hk;exact hmw),fun t ht h'=>?_,fun t ht u hu' hne h1 h2 b hb1 hb2=>?_⟩
 · simp only [reduceCtorEq,if_false]
   have ho:=h.own t ht (hl t ht h')
   by_cases e:t.op=t0.op
   · exact ⟨hu t ht e,ho.2⟩
   · exact ⟨t.c.keep ho.1 (fun b hbb=>hg.block b (t.c.lt ho.1 hbb) (fun e2=>by injection e2 with e2;exact h.apart t ht t0 h0 e (hl t ht h') hl0 b hbb (by rw [hm,e2]))),ho.2⟩
 · simp only [reduceCtorEq,if_false] at hb1 hb2
   exact h.apart t ht u hu' hne (hl t ht h1) (hl u hu' h2) b hb1 hb2
def Cel.rowB (B:Nat) (e:TypeId) (size n:Nat) (cs:List Value):Cel :=
 ⟨fun w x=>w.ownsRow B e size x n cs,fun h hk=>owns_keep h hk,fun h hb=>(by rw [owns_blk h] at hb;exact (h.lt _ hb).2),fun h=>owns_one h⟩
def Cel.someMap:Cel :=
 ⟨fun w x=>∃ m,x = .map (some m)∧m < w.heap.size∧∃ k F,MapF w m k F,fun ⟨m,e,h,k,F,hF⟩ hk=>⟨m,e,(hF.keep (hk m (by rw [e];rfl))).lt,k,F,hF.keep (hk m (by rw [e];rfl))⟩,fun ⟨m,e,h,_⟩ hb=>(by rw [e] at hb;cases hb;exact h),fun ⟨m,e,h,_⟩=>(by rw [e];rfl)⟩
def MapJ (p q s:Nat) (F:Int→Option Int) (l:Nat→Bool) (f:Nat→Value) (w:World):Prop :=
 (l p=true→∃ m,f s = .map (some m)∧MapF w m (if l q=true then 1 else 0) (if l q=true then F else fun _=>none))∧(l q=true→l p=true)
theorem MapJ.nothing (p q s:Nat) (F:Int→Option Int) (f:Nat→Value) (w:World):MapJ p q s F (fun _=>false) f w:=⟨fun h=>(by cases h),fun h=>(by cases h)⟩
theorem MapJ.still {p q s:Nat} {F:Int→Option Int} {l:Nat→Bool} {f:Nat→Value} {w w':World} (h:MapJ p q s F l f w) (i:Nat) (d:Option Nat) (v:Value) (hb:Below w.heap.size w w') (hp:p≠i) (hq:q≠i) (hd:d≠some s) :
  MapJ p q s F (fun j=>j == i || l j) (fun s=>if d=some s then v else f s) w':=by
 have e2:(q == i || l q)=l q:=by simp [hq]
 have e3:(p == i || l p)=l p:=by simp [hp]
 refine ⟨fun hl=>?_,fun hl=>?_⟩
 · simp only [e3] at hl
   obtain ⟨m,e,hm⟩:=h.1 hl
   refine ⟨m,by simp only [if_neg hd];exact e,?_⟩
   simp only [e2];exact hm.below hb
 · simp only [e2] at hl;simp only [e3];exact h.2 hl
theorem MapJ.make {p q s:Nat} {F:Int→Option Int} {l:Nat→Bool} {f:Nat→Value} {w w':World} (h:MapJ p q s F l f w) (m:Nat) (hm:MapF w' m 0 (fun _=>none)) (hpq:q≠p) (hlp:l p=false) :
  MapJ p q s F (fun j=>j == p || l j) (fun t=>if some s=some t then .map (some m) else f t) w':=by
 have hlq:l q=false:=by
  cases e:l q with
  | false=>rfl
  | true=>rw [h.2 e] at hlp;cases hlp
 have e2:(q == p || l q)=false:=by simp [hpq,hlq]
 refine ⟨fun _=>⟨m,by simp,?_⟩,fun hl=>by simp only [e2] at hl;cases hl⟩
 simp only [e2];exact hm
theorem MapJ.write {p q s:Nat} {F:Int→Option Int} {l:Nat→Bool} {f:Nat→Value} {w':World} (v:Value) (m:Nat) (he:f s = .map (some m)) (hm:MapF w' m 1 F) (hlp:l p=true) :
  MapJ p q s F (fun j=>j == q || l j) (fun t=>if none=some t then v else f t) w':=by
 refine ⟨fun _=>⟨m,by simpa using he,?_⟩,fun _=>by simp [hlp]⟩
 simp only [beq_self_eq_true,Bool.true_or,if_true];exact hm
def BoxJ (w0:World) (p s s1 s2 s3 s4:Nat) (js:List Nat) (l:Nat→Bool) (f:Nat→Value) (w:World):Prop :=
 l p=true→(∀ j∈js,l j=true)∧∃ Z,f s = .pointer (some ⟨Z,0,none⟩)∧w0.heap.size≤Z∧IxAt w Z (f s1) (f s2) (f s3) (f s4)∧blk (f s1)≠some Z∧blk (f s2)≠some Z∧blk (f s3)≠some Z∧blk (f s4)≠some Z
theorem BoxJ.nothing (w0:World) (p s s1 s2 s3 s4:Nat) (js:List Nat) (f:Nat→Value) (w:World):BoxJ w0 p s s1 s2 s3 s4 js (fun _=>false) f w:=fun h=>by cases h
theorem BoxJ.still {w0 w w':World} {p s s1 s2 s3 s4:Nat} {js:List Nat} {l:Nat→Bool} {f:Nat→Value} (h:BoxJ w0 p s s1 s2 s3 s4 js l f w) (i:Nat) (d:Option Nat) (v:Value) (hb:Below w.heap.size w w') (hli:l i=false) (hp:p≠i) (h0:d≠some s) (hd:(i∈js)∨(d≠some s1∧d≠some s2∧d≠some s3∧d≠some s4)) :
  BoxJ w0 p s s1 s2 s3 s4 js (fun j=>j == i || l j) (fun t=>if d=some t then v else f t) w':=by
 intro hl
 have hl':l p=true:=by simpa [hp] using hl
 obtain ⟨hj,Z,e,hz,hg,k1,k2,k3,k4⟩:=h hl'
 rcases hd with hd | ⟨h1,h2,h3,h4⟩
 · rw [hj i hd] at hli;cases hli
 refine ⟨fun j hjj=>by simp [hj j hjj],Z,by simp only [if_neg h0];exact e,hz,?_⟩
 simp only [if_neg h1,if_neg h2,if_neg h3,if_neg h4]
 exact ⟨hg.below hb,k1,k2,k3,k4⟩
theorem BoxJ.turn {w0 w w':World} {p s s1 s2 s3 s4:Nat} {js:List Nat} {l:Nat→Bool} {f:Nat→Value} (h:BoxJ w0 p s s1 s2 s3 s4 js l f w) (i:Nat) (v:Value) (m:Nat) (hg:w.grownBy w' (some m)) (hp:p≠i) (hm:blk (f s4)=some m) :
  BoxJ w0 p s s1 s2 s3 s4 js (fun j=>j == i || l j) (fun t=>if none=some t then v else f t) w':=by
 intro hl
 have hl':l p=true:=by simpa [hp] using hl
 obtain ⟨hj,Z,e,hz,hgA,k1,k2,k3,k4⟩:=h hl'
 simp only [reduceCtorEq,if_false]
 exact ⟨fun j hjj=>by simp [hj j hjj],Z,e,hz,hgA.grown hg (fun e2=>by injection e2 with e2;exact k4 (by rw [hm,e2])),k1,k2,k3,k4⟩
theorem BoxJ.make {w0 w':World} {p s s1 s2 s3 s4:Nat} {js:List Nat} {l:Nat→Bool} {f:Nat→Value} (Z:Nat) (hz:w0.heap.size≤Z) (hg:IxAt w' Z (f s1) (f s2) (f s3) (f s4)) (k1:blk (f s1)≠some Z) (k2:blk (f s2)≠some Z) (k3:blk (f s3)≠some Z) (k4:blk (f s4)≠some Z)
  (hj:∀ j∈js,l j=true) (h1:s≠s1) (h2:s≠s2) (h3:s≠s3) (h4:s≠s4) :
  BoxJ w0 p s s1 s2 s3 s4 js (fun j=>j == p || l j) (fun t=>if some s=some t then .pointer (some ⟨Z,0,none⟩) else f t) w':=by
 intro _
 have e1:∀ x,s≠x→¬ (some s=some x):=fun x hx e=>hx (by simpa using e)
 refine ⟨fun j hjj=>by simp [hj j hjj],Z,by simp,hz,?_⟩
 simp only [if_neg (e1 _ h1),if_neg (e1 _ h2),if_neg (e1 _ h3),if_neg (e1 _ h4)]
 exact ⟨hg,k1,k2,k3,k4⟩
theorem Deps2.stepN {D:List DepT2} {l:Nat→Bool} {f:Nat→Value} (h:Deps2 D l f) (i:Nat) (v:Value) (hD:∀ t∈D,t.op≠i):Deps2 D (fun j=>j == i || l j) (fun s=>if none=some s then v else f s):=by
 intro t ht hl
 have hl':l t.op=true:=by simpa [hD t ht] using hl
 obtain ⟨h1,h2⟩:=h t ht hl'
 simp only [reduceCtorEq,if_false]
 exact ⟨fun r hr=>by simp [h1 r hr],h2⟩
end Go.Proofs.YtpnjgmgmakmgeaaGreat
