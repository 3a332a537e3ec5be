/- Texts of ours that stand together: RegionJoint, RegionFacts, RegionLight, RegionPick, RegionInit -/
import Derived.Test.YtpnjgmgmakmgeaaGreatCore
/- A region that draws its order,told by ONE word on what is done,what the slots hold and the world: it is walked operation by operation,in no order. -/
namespace Go.Proofs.YtpnjgmgmakmgeaaGreat
open Go.RowKit
section
variable {P:Program} {ops:Array Oper} {Q:Exit→Act→World→Prop}
def aftersOf (o:Oper):List Nat:=o.after.toList.filterMap fun e=>if Region.binds .any e then some e.on else none
def JointOk (P:Program) (ops:Array Oper) (Q:Exit→Act→World→Prop) (J:(Nat→Bool)→(Nat→Value)→World→Prop) (l0:List Value) (ds:List Nat) (i:Nat):Prop :=
 ∀ o,ops[i]? = some o→∀ (l:Nat→Bool) (f:Nat→Value) (w:World),J l f w→l i=false→(∀ j∈aftersOf o,l j=true)→∀ K:Act→World→Prop,
  (∀ (v:Value) (w':World),J (fun j=>j == i || l j) (fun s=>if o.dst=some s then v else f s) w'→K (Act.put { tmps:=(mixF f ds 0 l0).toArray,defers:=[] } o.dst v) w') →
  if Region.wanted o (yielded ops (mixF f ds 0 l0).toArray)=true then Oper.wp P o { tmps:=(mixF f ds 0 l0).toArray,defers:=[] } w K Q else K (Act.put { tmps:=(mixF f ds 0 l0).toArray,defers:=[] } o.dst undef) w
theorem wp_region_joint {id:Nat} {l0:List Value} {w0:World} (hm:P.follows .mixedOrders=true)
  (J:(Nat→Bool)→(Nat→Value)→World→Prop) (ds:List Nat) (hds:dstsOf ops=ds)
  (hbk:edgesBack ops=true) (hfit:dstsFit ops l0.length=true)
  (h0:∀ f,J (fun _=>false) f w0.drew)
  (hstep:∀ i,i < ops.size→JointOk P ops Q J l0 ds i)
  (hend:∀ (l:Nat→Bool) (f:Nat→Value) w,(∀ i,i < ops.size→l i=true)→J l f w→Q .normal { tmps:=(mixF f ds 0 l0).toArray,defers:=[] } w) :
  (Code.region id ops true).wp P Q { tmps:=l0.toArray,defers:=[] } w0:=by
 subst hds
 have hfin:∀ (listed:Array Bool) (a:Act) (w:World),listed.size=ops.size→(∀ (i:Nat) (o:Oper),ops[i]? = some o→listed.getD i true=true)→Fr { tmps:=l0.toArray,defers:=[] } ops a→J (fun i=>listed.getD i false) (fun s=>a.tmps.getD s undef) w→Q .normal a w:=by
  intro listed a w hs hall hF hJ
  rw [frame_mix hF]
  refine hend _ _ w (fun i hi=>?_) hJ
  have:=hall i _ (Array.getElem?_eq_getElem hi)
  have hi':i < listed.size:=by omega
  simpa [Array.getD_eq_getD_getElem?,Array.getElem?_eq_getElem hi'] using this
 have main:∀ (fuel:Nat) (listed:Array Bool) (a:Act) (w:World),listed.size=ops.size→leftOps ops listed≤fuel→Fr { tmps:=l0.toArray,defers:=[] } ops a→J (fun i=>listed.getD i false) (fun s=>a.tmps.getD s undef) w→wpAny P .any ops Q fuel listed a w:=by
  intro fuel
  induction fuel with
  | zero =>
   intro listed a w hs hf hF hJ
   have hall:∀ (i:Nat) (o:Oper),ops[i]? = some o→listed.getD i true=true:=by
    intro i o ho
    cases hl:listed.getD i true with
    | true=>rfl
    | false =>
     have:i∈(List.range ops.size).filter fun i=>!listed.getD i true:=List.mem_filter.2 ⟨List.mem_range.2 (Array.getElem?_eq_some_iff.1 ho).1,by simp [hl]⟩
     have:=List.length_pos_of_mem this
     unfold leftOps at hf
     omega
   refine ⟨?_,hfin listed a w hs hall hF hJ⟩
   cases hr:Region.ready .any ops listed with
   | nil=>rfl
   | cons x xs =>
    have hx:x∈Region.ready .any ops listed:=by rw [hr];simp
    obtain ⟨hl,o,ho,_⟩:=mem_ready.1 hx
    rw [hall x o ho] at hl;cases hl
  | succ fuel ih =>
   intro listed a w hs hf hF hJ
   refine ⟨fun hr=>?_,fun i hi=>?_⟩
   · refine hfin listed a w hs (fun i o ho=>?_) hF hJ
     cases hl:listed.getD i true with
     | true=>rfl
     | false=>exact absurd hr (ready_some hbk listed i o ho hl)
   · obtain ⟨hl,o,ho,haft⟩:=mem_ready.1 hi
     have hio:i < ops.size:=(Array.getElem?_eq_some_iff.1 ho).1
     have hil:i < listed.size:=by omega
     have hlf:listed.getD i false=false:=by
      simpa [Array.getD_eq_getD_getElem?,Array.getElem?_eq_getElem hil] using hl
     have ha:=frame_mix hF
     have hst:=hstep i hio o ho (fun i=>listed.getD i false) (fun s=>a.tmps.getD s undef) w hJ hlf (fun j hj=>by
      obtain ⟨e,he,hej⟩:=List.mem_filterMap.1 hj
      split at hej
      · rename_i hb
        simp only [Option.some.injEq] at hej
        subst hej
        exact haft e (by simpa using he) hb
      · cases hej)
     rw [← ha] at hst
     refine wpOp_mono ?_ (wpOp_step (Q:=Q) (K:=fun a' w'=>∃ v,a'=a.put o.dst v∧J (fun j=>j == i || listed.getD j false) (fun s=>if o.dst=some s then v else a.tmps.getD s undef) w') ho fun K' hK=>by
      have:=hst K' (fun v w' hJ'=>hK _ w' ⟨v,rfl,hJ'⟩)
      have hta:(mixF (fun s=>a.tmps.getD s undef) (dstsOf ops) 0 l0).toArray=a.tmps:=by
       have:=congrArg Act.tmps ha
       exact this.symm
      rw [hta] at this
      exact this)
     rintro a' w' ⟨v,rfl,hJ'⟩
     refine ih _ _ _ (by simpa using hs) ?_ (hF.put ho v) ?_
     · have:leftOps ops (listed.setIfInBounds i true) < leftOps ops listed:=by
        unfold leftOps
        refine filter_length_lt _ _ _ (fun x _ hx=>?_) ⟨i,List.mem_range.2 hio,by simp [hl],?_⟩
        · by_cases hxi:i=x
          · subst hxi;simp [hl]
          · rw [getD_set_ne true hxi] at hx;exact hx
        · simp [hil]
       omega
     · have e1:(fun j=>(listed.setIfInBounds i true).getD j false)=fun j=>j == i || listed.getD j false:=by
        funext j
        by_cases hji:i=j
        · subst hji
          simp [Array.getD_eq_getD_getElem?,hil]
        · rw [getD_set_ne false hji]
          have:(j == i)=false:=by simp;omega
          simp [this]
       have e2:(fun s=>(a.put o.dst v).tmps.getD s undef)=fun s=>if o.dst=some s then v else a.tmps.getD s undef:=by
        funext s
        cases hod:o.dst with
        | none=>simp [Act.put]
        | some d =>
         have hdn:d < a.tmps.size:=by
          rw [hF.2.1]
          have:=dstsFit_spec hfit i o d ho hod
          simpa using this
         by_cases hds:d=s
         · subst hds;simp [Act.put,hdn]
         · have:¬ (some d=some s):=by simpa using hds
           rw [if_neg this]
           simp [Act.put,Array.getD_eq_getD_getElem?,Array.getElem?_setIfInBounds_ne hds]
       rw [e1,e2];exact hJ'
 refine wp_region_any hm (main ops.size _ _ _ (by simp) ?_ (Fr.refl _) ?_)
 · unfold leftOps;exact Nat.le_trans (List.length_filter_le _ _) (by simp)
 · have e:(fun i=>(Array.replicate ops.size false).getD i false)=fun _=>false:=by
    funext i
    by_cases hi:i < ops.size <;> simp [Array.getD_eq_getD_getElem?,hi]
   rw [e];exact h0 _
end
def Vals (T:List (Nat × Nat × Value)) (l:Nat→Bool) (f:Nat→Value):Prop:=∀ t∈T,l t.1=true→f t.2.1=t.2.2
theorem Vals.nothing (T:List (Nat × Nat × Value)) (f:Nat→Value):Vals T (fun _=>false) f:=fun t _ h=>by cases h
theorem Vals.step {T:List (Nat × Nat × Value)} {l:Nat→Bool} {f:Nat→Value} (h:Vals T l f) (i d:Nat) (v:Value) (hT:∀ t∈T,(t.1=i→t.2.1=d∧t.2.2=v)∧(t.1≠i→t.2.1≠d)) :
  Vals T (fun j=>j == i || l j) (fun s=>if some d=some s then v else f s):=by
 intro t ht hl
 obtain ⟨h1,h2⟩:=hT t ht
 by_cases hi:t.1=i
 · obtain ⟨e1,e2⟩:=h1 hi
   simp only [e1,if_true]
   exact e2.symm
 · have hne:¬ (some d=some t.2.1):=fun e=>h2 hi (by simpa using e.symm)
   simp only [if_neg hne]
   refine h t ht ?_
   simpa [hi] using hl
set_option linter.unusedVariables false
structure Sta where
 own:World→Value→Prop
 keep:∀ {w w':World} {x:Value},own w x→Below w.heap.size w w'→own w' x
def Sta.ints (l:List Int):Sta:=⟨fun w x=>∃ a c,x = .slice a l.length c∧RowI w a l.length l,fun ⟨a,c,e,r⟩ hb=>⟨a,c,e,r.below hb⟩⟩
def Facts (w0:World) (R:List (Nat × Nat × Sta)) (l:Nat→Bool) (f:Nat→Value) (w:World):Prop :=
 Below w0.heap.size w0 w∧∀ t∈R,l t.1=true→t.2.2.own w (f t.2.1)
theorem Facts.nothing (w0:World) (R:List (Nat × Nat × Sta)) (f:Nat→Value):Facts w0 R (fun _=>false) f w0.drew:=⟨(Below.refl _ _).drew,fun _ _ h=>by cases h⟩
theorem Facts.step {w0 w w':World} {R:List (Nat × Nat × Sta)} {l:Nat→Bool} {f:Nat→Value} (h:Facts w0 R l f w) (i d:Nat) (v:Value) (hb:Below w.heap.size w w')
  (hR:∀ t∈R,(t.1=i→t.2.1=d∧t.2.2.own w' v)∧(t.1≠i→t.2.1≠d)):Facts w0 R (fun j=>j == i || l j) (fun s=>if some d=some s then v else f s) w':=by
 refine ⟨h.1.trans (hb.mono h.1.size),fun t ht hl=>?_⟩
 obtain ⟨h1,h2⟩:=hR t ht
 by_cases hi:t.1=i
 · obtain ⟨e1,e2⟩:=h1 hi
   simp only [e1,if_true]
   exact e2
 · have hne:¬ (some d=some t.2.1):=fun e=>h2 hi (by simpa using e.symm)
   simp only [if_neg hne]
   exact t.2.2.keep (h.2 t ht (by simpa [hi] using hl)) hb
theorem Vals.stepN {T:List (Nat × Nat × Value)} {l:Nat→Bool} {f:Nat→Value} (h:Vals T l f) (i:Nat) (v:Value) (hT:∀ t∈T,t.1≠i) :
  Vals T (fun j=>j == i || l j) (fun s=>if none=some s then v else f s):=by
 intro t ht hl
 have hne:¬ (none=some t.2.1):=by simp
 simp only [if_neg hne]
 refine h t ht ?_
 simpa [hT t ht] using hl
def FactsL (w0:World) (R:List (Nat × Nat × Sta)) (m n:Nat) (Fin:World→Prop) (l:Nat→Bool) (f:Nat→Value) (w:World):Prop :=
 (l m=false→Facts w0 R l f w)∧(l m=true→(∀ i,i < n→l i=true)∧Fin w)
theorem FactsL.nothing (w0:World) (R:List (Nat × Nat × Sta)) (m n:Nat) (Fin:World→Prop) (f:Nat→Value):FactsL w0 R m n Fin (fun _=>false) f w0.drew:=⟨fun _=>Facts.nothing _ _ _,fun h=>by cases h⟩
theorem FactsL.now {w0 w:World} {R:List (Nat × Nat × Sta)} {m n:Nat} {Fin:World→Prop} {l:Nat→Bool} {f:Nat→Value} (h:FactsL w0 R m n Fin l f w) {i:Nat} (hi:i < n) (hli:l i=false):Facts w0 R l f w:=by
 refine h.1 ?_
 cases hm:l m with
 | false=>rfl
 | true=>rw [(h.2 hm).1 i hi] at hli;cases hli
theorem FactsL.step {w0 w w':World} {R:List (Nat × Nat × Sta)} {m n:Nat} {Fin:World→Prop} {l:Nat→Bool} {f:Nat→Value} (h:FactsL w0 R m n Fin l f w) (i d:Nat) (v:Value) (hi:i < n) (hli:l i=false) (him:m≠i) (hb:Below w.heap.size w w')
  (hR:∀ t∈R,(t.1=i→t.2.1=d∧t.2.2.own w' v)∧(t.1≠i→t.2.1≠d)):FactsL w0 R m n Fin (fun j=>j == i || l j) (fun s=>if some d=some s then v else f s) w':=by
 have hn:=h.now hi hli
 refine ⟨fun _=>hn.step i d v hb hR,fun hm=>?_⟩
 have:l m=true:=by simpa [him] using hm
 have hl:=(h.2 this).1 i hi
 rw [hli] at hl;cases hl
theorem FactsL.last {w0:World} {w':World} {R:List (Nat × Nat × Sta)} {m n:Nat} {Fin:World→Prop} {l:Nat→Bool} {g:Nat→Value} (hall:∀ i,i < n→i≠m→l i=true) (hF:Fin w'):FactsL w0 R m n Fin (fun j=>j == m || l j) g w':=by
 refine ⟨fun h=>by simp at h,fun _=>⟨fun i hi=>?_,hF⟩⟩
 by_cases e:i=m
 · simp [e]
 · simp [hall i hi e]
section
variable {P:Program} {ops:Array Oper} {Q:Exit→Act→World→Prop}
def LightOk (P:Program) (ops:Array Oper) (Q:Exit→Act→World→Prop) (J:(Nat→Bool)→(Nat→Value)→World→Prop) (l0:List Value) (N:Nat) (ds:List Nat) (i:Nat):Prop :=
 ∀ o,ops[i]? = some o→∀ (l:Nat→Bool) (f:Nat→Value) (w:World) (A:Act),J l f w→l i=false→(∀ j∈aftersOf o,l j=true)→(∀ s,s < N→A.tmps.getD s undef=if ds.contains s then f s else l0.getD s undef)→∀ K:Act→World→Prop,
  (∀ (v:Value) (w':World),J (fun j=>j == i || l j) (fun s=>if o.dst=some s then v else f s) w'→K (A.put o.dst v) w') →
  if Region.wanted o (yielded ops A.tmps)=true then Oper.wp P o A w K Q else K (A.put o.dst undef) w
theorem wp_region_light {id:Nat} {l0:List Value} {w0:World} (hm:P.follows .mixedOrders=true)
  (J:(Nat→Bool)→(Nat→Value)→World→Prop) (N:Nat) (hN:l0.length=N) (ds:List Nat) (hds:dstsOf ops=ds)
  (hbk:edgesBack ops=true) (hfit:dstsFit ops N=true)
  (h0:∀ f,J (fun _=>false) f w0.drew)
  (hstep:∀ i,i < ops.size→LightOk P ops Q J l0 N ds i)
  (hend:∀ (l:Nat→Bool) (f:Nat→Value) w,(∀ i,i < ops.size→l i=true)→J l f w→Q .normal { tmps:=(mixF f ds 0 l0).toArray,defers:=[] } w) :
  (Code.region id ops true).wp P Q { tmps:=l0.toArray,defers:=[] } w0:=by
 subst hN
 refine wp_region_joint hm J ds hds hbk hfit h0 (fun i hi o ho l f w hJ hli ha K hK=>?_) hend
 refine hstep i hi o ho l f w _ hJ hli ha (fun s hs=>?_) K hK
 rw [Array.getD_eq_getD_getElem?,List.getElem?_toArray,mixF_get f ds l0 0 s hs,Nat.zero_add]
 rfl
end
theorem slot_in {A:Act} {ds:List Nat} {f:Nat→Value} {l0:List Value} {N:Nat} (h:∀ s,s < N→A.tmps.getD s undef=if ds.contains s then f s else l0.getD s undef) (s:Nat) (hs:s < N) (hd:ds.contains s=true) {v:Value} (hv:f s=v):A.tmps.getD s undef=v:=by
 rw [h s hs,if_pos hd,hv]
theorem si {A:Act} {ds:List Nat} {f:Nat→Value} {l0:List Value} {N:Nat} (h:∀ s,s < N→A.tmps.getD s undef=if ds.contains s then f s else l0.getD s undef) (s:Nat) {v:Value} (hv:f s=v) (hs:s < N:=by decide) (hd:ds.contains s=true:=by decide):A.tmps.getD s undef=v:=slot_in h s hs hd hv
theorem slot_out {A:Act} {ds:List Nat} {f:Nat→Value} {l0:List Value} {N:Nat} (h:∀ s,s < N→A.tmps.getD s undef=if ds.contains s then f s else l0.getD s undef) (s:Nat) (v:Value) (hs:s < N) (hd:ds.contains s=false) (hv:l0.getD s undef=v):A.tmps.getD s undef=v:=by
 rw [h s hs,if_neg (by rw [hd];simp),hv]
theorem slot_get {A:Act} {s:Nat} {v:Value} (h:A.tmps.getD s undef=v):A.tmps[s]?.getD undef=v:=by
 rw [← Array.getD_eq_getD_getElem?];exact h
theorem sj {A:Act} {ds:List Nat} {f:Nat→Value} {l0:List Value} {N:Nat} (h:∀ s,s < N→A.tmps.getD s undef=if ds.contains s then f s else l0.getD s undef) (s:Nat) {v:Value} (hv:f s=v) (hs:s < N:=by decide) (hd:ds.contains s=true:=by decide):A.tmps[s]?.getD undef=v:=slot_get (slot_in h s hs hd hv)
theorem so {A:Act} {ds:List Nat} {f:Nat→Value} {l0:List Value} {N:Nat} (h:∀ s,s < N→A.tmps.getD s undef=if ds.contains s then f s else l0.getD s undef) (s:Nat) (v:Value) (hv:l0.getD s undef=v) (hs:s < N:=by decide) (hd:ds.contains s=false:=by decide):A.tmps[s]?.getD undef=v:=slot_get (slot_out h s v hs hd hv)
def onlyV (T:List (Nat × Nat × Value)) (i d:Nat):Bool:=T.all fun t=>(t.1 == i) == (t.2.1 == d)
def onceV:List (Nat × Nat × Value)→Bool
 | []=>true
 | t :: r=>r.all (fun u=>u.1 != t.1) && onceV r
theorem onceV_eq {T:List (Nat × Nat × Value)} (h:onceV T=true) {t u:Nat × Nat × Value} (ht:t∈T) (hu:u∈T) (e:t.1=u.1):t=u:=by
 induction T with
 | nil=>cases ht
 | cons x r ih =>
  simp only [onceV,Bool.and_eq_true,List.all_eq_true,bne_iff_ne] at h
  rcases List.mem_cons.1 ht with ht | ht
  · subst ht
    rcases List.mem_cons.1 hu with hu | hu
    · exact hu.symm
    · exact absurd e.symm (h.1 u hu)
  · rcases List.mem_cons.1 hu with hu | hu
    · rw [hu] at e;exact absurd e (h.1 t ht)
    · exact ih h.2 ht hu
theorem Vals.put {T:List (Nat × Nat × Value)} {l:Nat→Bool} {f:Nat→Value} (h:Vals T l f) (k i d:Nat) {v:Value} (hk:T[k]? = some (i,d,v)) (h1:onceV T=true) (h2:onlyV T i d=true) :
  Vals T (fun j=>j == i || l j) (fun s=>if some d=some s then v else f s):=by
 have hm:=List.mem_of_getElem? hk
 refine h.step i d v (fun t ht=>⟨fun e=>?_,fun e e2=>?_⟩)
 · have:=onceV_eq h1 ht hm e
   subst this;exact ⟨rfl,rfl⟩
 · have:=List.all_eq_true.1 h2 t ht
   have e1:(t.1 == i)=false:=by simpa using e
   rw [e1,e2] at this
   simp at this
theorem Facts.nil {w0 w:World} {l l':Nat→Bool} {f f':Nat→Value} (h:Facts w0 [] l f w):Facts w0 [] l' f' w:=⟨h.1,fun t ht=>(by cases ht)⟩
theorem slot_bool {A:Act} {s:Nat} {b:Bool} (h:A.tmps.getD s undef = .bool b):A.tmps[s]? = some (.bool b):=by
 rw [Array.getD_eq_getD_getElem?] at h
 cases e:A.tmps[s]? with
 | none=>rw [e] at h;cases h
 | some v=>rw [e] at h;exact congrArg some h
theorem slot_eval {A:Act} {s:Nat} {v:Value} (h:A.tmps.getD s undef=v):A.eval (.tmp s)=v:=h
def PickW (S0 S1:World→Prop) (l:Nat→Bool) (w:World):Prop:=(l 1=false→(∀ i,1≤i→l i=false)∧S0 w)∧(l 1=true→S1 w)
theorem PickW.nothing {S0 S1:World→Prop} {w:World} (h:S0 w):PickW S0 S1 (fun _=>false) w:=⟨fun _=>⟨fun _ _=>rfl,h⟩,fun h=>by cases h⟩
theorem PickW.now {S0 S1:World→Prop} {l:Nat→Bool} {w:World} (h:PickW S0 S1 l w) {j:Nat} (hj:l j=true) (h1:1≤j):l 1=true:=by
 cases e:l 1 with
 | true=>rfl
 | false=>rw [(h.1 e).1 j h1] at hj;cases hj
theorem PickW.still {S0 S1:World→Prop} {l:Nat→Bool} {w:World} (h:PickW S0 S1 l w) (i:Nat) (hi:i≠1) (hl:i=0∨l 1=true):PickW S0 S1 (fun j=>j == i || l j) w:=by
 have e1:(1 == i)=false:=by simpa using fun e=>hi e.symm
 refine ⟨fun h1=>?_,fun h1=>h.2 (by simpa [e1] using h1)⟩
 simp only [e1,Bool.false_or] at h1
 rcases hl with rfl | hl
 · refine ⟨fun k hk=>?_,(h.1 h1).2⟩
   have:(k == 0)=false:=by simp;omega
   simp only [this,Bool.false_or];exact (h.1 h1).1 k hk
 · rw [hl] at h1;cases h1
theorem PickW.pick {S0 S1:World→Prop} {l:Nat→Bool} {w:World} (h:S1 w):PickW S0 S1 (fun j=>j == 1 || l j) w:=⟨fun h=>by simp at h,fun _=>h⟩
theorem PickW.call {S0 S1:World→Prop} {l:Nat→Bool} {w:World} (i:Nat) (hi:i≠1) (hl:l 1=true) (h:S1 w):PickW S0 S1 (fun j=>j == i || l j) w:=⟨fun h1=>by simp [hl] at h1,fun _=>h⟩
theorem Vals.first {T:List (Nat × Nat × Value)} {s:Nat} {v:Value} {l:Nat→Bool} {f:Nat→Value} (hall:∀ i,1≤i→l i=false) (h:l 0=true→f s=v) (hT:∀ t∈T,t.1=0→t.2.1=s∧t.2.2=v):Vals T l f:=by
 intro t ht hl
 by_cases h0:t.1=0
 · obtain ⟨e1,e2⟩:=hT t ht h0
   rw [e1,e2];rw [h0] at hl;exact h hl
 · rw [hall t.1 (by omega)] at hl;cases hl
section
variable {P:Program} {ops:Array Oper} {Q:Exit→Act→World→Prop}
theorem wp_region_jointI {id:Nat} {l0:List Value} {w0:World} (hm:P.follows .mixedOrders=true)
  (J:(Nat→Bool)→(Nat→Value)→World→Prop) (ds:List Nat) (hds:dstsOf ops=ds)
  (hbk:edgesBack ops=true) (hfit:dstsFit ops l0.length=true)
  (h0:∀ f,(∀ s,f s=l0.getD s undef)→J (fun _=>false) f w0.drew)
  (hstep:∀ i,i < ops.size→JointOk P ops Q J l0 ds i)
  (hend:∀ (l:Nat→Bool) (f:Nat→Value) w,(∀ i,i < ops.size→l i=true)→J l f w→Q .normal { tmps:=(mixF f ds 0 l0).toArray,defers:=[] } w) :
  (Code.region id ops true).wp P Q { tmps:=l0.toArray,defers:=[] } w0:=by
 subst hds
 have hfin:∀ (listed:Array Bool) (a:Act) (w:World),listed.size=ops.size→(∀ (i:Nat) (o:Oper),ops[i]? = some o→listed.getD i true=true)→Fr { tmps:=l0.toArray,defers:=[] } ops a→J (fun i=>listed.getD i false) (fun s=>a.tmps.getD s undef) w→Q .normal a w:=by
  intro listed a w hs hall hF hJ
  rw [frame_mix hF]
  refine hend _ _ w (fun i hi=>?_) hJ
  have:=hall i _ (Array.getElem?_eq_getElem hi)
  have hi':i < listed.size:=by omega
  simpa [Array.getD_eq_getD_getElem?,Array.getElem?_eq_getElem hi'] using this
 have main:∀ (fuel:Nat) (listed:Array Bool) (a:Act) (w:World),listed.size=ops.size→leftOps ops listed≤fuel→Fr { tmps:=l0.toArray,defers:=[] } ops a→J (fun i=>listed.getD i false) (fun s=>a.tmps.getD s undef) w→wpAny P .any ops Q fuel listed a w:=by
  intro fuel
  induction fuel with
  | zero =>
   intro listed a w hs hf hF hJ
   have hall:∀ (i:Nat) (o:Oper),ops[i]? = some o→listed.getD i true=true:=by
    intro i o ho
    cases hl:listed.getD i true with
    | true=>rfl
    | false =>
     have:i∈(List.range ops.size).filter fun i=>!listed.getD i true:=List.mem_filter.2 ⟨List.mem_range.2 (Array.getElem?_eq_some_iff.1 ho).1,by simp [hl]⟩
     have:=List.length_pos_of_mem this
     unfold leftOps at hf
     omega
   refine ⟨?_,hfin listed a w hs hall hF hJ⟩
   cases hr:Region.ready .any ops listed with
   | nil=>rfl
   | cons x xs =>
    have hx:x∈Region.ready .any ops listed:=by rw [hr];simp
    obtain ⟨hl,o,ho,_⟩:=mem_ready.1 hx
    rw [hall x o ho] at hl;cases hl
  | succ fuel ih =>
   intro listed a w hs hf hF hJ
   refine ⟨fun hr=>?_,fun i hi=>?_⟩
   · refine hfin listed a w hs (fun i o ho=>?_) hF hJ
     cases hl:listed.getD i true with
     | true=>rfl
     | false=>exact absurd hr (ready_some hbk listed i o ho hl)
   · obtain ⟨hl,o,ho,haft⟩:=mem_ready.1 hi
     have hio:i < ops.size:=(Array.getElem?_eq_some_iff.1 ho).1
     have hil:i < listed.size:=by omega
     have hlf:listed.getD i false=false:=by
      simpa [Array.getD_eq_getD_getElem?,Array.getElem?_eq_getElem hil] using hl
     have ha:=frame_mix hF
     have hst:=hstep i hio o ho (fun i=>listed.getD i false) (fun s=>a.tmps.getD s undef) w hJ hlf (fun j hj=>by
      obtain ⟨e,he,hej⟩:=List.mem_filterMap.1 hj
      split at hej
      · rename_i hb
        simp only [Option.some.injEq] at hej
        subst hej
        exact haft e (by simpa using he) hb
      · cases hej)
     rw [← ha] at hst
     refine wpOp_mono ?_ (wpOp_step (Q:=Q) (K:=fun a' w'=>∃ v,a'=a.put o.dst v∧J (fun j=>j == i || listed.getD j false) (fun s=>if o.dst=some s then v else a.tmps.getD s undef) w') ho fun K' hK=>by
      have:=hst K' (fun v w' hJ'=>hK _ w' ⟨v,rfl,hJ'⟩)
      have hta:(mixF (fun s=>a.tmps.getD s undef) (dstsOf ops) 0 l0).toArray=a.tmps:=by
       have:=congrArg Act.tmps ha
       exact this.symm
      rw [hta] at this
      exact this)
     rintro a' w' ⟨v,rfl,hJ'⟩
     refine ih _ _ _ (by simpa using hs) ?_ (hF.put ho v) ?_
     · have:leftOps ops (listed.setIfInBounds i true) < leftOps ops listed:=by
        unfold leftOps
        refine filter_length_lt _ _ _ (fun x _ hx=>?_) ⟨i,List.mem_range.2 hio,by simp [hl],?_⟩
        · by_cases hxi:i=x
          · subst hxi;simp [hl]
          · rw [getD_set_ne true hxi] at hx;exact hx
        · simp [hil]
       omega
     · have e1:(fun j=>(listed.setIfInBounds i true).getD j false)=fun j=>j == i || listed.getD j false:=by
        funext j
        by_cases hji:i=j
        · subst hji
          simp [Array.getD_eq_getD_getElem?,hil]
        · rw [getD_set_ne false hji]
          have:(j == i)=false:=by simp;omega
          simp [this]
       have e2:(fun s=>(a.put o.dst v).tmps.getD s undef)=fun s=>if o.dst=some s then v else a.tmps.getD s undef:=by
        funext s
        cases hod:o.dst with
        | none=>simp [Act.put]
        | some d =>
         have hdn:d < a.tmps.size:=by
          rw [hF.2.1]
          have:=dstsFit_spec hfit i o d ho hod
          simpa using this
         by_cases hds:d=s
         · subst hds;simp [Act.put,hdn]
         · have:¬ (some d=some s):=by simpa using hds
           rw [if_neg this]
           simp [Act.put,Array.getD_eq_getD_getElem?,Array.getElem?_setIfInBounds_ne hds]
       rw [e1,e2];exact hJ'
 refine wp_region_any hm (main ops.size _ _ _ (by simp) ?_ (Fr.refl _) ?_)
 · unfold leftOps;exact Nat.le_trans (List.length_filter_le _ _) (by simp)
 · have e:(fun i=>(Array.replicate ops.size false).getD i false)=fun _=>false:=by
    funext i
    by_cases hi:i < ops.size <;> simp [Array.getD_eq_getD_getElem?,hi]
   rw [e];exact h0 _ (fun s=>by rw [Array.getD_eq_getD_getElem?,List.getElem?_toArray,List.getD_eq_getElem?_getD])
theorem wp_region_lightI {id:Nat} {l0:List Value} {w0:World} (hm:P.follows .mixedOrders=true)
  (J:(Nat→Bool)→(Nat→Value)→World→Prop) (N:Nat) (hN:l0.length=N) (ds:List Nat) (hds:dstsOf ops=ds)
  (hbk:edgesBack ops=true) (hfit:dstsFit ops N=true)
  (h0:∀ f,(∀ s,f s=l0.getD s undef)→J (fun _=>false) f w0.drew)
  (hstep:∀ i,i < ops.size→LightOk P ops Q J l0 N ds i)
  (hend:∀ (l:Nat→Bool) (f:Nat→Value) w,(∀ i,i < ops.size→l i=true)→J l f w→Q .normal { tmps:=(mixF f ds 0 l0).toArray,defers:=[] } w) :
  (Code.region id ops true).wp P Q { tmps:=l0.toArray,defers:=[] } w0:=by
 subst hN
 refine wp_region_jointI hm J ds hds hbk hfit h0 (fun i hi o ho l f w hJ hli ha K hK=>?_) hend
 refine hstep i hi o ho l f w _ hJ hli ha (fun s hs=>?_) K hK
 rw [Array.getD_eq_getD_getElem?,List.getElem?_toArray,mixF_get f ds l0 0 s hs,Nat.zero_add]
 rfl
end
def Olds (T:List (Nat × Nat × Value)) (l:Nat→Bool) (f:Nat→Value):Prop:=∀ t∈T,l t.1=false→f t.2.1=t.2.2
theorem Olds.step {T:List (Nat × Nat × Value)} {l:Nat→Bool} {f:Nat→Value} (h:Olds T l f) (i d:Nat) (v:Value) (hT:∀ t∈T,t.1≠i→t.2.1≠d) :
  Olds T (fun j=>j == i || l j) (fun s=>if some d=some s then v else f s):=by
 intro t ht hl
 have hi:t.1≠i:=fun e=>by simp [e] at hl
 have hne:¬ (some d=some t.2.1):=fun e=>hT t ht hi (by simpa using e.symm)
 simp only [if_neg hne]
 exact h t ht (by simpa [hi] using hl)
def LastW (m:Nat) (l:Nat→Bool):Prop:=l m=true→∀ i,i < m→l i=true
theorem LastW.nothing (m:Nat):LastW m (fun _=>false):=fun h=>by cases h
theorem LastW.step {m:Nat} {l:Nat→Bool} (h:LastW m l) (i:Nat) (hi:m≠i):LastW m (fun j=>j == i || l j):=by
 intro hm k hk
 have:l m=true:=by simpa [hi] using hm
 simp [h this k hk]
theorem LastW.last {m:Nat} {l:Nat→Bool} (h:∀ i,i < m→l i=true):LastW m (fun j=>j == m || l j):=fun _ k hk=>by simp [h k hk]
theorem LastW.not {m:Nat} {l:Nat→Bool} (h:LastW m l) {i:Nat} (hi:i < m) (hl:l i=false):l m=false:=by
 cases e:l m with
 | false=>rfl
 | true=>rw [h e i hi] at hl;cases hl
end Go.Proofs.YtpnjgmgmakmgeaaGreat
