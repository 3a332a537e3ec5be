/- Texts of ours that stand together: RegionRows, SpecEng, SpecEng2 -/
import Derived.Test.YtaaffpolmecicabGreatSpecV
import Derived.Test.YtaaffpolmecicabGreatOwnG
import Derived.Test.YtaaffpolmecicabGreatEngM
import Derived.Test.YtaaffpolmecicabGreatRegJ
import Derived.Test.YtaaffpolmecicabGreatSpecX
import Derived.Deep.Cut
/- A region that draws its order and makes rows: a word for wp_region_light that tells which rows are there and that no two lie over one block (gen10/lightr.py). No function of the program is named here. -/
namespace Go.Proofs.YtaaffpolmecicabGreat
open Go.RowKit
set_option linter.unusedVariables false
structure RowT where
 op:Nat
 use:Option Nat
 slot:Nat
 e:TypeId
 size:Nat
 n:Nat
 cs:List Value
def RowT.live (l:Nat→Bool) (t:RowT):Bool:=l t.op && !(t.use.elim false l)
structure RowsJ (w0:World) (R:List RowT) (l:Nat→Bool) (f:Nat→Value) (w:World):Prop where
 below:Below w0.heap.size w0 w
 own:∀ t∈R,t.live l=true→w.ownsRow w0.heap.size t.e t.size (f t.slot) t.n t.cs
 apart:∀ t∈R,∀ u∈R,t.live l=true→u.live l=true→t.op≠u.op→∀ p,blk (f t.slot)=some p→blk (f u.slot)≠some p
theorem RowsJ.nothing (w0:World) (R:List RowT) (f:Nat→Value):RowsJ w0 R (fun _=>false) f w0.drew :=
 ⟨(Below.refl _ _).drew,fun t _ h=>by simp [RowT.live] at h,fun t _ u _ h=>by simp [RowT.live] at h⟩
theorem RowsJ.at {w0 w:World} {R:List RowT} {l:Nat→Bool} {f:Nat→Value} (h:RowsJ w0 R l f w) {t:RowT} (ht:t∈R) (hl:l t.op=true) (hu:t.use.elim false l=false):w.ownsRow w0.heap.size t.e t.size (f t.slot) t.n t.cs :=
 h.own t ht (by simp [RowT.live,hl,hu])
theorem live_step {l:Nat→Bool} {i:Nat} {t:RowT} (h1:t.op≠i) (h2:t.use≠some i):t.live (fun j=>j == i || l j)=t.live l:=by
 unfold RowT.live
 have e1:(t.op == i)=false:=by simpa using h1
 cases hu:t.use with
 | none=>simp [e1]
 | some u =>
  have e2:(u == i)=false:=by simp;intro e;exact h2 (by rw [hu,e])
  simp [e1,e2]
theorem RowsJ.still {w0 w w':World} {R:List RowT} {l:Nat→Bool} {f:Nat→Value} (h:RowsJ w0 R l f w) (i d:Nat) (v:Value) (hb:Below w.heap.size w w') (hR:∀ t∈R,(t.op≠i∧t.use≠some i)∧t.slot≠d) :
  RowsJ w0 R (fun j=>j == i || l j) (fun s=>if some d=some s then v else f s) w':=by
 have hs:∀ t∈R,(if some d=some t.slot then v else f t.slot)=f t.slot:=fun t ht=>if_neg (by simp;exact fun e=>(hR t ht).2 e.symm)
 refine ⟨h.below.trans (hb.mono h.below.size),fun t ht hl=>?_,fun t ht u hu hl hl2 hne=>?_⟩
 · rw [live_step (hR t ht).1.1 (hR t ht).1.2] at hl
   simp only [hs t ht]
   exact owns_below (h.own t ht hl) hb
 · rw [live_step (hR t ht).1.1 (hR t ht).1.2] at hl
   rw [live_step (hR u hu).1.1 (hR u hu).1.2] at hl2
   simp only [hs t ht,hs u hu]
   exact h.apart t ht u hu hl hl2 hne
theorem RowsJ.new {w0 w w':World} {R:List RowT} {l:Nat→Bool} {f:Nat→Value} (h:RowsJ w0 R l f w) (i d:Nat) (v:Value) (hb:Below w.heap.size w w')
  (hR:∀ t∈R,t.use≠some i∧(t.op=i→t.slot=d∧w'.ownsRow w.heap.size t.e t.size v t.n t.cs)∧(t.op≠i→t.slot≠d)) :
  RowsJ w0 R (fun j=>j == i || l j) (fun s=>if some d=some s then v else f s) w':=by
 have hs:∀ t∈R,t.op≠i→(if some d=some t.slot then v else f t.slot)=f t.slot:=fun t ht ho=>if_neg (by simp;exact fun e=>(hR t ht).2.2 ho e.symm)
 have hs2:∀ t∈R,t.op=i→(if some d=some t.slot then v else f t.slot)=v:=fun t ht ho=>if_pos (by rw [((hR t ht).2.1 ho).1])
 have hold:∀ t∈R,t.op≠i→t.live (fun j=>j == i || l j)=true→w.ownsRow w0.heap.size t.e t.size (f t.slot) t.n t.cs:=fun t ht ho hl=>by
  rw [live_step ho (hR t ht).1] at hl;exact h.own t ht hl
 refine ⟨h.below.trans (hb.mono h.below.size),fun t ht hl=>?_,fun t ht u hu hl hl2 hne=>?_⟩
 · by_cases ho:t.op=i
   · simp only [hs2 t ht ho]
     exact owns_mono ((hR t ht).2.1 ho).2 h.below.size
   · simp only [hs t ht ho]
     exact owns_below (hold t ht ho hl) hb
 · intro p hp hq
   by_cases ho:t.op=i
   · have ho2:u.op≠i:=fun e=>hne (by rw [ho,e])
     simp only [hs2 t ht ho] at hp
     simp only [hs u hu ho2] at hq
     have g1:=((hR t ht).2.1 ho).2
     have g2:=hold u hu ho2 hl2
     rw [owns_blk g1] at hp
     rw [owns_blk g2] at hq
     have:=(g1.lt p hp).1
     have:=(g2.lt p hq).2
     omega
   · by_cases ho2:u.op=i
     · simp only [hs t ht ho] at hp
       simp only [hs2 u hu ho2] at hq
       have g1:=((hR u hu).2.1 ho2).2
       have g2:=hold t ht ho hl
       rw [owns_blk g1] at hq
       rw [owns_blk g2] at hp
       have:=(g1.lt p hq).1
       have:=(g2.lt p hp).2
       omega
     · simp only [hs t ht ho] at hp
       simp only [hs u hu ho2] at hq
       rw [live_step ho (hR t ht).1] at hl
       rw [live_step ho2 (hR u hu).1] at hl2
       exact h.apart t ht u hu hl hl2 hne p hp hq
theorem RowsJ.repl {w0 w w':World} {R:List RowT} {l:Nat→Bool} {f:Nat→Value} (h:RowsJ w0 R l f w) (i d:Nat) (v:Value) (t0:RowT) (ht0:t0∈R) (hl0:t0.live l=true)
  (hg:w.grownBy w' (f t0.slot).ownBlock) (hloc:v.ownBlock=(f t0.slot).ownBlock∨v.ownBlock=some w.heap.size)
  (hR:∀ t∈R,(t.use=some i ↔ t.op=t0.op)∧(t.op=i→t.slot=d∧w'.ownsRow w0.heap.size t.e t.size v t.n t.cs)∧(t.op≠i→t.slot≠d)) :
  RowsJ w0 R (fun j=>j == i || l j) (fun s=>if some d=some s then v else f s) w':=by
 have hs:∀ t∈R,t.op≠i→(if some d=some t.slot then v else f t.slot)=f t.slot:=fun t ht ho=>if_neg (by simp;exact fun e=>(hR t ht).2.2 ho e.symm)
 have hs2:∀ t∈R,t.op=i→(if some d=some t.slot then v else f t.slot)=v:=fun t ht ho=>if_pos (by rw [((hR t ht).2.1 ho).1])
 have hold:∀ t∈R,t.op≠i→t.live (fun j=>j == i || l j)=true→t.live l=true∧t.op≠t0.op:=fun t ht ho hl=>by
  have hu:t.use≠some i:=fun e=>by
   unfold RowT.live at hl;rw [e] at hl;simp at hl
  rw [live_step ho hu] at hl
  exact ⟨hl,fun e=>hu ((hR t ht).1.2 e)⟩
 have o0:=h.own t0 ht0 hl0
 have b0:=owns_blk o0
 have hnt:∀ t∈R,t.live l=true→t.op≠t0.op→∀ p,blk (f t.slot)=some p→some p≠(f t0.slot).ownBlock:=fun t ht hl hne p hp e=>by
  rw [← b0] at e
  exact h.apart t ht t0 ht0 hl hl0 hne p hp e.symm
 refine ⟨h.below.grown hg h.below.size (fun k hk=>(o0.lt k hk).1),fun t ht hl=>?_,fun t ht u hu hl hl2 hne p hp hq=>?_⟩
 · by_cases ho:t.op=i
   · simp only [hs2 t ht ho]
     exact ((hR t ht).2.1 ho).2
   · simp only [hs t ht ho]
     obtain ⟨g1,g2⟩:=hold t ht ho hl
     have g3:=h.own t ht g1
     exact owns_keep g3 fun b hb=>hg.block b (by rw [owns_blk g3] at hb;exact (g3.lt b hb).2) (hnt t ht g1 g2 b hb)
 · have far:∀ t∈R,∀ u∈R,t.op=i→u.op≠i→t.live (fun j=>j == i || l j)=true→u.live (fun j=>j == i || l j)=true→∀ p,blk v=some p→blk (f u.slot)=some p→False:=fun t ht u hu ho ho2 hl hl2 p hp hq=>by
    obtain ⟨g1,g2⟩:=hold u hu ho2 hl2
    have g3:=h.own u hu g1
    rw [owns_blk ((hR t ht).2.1 ho).2] at hp
    rcases hloc with e | e
    · exact hnt u hu g1 g2 p hq (by rw [← e];exact hp.symm)
    · rw [e] at hp;cases hp
      rw [owns_blk g3] at hq
      have:=(g3.lt _ hq).2;omega
   by_cases ho:t.op=i
   · have ho2:u.op≠i:=fun e=>hne (by rw [ho,e])
     simp only [hs2 t ht ho] at hp
     simp only [hs u hu ho2] at hq
     exact far t ht u hu ho ho2 hl hl2 p hp hq
   · by_cases ho2:u.op=i
     · simp only [hs t ht ho] at hp
       simp only [hs2 u hu ho2] at hq
       exact far u hu t ht ho2 ho hl2 hl p hq hp
     · simp only [hs t ht ho] at hp
       simp only [hs u hu ho2] at hq
       exact h.apart t ht u hu (hold t ht ho hl).1 (hold u hu ho2 hl2).1 hne p hp hq
def allR (p:Nat × Nat→Bool):List (Nat × Nat)→Bool
 | []=>true
 | r :: t=>p r && allR p t
theorem allR_mem {p:Nat × Nat→Bool} {L:List (Nat × Nat)} (h:allR p L=true):∀ r∈L,p r=true:=by
 induction L with
 | nil=>intro r hr;cases hr
 | cons x t ih =>
  simp only [allR,Bool.and_eq_true] at h
  intro r hr
  rcases List.mem_cons.1 hr with rfl | hr
  · exact h.1
  · exact ih h.2 r hr
structure DepT where
 op:Nat
 slot:Nat
 refs:List (Nat × Nat)
 fn:(Nat→Value)→Value
 ext:∀ f g:Nat→Value,(∀ r∈refs,f r.2=g r.2)→fn f=fn g
def Deps (D:List DepT) (l:Nat→Bool) (f:Nat→Value):Prop:=∀ t∈D,l t.op=true→(∀ r∈t.refs,l r.1=true)∧f t.slot=t.fn f
theorem Deps.nothing (D:List DepT) (f:Nat→Value):Deps D (fun _=>false) f:=fun t _ h=>by cases h
theorem Deps.step {D:List DepT} {l:Nat→Bool} {f:Nat→Value} (h:Deps D l f) (i d:Nat) (v:Value) (hli:l i=false)
  (hD:∀ t∈D,(t.op=i→t.slot=d∧allR (fun r=>l r.1 && r.2 != d) t.refs=true∧v=t.fn f)∧(t.op≠i→t.slot≠d∧allR (fun r=>r.2 != d || r.1 == i) t.refs=true)) :
  Deps D (fun j=>j == i || l j) (fun s=>if some d=some s then v else f s):=by
 intro t ht hl
 by_cases ho:t.op=i
 · obtain ⟨g1,g2,g3⟩:=(hD t ht).1 ho
   have g2:∀ r∈t.refs,l r.1=true∧r.2≠d:=fun r hr=>by have:=allR_mem g2 r hr;simpa using this
   refine ⟨fun r hr=>by simp [(g2 r hr).1],?_⟩
   simp only [g1,if_true]
   rw [g3]
   exact t.ext _ _ fun r hr=>(if_neg (by simp;exact fun e=>(g2 r hr).2 e.symm)).symm
 · obtain ⟨g1,g2⟩:=(hD t ht).2 ho
   have g2:∀ r∈t.refs,r.2=d→r.1=i:=fun r hr e=>by
    have:=allR_mem g2 r hr
    simp [e] at this;exact this
   have hl':l t.op=true:=by
    have e1:(t.op == i)=false:=by simpa using ho
    simpa [e1] using hl
   obtain ⟨g3,g4⟩:=h t ht hl'
   refine ⟨fun r hr=>by simp [g3 r hr],?_⟩
   have hne:¬ (some d=some t.slot):=by simp;exact fun e=>g1 e.symm
   simp only [if_neg hne]
   rw [g4]
   exact t.ext _ _ fun r hr=>(if_neg (by
    simp
    intro e
    have h1:=g2 r hr e.symm
    have h2:=g3 r hr
    rw [h1,hli] at h2;cases h2)).symm
def RowT.row (f:Nat→Value) (t:RowT):Rw:=⟨f t.slot,t.e,t.size,t.n,t.cs⟩
theorem RowsJ.list {w0 w:World} {R:List RowT} {l:Nat→Bool} {f:Nat→Value} (h:RowsJ w0 R l f w) (ts:List RowT) (ht:∀ t∈ts,t∈R∧t.live l=true) (hp:ts.Pairwise (fun a b=>a.op≠b.op)):OwnR w w0.heap.size w.heap.size (ts.map (RowT.row f)):=by
 refine ⟨fun r hr=>?_,fun r hr b hb=>?_,?_⟩
 · obtain ⟨t,h1,rfl⟩:=List.mem_map.1 hr
   exact h.own t (ht t h1).1 (ht t h1).2
 · obtain ⟨t,h1,rfl⟩:=List.mem_map.1 hr
   have g:=h.own t (ht t h1).1 (ht t h1).2
   have hb':blk (f t.slot)=some b:=hb
   rw [owns_blk g] at hb'
   exact (g.lt b hb').2
 · rw [List.pairwise_map]
   exact List.Pairwise.imp_of_mem (fun {a b} ha hb hne p hp hq=>h.apart a (ht a ha).1 b (ht b hb).1 (ht a ha).2 (ht b hb).2 hne p hp hq) hp
def LastJ (P:(Nat→Bool)→(Nat→Value)→World→Prop) (m n:Nat) (Fin:(Nat→Value)→World→Prop) (l:Nat→Bool) (f:Nat→Value) (w:World):Prop :=
 (l m=false→P l f w)∧(l m=true→(∀ i,i < n→l i=true)∧Fin f w)
theorem LastJ.nothing {P:(Nat→Bool)→(Nat→Value)→World→Prop} {m n:Nat} {Fin:(Nat→Value)→World→Prop} {f:Nat→Value} {w:World} (h:P (fun _=>false) f w):LastJ P m n Fin (fun _=>false) f w:=⟨fun _=>h,fun h=>by cases h⟩
theorem LastJ.now {P:(Nat→Bool)→(Nat→Value)→World→Prop} {m n:Nat} {Fin:(Nat→Value)→World→Prop} {l:Nat→Bool} {f:Nat→Value} {w:World} (h:LastJ P m n Fin l f w) {i:Nat} (hi:i < n) (hli:l i=false):P l f w:=by
 refine h.1 ?_
 cases hm:l m with
 | false=>rfl
 | true=>rw [(h.2 hm).1 i hi] at hli;cases hli
theorem LastJ.step {P:(Nat→Bool)→(Nat→Value)→World→Prop} {m n:Nat} {Fin:(Nat→Value)→World→Prop} {l:Nat→Bool} {f g:Nat→Value} {w w':World} (h:LastJ P m n Fin l f w) (i:Nat) (hi:i < n) (hli:l i=false) (him:m≠i) (hP:P (fun j=>j == i || l j) g w'):LastJ P m n Fin (fun j=>j == i || l j) g w':=by
 refine ⟨fun _=>hP,fun hm=>?_⟩
 have:l m=true:=by simpa [him] using hm
 have hl:=(h.2 this).1 i hi
 rw [hli] at hl;cases hl
theorem LastJ.last {P:(Nat→Bool)→(Nat→Value)→World→Prop} {m n:Nat} {Fin:(Nat→Value)→World→Prop} {l:Nat→Bool} {g:Nat→Value} {w':World} (hall:∀ i,i < n→i≠m→l i=true) (hF:Fin g w'):LastJ P m n Fin (fun j=>j == m || l j) g w':=by
 refine ⟨fun h=>by simp at h,fun _=>⟨fun i hi=>?_,hF⟩⟩
 by_cases e:i=m
 · simp [e]
 · simp [hall i hi e]
theorem LastJ.behind {P:(Nat→Bool)→(Nat→Value)→World→Prop} {m n:Nat} {Fin:(Nat→Value)→World→Prop} {l:Nat→Bool} {f:Nat→Value} {w w':World} (h:LastJ P m n Fin l f w) (i d:Nat) (v:Value) (him:m≠i) (hm:l m=true) (hF:∀ f' (hf:∀ s,s≠d→f' s=f s),Fin f w→Fin f' w') :
  LastJ P m n Fin (fun j=>j == i || l j) (fun s=>if some d=some s then v else f s) w' :=
 ⟨fun h'=>by simp [hm] at h',fun _=>⟨fun j hj=>by simp [(h.2 hm).1 j hj],hF _ (fun s hs=>if_neg (by simpa using fun e=>hs e.symm)) (h.2 hm).2⟩⟩
theorem wp_append_copy {P:Program} {W:World} {o:Oper} {a:Act} {K:Act→World→Prop} {Q:Exit→Act→World→Prop} (s x:Operand) (t:TypeId)
  (ho:o.op = .call { callee:=.builtin .append,args:=#[s,x],argTypes:=#[t,t] })
  (B:Nat) (e:TypeId) (z:Value) (size bytes:Nat) (ht:P.underlying t=some (.slice e)) (hinfo:(P.info? e).map (fun i=>(i.zero,i.size,i.bytes))=some (some z,size,bytes))
  (hzs:z.cells.size=size) (hsz:0 < size) (hs:W.ownsRow B e size (a.eval s) 0 []) (ad:Option Addr) (m c:Nat) (hx:a.eval x = .slice ad m c) (hnil:ad=none→m=0∧c=0)
  (news:List Value) (hl:news.length=m*size) (hnews:∀ ad',ad=some ad'→∀ j u,news[j]? = some u→W.cell? (ad'.add j)=some u) (h1:∀ u∈news,u.oneCell'=true)
  (hn:m≤4000000) (hby:bytes≤100000) (hB:B≤W.heap.size)
  (h:∀ v' w',w'.ownsRow B e size v' m news→W.grownBy w' (a.eval s).ownBlock→(v'.ownBlock=(a.eval s).ownBlock∨v'.ownBlock=some W.heap.size)→K (a.put o.dst v') w'):Oper.wp P o a W K Q:=by
 obtain ⟨i0,hi,hz0,hz1,hz2⟩:=info_parts hinfo
 cases ad with
 | none =>
  obtain ⟨rfl,rfl⟩:=hnil rfl
  have hnn:news=[]:=List.eq_nil_of_length_eq_zero (by omega)
  have hrun:=run_append_owned_none (P:=P) (w:=W) B t o.type e i0 size ht hi (a.eval s) 0 [] hs
  unfold Oper.wp
  simp [execOp,ho,resolve,invoke,builtin,hx,hrun,Result.andThen]
  exact h _ _ (by rw [hnn];exact hs) (World.grownBy.refl W _) (.inl rfl)
 | some ad =>
  have hbytes:(0+m)*bytes≤140737488355328:=by
   calc (0+m)*bytes≤4000000*100000:=Nat.mul_le_mul (by omega) hby
    _≤140737488355328:=by decide
  obtain ⟨v',w',hr,h2,h3,h4,h5⟩:=run_append_own_at (P:=P) W B t o.type e i0 z size bytes ht hi hz0 hz1 hz2 hzs hsz (a.eval s) 0 [] hs ad m c news hl (hnews ad rfl) h1 (by unfold maxLen;omega) hbytes hB
  unfold Oper.wp execOp
  simp only [ho,resolve,invoke,builtin,Sem.run_bind,Sem.run_pure,Result.andThen_ok,List.map_toArray,List.map_cons,List.map_nil,hx,hr]
  rw [Nat.zero_add,List.nil_append] at h2
  exact h v' w' h2 h3 h5
theorem wp_make_full {P:Program} {W:World} {o:Oper} {a:Act} {K:Act→World→Prop} {Q:Exit→Act→World→Prop} (l c:Operand) (t:TypeId) (hop:o.op=Op.makeSlice t l c)
  (e:TypeId) (z:Value) (size bytes:Nat) (h1:P.underlying t=some (.slice e)) (hinfo:(P.info? e).map (fun i=>(i.zero,i.size,i.bytes))=some (some z,size,bytes))
  (n:Nat) (hl:a.eval l = .int .i64 n) (hc:a.eval c = .int .i64 n) (hn:n≤4000000) (hby:bytes≤1000000)
  (hK:∀ w',w'.ownsRow W.heap.size e size (.slice (some ⟨W.heap.size,0,none⟩) n n) n (madeCells z.cells (n*size)).toList→Below W.heap.size W w'→K (a.put o.dst (.slice (some ⟨W.heap.size,0,none⟩) n n)) w'):Oper.wp P o a W K Q:=by
 obtain ⟨i0,hi,hz0,hz1,hz2⟩:=info_parts hinfo
 have hb:i0.bytes*n≤281474976710656:=by
  rw [hz2]
  calc bytes*n≤1000000*4000000:=Nat.mul_le_mul hby hn
   _≤281474976710656:=by decide
 obtain ⟨w',hrun,r1,r2⟩:=run_make_full (P:=P) W W.heap.size t e i0 z size h1 hi hz0 hz1 .i64 .i64 n hb (by unfold maxLen;omega) (Nat.le_refl _)
 unfold Oper.wp
 simp [execOp,hop,hl,hc,hrun,Result.andThen]
 exact hK w' r1 ⟨r2.os,r2.tape,r2.output,r2.size,fun k hk=>r2.block k hk (by simp)⟩
theorem owns_lit0 (w:World) (e:TypeId) (size:Nat):(w.alloc (.cells #[] e)).ownsRow w.heap.size e size (.slice (some ⟨w.heap.size,0,none⟩) 0 0) 0 []:=(own_lit e size #[] 0 (Nat.le_refl _) (by simp) (by simp)).1
end Go.Proofs.YtaaffpolmecicabGreat
/- The contracts of the model's copies: l10Effect (gen10/speceng.py). -/
namespace Go.Proofs.YtaaffpolmecicabGreat
open Go.RowKit
set_option linter.unusedVariables false
set_option linter.unusedSimpArgs false
set_option maxRecDepth 100000 in
set_option maxHeartbeats 4000000 in
theorem l10Effect_spec (dn:Bool) (vr vw:Value) (X Y:List Ent) (w:World) (h1:SliE w vr X) (h2:SliE w vw Y) (hx:X.length≤4000000) (hy:Y.length≤4000000) :
  Calls Tryz.prog 88 #[.agg #[.bool dn,vr,vw]] w (NewF w 43 ⟨dn,X,Y⟩):=by
 obtain ⟨a1,n1,c1,rfl,hr1,hz1,hc1⟩:=h1
 obtain ⟨a2,n2,c2,rfl,hr2,hz2,hc2⟩:=h2
 obtain rfl:=hr1.1
 obtain rfl:=hr2.1
 have HWX:=Lib.hid hr1.2.2.2
 have HWY:=Lib.hid hr2.2.2.2
 go_enter Tryz.func88,Tryz.ntmps88
 go_upto_region 1 with (fail)
 obtain ⟨w0,hw0⟩:∃ w0,w0=(w.alloc (.cells #[.bool dn,.slice a1 X.length c1,.slice a2 Y.length c2] 39)).alloc (.cells #[.bool false,.slice none 0 0,.slice none 0 0] 39):=⟨_,rfl⟩
 rw [← hw0]
 have hb0:Below w.heap.size w w0:=by rw [hw0];exact ((Below.refl _ _).alloc (Nat.le_refl _) _).alloc (by simp) _
 have hg:w0.cell? ⟨w.heap.size,0,none⟩=some (.bool dn)∧w0.cell? ⟨w.heap.size,1,none⟩=some (.slice a1 X.length c1)∧w0.cell? ⟨w.heap.size,2,none⟩=some (.slice a2 Y.length c2):=by rw [hw0];simp [go_sem]
 have hz:ZAt w0 (w.heap.size+1):=by
  rw [hw0]
  have:=zAt_new (w.alloc (.cells #[.bool dn,.slice a1 X.length c1,.slice a2 Y.length c2] 39)) 39
  simpa using this
 have hgl:w.heap.size < w0.heap.size:=World.block_lt_of_cell? w0 ⟨w.heap.size,0,none⟩ hg.1
 have HC:Hid (∀ W,Below w0.heap.size w0 W→W.cell? ⟨w.heap.size,0,none⟩=some (.bool dn)∧W.cell? ⟨w.heap.size,1,none⟩=some (.slice a1 X.length c1)∧W.cell? ⟨w.heap.size,2,none⟩=some (.slice a2 Y.length c2)):=Lib.hid (fun W hb=>⟨(hb.cell (p:=⟨w.heap.size,0,none⟩) hgl).trans hg.1,(hb.cell (p:=⟨w.heap.size,1,none⟩) hgl).trans hg.2.1,(hb.cell (p:=⟨w.heap.size,2,none⟩) hgl).trans hg.2.2⟩)
 have HZ:Hid (∀ W,Below w0.heap.size w0 W→ZAt W (w.heap.size+1)):=Lib.hid (fun W hb=>hz.below hb hz.2.2)
 have nil:∀ (a:Option Addr) (L:List Ent) (c:Nat) (W:World),RowE W a L.length L→(a=none→c=0)→a=none→L.length=0∧c=0:=fun a L c W hr hz he=>by
  refine ⟨?_,hz he⟩
  rcases Nat.eq_zero_or_pos L.length with h | h
  · exact h
  · obtain ⟨b1,o1,h2,_⟩:=hr.2.2.1 h
    rw [he] at h2;cases h2
 have HN1:=Lib.hid (nil a1 X c1 w hr1 hz1)
 have HN2:=Lib.hid (nil a2 Y c2 w hr2 hz2)
 have HW1:=Lib.hid (fun (W:World) (hb:Below w0.heap.size w0 W)=>((hr1.below hb0).below hb).news)
 have HW2:=Lib.hid (fun (W:World) (hb:Below w0.heap.size w0 W)=>((hr2.below hb0).below hb).news)
 have HB0:=Lib.hid hb0
 have HZ0:=Lib.hid hz
 clear nil hr1 hr2 hz1 hz2 hc1 hc2 hw0 hb0 hg hz
 -- REGION
 refine wp_region_light (by kernel_rfl) (LastJ (fun lz fz wz=>Vals [(0,3,(.pointer (some ⟨w.heap.size,0,none⟩))),(1,4,(.bool dn)),(3,6,(.pointer (some ⟨w.heap.size,1,none⟩))),(4,7,(.slice a1 X.length c1)),(7,10,(.pointer (some ⟨w.heap.size,2,none⟩))),(8,11,(.slice a2 Y.length c2))] lz fz∧Deps [(⟨10,13,[(5,8),(9,12)],fun f=>.agg #[.bool dn,f 8,f 12],fun f g h=>by simp at h;simp [h]⟩:DepT)] lz fz∧RowsJ w0 [(⟨2,some 5,5,43,2,0,[]⟩:RowT),(⟨5,none,8,43,2,X.length,(flatE X)⟩:RowT),(⟨6,some 9,9,43,2,0,[]⟩:RowT),(⟨9,none,12,43,2,Y.length,(flatE Y)⟩:RowT)] lz fz wz) 11 12 (fun _ wz=>∃ (w1:World) (v8 v12:Value),OwnR w1 w0.heap.size w1.heap.size [⟨v8,43,2,X.length,flatE X⟩,⟨v12,43,2,Y.length,flatE Y⟩]∧Below w0.heap.size w0 w1∧wz=(((w1.setCell ⟨w.heap.size+1,0,none⟩ (.bool dn)).setCell ⟨w.heap.size+1,1,none⟩ v8).setCell ⟨w.heap.size+1,2,none⟩ v12))) 14 rfl [3,4,5,6,7,8,9,10,11,12,13] (by kernel_rfl) (by kernel_rfl) (by kernel_rfl) (fun f=>LastJ.nothing ⟨Vals.nothing _ f,Deps.nothing _ f,RowsJ.nothing _ _ f⟩) ?_ ?_
 · intro i hi
   rcases (by have:i < 12:=hi;omega:i=0∨i=1∨i=2∨i=3∨i=4∨i=5∨i=6∨i=7∨i=8∨i=9∨i=10∨i=11) with rfl | rfl | rfl | rfl | rfl | rfl | rfl | rfl | rfl | rfl | rfl | rfl
   · clear hi;intro o ho lz fz w' A hJ hli ha hA K hK
     obtain ⟨hv,hd,hq⟩:=hJ.now (i:=0) (by omega) hli
     obtain rfl:=Option.some.inj ho
     clear ho
     have hB:=hq.below
     have g1:=slot_out hA 1 _ (by decide) (by decide) rfl
     simp only [List.getD_cons_succ,List.getD_cons_zero] at g1
     have gg1:=slot_get g1
     rw [if_pos (by rfl)]
     have hF:=hK (.pointer (some ⟨w.heap.size,0,none⟩)) w' (LastJ.step hJ 0 (by omega) hli (by decide) ⟨hv.step 0 3 _ (by simp),hd.step 0 3 _ hli (by simp [allR]),hq.still 0 3 _ (Below.refl _ _) (by simp)⟩)
     clear hv hq ha hK hA hli hd hB hJ
     go_simp
     exact hF
   · clear hi;intro o ho lz fz w' A hJ hli ha hA K hK
     obtain ⟨hv,hd,hq⟩:=hJ.now (i:=1) (by omega) hli
     obtain rfl:=Option.some.inj ho
     clear ho
     have hB:=hq.below
     have g3:=slot_in hA 3 (by decide) (by decide) (hv (0,3,(.pointer (some ⟨w.heap.size,0,none⟩))) (by simp) (ha 0 (by simp [aftersOf,Region.binds])))
     have gg3:=slot_get g3
     rw [if_pos (by rfl)]
     obtain ⟨k0,k1,k2⟩:=HC.out w' hB
     have hF:=hK (.bool dn) w' (LastJ.step hJ 1 (by omega) hli (by decide) ⟨hv.step 1 4 _ (by simp),hd.step 1 4 _ hli (by simp [allR]),hq.still 1 4 _ (Below.refl _ _) (by simp)⟩)
     clear hv hq ha hK hA hli hd hB hJ
     go_simp
     exact hF
   · clear hi;intro o ho lz fz w' A hJ hli ha hA K hK
     obtain ⟨hv,hd,hq⟩:=hJ.now (i:=2) (by omega) hli
     obtain rfl:=Option.some.inj ho
     clear ho
     have hB:=hq.below
     rw [if_pos (by rfl)]
     go_simp
     exact hK _ _ (LastJ.step hJ 2 (by omega) hli (by decide) ⟨hv.step 2 5 _ (by simp),hd.step 2 5 _ hli (by simp [allR]),hq.new 2 5 _ ((Below.refl w'.heap.size w').alloc (Nat.le_refl _) _) (by simp;exact owns_lit0 _ _ _)⟩)
   · clear hi;intro o ho lz fz w' A hJ hli ha hA K hK
     obtain ⟨hv,hd,hq⟩:=hJ.now (i:=3) (by omega) hli
     obtain rfl:=Option.some.inj ho
     clear ho
     have hB:=hq.below
     have g1:=slot_out hA 1 _ (by decide) (by decide) rfl
     simp only [List.getD_cons_succ,List.getD_cons_zero] at g1
     have gg1:=slot_get g1
     rw [if_pos (by rfl)]
     have hF:=hK (.pointer (some ⟨w.heap.size,1,none⟩)) w' (LastJ.step hJ 3 (by omega) hli (by decide) ⟨hv.step 3 6 _ (by simp),hd.step 3 6 _ hli (by simp [allR]),hq.still 3 6 _ (Below.refl _ _) (by simp)⟩)
     clear hv hq ha hK hA hli hd hB hJ
     go_simp
     exact hF
   · clear hi;intro o ho lz fz w' A hJ hli ha hA K hK
     obtain ⟨hv,hd,hq⟩:=hJ.now (i:=4) (by omega) hli
     obtain rfl:=Option.some.inj ho
     clear ho
     have hB:=hq.below
     have g6:=slot_in hA 6 (by decide) (by decide) (hv (3,6,(.pointer (some ⟨w.heap.size,1,none⟩))) (by simp) (ha 3 (by simp [aftersOf,Region.binds])))
     have gg6:=slot_get g6
     rw [if_pos (by rfl)]
     obtain ⟨k0,k1,k2⟩:=HC.out w' hB
     have hF:=hK (.slice a1 X.length c1) w' (LastJ.step hJ 4 (by omega) hli (by decide) ⟨hv.step 4 7 _ (by simp),hd.step 4 7 _ hli (by simp [allR]),hq.still 4 7 _ (Below.refl _ _) (by simp)⟩)
     clear hv hq ha hK hA hli hd hB hJ
     go_simp
     exact hF
   · clear hi;intro o ho lz fz w' A hJ hli ha hA K hK
     obtain ⟨hv,hd,hq⟩:=hJ.now (i:=5) (by omega) hli
     obtain rfl:=Option.some.inj ho
     clear ho
     have hB:=hq.below
     have g5:A.tmps.getD 5 undef=fz 5:=slot_in hA 5 (by decide) (by decide) rfl
     have g7:=slot_in hA 7 (by decide) (by decide) (hv (4,7,(.slice a1 X.length c1)) (by simp) (ha 4 (by simp [aftersOf,Region.binds])))
     have gg5:=slot_get g5
     have gg7:=slot_get g7
     rw [if_pos (by rfl)]
     have ha0:=ha 2 (by simp [aftersOf,Region.binds])
     have o0:=hq.at (t:=⟨2,some 5,5,43,2,0,[]⟩) (by simp) ha0 (by simpa using hli)
     refine wp_append_copy (.tmp 5) (.tmp 7) 23 rfl w0.heap.size 43 (.agg #[.int .i64 0,.int .i64 0]) 2 16 Tryz.underlying23 infoEnt rfl (by decide) (by rw [slot_eval g5];exact o0) a1 X.length c1 (by rw [slot_eval g7]) HN1.out (flatE X) (flatE_len _) (HW1.out w' hB) (flatE_oneCell _) hx (by decide) hB.size ?_
     intro v9 w9 ho9 hg9 hl9
     rw [slot_eval g5] at hg9 hl9
     exact hK v9 w9 (LastJ.step hJ 5 (by omega) hli (by decide) ⟨hv.step 5 8 _ (by simp),hd.step 5 8 _ hli (by simp [allR]),hq.repl 5 8 v9 ⟨2,some 5,5,43,2,0,[]⟩ (by simp) (by simp [RowT.live,ha0,hli]) hg9 hl9 (by simp;exact ho9)⟩)
   · clear hi;intro o ho lz fz w' A hJ hli ha hA K hK
     obtain ⟨hv,hd,hq⟩:=hJ.now (i:=6) (by omega) hli
     obtain rfl:=Option.some.inj ho
     clear ho
     have hB:=hq.below
     rw [if_pos (by rfl)]
     go_simp
     exact hK _ _ (LastJ.step hJ 6 (by omega) hli (by decide) ⟨hv.step 6 9 _ (by simp),hd.step 6 9 _ hli (by simp [allR]),hq.new 6 9 _ ((Below.refl w'.heap.size w').alloc (Nat.le_refl _) _) (by simp;exact owns_lit0 _ _ _)⟩)
   · clear hi;intro o ho lz fz w' A hJ hli ha hA K hK
     obtain ⟨hv,hd,hq⟩:=hJ.now (i:=7) (by omega) hli
     obtain rfl:=Option.some.inj ho
     clear ho
     have hB:=hq.below
     have g1:=slot_out hA 1 _ (by decide) (by decide) rfl
     simp only [List.getD_cons_succ,List.getD_cons_zero] at g1
     have gg1:=slot_get g1
     rw [if_pos (by rfl)]
     have hF:=hK (.pointer (some ⟨w.heap.size,2,none⟩)) w' (LastJ.step hJ 7 (by omega) hli (by decide) ⟨hv.step 7 10 _ (by simp),hd.step 7 10 _ hli (by simp [allR]),hq.still 7 10 _ (Below.refl _ _) (by simp)⟩)
     clear hv hq ha hK hA hli hd hB hJ
     go_simp
     exact hF
   · clear hi;intro o ho lz fz w' A hJ hli ha hA K hK
     obtain ⟨hv,hd,hq⟩:=hJ.now (i:=8) (by omega) hli
     obtain rfl:=Option.some.inj ho
     clear ho
     have hB:=hq.below
     have g10:=slot_in hA 10 (by decide) (by decide) (hv (7,10,(.pointer (some ⟨w.heap.size,2,none⟩))) (by simp) (ha 7 (by simp [aftersOf,Region.binds])))
     have gg10:=slot_get g10
     rw [if_pos (by rfl)]
     obtain ⟨k0,k1,k2⟩:=HC.out w' hB
     have hF:=hK (.slice a2 Y.length c2) w' (LastJ.step hJ 8 (by omega) hli (by decide) ⟨hv.step 8 11 _ (by simp),hd.step 8 11 _ hli (by simp [allR]),hq.still 8 11 _ (Below.refl _ _) (by simp)⟩)
     clear hv hq ha hK hA hli hd hB hJ
     go_simp
     exact hF
   · clear hi;intro o ho lz fz w' A hJ hli ha hA K hK
     obtain ⟨hv,hd,hq⟩:=hJ.now (i:=9) (by omega) hli
     obtain rfl:=Option.some.inj ho
     clear ho
     have hB:=hq.below
     have g9:A.tmps.getD 9 undef=fz 9:=slot_in hA 9 (by decide) (by decide) rfl
     have g11:=slot_in hA 11 (by decide) (by decide) (hv (8,11,(.slice a2 Y.length c2)) (by simp) (ha 8 (by simp [aftersOf,Region.binds])))
     have gg9:=slot_get g9
     have gg11:=slot_get g11
     rw [if_pos (by rfl)]
     have ha0:=ha 6 (by simp [aftersOf,Region.binds])
     have o0:=hq.at (t:=⟨6,some 9,9,43,2,0,[]⟩) (by simp) ha0 (by simpa using hli)
     refine wp_append_copy (.tmp 9) (.tmp 11) 23 rfl w0.heap.size 43 (.agg #[.int .i64 0,.int .i64 0]) 2 16 Tryz.underlying23 infoEnt rfl (by decide) (by rw [slot_eval g9];exact o0) a2 Y.length c2 (by rw [slot_eval g11]) HN2.out (flatE Y) (flatE_len _) (HW2.out w' hB) (flatE_oneCell _) hy (by decide) hB.size ?_
     intro v9 w9 ho9 hg9 hl9
     rw [slot_eval g9] at hg9 hl9
     exact hK v9 w9 (LastJ.step hJ 9 (by omega) hli (by decide) ⟨hv.step 9 12 _ (by simp),hd.step 9 12 _ hli (by simp [allR]),hq.repl 9 12 v9 ⟨6,some 9,9,43,2,0,[]⟩ (by simp) (by simp [RowT.live,ha0,hli]) hg9 hl9 (by simp;exact ho9)⟩)
   · clear hi;intro o ho lz fz w' A hJ hli ha hA K hK
     obtain ⟨hv,hd,hq⟩:=hJ.now (i:=10) (by omega) hli
     obtain rfl:=Option.some.inj ho
     clear ho
     have hB:=hq.below
     have g4:=slot_in hA 4 (by decide) (by decide) (hv (1,4,(.bool dn)) (by simp) (ha 1 (by simp [aftersOf,Region.binds])))
     have g8:A.tmps.getD 8 undef=fz 8:=slot_in hA 8 (by decide) (by decide) rfl
     have g12:A.tmps.getD 12 undef=fz 12:=slot_in hA 12 (by decide) (by decide) rfl
     have gg4:=slot_get g4
     have gg8:=slot_get g8
     have gg12:=slot_get g12
     rw [if_pos (by rfl)]
     have hF:=hK (.agg #[.bool dn,fz 8,fz 12]) w' (LastJ.step hJ 10 (by omega) hli (by decide) ⟨hv.step 10 13 _ (by simp),hd.step 10 13 _ hli (by simp [allR,ha 5 (by simp [aftersOf,Region.binds]),ha 9 (by simp [aftersOf,Region.binds])]),hq.still 10 13 _ (Below.refl _ _) (by simp)⟩)
     have o8:=hq.at (t:=⟨5,none,8,43,2,X.length,(flatE X)⟩) (by simp) (ha 5 (by simp [aftersOf,Region.binds])) (by rfl)
     obtain ⟨p8,q8,k8,e8⟩:=slice_form o8
     simp only at e8
     rw [e8] at g8 gg8 hF
     clear o8
     have o12:=hq.at (t:=⟨9,none,12,43,2,Y.length,(flatE Y)⟩) (by simp) (ha 9 (by simp [aftersOf,Region.binds])) (by rfl)
     obtain ⟨p12,q12,k12,e12⟩:=slice_form o12
     simp only at e12
     rw [e12] at g12 gg12 hF
     clear o12
     clear hv hq ha hK hA hli hd hB hJ
     go_simp
     exact hF
   · clear hi;intro o ho lz fz w' A hJ hli ha hA K hK
     obtain ⟨hv,hd,hq⟩:=hJ.now (i:=11) (by omega) hli
     obtain rfl:=Option.some.inj ho
     clear ho
     have hB:=hq.below
     have g2:=slot_out hA 2 _ (by decide) (by decide) rfl
     simp only [List.getD_cons_succ,List.getD_cons_zero] at g2
     have hd13:=(hd (⟨10,13,[(5,8),(9,12)],fun f=>.agg #[.bool dn,f 8,f 12],fun f g h=>by simp at h;simp [h]⟩:DepT) (by simp) (ha 10 (by simp [aftersOf,Region.binds]))).2
     simp only at hd13
     have g13:A.tmps.getD 13 undef=fz 13:=slot_in hA 13 (by decide) (by decide) rfl
     have gg2:=slot_get g2
     have gg13:=slot_get g13
     rw [if_pos (by rfl)]
     have hall:∀ k,k < 11→lz k=true:=fun k hk=>ha k (by have hk2:k < 11:=hk;rcases (by omega:k=0∨k=1∨k=2∨k=3∨k=4∨k=5∨k=6∨k=7∨k=8∨k=9∨k=10) with rfl | rfl | rfl | rfl | rfl | rfl | rfl | rfl | rfl | rfl | rfl <;> simp [aftersOf,Region.binds])
     have hR:=hq.list [(⟨5,none,8,43,2,X.length,(flatE X)⟩:RowT),(⟨9,none,12,43,2,Y.length,(flatE Y)⟩:RowT)] (by simp [RowT.live,hall 5 (by decide),hall 9 (by decide)]) (by simp)
     simp only [List.map_cons,List.map_nil,RowT.row] at hR
     obtain ⟨p8,q8,k8,e8⟩:=slice_form hR.head
     simp only at e8
     obtain ⟨p12,q12,k12,e12⟩:=slice_form hR.tail.head
     simp only at e12
     rw [e8,e12] at hd13 hR
     rw [hd13] at g13 gg13
     have hz:=HZ.out w' hB
     obtain ⟨⟨z0,z1,z2⟩,⟨f0,f1,f2⟩,-⟩:=hz
     clear hd13
     have hF:=hK undef _ (LastJ.last (fun i hi hne=>hall i (by omega)) ⟨w',_,_,hR,hB,rfl⟩)
     clear hv hq ha hK hA hli hd hB hJ hall hR
     go_simp
     exact hF
 · intro lz fz w5 hall hJ
   have hfin:=(hJ.2 (hall 11 (by decide))).2
   simp only [mixF,List.contains_cons,List.contains_nil]
   go_simp
   obtain ⟨w1,v8,v12,hR,hb1,rfl⟩:=hfin
   have hE0:EAt w1 (w.heap.size+1) false (.slice none 0 0) (.slice none 0 0):=HZ.out w1 hb1
   have hE:=((hE0.set0 dn).set1 v8).set2 v12
   have hs0:=HB0.out.size
   have hzl:=HZ0.out.2.2
   have hR2:OwnR (((w1.setCell ⟨w.heap.size+1,0,none⟩ (.bool dn)).setCell ⟨w.heap.size+1,1,none⟩ v8).setCell ⟨w.heap.size+1,2,none⟩ v12) w0.heap.size w1.heap.size [⟨v8,43,2,X.length,flatE X⟩,⟨v12,43,2,Y.length,flatE Y⟩] :=
    hR.turn ((((Turn.refl (w.heap.size+1) w0.heap.size w1).setCell (g:=w.heap.size+1) ⟨Nat.le_refl _,hzl⟩ 0 (.bool dn)).setCell (g:=w.heap.size+1) ⟨Nat.le_refl _,hzl⟩ 1 v8).setCell (g:=w.heap.size+1) ⟨Nat.le_refl _,hzl⟩ 2 v12) (.inr (.inl (Nat.le_refl _)))
   have HE:=Lib.hid hE
   have o8:=hR2.head
   have o12:=hR2.tail.head
   have hoff:=hR2.off _ List.mem_cons_self
   simp only [Off] at o8 o12 hoff
   rw [owns_blk o8,owns_blk o12] at hoff
   have HF:Hid (OwnF (((w1.setCell ⟨w.heap.size+1,0,none⟩ (.bool dn)).setCell ⟨w.heap.size+1,1,none⟩ v8).setCell ⟨w.heap.size+1,2,none⟩ v12) w.heap.size 43 (.agg #[.bool dn,v8,v12]) ⟨dn,X,Y⟩):=Lib.hid ⟨v8,v12,rfl,owns_mono o8 hs0,owns_mono o12 hs0,HWX.out,HWY.out,hoff⟩
   have HB:Hid (Below w.heap.size w (((w1.setCell ⟨w.heap.size+1,0,none⟩ (.bool dn)).setCell ⟨w.heap.size+1,1,none⟩ v8).setCell ⟨w.heap.size+1,2,none⟩ v12)):=Lib.hid (below_set3 (HB0.out.trans (hb1.mono hs0)) (Nat.le_succ _) _ _ _ _ _ _)
   clear hE hE0 hR2 hR o8 o12 hoff hb1
   go_wp2_with fail
   refine bodyPost_ret (results_eff Tryz.results88 _ (by rfl) HE.out) rfl ⟨_,rfl,HF.out,HB.out⟩
 -- END REGION
end Go.Proofs.YtaaffpolmecicabGreat
/- The contract of the model's EngineOf (gen10/speceng2.py). -/
namespace Go.Proofs.YtaaffpolmecicabGreat
open Go.RowKit
set_option linter.unusedVariables false
set_option linter.unusedSimpArgs false
theorem infoActE:(Tryz.prog.info? 87).map (fun i=>(i.zero,i.size,i.bytes))=some (some (.agg #[.int .i64 0,.int .i64 0,.int .i64 0,.int .i64 0]),4,32):=by kernel_rfl
theorem infoSlot:(Tryz.prog.info? 75).map (fun i=>(i.zero,i.size,i.bytes))=some (some (.agg #[.int .i64 0,.int .i64 0,.slice none 0 0,.bool false,.slice none 0 0,.slice none 0 0]),6,96):=by kernel_rfl
def tEng:EngT:=⟨43,87,73,75,3⟩
theorem results_eng {fn:Func} {p:Tmp} (h:fn.results=#[.cell p 57]) (tmps:Array Value) {F:World} {Z:Nat} (hp:tmps.getD p undef = .pointer (some ⟨Z,0,none⟩)) {v1 v2 v3 v4:Value} (hc:EgAt F Z v1 v2 v3 v4):(results fn tmps).run Tryz.prog F = .ok (.agg #[v1,v2,v3,v4]) F:=by
 have hp':tmps[p]?.getD undef = .pointer (some ⟨Z,0,none⟩):=by simpa using hp
 obtain ⟨c0,c1,c2,c3,-⟩:=hc
 simp [results,h,hp',asAddr,go_sem,c0,c1,c2,c3]
def engOfM (S:List Ent) (L:List Acn):Eng:=if storeB S && actsB L then ⟨S,L,[],List.replicate L.length noSlt⟩ else noEng
theorem engOfM_yes {S:List Ent} {L:List Acn} (h:storeB S=true) (h2:actsB L=true):engOfM S L=⟨S,L,[],List.replicate L.length noSlt⟩:=by simp [engOfM,h,h2]
theorem engOfM_no {S:List Ent} {L:List Acn} (h:(storeB S && actsB L)=false):engOfM S L=noEng:=by simp [engOfM,h]
set_option maxRecDepth 100000 in
set_option maxHeartbeats 4000000 in
theorem engineOf_spec (a:Option Addr) (n c:Nat) (S:List Ent) (b:Option Addr) (m d:Nat) (L:List Acn) (w:World) (h1:RowE w a n S) (hz1:a=none→c=0) (h2:RowA w b m L) (hz2:b=none→d=0) :
  Calls Tryz.prog 40 #[.slice a n c,.slice b m d] w (NewEng w tEng (engOfM S L)):=by
 have HWS:=Lib.hid h1.2.2.2
 have HWL:=Lib.hid h2.2.2.2
 have hb0:=(Below.refl w.heap.size w).alloc (Nat.le_refl _) (.cells #[.slice none 0 0,.slice none 0 0,.slice none 0 0,.slice none 0 0] 57)
 have hz0:=egAt_new w 57 (.slice none 0 0) (.slice none 0 0) (.slice none 0 0) (.slice none 0 0)
 go_enter Tryz.func40,Tryz.ntmps40
 go_wp2_with fail
 obtain ⟨wa,hwa⟩:∃ wa,wa=w.alloc (.cells #[.slice none 0 0,.slice none 0 0,.slice none 0 0,.slice none 0 0] 57):=⟨_,rfl⟩
 rw [← hwa] at hb0 hz0 ⊢
 have h1a:=h1.below hb0
 have h2a:=h2.below hb0
 clear hwa h1 h2
 refine (storeValid_spec a n c S _ h1a).mono ?_;rintro e wb ⟨rfl,hd⟩
 have hbb:=hd.below wa.heap.size
 have h1b:=h1a.below hbb
 have h2b:=h2a.below hbb
 have hzb:=hz0.below hbb
 have hb1:=hb0.trans (hbb.mono hb0.size)
 clear h1a h2a hz0 hd hbb hb0
 cases hS:storeB S with
 | false =>
  have HF:=Lib.hid (engOfM_no (S:=S) (L:=L) (by rw [hS];rfl))
  have HE:=Lib.hid (hzb.set4 (.slice none 0 0) (.slice none 0 0) (.slice none 0 0) (.slice none 0 0))
  have HB:Hid (Below w.heap.size w (set4 wb w.heap.size (.slice none 0 0) (.slice none 0 0) (.slice none 0 0) (.slice none 0 0))):=Lib.hid ((set4_turn wb w.heap.size _ _ _ _).below hb1 (Nat.le_refl _) hb1.size)
  unfold set4 at HE HB
  obtain ⟨z0,z1,z2,z3,f0,f1,f2,f3⟩:=hzb
  clear hS h1b h2b hb1
  go_wp2_with fail
  refine bodyPost_ret (results_eng Tryz.results40 _ (by rfl) HE.out) rfl ⟨_,_,_,_,[],rfl,by rw [HF.out];exact engOwn_no _ _ _ _,HB.out⟩
 | true =>
  go_wp2_with fail
  refine (actionsValid_spec b m d L _ h2b).mono ?_;rintro e w0 ⟨rfl,hbc⟩
  have h1c:=h1b.below hbc
  have h2c:=h2b.below hbc
  have hzc:=hzb.below hbc
  have hb2:=hb1.trans (hbc.mono hb1.size)
  clear h1b h2b hzb hb1 hbc
  cases hA:actsB L with
  | false =>
   have HF:=Lib.hid (engOfM_no (S:=S) (L:=L) (by rw [hS,hA];rfl))
   have HE:=Lib.hid (hzc.set4 (.slice none 0 0) (.slice none 0 0) (.slice none 0 0) (.slice none 0 0))
   have HB:Hid (Below w.heap.size w (set4 w0 w.heap.size (.slice none 0 0) (.slice none 0 0) (.slice none 0 0) (.slice none 0 0))):=Lib.hid ((set4_turn w0 w.heap.size _ _ _ _).below hb2 (Nat.le_refl _) hb2.size)
   unfold set4 at HE HB
   obtain ⟨z0,z1,z2,z3,f0,f1,f2,f3⟩:=hzc
   clear hS hA h1c h2c hb2
   go_wp2_with fail
   refine bodyPost_ret (results_eng Tryz.results40 _ (by rfl) HE.out) rfl ⟨_,_,_,_,[],rfl,by rw [HF.out];exact engOwn_no _ _ _ _,HB.out⟩
  | true =>
   have HF:=Lib.hid (engOfM_yes hS hA)
   have hn4:n≤4000000:=by have:=store_len hS;have:=h1c.1;omega
   have hm4:m≤4000000:=by have:=(actsB_true hA).1;have:=h2c.1;omega
   have HL1:Hid ((flatE S).length=n*2):=Lib.hid (by rw [flatE_len,h1c.1])
   have HL2:Hid ((flatA L).length=m*4):=Lib.hid (by rw [flatA_len,h2c.1])
   have HSn:=Lib.hid h1c.1
   have HLm:=Lib.hid h2c.1
   have HN1:Hid (a=none→n=0∧c=0):=Lib.hid (fun he=>by
    refine ⟨?_,hz1 he⟩
    rcases Nat.eq_zero_or_pos n with h | h
    · exact h
    · obtain ⟨b1,o1,h3,_⟩:=h1c.2.2.1 h
      rw [he] at h3;cases h3)
   have HN2:Hid (b=none→m=0∧d=0):=Lib.hid (fun he=>by
    refine ⟨?_,hz2 he⟩
    rcases Nat.eq_zero_or_pos m with h | h
    · exact h
    · obtain ⟨b1,o1,h3,_⟩:=h2c.2.2.1 h
      rw [he] at h3;cases h3)
   have HW1:=Lib.hid (fun (W:World) (hb:Below w0.heap.size w0 W)=>(h1c.below hb).news)
   have HW2:=Lib.hid (fun (W:World) (hb:Below w0.heap.size w0 W)=>(h2c.below hb).news)
   have HZ:=Lib.hid (fun (W:World) (hb:Below w0.heap.size w0 W)=>hzc.below hb)
   have HB2:=Lib.hid hb2
   have hzl:=hzc.lt
   clear hS hA h1c h2c hzc hb2 hz1 hz2
   go_upto_region 3 with (fail)
   -- REGION
   refine wp_region_light (by kernel_rfl) (LastJ (fun lz fz wz=>Vals [(1,15,(.slice a n c)),(4,18,(.slice b m d)),(6,20,(.slice b m d)),(7,21,(.int .i64 (m:Int)))] lz fz∧Deps [(⟨9,23,[(2,16),(5,19),(8,22)],fun f=>.agg #[f 16,f 19,.slice none 0 0,f 22],fun f g h=>by simp at h;simp [h]⟩:DepT)] lz fz∧RowsJ w0 [(⟨0,some 2,14,43,2,0,[]⟩:RowT),(⟨2,none,16,43,2,n,(flatE S)⟩:RowT),(⟨3,some 5,17,87,4,0,[]⟩:RowT),(⟨5,none,19,87,4,m,(flatA L)⟩:RowT),(⟨8,none,22,75,6,m,((madeCells (Value.agg #[.int .i64 0,.int .i64 0,.slice none 0 0,.bool false,.slice none 0 0,.slice none 0 0]).cells (m*6)).toList)⟩:RowT)] lz fz wz) 10 11 (fun _ wz=>∃ (w1:World) (v1 v2 v4:Value),OwnR w1 w0.heap.size w1.heap.size [⟨v1,43,2,n,flatE S⟩,⟨v2,87,4,m,flatA L⟩,⟨v4,75,6,m,(madeCells (Value.agg #[.int .i64 0,.int .i64 0,.slice none 0 0,.bool false,.slice none 0 0,.slice none 0 0]).cells (m*6)).toList⟩]∧Below w0.heap.size w0 w1∧wz=set4 w1 w.heap.size v1 v2 (.slice none 0 0) v4)) 24 rfl [14,15,16,17,18,19,20,21,22,23] (by kernel_rfl) (by kernel_rfl) (by kernel_rfl) (fun f=>LastJ.nothing ⟨Vals.nothing _ f,Deps.nothing _ f,RowsJ.nothing _ _ f⟩) ?_ ?_
   · intro i hi
     rcases (by have:i < 11:=hi;omega:i=0∨i=1∨i=2∨i=3∨i=4∨i=5∨i=6∨i=7∨i=8∨i=9∨i=10) with rfl | rfl | rfl | rfl | rfl | rfl | rfl | rfl | rfl | rfl | rfl
     · clear hi;intro o ho lz fz w' A hJ hli ha hA K hK
       obtain ⟨hv,hd,hq⟩:=hJ.now (i:=0) (by omega) hli
       obtain rfl:=Option.some.inj ho
       clear ho
       have hB:=hq.below
       rw [if_pos (by rfl)]
       go_simp
       exact hK _ _ (LastJ.step hJ 0 (by omega) hli (by decide) ⟨hv.step 0 14 _ (by simp),hd.step 0 14 _ hli (by simp [allR]),hq.new 0 14 _ ((Below.refl w'.heap.size w').alloc (Nat.le_refl _) _) (by simp;exact owns_lit0 _ _ _)⟩)
     · clear hi;intro o ho lz fz w' A hJ hli ha hA K hK
       obtain ⟨hv,hd,hq⟩:=hJ.now (i:=1) (by omega) hli
       obtain rfl:=Option.some.inj ho
       clear ho
       have hB:=hq.below
       have g0:=slot_out hA 0 _ (by decide) (by decide) rfl
       simp only [List.getD_cons_succ,List.getD_cons_zero] at g0
       have gg0:=slot_get g0
       rw [if_pos (by rfl)]
       have hF:=hK (.slice a n c) w' (LastJ.step hJ 1 (by omega) hli (by decide) ⟨hv.step 1 15 _ (by simp),hd.step 1 15 _ hli (by simp [allR]),hq.still 1 15 _ (Below.refl _ _) (by simp)⟩)
       clear hv hq ha hK hA hli hd hB hJ
       go_simp
       exact hF
     · clear hi;intro o ho lz fz w' A hJ hli ha hA K hK
       obtain ⟨hv,hd,hq⟩:=hJ.now (i:=2) (by omega) hli
       obtain rfl:=Option.some.inj ho
       clear ho
       have hB:=hq.below
       have g14:A.tmps.getD 14 undef=fz 14:=slot_in hA 14 (by decide) (by decide) rfl
       have g15:=slot_in hA 15 (by decide) (by decide) (hv (1,15,(.slice a n c)) (by simp) (ha 1 (by simp [aftersOf,Region.binds])))
       have gg14:=slot_get g14
       have gg15:=slot_get g15
       rw [if_pos (by rfl)]
       have ha0:=ha 0 (by simp [aftersOf,Region.binds])
       have o0:=hq.at (t:=⟨0,some 2,14,43,2,0,[]⟩) (by simp) ha0 (by simpa using hli)
       refine wp_append_copy (.tmp 14) (.tmp 15) 23 rfl w0.heap.size 43 (.agg #[.int .i64 0,.int .i64 0]) 2 16 Tryz.underlying23 infoEnt rfl (by decide) (by rw [slot_eval g14];exact o0) a n c (by rw [slot_eval g15]) HN1.out (flatE S) HL1.out (HW1.out w' hB) (flatE_oneCell _) hn4 (by decide) hB.size ?_
       intro v9 w9 ho9 hg9 hl9
       rw [slot_eval g14] at hg9 hl9
       exact hK v9 w9 (LastJ.step hJ 2 (by omega) hli (by decide) ⟨hv.step 2 16 _ (by simp),hd.step 2 16 _ hli (by simp [allR]),hq.repl 2 16 v9 ⟨0,some 2,14,43,2,0,[]⟩ (by simp) (by simp [RowT.live,ha0,hli]) hg9 hl9 (by simp;exact ho9)⟩)
     · clear hi;intro o ho lz fz w' A hJ hli ha hA K hK
       obtain ⟨hv,hd,hq⟩:=hJ.now (i:=3) (by omega) hli
       obtain rfl:=Option.some.inj ho
       clear ho
       have hB:=hq.below
       rw [if_pos (by rfl)]
       go_simp
       exact hK _ _ (LastJ.step hJ 3 (by omega) hli (by decide) ⟨hv.step 3 17 _ (by simp),hd.step 3 17 _ hli (by simp [allR]),hq.new 3 17 _ ((Below.refl w'.heap.size w').alloc (Nat.le_refl _) _) (by simp;exact owns_lit0 _ _ _)⟩)
     · clear hi;intro o ho lz fz w' A hJ hli ha hA K hK
       obtain ⟨hv,hd,hq⟩:=hJ.now (i:=4) (by omega) hli
       obtain rfl:=Option.some.inj ho
       clear ho
       have hB:=hq.below
       have g1:=slot_out hA 1 _ (by decide) (by decide) rfl
       simp only [List.getD_cons_succ,List.getD_cons_zero] at g1
       have gg1:=slot_get g1
       rw [if_pos (by rfl)]
       have hF:=hK (.slice b m d) w' (LastJ.step hJ 4 (by omega) hli (by decide) ⟨hv.step 4 18 _ (by simp),hd.step 4 18 _ hli (by simp [allR]),hq.still 4 18 _ (Below.refl _ _) (by simp)⟩)
       clear hv hq ha hK hA hli hd hB hJ
       go_simp
       exact hF
     · clear hi;intro o ho lz fz w' A hJ hli ha hA K hK
       obtain ⟨hv,hd,hq⟩:=hJ.now (i:=5) (by omega) hli
       obtain rfl:=Option.some.inj ho
       clear ho
       have hB:=hq.below
       have g17:A.tmps.getD 17 undef=fz 17:=slot_in hA 17 (by decide) (by decide) rfl
       have g18:=slot_in hA 18 (by decide) (by decide) (hv (4,18,(.slice b m d)) (by simp) (ha 4 (by simp [aftersOf,Region.binds])))
       have gg17:=slot_get g17
       have gg18:=slot_get g18
       rw [if_pos (by rfl)]
       have ha0:=ha 3 (by simp [aftersOf,Region.binds])
       have o0:=hq.at (t:=⟨3,some 5,17,87,4,0,[]⟩) (by simp) ha0 (by simpa using hli)
       refine wp_append_copy (.tmp 17) (.tmp 18) 24 rfl w0.heap.size 87 (.agg #[.int .i64 0,.int .i64 0,.int .i64 0,.int .i64 0]) 4 32 Tryz.underlying24 infoActE rfl (by decide) (by rw [slot_eval g17];exact o0) b m d (by rw [slot_eval g18]) HN2.out (flatA L) HL2.out (HW2.out w' hB) (flatA_one _) hm4 (by decide) hB.size ?_
       intro v9 w9 ho9 hg9 hl9
       rw [slot_eval g17] at hg9 hl9
       exact hK v9 w9 (LastJ.step hJ 5 (by omega) hli (by decide) ⟨hv.step 5 19 _ (by simp),hd.step 5 19 _ hli (by simp [allR]),hq.repl 5 19 v9 ⟨3,some 5,17,87,4,0,[]⟩ (by simp) (by simp [RowT.live,ha0,hli]) hg9 hl9 (by simp;exact ho9)⟩)
     · clear hi;intro o ho lz fz w' A hJ hli ha hA K hK
       obtain ⟨hv,hd,hq⟩:=hJ.now (i:=6) (by omega) hli
       obtain rfl:=Option.some.inj ho
       clear ho
       have hB:=hq.below
       have g1:=slot_out hA 1 _ (by decide) (by decide) rfl
       simp only [List.getD_cons_succ,List.getD_cons_zero] at g1
       have gg1:=slot_get g1
       rw [if_pos (by rfl)]
       have hF:=hK (.slice b m d) w' (LastJ.step hJ 6 (by omega) hli (by decide) ⟨hv.step 6 20 _ (by simp),hd.step 6 20 _ hli (by simp [allR]),hq.still 6 20 _ (Below.refl _ _) (by simp)⟩)
       clear hv hq ha hK hA hli hd hB hJ
       go_simp
       exact hF
     · clear hi;intro o ho lz fz w' A hJ hli ha hA K hK
       obtain ⟨hv,hd,hq⟩:=hJ.now (i:=7) (by omega) hli
       obtain rfl:=Option.some.inj ho
       clear ho
       have hB:=hq.below
       have g20:=slot_in hA 20 (by decide) (by decide) (hv (6,20,(.slice b m d)) (by simp) (ha 6 (by simp [aftersOf,Region.binds])))
       have gg20:=slot_get g20
       rw [if_pos (by rfl)]
       have hF:=hK (.int .i64 (m:Int)) w' (LastJ.step hJ 7 (by omega) hli (by decide) ⟨hv.step 7 21 _ (by simp),hd.step 7 21 _ hli (by simp [allR]),hq.still 7 21 _ (Below.refl _ _) (by simp)⟩)
       clear hv hq ha hK hA hli hd hB hJ
       go_simp
       exact hF
     · clear hi;intro o ho lz fz w' A hJ hli ha hA K hK
       obtain ⟨hv,hd,hq⟩:=hJ.now (i:=8) (by omega) hli
       obtain rfl:=Option.some.inj ho
       clear ho
       have hB:=hq.below
       have g21:=slot_in hA 21 (by decide) (by decide) (hv (7,21,(.int .i64 (m:Int))) (by simp) (ha 7 (by simp [aftersOf,Region.binds])))
       have gg21:=slot_get g21
       rw [if_pos (by rfl)]
       refine wp_make_full (.tmp 21) (.tmp 21) 55 rfl 75 (.agg #[.int .i64 0,.int .i64 0,.slice none 0 0,.bool false,.slice none 0 0,.slice none 0 0]) 6 96 Tryz.underlying55 infoSlot m (by rw [slot_eval g21]) (by rw [slot_eval g21]) hm4 (by decide) ?_
       intro w9 ho9 hb9
       exact hK _ w9 (LastJ.step hJ 8 (by omega) hli (by decide) ⟨hv.step 8 22 _ (by simp),hd.step 8 22 _ hli (by simp [allR]),hq.new 8 22 _ hb9 (by simp;exact ho9)⟩)
     · clear hi;intro o ho lz fz w' A hJ hli ha hA K hK
       obtain ⟨hv,hd,hq⟩:=hJ.now (i:=9) (by omega) hli
       obtain rfl:=Option.some.inj ho
       clear ho
       have hB:=hq.below
       have g16:A.tmps.getD 16 undef=fz 16:=slot_in hA 16 (by decide) (by decide) rfl
       have g19:A.tmps.getD 19 undef=fz 19:=slot_in hA 19 (by decide) (by decide) rfl
       have g22:A.tmps.getD 22 undef=fz 22:=slot_in hA 22 (by decide) (by decide) rfl
       have gg16:=slot_get g16
       have gg19:=slot_get g19
       have gg22:=slot_get g22
       rw [if_pos (by rfl)]
       have hF:=hK (.agg #[fz 16,fz 19,.slice none 0 0,fz 22]) w' (LastJ.step hJ 9 (by omega) hli (by decide) ⟨hv.step 9 23 _ (by simp),hd.step 9 23 _ hli (by simp [allR,ha 2 (by simp [aftersOf,Region.binds]),ha 5 (by simp [aftersOf,Region.binds]),ha 8 (by simp [aftersOf,Region.binds])]),hq.still 9 23 _ (Below.refl _ _) (by simp)⟩)
       have o16:=hq.at (t:=⟨2,none,16,43,2,n,(flatE S)⟩) (by simp) (ha 2 (by simp [aftersOf,Region.binds])) (by rfl)
       obtain ⟨p16,q16,k16,e16⟩:=slice_form o16
       simp only at e16
       rw [e16] at g16 gg16 hF
       clear o16
       have o19:=hq.at (t:=⟨5,none,19,87,4,m,(flatA L)⟩) (by simp) (ha 5 (by simp [aftersOf,Region.binds])) (by rfl)
       obtain ⟨p19,q19,k19,e19⟩:=slice_form o19
       simp only at e19
       rw [e19] at g19 gg19 hF
       clear o19
       have o22:=hq.at (t:=⟨8,none,22,75,6,m,((madeCells (Value.agg #[.int .i64 0,.int .i64 0,.slice none 0 0,.bool false,.slice none 0 0,.slice none 0 0]).cells (m*6)).toList)⟩) (by simp) (ha 8 (by simp [aftersOf,Region.binds])) (by rfl)
       obtain ⟨p22,q22,k22,e22⟩:=slice_form o22
       simp only at e22
       rw [e22] at g22 gg22 hF
       clear o22
       clear hv hq ha hK hA hli hd hB hJ
       go_simp
       exact hF
     · clear hi;intro o ho lz fz w' A hJ hli ha hA K hK
       obtain ⟨hv,hd,hq⟩:=hJ.now (i:=10) (by omega) hli
       obtain rfl:=Option.some.inj ho
       clear ho
       have hB:=hq.below
       have g4:=slot_out hA 4 _ (by decide) (by decide) rfl
       simp only [List.getD_cons_succ,List.getD_cons_zero] at g4
       have hd23:=(hd (⟨9,23,[(2,16),(5,19),(8,22)],fun f=>.agg #[f 16,f 19,.slice none 0 0,f 22],fun f g h=>by simp at h;simp [h]⟩:DepT) (by simp) (ha 9 (by simp [aftersOf,Region.binds]))).2
       simp only at hd23
       have g23:A.tmps.getD 23 undef=fz 23:=slot_in hA 23 (by decide) (by decide) rfl
       have gg4:=slot_get g4
       have gg23:=slot_get g23
       rw [if_pos (by rfl)]
       have hall:∀ k,k < 10→lz k=true:=fun k hk=>ha k (by have hk2:k < 10:=hk;rcases (by omega:k=0∨k=1∨k=2∨k=3∨k=4∨k=5∨k=6∨k=7∨k=8∨k=9) with rfl | rfl | rfl | rfl | rfl | rfl | rfl | rfl | rfl | rfl <;> simp [aftersOf,Region.binds])
       have hR:=hq.list [(⟨2,none,16,43,2,n,(flatE S)⟩:RowT),(⟨5,none,19,87,4,m,(flatA L)⟩:RowT),(⟨8,none,22,75,6,m,((madeCells (Value.agg #[.int .i64 0,.int .i64 0,.slice none 0 0,.bool false,.slice none 0 0,.slice none 0 0]).cells (m*6)).toList)⟩:RowT)] (by simp [RowT.live,hall 2 (by decide),hall 5 (by decide),hall 8 (by decide)]) (by simp)
       simp only [List.map_cons,List.map_nil,RowT.row] at hR
       obtain ⟨p16,q16,k16,e16⟩:=slice_form hR.head
       simp only at e16
       obtain ⟨p19,q19,k19,e19⟩:=slice_form hR.tail.head
       simp only at e19
       obtain ⟨p22,q22,k22,e22⟩:=slice_form hR.tail.tail.head
       simp only at e22
       rw [e16,e19,e22] at hd23 hR
       rw [hd23] at g23 gg23
       have hz:=HZ.out w' hB
       obtain ⟨z0,z1,z2,z3,f0,f1,f2,f3⟩:=hz
       clear hd23
       have hF:=hK undef _ (LastJ.last (fun i hi hne=>hall i (by omega)) ⟨w',_,_,_,hR,hB,rfl⟩)
       clear hv hq ha hK hA hli hd hB hJ hall hR
       unfold set4 at hF
       go_simp
       exact hF
   · intro lz fz w5 hall hJ
     have hfin:=(hJ.2 (hall 10 (by decide))).2
     simp only [mixF,List.contains_cons,List.contains_nil]
     go_simp
     obtain ⟨w1,v1,v2,v4,hR,hb1,rfl⟩:=hfin
     have hs2:=HB2.out.size
     have HE:=Lib.hid ((HZ.out w1 hb1).set4 v1 v2 (.slice none 0 0) v4)
     have HB:Hid (Below w.heap.size w (set4 w1 w.heap.size v1 v2 (.slice none 0 0) v4)):=Lib.hid ((set4_turn w1 w.heap.size _ _ _ _).below (HB2.out.trans (hb1.mono hs2)) (by omega) (by have:=hb1.size;omega))
     have hR2:=hR.turn (set4_turn w1 w.heap.size v1 v2 (.slice none 0 0) v4) (.inr (.inl hzl))
     have HO:Hid (EngOwn (set4 w1 w.heap.size v1 v2 (.slice none 0 0) v4) w.heap.size (set4 w1 w.heap.size v1 v2 (.slice none 0 0) v4).heap.size tEng v1 v2 (.slice none 0 0) v4 ⟨S,L,[],List.replicate L.length noSlt⟩ (List.replicate L.length nil3)):=Lib.hid (by
      have e1:=HSn.out
      have e2:=HLm.out
      subst e1 e2
      exact (engOwn_new (t:=tEng) hR2 HWS.out HWL.out hn4 hm4).mono hs2 (by rw [set4_size];exact Nat.le_refl _))
     unfold set4 at HE HB HO ⊢
     clear hR hR2 hb1
     go_wp2_with fail
     refine bodyPost_ret (results_eng Tryz.results40 _ (by rfl) HE.out) rfl ⟨_,_,_,_,_,rfl,by rw [HF.out];exact HO.out,HB.out⟩
   -- END REGION
end Go.Proofs.YtaaffpolmecicabGreat
