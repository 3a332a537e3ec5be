/- Texts of ours that stand together: RegionRows, SpecEng, SpecEng2 -/
import Derived.Test.YtpnjgmgmakmgeaaGreatSpecV
import Derived.Test.YtpnjgmgmakmgeaaGreatOwnG
import Derived.Test.YtpnjgmgmakmgeaaGreatEngM
import Derived.Test.YtpnjgmgmakmgeaaGreatRegJ
import Derived.Test.YtpnjgmgmakmgeaaGreatSpecX
import Derived.Deep.Cut
/- A region that draws its order and makes rows: a word for wp_region_light that tells which rows are there and that no two lie over one block (gen10/lightr.py). No function of the program is named here. -/
namespace Go.Proofs.YtpnjgmgmakmgeaaGreat
open Go.RowKit
set_option linter.unusedVariables false
structure RowT where
 op:Nat
 use:Option Nat
 slot:Nat
 e:TypeId
 size:Nat
 n:Nat
 cs:List Value
def RowT.live (l:Nat→Bool) (t:RowT):Bool:=l t.op && !(t.use.elim false l)
structure RowsJ (w0:World) (R:List RowT) (l:Nat→Bool) (f:Nat→Value) (w:World):Prop where
 below:Below w0.heap.size w0 w
 own:∀ t∈R,t.live l=true→w.ownsRow w0.heap.size t.e t.size (f t.slot) t.n t.cs
 apart:∀ t∈R,∀ u∈R,t.live l=true→u.live l=true→t.op≠u.op→∀ p,blk (f t.slot)=some p→blk (f u.slot)≠some p
theorem RowsJ.nothing (w0:World) (R:List RowT) (f:Nat→Value):RowsJ w0 R (fun _=>false) f w0.drew :=
 ⟨(Below.refl _ _).drew,fun t _ h=>by simp [RowT.live] at h,fun t _ u _ h=>by simp [RowT.live] at h⟩
theorem RowsJ.at {w0 w:World} {R:List RowT} {l:Nat→Bool} {f:Nat→Value} (h:RowsJ w0 R l f w) {t:RowT} (ht:t∈R) (hl:l t.op=true) (hu:t.use.elim false l=false):w.ownsRow w0.heap.size t.e t.size (f t.slot) t.n t.cs :=
 h.own t ht (by simp [RowT.live,hl,hu])
theorem live_step {l:Nat→Bool} {i:Nat} {t:RowT} (h1:t.op≠i) (h2:t.use≠some i):t.live (fun j=>j == i || l j)=t.live l:=by
 unfold RowT.live
 have e1:(t.op == i)=false:=by simpa using h1
 cases hu:t.use with
 | none=>simp [e1]
 | some u =>
  have e2:(u == i)=false:=by simp;intro e;exact h2 (by rw [hu,e])
  simp [e1,e2]
theorem RowsJ.still {w0 w w':World} {R:List RowT} {l:Nat→Bool} {f:Nat→Value} (h:RowsJ w0 R l f w) (i d:Nat) (v:Value) (hb:Below w.heap.size w w') (hR:∀ t∈R,(t.op≠i∧t.use≠some i)∧t.slot≠d) :
  RowsJ w0 R (fun j=>j == i || l j) (fun s=>if some d=some s then v else f s) w':=by
 have hs:∀ t∈R,(if some d=some t.slot then v else f t.slot)=f t.slot:=fun t ht=>if_neg (by simp;exact fun e=>(hR t ht).2 e.symm)
 refine ⟨h.below.trans (hb.mono h.below.size),fun t ht hl=>?_,fun t ht u hu hl hl2 hne=>?_⟩
 · rw [live_step (hR t ht).1.1 (hR t ht).1.2] at hl
   simp only [hs t ht]
   exact owns_below (h.own t ht hl) hb
 · rw [live_step (hR t ht).1.1 (hR t ht).1.2] at hl
   rw [live_step (hR u hu).1.1 (hR u hu).1.2] at hl2
   simp only [hs t ht,hs u hu]
   exact h.apart t ht u hu hl hl2 hne
theorem RowsJ.new {w0 w w':World} {R:List RowT} {l:Nat→Bool} {f:Nat→Value} (h:RowsJ w0 R l f w) (i d:Nat) (v:Value) (hb:Below w.heap.size w w')
  (hR:∀ t∈R,t.use≠some i∧(t.op=i→t.slot=d∧w'.ownsRow w.heap.size t.e t.size v t.n t.cs)∧(t.op≠i→t.slot≠d)) :
  RowsJ w0 R (fun j=>j == i || l j) (fun s=>if some d=some s then v else f s) w':=by
 have hs:∀ t∈R,t.op≠i→(if some d=some t.slot then v else f t.slot)=f t.slot:=fun t ht ho=>if_neg (by simp;exact fun e=>(hR t ht).2.2 ho e.symm)
 have hs2:∀ t∈R,t.op=i→(if some d=some t.slot then v else f t.slot)=v:=fun t ht ho=>if_pos (by rw [((hR t ht).2.1 ho).1])
 have hold:∀ t∈R,t.op≠i→t.live (fun j=>j == i || l j)=true→w.ownsRow w0.heap.size t.e t.size (f t.slot) t.n t.cs:=fun t ht ho hl=>by
  rw [live_step ho (hR t ht).1] at hl;exact h.own t ht hl
 refine ⟨h.below.trans (hb.mono h.below.size),fun t ht hl=>?_,fun t ht u hu hl hl2 hne=>?_⟩
 · by_cases ho:t.op=i
   · simp only [hs2 t ht ho]
     exact owns_mono ((hR t ht).2.1 ho).2 h.below.size
   · simp only [hs t ht ho]
     exact owns_below (hold t ht ho hl) hb
 · intro p hp hq
   by_cases ho:t.op=i
   · have ho2:u.op≠i:=fun e=>hne (by rw [ho,e])
     simp only [hs2 t ht ho] at hp
     simp only [hs u hu ho2] at hq
     have g1:=((hR t ht).2.1 ho).2
     have g2:=hold u hu ho2 hl2
     rw [owns_blk g1] at hp
     rw [owns_blk g2] at hq
     have:=(g1.lt p hp).1
     have:=(g2.lt p hq).2
     omega
   · by_cases ho2:u.op=i
     · simp only [hs t ht ho] at hp
       simp only [hs2 u hu ho2] at hq
       have g1:=((hR u hu).2.1 ho2).2
       have g2:=hold t ht ho hl
       rw [owns_blk g1] at hq
       rw [owns_blk g2] at hp
       have:=(g1.lt p hq).1
       have:=(g2.lt p hp).2
       omega
     · simp only [hs t ht ho] at hp
       simp only [hs u hu ho2] at hq
       rw [live_step ho (hR t ht).1] at hl
       rw [live_step ho2 (hR u hu).1] at hl2
       exact h.apart t ht u hu hl hl2 hne p hp hq
theorem RowsJ.repl {w0 w w':World} {R:List RowT} {l:Nat→Bool} {f:Nat→Value} (h:RowsJ w0 R l f w) (i d:Nat) (v:Value) (t0:RowT) (ht0:t0∈R) (hl0:t0.live l=true)
  (hg:w.grownBy w' (f t0.slot).ownBlock) (hloc:v.ownBlock=(f t0.slot).ownBlock∨v.ownBlock=some w.heap.size)
  (hR:∀ t∈R,(t.use=some i ↔ t.op=t0.op)∧(t.op=i→t.slot=d∧w'.ownsRow w0.heap.size t.e t.size v t.n t.cs)∧(t.op≠i→t.slot≠d)) :
  RowsJ w0 R (fun j=>j == i || l j) (fun s=>if some d=some s then v else f s) w':=by
 have hs:∀ t∈R,t.op≠i→(if some d=some t.slot then v else f t.slot)=f t.slot:=fun t ht ho=>if_neg (by simp;exact fun e=>(hR t ht).2.2 ho e.symm)
 have hs2:∀ t∈R,t.op=i→(if some d=some t.slot then v else f t.slot)=v:=fun t ht ho=>if_pos (by rw [((hR t ht).2.1 ho).1])
 have hold:∀ t∈R,t.op≠i→t.live (fun j=>j == i || l j)=true→t.live l=true∧t.op≠t0.op:=fun t ht ho hl=>by
  have hu:t.use≠some i:=fun e=>by
   unfold RowT.live at hl;rw [e] at hl;simp at hl
  rw [live_step ho hu] at hl
  exact ⟨hl,fun e=>hu ((hR t ht).1.2 e)⟩
 have o0:=h.own t0 ht0 hl0
 have b0:=owns_blk o0
 have hnt:∀ t∈R,t.live l=true→t.op≠t0.op→∀ p,blk (f t.slot)=some p→some p≠(f t0.slot).ownBlock:=fun t ht hl hne p hp e=>by
  rw [← b0] at e
  exact h.apart t ht t0 ht0 hl hl0 hne p hp e.symm
 refine ⟨h.below.grown hg h.below.size (fun k hk=>(o0.lt k hk).1),fun t ht hl=>?_,fun t ht u hu hl hl2 hne p hp hq=>?_⟩
 · by_cases ho:t.op=i
   · simp only [hs2 t ht ho]
     exact ((hR t ht).2.1 ho).2
   · simp only [hs t ht ho]
     obtain ⟨g1,g2⟩:=hold t ht ho hl
     have g3:=h.own t ht g1
     exact owns_keep g3 fun b hb=>hg.block b (by rw [owns_blk g3] at hb;exact (g3.lt b hb).2) (hnt t ht g1 g2 b hb)
 · have far:∀ t∈R,∀ u∈R,t.op=i→u.op≠i→t.live (fun j=>j == i || l j)=true→u.live (fun j=>j == i || l j)=true→∀ p,blk v=some p→blk (f u.slot)=some p→False:=fun t ht u hu ho ho2 hl hl2 p hp hq=>by
    obtain ⟨g1,g2⟩:=hold u hu ho2 hl2
    have g3:=h.own u hu g1
    rw [owns_blk ((hR t ht).2.1 ho).2] at hp
    rcases hloc with e | e
    · exact hnt u hu g1 g2 p hq (by rw [← e];exact hp.symm)
    · rw [e] at hp;cases hp
      rw [owns_blk g3] at hq
      have:=(g3.lt _ hq).2;omega
   by_cases ho:t.op=i
   · have ho2:u.op≠i:=fun e=>hne (by rw [ho,e])
     simp only [hs2 t ht ho] at hp
     simp only [hs u hu ho2] at hq
     exact far t ht u hu ho ho2 hl hl2 p hp hq
   · by_cases ho2:u.op=i
     · simp only [hs t ht ho] at hp
       simp only [hs2 u hu ho2] at hq
       exact far u hu t ht ho2 ho hl2 hl p hq hp
     · simp only [hs t ht ho] at hp
       simp only [hs u hu ho2] at hq
       exact h.apart t ht u hu (hold t ht ho hl).1 (hold u hu ho2 hl2).1 hne p hp hq
def allR (p:Nat × Nat→Bool):List (Nat × Nat)→Bool
 | []=>true
 | r :: t=>p r && allR p t
theorem allR_mem {p:Nat × Nat→Bool} {L:List (Nat × Nat)} (h:allR p L=true):∀ r∈L,p r=true:=by
 induction L with
 | nil=>intro r hr;cases hr
 | cons x t ih =>
  simp only [allR,Bool.and_eq_true] at h
  intro r hr
  rcases List.mem_cons.1 hr with rfl | hr
  · exact h.1
  · exact ih h.2 r hr
structure DepT where
 op:Nat
 slot:Nat
 refs:List (Nat × Nat)
 fn:(Nat→Value)→Value
 ext:∀ f g:Nat→Value,(∀ r∈refs,f r.2=g r.2)→fn f=fn g
def Deps (D:List DepT) (l:Nat→Bool) (f:Nat→Value):Prop:=∀ t∈D,l t.op=true→(∀ r∈t.refs,l r.1=true)∧f t.slot=t.fn f
theorem Deps.nothing (D:List DepT) (f:Nat→Value):Deps D (fun _=>false) f:=fun t _ h=>by cases h
theorem Deps.step {D:List DepT} {l:Nat→Bool} {f:Nat→Value} (h:Deps D l f) (i d:Nat) (v:Value) (hli:l i=false)
  (hD:∀ t∈D,(t.op=i→t.slot=d∧allR (fun r=>l r.1 && r.2 != d) t.refs=true∧v=t.fn f)∧(t.op≠i→t.slot≠d∧allR (fun r=>r.2 != d || r.1 == i) t.refs=true)) :
  Deps D (fun j=>j == i || l j) (fun s=>if some d=some s then v else f s):=by
 intro t ht hl
 by_cases ho:t.op=i
 · obtain ⟨g1,g2,g3⟩:=(hD t ht).1 ho
   have g2:∀ r∈t.refs,l r.1=true∧r.2≠d:=fun r hr=>by have:=allR_mem g2 r hr;simpa using this
   refine ⟨fun r hr=>by simp [(g2 r hr).1],?_⟩
   simp only [g1,if_true]
   rw [g3]
   exact t.ext _ _ fun r hr=>(if_neg (by simp;exact fun e=>(g2 r hr).2 e.symm)).symm
 · obtain ⟨g1,g2⟩:=(hD t ht).2 ho
   have g2:∀ r∈t.refs,r.2=d→r.1=i:=fun r hr e=>by
    have:=allR_mem g2 r hr
    simp [e] at this;exact this
   have hl':l t.op=true:=by
    have e1:(t.op == i)=false:=by simpa using ho
    simpa [e1] using hl
   obtain ⟨g3,g4⟩:=h t ht hl'
   refine ⟨fun r hr=>by simp [g3 r hr],?_⟩
   have hne:¬ (some d=some t.slot):=by simp;exact fun e=>g1 e.symm
   simp only [if_neg hne]
   rw [g4]
   exact t.ext _ _ fun r hr=>(if_neg (by
    simp
    intro e
    have h1:=g2 r hr e.symm
    have h2:=g3 r hr
    rw [h1,hli] at h2;cases h2)).symm
def RowT.row (f:Nat→Value) (t:RowT):Rw:=⟨f t.slot,t.e,t.size,t.n,t.cs⟩
theorem RowsJ.list {w0 w:World} {R:List RowT} {l:Nat→Bool} {f:Nat→Value} (h:RowsJ w0 R l f w) (ts:List RowT) (ht:∀ t∈ts,t∈R∧t.live l=true) (hp:ts.Pairwise (fun a b=>a.op≠b.op)):OwnR w w0.heap.size w.heap.size (ts.map (RowT.row f)):=by
 refine ⟨fun r hr=>?_,fun r hr b hb=>?_,?_⟩
 · obtain ⟨t,h1,rfl⟩:=List.mem_map.1 hr
   exact h.own t (ht t h1).1 (ht t h1).2
 · obtain ⟨t,h1,rfl⟩:=List.mem_map.1 hr
   have g:=h.own t (ht t h1).1 (ht t h1).2
   have hb':blk (f t.slot)=some b:=hb
   rw [owns_blk g] at hb'
   exact (g.lt b hb').2
 · rw [List.pairwise_map]
   exact List.Pairwise.imp_of_mem (fun {a b} ha hb hne p hp hq=>h.apart a (ht a ha).1 b (ht b hb).1 (ht a ha).2 (ht b hb).2 hne p hp hq) hp
def LastJ (P:(Nat→Bool)→(Nat→Value)→World→Prop) (m n:Nat) (Fin:(Nat→Value)→World→Prop) (l:Nat→Bool) (f:Nat→Value) (w:World):Prop :=
 (l m=false→P l f w)∧(l m=true→(∀ i,i < n→l i=true)∧Fin f w)
theorem LastJ.nothing {P:(Nat→Bool)→(Nat→Value)→World→Prop} {m n:Nat} {Fin:(Nat→Value)→World→Prop} {f:Nat→Value} {w:World} (h:P (fun _=>false) f w):LastJ P m n Fin (fun _=>false) f w:=⟨fun _=>h,fun h=>by cases h⟩
theorem LastJ.now {P:(Nat→Bool)→(Nat→Value)→World→Prop} {m n:Nat} {Fin:(Nat→Value)→World→Prop} {l:Nat→Bool} {f:Nat→Value} {w:World} (h:LastJ P m n Fin l f w) {i:Nat} (hi:i < n) (hli:l i=false):P l f w:=by
 refine h.1 ?_
 cases hm:l m with
 | false=>rfl
 | true=>rw [(h.2 hm).1 i hi] at hli;cases hli
theorem LastJ.step {P:(Nat→Bool)→(Nat→Value)→World→Prop} {m n:Nat} {Fin:(Nat→Value)→World→Prop} {l:Nat→Bool} {f g:Nat→Value} {w w':World} (h:LastJ P m n Fin l f w) (i:Nat) (hi:i < n) (hli:l i=false) (him:m≠i) (hP:P (fun j=>j == i || l j) g w'):LastJ P m n Fin (fun j=>j == i || l j) g w':=by
 refine ⟨fun _=>hP,fun hm=>?_⟩
 have:l m=true:=by simpa [him] using hm
 have hl:=(h.2 this).1 i hi
 rw [hli] at hl;cases hl
theorem LastJ.last {P:(Nat→Bool)→(Nat→Value)→World→Prop} {m n:Nat} {Fin:(Nat→Value)→World→Prop} {l:Nat→Bool} {g:Nat→Value} {w':World} (hall:∀ i,i < n→i≠m→l i=true) (hF:Fin g w'):LastJ P m n Fin (fun j=>j == m || l j) g w':=by
 refine ⟨fun h=>by simp at h,fun _=>⟨fun i hi=>?_,hF⟩⟩
 by_cases e:i=m
 · simp [e]
 · simp [hall i hi e]
theorem LastJ.behind {P:(Nat→Bool)→(Nat→Value)→World→Prop} {m n:Nat} {Fin:(Nat→Value)→World→Prop} {l:Nat→Bool} {f:Nat→Value} {w w':World} (h:LastJ P m n Fin l f w) (i d:Nat) (v:Value) (him:m≠i) (hm:l m=true) (hF:∀ f' (hf:∀ s,s≠d→f' s=f s),Fin f w→Fin f' w') :
  LastJ P m n Fin (fun j=>j == i || l j) (fun s=>if some d=some s then v else f s) w' :=
 ⟨fun h'=>by simp [hm] at h',fun _=>⟨fun j hj=>by simp [(h.2 hm).1 j hj],hF _ (fun s hs=>if_neg (by simpa using fun e=>hs e.symm)) (h.2 hm).2⟩⟩
theorem wp_append_copy {P:Program} {W:World} {o:Oper} {a:Act} {K:Act→World→Prop} {Q:Exit→Act→World→Prop} (s x:Operand) (t:TypeId)
  (ho:o.op = .call { callee:=.builtin .append,args:=#[s,x],argTypes:=#[t,t] })
  (B:Nat) (e:TypeId) (z:Value) (size bytes:Nat) (ht:P.underlying t=some (.slice e)) (hinfo:(P.info? e).map (fun i=>(i.zero,i.size,i.bytes))=some (some z,size,bytes))
  (hzs:z.cells.size=size) (hsz:0 < size) (hs:W.ownsRow B e size (a.eval s) 0 []) (ad:Option Addr) (m c:Nat) (hx:a.eval x = .slice ad m c) (hnil:ad=none→m=0∧c=0)
  (news:List Value) (hl:news.length=m*size) (hnews:∀ ad',ad=some ad'→∀ j u,news[j]? = some u→W.cell? (ad'.add j)=some u) (h1:∀ u∈news,u.oneCell'=true)
  (hn:m≤4000000) (hby:bytes≤100000) (hB:B≤W.heap.size)
  (h:∀ v' w',w'.ownsRow B e size v' m news→W.grownBy w' (a.eval s).ownBlock→(v'.ownBlock=(a.eval s).ownBlock∨v'.ownBlock=some W.heap.size)→K (a.put o.dst v') w'):Oper.wp P o a W K Q:=by
 obtain ⟨i0,hi,hz0,hz1,hz2⟩:=info_parts hinfo
 cases ad with
 | none =>
  obtain ⟨rfl,rfl⟩:=hnil rfl
  have hnn:news=[]:=List.eq_nil_of_length_eq_zero (by omega)
  have hrun:=run_append_owned_none (P:=P) (w:=W) B t o.type e i0 size ht hi (a.eval s) 0 [] hs
  unfold Oper.wp
  simp [execOp,ho,resolve,invoke,builtin,hx,hrun,Result.andThen]
  exact h _ _ (by rw [hnn];exact hs) (World.grownBy.refl W _) (.inl rfl)
 | some ad =>
  have hbytes:(0+m)*bytes≤140737488355328:=by
   calc (0+m)*bytes≤4000000*100000:=Nat.mul_le_mul (by omega) hby
    _≤140737488355328:=by decide
  obtain ⟨v',w',hr,h2,h3,h4,h5⟩:=run_append_own_at (P:=P) W B t o.type e i0 z size bytes ht hi hz0 hz1 hz2 hzs hsz (a.eval s) 0 [] hs ad m c news hl (hnews ad rfl) h1 (by unfold maxLen;omega) hbytes hB
  unfold Oper.wp execOp
  simp only [ho,resolve,invoke,builtin,Sem.run_bind,Sem.run_pure,Result.andThen_ok,List.map_toArray,List.map_cons,List.map_nil,hx,hr]
  rw [Nat.zero_add,List.nil_append] at h2
  exact h v' w' h2 h3 h5
theorem owns_lit0 (w:World) (e:TypeId) (size:Nat):(w.alloc (.cells #[] e)).ownsRow w.heap.size e size (.slice (some ⟨w.heap.size,0,none⟩) 0 0) 0 []:=(own_lit e size #[] 0 (Nat.le_refl _) (by simp) (by simp)).1
set_option linter.unusedSimpArgs false
end Go.Proofs.YtpnjgmgmakmgeaaGreat
