/- Texts of ours that stand together: EngMath3, StepMath, EngSl, StepMem, StepBuild, StepBld -/
import Derived.Test.YtaaffpolmecicabGreatEngM
import Derived.Test.YtaaffpolmecicabGreatCore
import Derived.Test.YtaaffpolmecicabGreatKeyA
import Derived.Deep.MidRow
import Derived.Laws.Tables
/- Engines come to an end,with the serial run's store and effects: plain mathematics. No function of the program is named here. -/
namespace Go.Proofs.YtaaffpolmecicabGreat
set_option linter.unusedVariables false
set_option linter.unusedSimpArgs false
theorem same_fresh {e:Eng} (h:EngOk e) {n:Nat} (hn:n < e.slots.length) (h0:stg e n=0) (ht:(e.slots.getD n noSlt).tries≠1000):sameB (stepN e n).1 n=true∧stg (stepN e n).1 n=1:=by
 have hstep:(stepN e n).1=e.put n ⟨1,(e.slots.getD n noSlt).tries+1,(tryM e.base e.vers (e.list.getD n noA) n).2,(tryM e.base e.vers (e.list.getD n noA) n).1⟩ (putL e.vers n (tryM e.base e.vers (e.list.getD n noA) n).1.wrs):=by
  unfold stepN;rw [if_pos h0,if_neg ht]
 have hok:=step_ok h hn
 rw [hstep] at hok ⊢
 have hacc:=h.act hn
 refine ⟨?_,by rw [stg_put _ _ _ _ hn,if_pos rfl]⟩
 rw [sameB_iff,slot_put _ _ _ _ hn,if_pos rfl]
 intro k hk
 simp only at hk ⊢
 have hrd:(tryM e.base e.vers (e.list.getD n noA) n).1.rds=(readsM (e.list.getD n noA)).map fun key=>(key,(readL e.base e.vers key n).1):=by
  unfold tryM
  rw [effK_rds hacc]
  refine List.map_congr_left fun key hk=>?_
  rcases reads_src hacc key hk with e1 | e1
  · rw [if_pos e1,e1]
  · by_cases e2:key=(e.list.getD n noA).src
    · rw [if_pos e2,e2]
    · rw [if_neg e2,e1]
 have hk':k < (readsM (e.list.getD n noA)).length:=by rw [hrd] at hk;simpa using hk
 have hkm:(readsM (e.list.getD n noA))[k]? = some (readsM (e.list.getD n noA))[k]:=List.getElem?_eq_getElem hk'
 have e1:(tryM e.base e.vers (e.list.getD n noA) n).1.rds.getD k (0,0)=((readsM (e.list.getD n noA))[k],(readL e.base e.vers (readsM (e.list.getD n noA))[k] n).1):=by
  rw [hrd,List.getD_eq_getElem?_getD,List.getElem?_map,hkm];rfl
 have e2:(tryM e.base e.vers (e.list.getD n noA) n).2.getD k 0=(readL e.base e.vers (readsM (e.list.getD n noA))[k] n).2:=by
  unfold tryM
  simp only
  rw [List.getD_eq_getElem?_getD,List.getElem?_map,hkm];rfl
 rw [e1,e2]
 have hvk:VOk (putL e.vers n (tryM e.base e.vers (e.list.getD n noA) n).1.wrs):=hok.vok
 have hcg:=readL_congr (S:=e.base) (T:=e.base) (key:=(readsM (e.list.getD n noA))[k]) (by_:=(n:Int)) hvk h.vok rfl (fun x _ hb=>?_)
 · show readL e.base (putL e.vers n (tryM e.base e.vers (e.list.getD n noA) n).1.wrs) (readsM (e.list.getD n noA))[k] n = _
   rw [hcg]
 rw [mem_putL]
 constructor
 · rintro (⟨h1,-⟩ | ⟨h1,-⟩)
   · exact h1
   · omega
 · intro h1;exact .inl ⟨h1,by omega⟩
/-! Coming to an end. -/
def finStep (x:Eng × Nat × Nat):Eng × Nat × Nat:=if stg x.1 x.2.1=2 then (x.1,x.2.1+1,x.2.2) else ((stepN x.1 x.2.1).1,x.2.1,x.2.2+1)
def finIt:Nat→Eng × Nat × Nat→Eng × Nat × Nat
 | 0,x=>x
 | f+1,x=>if x.2.1 < x.1.slots.length then finIt f (finStep x) else x
def finPh (e:Eng) (k:Nat):Nat:=if stg e k=2 then 1 else if stg e k=0 then 3 else if sameB e k then 2 else 4
def finMu (x:Eng × Nat × Nat):Nat:=if x.2.1 < x.1.slots.length then 4*(x.1.slots.length - x.2.1 - 1)+finPh x.1 x.2.1 else 0
structure FinI (e0:Eng) (x:Eng × Nat × Nat):Prop where
 ok:EngOk x.1
 base:x.1.base=e0.base
 list:x.1.list=e0.list
 len:x.1.slots.length=e0.slots.length
 le:x.2.1≤x.1.slots.length
 chk:∀ m,m < x.2.1→stg x.1 m=2
 far:∀ m,x.2.1 < m→m < x.1.slots.length→(x.1.slots.getD m noSlt).tries≤900
 here:x.2.1 < x.1.slots.length→(x.1.slots.getD x.2.1 noSlt).tries≤900∨stg x.1 x.2.1=2∨(stg x.1 x.2.1=1∧sameB x.1 x.2.1=true)
 num:x.2.2+(if x.2.1 < x.1.slots.length then finPh x.1 x.2.1 else 4)≤3*x.2.1+4
theorem finPh_le (e:Eng) (k:Nat):1≤finPh e k∧finPh e k≤4:=by 
 unfold finPh
 split
 · omega
 · split
   · omega
   · split <;> omega
theorem stg_cases {e:Eng} (h:EngOk e) {n:Nat} (hn:n < e.slots.length):stg e n=0∨stg e n=1∨stg e n=2:=by
 by_cases h0:stg e n=0
 · exact .inl h0
 · exact .inr (slot_old (h.act hn) (h.slot n hn) h0).stage
theorem fin_next {e0:Eng} {x:Eng × Nat × Nat} (h:FinI e0 x) (hk:x.2.1 < x.1.slots.length):FinI e0 (finStep x)∧finMu (finStep x) < finMu x:=by
 obtain ⟨e,k,n⟩:=x
 obtain ⟨hok,hb,hl,hlen,hle,hchk,hfar,hhere,hnum⟩:=h
 simp only at hok hb hl hlen hle hchk hfar hhere hnum hk
 have hhere:=hhere hk
 rw [if_pos hk] at hnum
 have hmu:finMu (e,k,n)=4*(e.slots.length - k - 1)+finPh e k:=by unfold finMu;rw [if_pos hk]
 rw [hmu]
 by_cases h2:stg e k=2
 · have hst:finStep (e,k,n)=(e,k+1,n):=by unfold finStep;rw [if_pos h2]
   have hp:finPh e k=1:=by unfold finPh;rw [if_pos h2]
   rw [hst]
   refine ⟨⟨hok,hb,hl,hlen,hk,fun m hm=>?_,fun m h1 h3=>hfar m (by simp only at h1;omega) h3,fun h1=>.inl (hfar (k+1) (by omega) h1),?_⟩,?_⟩
   · rcases (by simp only at hm;omega:m < k∨m=k) with h3 | rfl
     · exact hchk m h3
     · exact h2
   · simp only
     split
     · have:=finPh_le e (k+1);omega
     · omega
   · unfold finMu
     simp only
     split
     · have:=finPh_le e (k+1);omega
     · have:=finPh_le e k;omega
 · have hst:finStep (e,k,n)=((stepN e k).1,k,n+1):=by unfold finStep;rw [if_neg h2]
   rw [hst]
   have hok':=step_ok hok hk
   have gen:∀ (s:Slt) (V:List Ver),(stepN e k).1=e.put k s V→(s.tries≤900∨stg (e.put k s V) k=2∨(stg (e.put k s V) k=1∧sameB (e.put k s V) k=true))→finPh (e.put k s V) k < finPh e k→FinI e0 ((stepN e k).1,k,n+1)∧finMu ((stepN e k).1,k,n+1) < 4*(e.slots.length - k - 1)+finPh e k:=by
    intro s V hs hh hph
    rw [hs] at hok' ⊢
    refine ⟨⟨hok',hb,hl,by rw [len_put];exact hlen,by rw [len_put];exact hle,fun m hm=>?_,fun m h1 h3=>?_,fun _=>?_,?_⟩,?_⟩
    · rw [stg_put _ _ _ _ hk,if_neg (by simp only at hm;omega)];exact hchk m hm
    · simp only at h1 h3 ⊢
      rw [len_put] at h3
      rw [slot_put _ _ _ _ hk,if_neg (by omega)];exact hfar m h1 h3
    · simp only
      rw [slot_put _ _ _ _ hk,if_pos rfl];exact hh
    · simp only
      rw [if_pos (by rw [len_put];exact hk)];omega
    · unfold finMu
      simp only
      rw [if_pos (by rw [len_put];exact hk),len_put];omega
   rcases stg_cases hok hk with h0 | h1 | h3
   · have ht:(e.slots.getD k noSlt).tries≠1000:=by
      rcases hhere with h4 | h4 | h4
      · omega
      · exact absurd h4 h2
      · have:=h4.1;omega
     have hfr:=same_fresh hok hk h0 ht
     have hs:(stepN e k).1=e.put k ⟨1,(e.slots.getD k noSlt).tries+1,(tryM e.base e.vers (e.list.getD k noA) k).2,(tryM e.base e.vers (e.list.getD k noA) k).1⟩ (putL e.vers k (tryM e.base e.vers (e.list.getD k noA) k).1.wrs):=by
      unfold stepN;rw [if_pos h0,if_neg ht]
     refine gen _ _ hs ?_ ?_
     · rw [← hs];exact .inr (.inr ⟨hfr.2,hfr.1⟩)
     · rw [← hs]
       have e1:finPh (stepN e k).1 k=2:=by unfold finPh;rw [if_neg (by rw [hfr.2];decide),if_neg (by rw [hfr.2];decide),if_pos hfr.1]
       have e2:finPh e k=3:=by unfold finPh;rw [if_neg h2,if_pos h0]
       omega
   · have hpre:¬ (k≠0∧stg e (k - 1)≠2):=by
      rintro ⟨h4,h5⟩;exact h5 (hchk (k - 1) (by omega))
     cases hsm:sameB e k with
     | true =>
      have hs:(stepN e k).1=e.put k ⟨2,(e.slots.getD k noSlt).tries,(e.slots.getD k noSlt).from_,(e.slots.getD k noSlt).res⟩ e.vers:=by
       unfold stepN;rw [if_neg (by omega),if_pos h1,if_neg hpre,if_pos hsm]
      refine gen _ _ hs ?_ ?_
      · right;left;rw [stg_put _ _ _ _ hk,if_pos rfl]
      · have e1:finPh (e.put k ⟨2,(e.slots.getD k noSlt).tries,(e.slots.getD k noSlt).from_,(e.slots.getD k noSlt).res⟩ e.vers) k=1:=by unfold finPh;rw [if_pos (by rw [stg_put _ _ _ _ hk,if_pos rfl])]
        have e2:finPh e k=2:=by unfold finPh;rw [if_neg h2,if_neg (by omega),if_pos hsm]
        omega
     | false =>
      have hs:(stepN e k).1=e.put k ⟨0,(e.slots.getD k noSlt).tries,[],noEff⟩ (dropL e.vers k):=by
       unfold stepN;rw [if_neg (by omega),if_pos h1,if_neg hpre,if_neg (by rw [hsm];decide)]
      refine gen _ _ hs ?_ ?_
      · left
        rcases hhere with h4 | h4 | h4
        · exact h4
        · exact absurd h4 h2
        · rw [hsm] at h4;exact absurd h4.2 (by decide)
      · have e1:finPh (e.put k ⟨0,(e.slots.getD k noSlt).tries,[],noEff⟩ (dropL e.vers k)) k=3:=by
         unfold finPh
         rw [if_neg (by rw [stg_put _ _ _ _ hk,if_pos rfl];simp),if_pos (by rw [stg_put _ _ _ _ hk,if_pos rfl])]
        have e2:finPh e k=4:=by unfold finPh;rw [if_neg h2,if_neg (by omega),if_neg (by rw [hsm];decide)]
        omega
   · exact absurd h3 h2
theorem fin_end {e0:Eng}:∀ (f:Nat) (x:Eng × Nat × Nat),FinI e0 x→finMu x≤f→FinI e0 (finIt f x)∧(finIt f x).2.1=(finIt f x).1.slots.length:=by
 intro f
 induction f with
 | zero =>
  intro x h hm
  have:¬ x.2.1 < x.1.slots.length:=by
   intro hk
   unfold finMu at hm
   rw [if_pos hk] at hm
   have:=finPh_le x.1 x.2.1;omega
  exact ⟨h,by have:=h.le;simp only [finIt];omega⟩
 | succ f ih =>
  intro x h hm
  unfold finIt
  split
  · rename_i hk
    obtain ⟨h1,h2⟩:=fin_next h hk
    exact ih _ h1 (by omega)
  · rename_i hk
    exact ⟨h,by have:=h.le;omega⟩
theorem finIt_more {e0:Eng}:∀ (f:Nat) (x:Eng × Nat × Nat) (g:Nat),FinI e0 x→finMu x≤f→f≤g→finIt g x=finIt f x:=by
 intro f
 induction f with
 | zero =>
  intro x g h hm _
  have hk:¬ x.2.1 < x.1.slots.length:=by
   intro hk
   unfold finMu at hm
   rw [if_pos hk] at hm
   have:=finPh_le x.1 x.2.1;omega
  cases g with
  | zero=>rfl
  | succ g=>simp only [finIt];rw [if_neg hk]
 | succ f ih =>
  intro x g h hm hg
  obtain ⟨g,rfl⟩:∃ g',g=g'+1:=⟨g - 1,by omega⟩
  simp only [finIt]
  split
  · rename_i hk
    obtain ⟨h1,h2⟩:=fin_next h hk
    exact ih _ _ h1 (by omega) (by omega)
  · rfl
end Go.Proofs.YtaaffpolmecicabGreat
/- Steps over a queue of what is not checked: plain mathematics. No function of the program is named here. -/
namespace Go.Proofs.YtaaffpolmecicabGreat
set_option linter.unusedVariables false
set_option linter.unusedSimpArgs false
def chkN (e:Eng):Nat:=cntC e e.slots.length
theorem chkN_iff {e:Eng} (h:EngOk e) {n:Nat} (hn:n < e.slots.length):stg e n=2 ↔ n < chkN e:=by
 constructor
 · intro h2
   have h1:=cntC_full (e:=e) (n+1) fun m hm=>h.pre n hn h2 m (by omega)
   have h3:=cntC_mono e (show n+1≤e.slots.length by omega)
   unfold chkN;omega
 · intro hc;exact (chk_first.2 h.chk n hc).1
structure QIs (e:Eng) (Q:List Int) (d:Nat):Prop where
 le:d≤Q.length
 len:Q.length - d=e.slots.length - chkN e
 get:∀ i,d≤i→i < Q.length→Q.getD i 0=((chkN e+(i - d):Nat):Int)
theorem QIs.same {e e':Eng} {Q:List Int} {d:Nat} (h:QIs e Q d) (hl:e'.slots.length=e.slots.length) (hc:chkN e'=chkN e):QIs e' Q d :=
 ⟨h.le,by rw [hl,hc];exact h.len,fun i h1 h2=>by rw [hc];exact h.get i h1 h2⟩
theorem QIs.pop {e e':Eng} {Q:List Int} {d:Nat} (h:QIs e Q d) (hl:e'.slots.length=e.slots.length) (hlt:chkN e < e.slots.length) (hc:chkN e'=chkN e+1):QIs e' Q (d+1):=by
 have:=h.len
 exact ⟨by omega,by rw [hl,hc];omega,fun i h1 h2=>by rw [hc,h.get i (by omega) h2];omega⟩
theorem QIs.first {e:Eng} {Q:List Int} {d:Nat} (h:QIs e Q d) (hlt:d < Q.length):Q.getD d 0=(chkN e:Int):=by
 rw [h.get d (Nat.le_refl _) hlt,Nat.sub_self,Nat.add_zero]
def queTo (e:Eng):Nat→List Int
 | 0=>[]
 | k+1=>if stg e k=2 then queTo e k else queTo e k++[(k:Int)]
theorem queTo_spec {e:Eng} (h:EngOk e):∀ k,k≤e.slots.length→(queTo e k).length=k - chkN e∧∀ i,i < (queTo e k).length→(queTo e k).getD i 0=((chkN e+i:Nat):Int):=by
 intro k
 induction k with
 | zero=>intro _;exact ⟨by simp [queTo],fun i hi=>by simp [queTo] at hi⟩
 | succ k ih =>
  intro hk
  obtain ⟨h1,h2⟩:=ih (by omega)
  by_cases h3:stg e k=2
  · have h4:=(chkN_iff h (show k < e.slots.length by omega)).1 h3
    have e1:queTo e (k+1)=queTo e k:=by rw [queTo,if_pos h3]
    rw [e1]
    exact ⟨by omega,h2⟩
  · have h4:=mt (chkN_iff h (show k < e.slots.length by omega)).2 h3
    have e1:queTo e (k+1)=queTo e k++[(k:Int)]:=by rw [queTo,if_neg h3]
    rw [e1]
    refine ⟨by rw [List.length_append,h1];simp only [List.length_singleton];omega,fun i hi=>?_⟩
    rw [List.length_append,List.length_singleton] at hi
    by_cases e2:i < (queTo e k).length
    · rw [List.getD_eq_getElem?_getD,List.getElem?_append_left e2,← List.getD_eq_getElem?_getD];exact h2 i e2
    · have e3:i=(queTo e k).length:=by omega
      rw [List.getD_eq_getElem?_getD,List.getElem?_append_right (by omega),e3]
      simp;omega
theorem queTo_is {e:Eng} (h:EngOk e):QIs e (queTo e e.slots.length) 0:=by
 obtain ⟨h1,h2⟩:=queTo_spec h e.slots.length (Nat.le_refl _)
 exact ⟨Nat.zero_le _,by omega,fun i _ hi=>by rw [h2 i hi,Nat.sub_zero]⟩
/-! What a step with a new one,or with the first of the queue,is. -/
/-! What a try reads,and the store of it. -/
end Go.Proofs.YtaaffpolmecicabGreat
/- One slot of an engine's rows among the others;a slot,the versions replaced. No function of the program is named here. -/
namespace Go.Proofs.YtaaffpolmecicabGreat
open Go.RowKit
set_option linter.unusedVariables false
set_option linter.unusedSimpArgs false
/-! One slot among the others. -/
theorem sl_split {L:List Slt} {ts:List (Value × Value × Value)} (hl:ts.length=L.length) {j:Nat} (hj:j < L.length) (s':Slt) :
  (L.set j s').zip ts=(L.take j).zip (ts.take j)++(s',ts.getD j (undef,undef,undef)) :: (L.drop (j+1)).zip (ts.drop (j+1)):=by
 have e1:L.set j s'=L.take j++s' :: L.drop (j+1):=by rw [List.set_eq_take_append_cons_drop,if_pos hj]
 have e2:ts=ts.take j++ts.getD j (undef,undef,undef) :: ts.drop (j+1):=by
  rw [List.getD_eq_getElem?_getD,List.getElem?_eq_getElem (by omega),Option.getD_some,← List.drop_eq_getElem_cons (by omega),List.take_append_drop]
 rw [e1]
 conv=>lhs;rw [e2]
 rw [List.zip_append (by simp;omega),List.zip_cons_cons]
theorem set_getD_self {L:List Slt} {j:Nat} (hj:j < L.length):L.set j (L.getD j noSlt)=L:=by
 rw [List.getD_eq_getElem?_getD,List.getElem?_eq_getElem hj];simp
def rsB (tI tE:TypeId) (L:List Slt) (ts:List (Value × Value × Value)) (j:Nat):List Rw:=((L.take j).zip (ts.take j)).flatMap fun p=>slRs tI tE p.1 p.2
def rsA (tI tE:TypeId) (L:List Slt) (ts:List (Value × Value × Value)) (j:Nat):List Rw:=((L.drop (j+1)).zip (ts.drop (j+1))).flatMap fun p=>slRs tI tE p.1 p.2
theorem slsRs_set {tI tE:TypeId} {L:List Slt} {ts:List (Value × Value × Value)} (hl:ts.length=L.length) {j:Nat} (hj:j < L.length) (s':Slt) :
  slsRs tI tE (L.set j s') ts=rsB tI tE L ts j++(slRs tI tE s' (ts.getD j (undef,undef,undef))++rsA tI tE L ts j):=by
 unfold slsRs rsB rsA
 rw [sl_split hl hj,List.flatMap_append,List.flatMap_cons]
theorem slsRs_at {tI tE:TypeId} {L:List Slt} {ts:List (Value × Value × Value)} (hl:ts.length=L.length) {j:Nat} (hj:j < L.length) :
  slsRs tI tE L ts=rsB tI tE L ts j++(slRs tI tE (L.getD j noSlt) (ts.getD j (undef,undef,undef))++rsA tI tE L ts j):=by
 have:=slsRs_set (tI:=tI) (tE:=tE) hl hj (L.getD j noSlt)
 rwa [set_getD_self hj] at this
theorem zip_set {L:List Slt} {ts:List (Value × Value × Value)} (hl:ts.length=L.length) {j:Nat} (hj:j < L.length) (s':Slt):(L.zip ts).set j (s',ts.getD j (undef,undef,undef))=(L.set j s').zip ts:=by
 apply List.ext_getElem?
 intro i
 rw [List.getElem?_set]
 by_cases e:j=i
 · subst e
   rw [if_pos rfl,if_pos (by simp;omega),zip_get (by simpa using hl) (by simpa using hj)]
   congr 2
   rw [List.getD_eq_getElem?_getD,List.getElem?_set_self hj];rfl
 · rw [if_neg e]
   by_cases hi:i < L.length
   · rw [zip_get hl hi,zip_get (by simpa using hl) (by simpa using hi)]
     congr 2
     rw [List.getD_eq_getElem?_getD,List.getD_eq_getElem?_getD,List.getElem?_set_ne e]
   · rw [List.getElem?_eq_none (by simp;omega),List.getElem?_eq_none (by simp;omega)]
theorem slsCs_set {L:List Slt} {ts:List (Value × Value × Value)} (hl:ts.length=L.length) {j:Nat} (hj:j < L.length) (s':Slt) (i:Nat) (hi:i < 6) (c:Value)
  (h:slCs s' (ts.getD j (undef,undef,undef))=(slCs (L.getD j noSlt) (ts.getD j (undef,undef,undef))).set i c):(slsCs L ts).set (j*6+i) c=slsCs (L.set j s') ts:=by
 unfold slsCs
 rw [← zip_set hl hj]
 exact (flatMap_set (fun p:Slt × (Value × Value × Value)=>slCs p.1 p.2) 6 (fun _=>rfl) (L.zip ts) j i _ _ c (zip_get hl hj) hi h).symm
def st6 (w:World) (g n:Nat) (s:Slt) (t:Value × Value × Value):World :=
 (((((w.setCell ⟨g,n*6,none⟩ (.int .i64 s.stage)).setCell ⟨g,n*6+1,none⟩ (.int .i64 s.tries)).setCell ⟨g,n*6+2,none⟩ t.1).setCell ⟨g,n*6+3,none⟩ (.bool s.res.done)).setCell ⟨g,n*6+4,none⟩ t.2.1).setCell ⟨g,n*6+5,none⟩ t.2.2
theorem st6_size (w:World) (g n:Nat) (s:Slt) (t:Value × Value × Value):(st6 w g n s t).heap.size=w.heap.size:=by simp [st6,World.setCell]
theorem st6_heap (w:World) (g n:Nat) (s:Slt) (t:Value × Value × Value) {q:Nat} (hq:q≠g):(st6 w g n s t).heap[q]? = w.heap[q]?:=by
 unfold st6
 rw [Below.heap_setCell _ _ _ _ (by simpa using hq),Below.heap_setCell _ _ _ _ (by simpa using hq),Below.heap_setCell _ _ _ _ (by simpa using hq),Below.heap_setCell _ _ _ _ (by simpa using hq),Below.heap_setCell _ _ _ _ (by simpa using hq),Below.heap_setCell _ _ _ _ (by simpa using hq)]
theorem st6_below {B g:Nat} {a w:World} (h:Below B a w) (hg:B≤g) (n:Nat) (s:Slt) (t:Value × Value × Value):Below B a (st6 w g n s t):=by
 unfold st6
 exact (((((h.setCell (by simpa using hg) _).setCell (by simpa using hg) _).setCell (by simpa using hg) _).setCell (by simpa using hg) _).setCell (by simpa using hg) _).setCell (by simpa using hg) _
theorem set6_list (C:List Value) (n:Nat) (L:List Slt) (ts:List (Value × Value × Value)) (hl:ts.length=L.length) (hn:n < L.length) (s:Slt) (t:Value × Value × Value) (hC:C=slsCs L ts) :
  (((((C.set (n*6) (.int .i64 s.stage)).set (n*6+1) (.int .i64 s.tries)).set (n*6+2) t.1).set (n*6+3) (.bool s.res.done)).set (n*6+4) t.2.1).set (n*6+5) t.2.2=slsCs (L.set n s) (ts.set n t):=by
 subst hC
 have hlen:(slsCs L ts).length=L.length*6:=by
  have:=flatMap_len (fun p:Slt × (Value × Value × Value)=>slCs p.1 p.2) 6 (fun _=>rfl) (L.zip ts)
  simpa [slsCs,hl] using this
 have hl2:(ts.set n t).length=(L.set n s).length:=by simp [hl]
 apply List.ext_getElem?
 intro i
 by_cases hi:i < L.length*6
 · have e:=slsCs_get (L:=L.set n s) (ts:=ts.set n t) hl2 (i:=i / 6) (by rw [List.length_set];omega) (j:=i % 6) (by omega)
   have e0:=slsCs_get (L:=L) (ts:=ts) hl (i:=i / 6) (by omega) (j:=i % 6) (by omega)
   rw [show i / 6*6+i % 6=i by omega] at e e0
   rw [e]
   by_cases hin:i / 6=n
   · have g1:(L.set n s).getD (i / 6) noSlt=s:=by rw [hin,List.getD_eq_getElem?_getD,List.getElem?_set_self hn];rfl
     have g2:(ts.set n t).getD (i / 6) (undef,undef,undef)=t:=by rw [hin,List.getD_eq_getElem?_getD,List.getElem?_set_self (by omega)];rfl
     rw [g1,g2]
     rcases (by omega:i=n*6∨i=n*6+1∨i=n*6+2∨i=n*6+3∨i=n*6+4∨i=n*6+5) with h | h | h | h | h | h <;> subst h <;> simp only [List.getElem?_set,List.length_set,hlen] <;> simp [slCs,hi,Nat.mul_add_mod,Nat.mul_mod_left] <;> omega
   · have g1:(L.set n s).getD (i / 6) noSlt=L.getD (i / 6) noSlt:=by rw [List.getD_eq_getElem?_getD,List.getElem?_set_ne (fun h=>hin h.symm),← List.getD_eq_getElem?_getD]
     have g2:(ts.set n t).getD (i / 6) (undef,undef,undef)=ts.getD (i / 6) (undef,undef,undef):=by rw [List.getD_eq_getElem?_getD,List.getElem?_set_ne (fun h=>hin h.symm),← List.getD_eq_getElem?_getD]
     rw [g1,g2,← e0,List.getElem?_set_ne (by omega),List.getElem?_set_ne (by omega),List.getElem?_set_ne (by omega),List.getElem?_set_ne (by omega),List.getElem?_set_ne (by omega),List.getElem?_set_ne (by omega)]
 · have h2:(slsCs (L.set n s) (ts.set n t)).length=L.length*6:=by
    have:=flatMap_len (fun p:Slt × (Value × Value × Value)=>slCs p.1 p.2) 6 (fun _=>rfl) ((L.set n s).zip (ts.set n t))
    simpa [slsCs,hl] using this
   rw [List.getElem?_eq_none (by simp only [List.length_set,hlen];omega),List.getElem?_eq_none (by rw [h2];omega)]
theorem rs_set {tI tE:TypeId} {L:List Slt} {ts:List (Value × Value × Value)} (hl:ts.length=L.length) {n:Nat} (hn:n < L.length) (s:Slt) (t:Value × Value × Value) :
  slsRs tI tE (L.set n s) (ts.set n t)=rsB tI tE L ts n++(slRs tI tE s t++rsA tI tE L ts n):=by
 have h:=slsRs_set (tI:=tI) (tE:=tE) (L:=L) (ts:=ts.set n t) (by simpa using hl) hn s
 rw [h]
 have e1:(ts.set n t).getD n (undef,undef,undef)=t:=by rw [List.getD_eq_getElem?_getD,List.getElem?_set_self (by omega)];rfl
 rw [e1]
 unfold rsB rsA
 rw [List.take_set_of_le (Nat.le_refl _),List.drop_set_of_lt (Nat.lt_succ_self _)]
theorem eng_slot {w:World} {B T T2:Nat} {t0:EngT} {x1 x2 x3:Value} {g m c:Nat} {e:Eng} {ts:List (Value × Value × Value)} (h:EngOwn w B T t0 x1 x2 x3 (.slice (some ⟨g,0,none⟩) m c) e ts) {n:Nat} (hn:n < e.slots.length) {s:Slt} {t:Value × Value × Value}
  (hnew:OwnR w T T2 (slRs t0.tI t0.tE s t)) (hBT:B≤T) (hT:T≤T2) (hs:SlWf s) :
  EngOwn (st6 w g n s t) B T2 t0 x1 x2 x3 (.slice (some ⟨g,0,none⟩) m c) ⟨e.base,e.list,e.vers,e.slots.set n s⟩ (ts.set n t):=by
 obtain ⟨htl,ho,hwf⟩:=h
 have hp:OwnR w B T (⟨.slice (some ⟨g,0,none⟩) m c,t0.tS,6,e.slots.length,slsCs e.slots ts⟩ :: ⟨x1,t0.tE,2,e.base.length,flatE e.base⟩ :: ⟨x2,t0.tA,4,e.list.length,flatA e.list⟩ :: ⟨x3,t0.tV,3,e.vers.length,flatV e.vers⟩ :: slsRs t0.tI t0.tE e.slots ts) :=
  ho.perm (List.perm_middle (l₁:=[_,_,_]))
 obtain rfl:m=e.slots.length:=by
  rcases slice_of_owns hp.head with ⟨h1,-⟩ | ⟨g',cap,h1,-⟩
  · simp at h1
  · simp only [Value.slice.injEq] at h1;exact h1.2.1
 rw [slsRs_at htl hn] at hp
 have hq:OwnR w B T (⟨.slice (some ⟨g,0,none⟩) e.slots.length c,t0.tS,6,e.slots.length,slsCs e.slots ts⟩ :: ⟨x1,t0.tE,2,e.base.length,flatE e.base⟩ :: ⟨x2,t0.tA,4,e.list.length,flatA e.list⟩ :: ⟨x3,t0.tV,3,e.vers.length,flatV e.vers⟩ :: (rsB t0.tI t0.tE e.slots ts n++rsA t0.tI t0.tE e.slots ts n)) :=
  hp.sub (by
   refine List.Sublist.cons_cons _ (List.Sublist.cons_cons _ (List.Sublist.cons_cons _ (List.Sublist.cons_cons _ ?_)))
   exact List.Sublist.append (List.Sublist.refl _) (List.sublist_append_right _ _))
 have hgl:=hq.ge List.mem_cons_self (b:=g) rfl
 have h6:=(((((hq.store (n*6) (.int .i64 s.stage)).store (n*6+1) (.int .i64 s.tries)).store (n*6+2) t.1).store (n*6+3) (.bool s.res.done)).store (n*6+4) t.2.1).store (n*6+5) t.2.2
 rw [set6_list _ n e.slots ts htl hn s t rfl] at h6
 have hn6:OwnR (st6 w g n s t) T T2 (slRs t0.tI t0.tE s t):=hnew.keep fun r hr q hqq=>st6_heap w g n s t (fun e=>by subst e;have:=(hnew.ge hr hqq).1;omega)
 have hall:=OwnR.append h6 hn6 (Nat.le_refl _) hBT hT
 refine ⟨by simp [htl],?_,⟨hwf.base,hwf.list,hwf.vers,fun x hx=>?_,hwf.blen,hwf.llen,hwf.vlen,by simpa using hwf.slen⟩⟩
 · unfold engRs
   simp only [List.length_set]
   rw [rs_set htl hn]
   refine hall.perm ?_
   have e1:∀ (a b c d:Rw) (X Y Z:List Rw),(a :: b :: c :: d :: (X++Z)++Y).Perm (b :: c :: d :: a :: (X++(Y++Z))):=fun a b c d X Y Z=>by
    have h1:(a :: b :: c :: d :: (X++Z)++Y).Perm (a :: b :: c :: d :: (X++(Y++Z))):=by
     simp only [List.cons_append,List.append_assoc]
     exact List.Perm.cons _ (List.Perm.cons _ (List.Perm.cons _ (List.Perm.cons _ (List.Perm.append_left _ List.perm_append_comm))))
    exact h1.trans (List.perm_middle (l₁:=[b,c,d])).symm
   exact e1 _ _ _ _ _ _ _
 · rcases List.mem_or_eq_of_mem_set hx with hx | rfl
   · exact hwf.slots x hx
   · exact hs
theorem eng_vers {w:World} {B T T2:Nat} {t0:EngT} {x1 x2 x3 x4 v':Value} {e:Eng} {ts:List (Value × Value × Value)} (h:EngOwn w B T t0 x1 x2 x3 x4 e ts) {V:List Ver}
  (hnew:w.ownsRow T t0.tV 3 v' V.length (flatV V)) (hBT:B≤T) (hT:T≤T2) (hw:w.heap.size≤T2) (hV:WfVs V) (hl:V.length≤4000000):EngOwn w B T2 t0 x1 x2 v' x4 ⟨e.base,e.list,V,e.slots⟩ ts:=by
 obtain ⟨htl,ho,hwf⟩:=h
 have h2:OwnR w B T (⟨x1,t0.tE,2,e.base.length,flatE e.base⟩ :: ⟨x2,t0.tA,4,e.list.length,flatA e.list⟩ :: ⟨x4,t0.tS,6,e.slots.length,slsCs e.slots ts⟩ :: slsRs t0.tI t0.tE e.slots ts) :=
  ho.sub (List.Sublist.cons_cons _ (List.Sublist.cons_cons _ (List.sublist_cons_self _ _)))
 have h3:=h2.consNew ⟨v',t0.tV,3,V.length,flatV V⟩ hnew hBT (Nat.le_refl _) hw hT
 exact ⟨htl,h3.perm (List.perm_middle (l₁:=[_,_])).symm,⟨hwf.base,hwf.list,hV,hwf.slots,hwf.blen,hwf.llen,hl,hwf.slen⟩⟩
theorem eng_stage {w:World} {B T:Nat} {t0:EngT} {x1 x2 x3:Value} {g m c:Nat} {e:Eng} {ts:List (Value × Value × Value)} (h:EngOwn w B T t0 x1 x2 x3 (.slice (some ⟨g,0,none⟩) m c) e ts) {n:Nat} (hn:n < e.slots.length) (st:Int) (hst:(Lit.int .i64 st).wf=true) :
  EngOwn (w.setCell ⟨g,n*6,none⟩ (.int .i64 st)) B T t0 x1 x2 x3 (.slice (some ⟨g,0,none⟩) m c) ⟨e.base,e.list,e.vers,e.slots.set n ⟨st,(e.slots.getD n noSlt).tries,(e.slots.getD n noSlt).from_,(e.slots.getD n noSlt).res⟩⟩ ts:=by
 obtain ⟨htl,ho,hwf⟩:=h
 have hp:OwnR w B T (⟨.slice (some ⟨g,0,none⟩) m c,t0.tS,6,e.slots.length,slsCs e.slots ts⟩ :: ⟨x1,t0.tE,2,e.base.length,flatE e.base⟩ :: ⟨x2,t0.tA,4,e.list.length,flatA e.list⟩ :: ⟨x3,t0.tV,3,e.vers.length,flatV e.vers⟩ :: slsRs t0.tI t0.tE e.slots ts) :=
  ho.perm (List.perm_middle (l₁:=[_,_,_]))
 obtain rfl:m=e.slots.length:=by
  rcases slice_of_owns hp.head with ⟨h1,-⟩ | ⟨g',cap,h1,-⟩
  · simp at h1
  · simp only [Value.slice.injEq] at h1;exact h1.2.1
 have h1:=hp.store (n*6) (.int .i64 st)
 rw [show (slsCs e.slots ts).set (n*6) (.int .i64 st) = _ from slsCs_set htl hn ⟨st,(e.slots.getD n noSlt).tries,(e.slots.getD n noSlt).from_,(e.slots.getD n noSlt).res⟩ 0 (by omega) (.int .i64 st) rfl] at h1
 have hsw:=hwf.slots _ (getD_memS e.slots n hn)
 refine ⟨by simp [htl],?_,⟨hwf.base,hwf.list,hwf.vers,fun x hx=>?_,hwf.blen,hwf.llen,hwf.vlen,by simpa using hwf.slen⟩⟩
 · unfold engRs
   simp only [List.length_set]
   rw [slsRs_set htl hn]
   rw [slsRs_at htl hn] at h1
   exact h1.perm (List.perm_middle (l₁:=[_,_,_])).symm
 · rcases List.mem_or_eq_of_mem_set hx with hx | rfl
   · exact hwf.slots x hx
   · exact ⟨hst,hsw.tries,hsw.from_,hsw.rds,hsw.wrs,hsw.flen,hsw.rlen,hsw.wlen⟩
theorem engWf_ok {e:Eng} (h:EngOk e):EngWf e:=by
 have h10:=h.ten
 have hv:=h.vok
 refine ⟨fun x hx=>?_,fun x hx=>?_,fun x hx=>?_,fun s hs=>?_,by have:=store_len h.base;omega,by rw [← h.len];omega,by have:=vers_len hv;omega,by omega⟩
 · have:=((storeB_ok e.base).1 h.base).2 x hx
   exact ⟨WalkArith.wf_i64 (by omega),WalkArith.wf_i64 (by omega)⟩
 · have ha:=(actsB_true h.list).2 x hx
   have hk:=kind_of ha
   obtain ⟨⟨s0,s1⟩,⟨d0,d1⟩,m0,m1⟩:=actB_bd ha
   exact ⟨WalkArith.wf_i64 (by omega),WalkArith.wf_i64 (by omega),WalkArith.wf_i64 (by omega),WalkArith.wf_i64 (by omega)⟩
 · have:=(verB_iff x).1 (hv.1 x hx)
   exact ⟨WalkArith.wf_i64 (by omega),WalkArith.wf_i64 (by omega),WalkArith.wf_i64 (by omega)⟩
 · obtain ⟨i,hi,rfl⟩:=List.getElem_of_mem hs
   have e1:e.slots.getD i noSlt=e.slots[i]:=by rw [List.getD_eq_getElem?_getD,List.getElem?_eq_getElem hi];rfl
   have hsl:=h.slot i hi
   have ha:=h.act hi
   rw [e1] at hsl
   by_cases h0:e.slots[i].stage=0
   · obtain ⟨h1,h2,h3⟩:=slot_new hsl h0
     rw [h1]
     exact ⟨by rfl,WalkArith.wf_i64 (by simp only;omega),fun x hx=>(by cases hx),fun x hx=>(by cases hx),fun x hx=>(by cases hx),by simp,by simp [noEff],by simp [noEff]⟩
   · have hso:=slot_old ha hsl h0
     have hw:=slot_wr ha hsl
     have hst:=hso.stage
     have htr:=hso.tries
     have hrl:=readsM_len (e.list.getD i noA)
     have hl:e.slots[i].res.rds.length=(readsM (e.list.getD i noA)).length:=by rw [hso.rds,List.length_map]
     refine ⟨WalkArith.wf_i64 (by omega),WalkArith.wf_i64 (by omega),fun x hx=>?_,fun x hx=>?_,fun x hx=>?_,by rw [hso.flen];omega,by rw [hl];omega,by have:=wr_len hw;omega⟩
     · obtain ⟨j,hj,rfl⟩:=List.getElem_of_mem hx
       have:=hso.from_ j (by rw [← hso.flen];exact hj)
       rw [List.getD_eq_getElem?_getD,List.getElem?_eq_getElem hj,Option.getD_some] at this
       exact WalkArith.wf_i64 (by omega)
     · have hv:=hso.val x hx
       have hk:x.1∈readsM (e.list.getD i noA):=by
        rw [hso.rds] at hx
        obtain ⟨key,hk,e2⟩:=List.mem_map.1 hx
        rw [← e2];exact hk
       have:=readsM_bd _ x.1 hk
       exact ⟨WalkArith.wf_i64 (by omega),WalkArith.wf_i64 (by omega)⟩
     · have:=((writesB_ok _).1 hw).2 x hx
       exact ⟨WalkArith.wf_i64 (by omega),WalkArith.wf_i64 (by omega)⟩
end Go.Proofs.YtaaffpolmecicabGreat
/- An engine that takes steps,in memory: a block with the values,the actions,the versions per key,the slots and the queue. No function of the program is named here. -/
namespace Go.Proofs.YtaaffpolmecicabGreat
open Go.RowKit
set_option linter.unusedVariables false
set_option linter.unusedSimpArgs false
theorem KVo.frm {w w':World} {B g:Nat} {T e0:TypeId} {pre post vs:List Value} {F:Nat→List Ver} {Q:Nat→Prop} (h:KVo w B g T e0 pre post vs F) (hf:Frm Q w w') (hq:∀ i,TouchV g vs i→¬ Q i):KVo w' B g T e0 pre post vs F :=
 ⟨h.arr.keep (hf.block g h.lt (hq g (.inl rfl))),h.kvs.keep fun k hk b hb=>hf.block b (h.kvs.lt hk hb).2 (hq b (.inr ⟨k,hk,hb⟩)),h.off⟩
def stRs (t:EngT) (xL xS xQ:Value) (e:Eng) (ts:List (Value × Value × Value)) (Q:List Int):List Rw :=
 ⟨xQ,t.tI,1,Q.length,Q.map (Value.int .i64)⟩ :: ⟨xL,t.tA,4,e.list.length,flatA e.list⟩ :: ⟨xS,t.tS,6,e.slots.length,slsCs e.slots ts⟩ :: slsRs t.tI t.tE e.slots ts
def QuAt (xQ qv:Value) (Q:List Int) (d:Nat):Prop:=∃ a cp,qv = .slice a (Q.length - d) cp∧Q.length - d≤cp∧(d < Q.length→∃ b,a=some ⟨b,d,none⟩∧blk xQ=some b)
def valC (A:List Int):List Value:=A.map (Value.int .i64)
theorem valC_len (A:List Int):(valC A).length=A.length:=by simp [valC]
structure StIn (w:World) (G B:Nat) (T:TypeId) (t:EngT) (e:Eng) (xL xS xQ qv:Value) (ts:List (Value × Value × Value)) (vs:List Value) (Q:List Int) (d:Nat):Prop where
 kv:KVo w B G T t.tV (valC (arrOf e.base)++[xL]) [xS,qv] vs (ofK e.vers)
 own:OwnR w B w.heap.size (stRs t xL xS xQ e ts Q)
 tl:ts.length=e.slots.length
 off:∀ r∈stRs t xL xS xQ e ts Q,∀ b,blk r.v=some b→¬ TouchV G vs b
 qu:QuAt xQ qv Q d
 qi:QIs e Q d
 wf:EngWf e
def StAt (w:World) (G B:Nat) (T:TypeId) (t:EngT) (e:Eng):Prop:=∃ xL xS xQ qv ts vs Q d,StIn w G B T t e xL xS xQ qv ts vs Q d
section
variable {w:World} {G B:Nat} {T:TypeId} {t:EngT} {e:Eng} {xL xS xQ qv:Value} {ts:List (Value × Value × Value)} {vs:List Value} {Q:List Int} {d:Nat}
theorem StIn.vlen (h:StIn w G B T t e xL xS xQ qv ts vs Q d):vs.length=32:=h.kv.kvs.len
theorem StIn.lt (h:StIn w G B T t e xL xS xQ qv ts vs Q d):G < w.heap.size:=h.kv.lt
theorem StIn.frozen (h:StIn w G B T t e xL xS xQ qv ts vs Q d) (j:Nat):w.frozen? ⟨G,j,none⟩=false:=h.kv.arr.frozen j
theorem StIn.c32 (h:StIn w G B T t e xL xS xQ qv ts vs Q d):w.cell? ⟨G,32,none⟩=some xL:=by
 rw [h.kv.arr.cell 32 (by simp [valC_len,arrOf_len])]
 rw [List.getD_eq_getElem?_getD,List.append_assoc,List.append_assoc,List.getElem?_append_right (by simp [valC_len,arrOf_len])]
 simp [valC_len,arrOf_len]
theorem StIn.below {w':World} (h:StIn w G B T t e xL xS xQ qv ts vs Q d) (hb:Below w.heap.size w w'):StIn w' G B T t e xL xS xQ qv ts vs Q d :=
 ⟨h.kv.below hb,(h.own.below hb).top,h.tl,h.off,h.qu,h.qi,h.wf⟩
theorem StIn.sRs (h:StIn w G B T t e xL xS xQ qv ts vs Q d):OwnR w B w.heap.size (⟨xS,t.tS,6,e.slots.length,slsCs e.slots ts⟩ :: slsRs t.tI t.tE e.slots ts) :=
 h.own.sub (by unfold stRs;exact (List.sublist_cons_self _ _).trans (List.sublist_cons_self _ _))
theorem sliS_of_owns {w:World} {B T:Nat} {t:EngT} {xS:Value} {L:List Slt} {ts:List (Value × Value × Value)} (h:OwnR w B T (⟨xS,t.tS,6,L.length,slsCs L ts⟩ :: slsRs t.tI t.tE L ts)) (htl:ts.length=L.length) (hw:∀ s∈L,SlWf s) (hl:L.length≤4000000):SliS w xS L:=by
 have o4:=h.head
 have hwf:∀ s∈L,(Lit.int .i64 s.stage).wf=true∧(Lit.int .i64 s.tries).wf=true:=fun s hs=>⟨(hw s hs).stage,(hw s hs).tries⟩
 rcases slice_of_owns o4 with ⟨h4,hn⟩ | ⟨g,cap,h4,hB,hg,hnc,hcm⟩
 · simp only at h4 hn
   subst h4
   have he:L=[]:=List.eq_nil_of_length_eq_zero hn
   exact ⟨none,0,0,rfl,by rw [he];exact rowSl_empty _ _,fun _=>rfl,Nat.le_refl _⟩
 · simp only at h4 hnc
   subst h4
   refine ⟨_,_,cap,rfl,⟨rfl,by unfold maxLen;omega,fun _=>⟨g,0,rfl,fun i hi=>?_⟩,hwf⟩,fun h=>(by cases h),hnc⟩
   have hc:∀ j,j < 6→w.cell? ⟨g,0+i*6+j,none⟩=(slCs (L.getD i noSlt) (ts.getD i (undef,undef,undef)))[j]?:=fun j hj=>by
    rw [Nat.zero_add,← slsCs_get htl hi hj]
    exact World.ownsRow.cellAt (n:=L.length) o4 (i*6+j) (by show i*6+j < L.length*6;omega)
   have hsw:=hw _ (getD_memS L i hi)
   have hm:=slsRs_mem (tI:=t.tI) (tE:=t.tE) htl hi
   have q:∀ r∈slRs t.tI t.tE (L.getD i noSlt) (ts.getD i (undef,undef,undef)),w.ownsRow B r.e r.size r.v r.n r.cs:=fun r hr=>h.own r (List.mem_cons_of_mem _ (hm r hr))
   have q1:=q _ (List.mem_cons_self)
   have q2:=q _ (List.mem_cons_of_mem _ List.mem_cons_self)
   have q3:=q _ (List.mem_cons_of_mem _ (List.mem_cons_of_mem _ List.mem_cons_self))
   exact ⟨hc 0 (by omega),hc 1 (by omega),⟨_,hc 2 (by omega),sliI_of_owns q1 hsw.from_ hsw.flen⟩,hc 3 (by omega),⟨_,hc 4 (by omega),sliE_of_owns q2 hsw.rds hsw.rlen⟩,_,hc 5 (by omega),sliE_of_owns q3 hsw.wrs hsw.wlen⟩
theorem StIn.slots (h:StIn w G B T t e xL xS xQ qv ts vs Q d):SliS w xS e.slots:=sliS_of_owns h.sRs h.tl h.wf.slots h.wf.slen
theorem StIn.first (h:StIn w G B T t e xL xS xQ qv ts vs Q d) (hlt:chkN e < e.slots.length):∃ b cp,qv = .slice (some ⟨b,d,none⟩) (e.slots.length - chkN e) cp∧e.slots.length - chkN e≤cp∧b≠G∧w.cell? ⟨b,d,none⟩=some (.int .i64 (chkN e:Int)):=by
 obtain ⟨a,cp,h1,h2,h3⟩:=h.qu
 have hl:=h.qi.len
 have hle:=h.qi.le
 have hd:d < Q.length:=by omega
 obtain ⟨b,rfl,hb⟩:=h3 hd
 have ho:=h.own.own ⟨xQ,t.tI,1,Q.length,Q.map (Value.int .i64)⟩ (by simp [stRs])
 have hx:∃ cap,xQ = .slice (some ⟨b,0,none⟩) Q.length cap:=by
  rcases slice_of_owns ho with ⟨h4,hn⟩ | ⟨g,cap,h4,-⟩
  · simp only at hn;omega
  · simp only at h4
    rw [h4] at hb
    simp only [blk,Option.some.injEq] at hb
    exact ⟨cap,by rw [h4,hb]⟩
 obtain ⟨cap,rfl⟩:=hx
 have hc:=World.ownsRow.cellAt ho d (by show d < Q.length*1;omega)
 rw [List.getElem?_map] at hc
 have hg:=h.qi.first hd
 rw [List.getD_eq_getElem?_getD,List.getElem?_eq_getElem hd] at hg
 rw [List.getElem?_eq_getElem hd] at hc
 refine ⟨b,cp,by rw [h1,hl],by omega,fun e1=>h.off _ (List.mem_cons_self) b hb (.inl e1),?_⟩
 rw [hc,← hg];rfl
end
theorem own_slot {w:World} {B T T2:Nat} {tI tE tS:TypeId} {g m c:Nat} {L:List Slt} {ts:List (Value × Value × Value)} {R:List Rw} (h:OwnR w B T (R++⟨.slice (some ⟨g,0,none⟩) m c,tS,6,L.length,slsCs L ts⟩ :: slsRs tI tE L ts)) (htl:ts.length=L.length) {n:Nat} (hn:n < L.length) {s:Slt} {t:Value × Value × Value}
  (hnew:OwnR w T T2 (slRs tI tE s t)) (hBT:B≤T) (hT:T≤T2):OwnR (st6 w g n s t) B T2 (R++⟨.slice (some ⟨g,0,none⟩) m c,tS,6,(L.set n s).length,slsCs (L.set n s) (ts.set n t)⟩ :: slsRs tI tE (L.set n s) (ts.set n t)):=by
 have hp:OwnR w B T (⟨.slice (some ⟨g,0,none⟩) m c,tS,6,L.length,slsCs L ts⟩ :: (R++slsRs tI tE L ts)):=h.perm List.perm_middle
 obtain rfl:m=L.length:=by
  rcases slice_of_owns hp.head with ⟨h1,-⟩ | ⟨g',cap,h1,-⟩
  · simp at h1
  · simp only [Value.slice.injEq] at h1;exact h1.2.1
 rw [slsRs_at htl hn] at hp
 have hq:OwnR w B T (⟨.slice (some ⟨g,0,none⟩) L.length c,tS,6,L.length,slsCs L ts⟩ :: (R++(rsB tI tE L ts n++rsA tI tE L ts n))) :=
  hp.sub (by
   refine List.Sublist.cons_cons _ (List.Sublist.append (List.Sublist.refl _) ?_)
   exact List.Sublist.append (List.Sublist.refl _) (List.sublist_append_right _ _))
 have hgl:=hq.ge List.mem_cons_self (b:=g) rfl
 have h6:=(((((hq.store (n*6) (.int .i64 s.stage)).store (n*6+1) (.int .i64 s.tries)).store (n*6+2) t.1).store (n*6+3) (.bool s.res.done)).store (n*6+4) t.2.1).store (n*6+5) t.2.2
 rw [set6_list _ n L ts htl hn s t rfl] at h6
 have hn6:OwnR (st6 w g n s t) T T2 (slRs tI tE s t):=hnew.keep fun r hr q hqq=>st6_heap w g n s t (fun e=>by subst e;have:=(hnew.ge hr hqq).1;omega)
 have hall:=OwnR.append h6 hn6 (Nat.le_refl _) hBT hT
 rw [List.length_set,rs_set htl hn]
 refine hall.perm ?_
 have e1:∀ (a:Rw) (R X Y Z:List Rw),(a :: (R++(X++Z))++Y).Perm (R++a :: (X++(Y++Z))):=fun a R X Y Z=>by
  have h1:(a :: (R++(X++Z))++Y).Perm (a :: (R++(X++(Y++Z)))):=by
   simp only [List.cons_append,List.append_assoc]
   exact List.Perm.cons _ (List.Perm.append_left _ (List.Perm.append_left _ List.perm_append_comm))
  exact h1.trans (List.perm_middle).symm
 exact e1 _ _ _ _ _
theorem own_stage {w:World} {B T:Nat} {tI tE tS:TypeId} {g m c:Nat} {L:List Slt} {ts:List (Value × Value × Value)} {R:List Rw} (h:OwnR w B T (R++⟨.slice (some ⟨g,0,none⟩) m c,tS,6,L.length,slsCs L ts⟩ :: slsRs tI tE L ts)) (htl:ts.length=L.length) {n:Nat} (hn:n < L.length) (st:Int) :
  OwnR (w.setCell ⟨g,n*6,none⟩ (.int .i64 st)) B T (R++⟨.slice (some ⟨g,0,none⟩) m c,tS,6,(L.set n ⟨st,(L.getD n noSlt).tries,(L.getD n noSlt).from_,(L.getD n noSlt).res⟩).length,slsCs (L.set n ⟨st,(L.getD n noSlt).tries,(L.getD n noSlt).from_,(L.getD n noSlt).res⟩) ts⟩ :: slsRs tI tE (L.set n ⟨st,(L.getD n noSlt).tries,(L.getD n noSlt).from_,(L.getD n noSlt).res⟩) ts):=by
 have hp:OwnR w B T (⟨.slice (some ⟨g,0,none⟩) m c,tS,6,L.length,slsCs L ts⟩ :: (R++slsRs tI tE L ts)):=h.perm List.perm_middle
 obtain rfl:m=L.length:=by
  rcases slice_of_owns hp.head with ⟨h1,-⟩ | ⟨g',cap,h1,-⟩
  · simp at h1
  · simp only [Value.slice.injEq] at h1;exact h1.2.1
 have h1:=hp.store (n*6) (.int .i64 st)
 rw [show (slsCs L ts).set (n*6) (.int .i64 st) = _ from slsCs_set htl hn ⟨st,(L.getD n noSlt).tries,(L.getD n noSlt).from_,(L.getD n noSlt).res⟩ 0 (by omega) (.int .i64 st) rfl] at h1
 rw [List.length_set,slsRs_set htl hn]
 rw [slsRs_at htl hn] at h1
 exact h1.perm List.perm_middle.symm
section
variable {w:World} {G B:Nat} {T:TypeId} {t:EngT} {e:Eng} {xL xQ qv:Value} {g m c:Nat} {ts:List (Value × Value × Value)} {vs:List Value} {Q:List Int} {d:Nat}
theorem st6_frm (w:World) (g n:Nat) (s:Slt) (t:Value × Value × Value):Frm (· = g) w (st6 w g n s t):=by
 unfold st6
 exact ((((((Frm.refl (fun b=>b=g) w).setCell (g:=g) rfl _ _).setCell (g:=g) rfl _ _).setCell (g:=g) rfl _ _).setCell (g:=g) rfl _ _).setCell (g:=g) rfl _ _).setCell (g:=g) rfl _ _
theorem StIn.step {w1 w2:World} (h:StIn w G B T t e xL (.slice (some ⟨g,0,none⟩) m c) xQ qv ts vs Q d) (hb1:Below w.heap.size w w1) {n:Nat} (hn:n < e.slots.length) {s:Slt} {tt:Value × Value × Value} {V:List Ver} {vs':List Value}
  (hnew:OwnR w1 w.heap.size w1.heap.size (slRs t.tI t.tE s tt)) (hk:KVo w2 B G T t.tV (valC (arrOf e.base)++[xL]) [.slice (some ⟨g,0,none⟩) m c,qv] vs' (ofK V)) (hf:Frm (TouchV G vs) w1 w2) (hv:∀ j b,j < 32→(vs'.getD j undef).ownBlock=some b→(∃ i,i < 32∧(vs.getD i undef).ownBlock=some b)∨w1.heap.size≤b)
  (hB:B≤w.heap.size) (hwf:EngWf (e.put n s V)) (hq:QIs (e.put n s V) Q d) :
  StIn (st6 w2 g n s tt) G B T t (e.put n s V) xL (.slice (some ⟨g,0,none⟩) m c) xQ qv (ts.set n tt) vs' Q d∧Frm (fun b=>b=g∨TouchV G vs b) w (st6 w2 g n s tt):=by
 have hsz1:=hb1.size
 have h1:=h.below hb1
 have hoffN:∀ r∈slRs t.tI t.tE s tt,∀ b,blk r.v=some b→¬ TouchV G vs b∧¬ TouchV G vs' b:=fun r hr b hb=>by
  have hge:=hnew.ge hr hb
  have hlt:=h.lt
  have h0:¬ TouchV G vs b:=fun hh=>by
   rcases hh with e1 | ⟨i,hi,e1⟩
   · omega
   · have:=(h.kv.kvs.lt hi e1).2;omega
  refine ⟨h0,fun hh=>?_⟩
  rcases hh with e1 | ⟨i,hi,e1⟩
  · omega
  · rcases hv i b hi e1 with h2 | h2
    · exact h0 (.inr h2)
    · omega
 have hoff':∀ r∈stRs t xL (.slice (some ⟨g,0,none⟩) m c) xQ e ts Q,∀ b,blk r.v=some b→¬ TouchV G vs' b:=fun r hr b hb hh=>by
  rcases hh with e1 | ⟨i,hi,e1⟩
  · exact h.off r hr b hb (.inl e1)
  · rcases hv i b hi e1 with h2 | h2
    · exact h.off r hr b hb (.inr h2)
    · have:=(h.own.ge hr hb).2.2;omega
 have hgm:(⟨.slice (some ⟨g,0,none⟩) m c,t.tS,6,e.slots.length,slsCs e.slots ts⟩:Rw)∈stRs t xL (.slice (some ⟨g,0,none⟩) m c) xQ e ts Q:=by simp [stRs]
 have hgo:¬ TouchV G vs' g:=hoff' _ hgm g rfl
 have ho2:OwnR w2 B w.heap.size (stRs t xL (.slice (some ⟨g,0,none⟩) m c) xQ e ts Q):=(h.own.below hb1).frm hf h.off
 have hn2:OwnR w2 w.heap.size w1.heap.size (slRs t.tI t.tE s tt):=hnew.frm hf fun r hr b hb=>(hoffN r hr b hb).1
 have hs:=own_slot (R:=[⟨xQ,t.tI,1,Q.length,Q.map (Value.int .i64)⟩,⟨xL,t.tA,4,e.list.length,flatA e.list⟩]) ho2 h.tl hn hn2 hB hsz1
 have hfr:=st6_frm w2 g n s tt
 have hsz2:=hf.size
 refine ⟨⟨hk.frm hfr fun i hi e1=>hgo (by rw [← e1];exact hi),hs.mono (Nat.le_refl _) (by rw [st6_size];exact hsz2),by simp [h.tl,Eng.put],fun r hr b hb=>?_,h.qu,hq,hwf⟩,(((Frm.ofBelow (Q:=fun b=>b=g∨TouchV G vs b) hb1).trans hf fun i _ hi=>.inr hi)).trans hfr fun i _ hi=>.inl hi⟩
 unfold stRs Eng.put at hr
 simp only [List.mem_cons] at hr
 rw [rs_set h.tl hn,List.mem_append,List.mem_append] at hr
 have hat:∀ r,r∈rsB t.tI t.tE e.slots ts n∨r∈rsA t.tI t.tE e.slots ts n→r∈stRs t xL (.slice (some ⟨g,0,none⟩) m c) xQ e ts Q:=fun r hr=>by
  unfold stRs
  refine List.mem_cons_of_mem _ (List.mem_cons_of_mem _ (List.mem_cons_of_mem _ ?_))
  rw [slsRs_at h.tl hn,List.mem_append,List.mem_append]
  rcases hr with h | h
  · exact .inl h
  · exact .inr (.inr h)
 rcases hr with rfl | rfl | rfl | hr | hr | hr
 · exact hoff' _ (by simp [stRs]) b hb
 · exact hoff' _ (by simp [stRs]) b hb
 · exact hgo.imp fun _=>by simp only [blk,Option.some.injEq] at hb;rw [hb];assumption
 · exact hoff' r (hat r (.inl hr)) b hb
 · exact (hoffN r hr b hb).2
 · exact hoff' r (hat r (.inr hr)) b hb
theorem StIn.pop (h:StIn w G B T t e xL (.slice (some ⟨g,0,none⟩) m c) xQ qv ts vs Q d) {n:Nat} (hn:n < e.slots.length) {qv':Value} (hqa:QuAt xQ qv' Q (d+1)) (hq:QIs (e.put n ⟨2,(e.slots.getD n noSlt).tries,(e.slots.getD n noSlt).from_,(e.slots.getD n noSlt).res⟩ e.vers) Q (d+1)) :
  StIn ((w.setCell ⟨g,n*6,none⟩ (.int .i64 2)).setCell ⟨G,66,none⟩ qv') G B T t (e.put n ⟨2,(e.slots.getD n noSlt).tries,(e.slots.getD n noSlt).from_,(e.slots.getD n noSlt).res⟩ e.vers) xL (.slice (some ⟨g,0,none⟩) m c) xQ qv' ts vs Q (d+1):=by
 have hgm:(⟨.slice (some ⟨g,0,none⟩) m c,t.tS,6,e.slots.length,slsCs e.slots ts⟩:Rw)∈stRs t xL (.slice (some ⟨g,0,none⟩) m c) xQ e ts Q:=by simp [stRs]
 have hgo:¬ TouchV G vs g:=h.off _ hgm g rfl
 have hgG:g≠G:=fun e1=>hgo (.inl e1)
 have hs:=own_stage (R:=[⟨xQ,t.tI,1,Q.length,Q.map (Value.int .i64)⟩,⟨xL,t.tA,4,e.list.length,flatA e.list⟩]) h.own h.tl hn 2
 have hf1:Frm (· = g) w (w.setCell ⟨g,n*6,none⟩ (.int .i64 2)):=(Frm.refl (fun b=>b=g) w).setCell (g:=g) rfl _ _
 have hk1:=h.kv.frm hf1 fun i hi e1=>hgo (by rw [← e1];exact hi)
 have hf2:Frm (· = G) (w.setCell ⟨g,n*6,none⟩ (.int .i64 2)) ((w.setCell ⟨g,n*6,none⟩ (.int .i64 2)).setCell ⟨G,66,none⟩ qv'):=(Frm.refl (fun b=>b=G) _).setCell (g:=G) rfl _ _
 have hvl:=h.vlen
 have hrs:∀ r∈stRs t xL (.slice (some ⟨g,0,none⟩) m c) xQ (e.put n ⟨2,(e.slots.getD n noSlt).tries,(e.slots.getD n noSlt).from_,(e.slots.getD n noSlt).res⟩ e.vers) ts Q,∃ r'∈stRs t xL (.slice (some ⟨g,0,none⟩) m c) xQ e ts Q,r'.v=r.v:=fun r hr=>by
  unfold stRs Eng.put at hr
  unfold stRs
  simp only [List.mem_cons] at hr ⊢
  rw [slsRs_set h.tl hn] at hr
  rw [slsRs_at h.tl hn]
  rcases hr with rfl | rfl | rfl | hr
  · exact ⟨_,.inl rfl,rfl⟩
  · exact ⟨_,.inr (.inl rfl),rfl⟩
  · exact ⟨_,.inr (.inr (.inl rfl)),rfl⟩
  · exact ⟨r,.inr (.inr (.inr hr)),rfl⟩
 have hoff:∀ r∈stRs t xL (.slice (some ⟨g,0,none⟩) m c) xQ (e.put n ⟨2,(e.slots.getD n noSlt).tries,(e.slots.getD n noSlt).from_,(e.slots.getD n noSlt).res⟩ e.vers) ts Q,∀ b,blk r.v=some b→¬ TouchV G vs b:=fun r hr b hb=>by
  obtain ⟨r',hr',e1⟩:=hrs r hr
  exact h.off r' hr' b (by rw [e1];exact hb)
 refine ⟨⟨?_,hk1.kvs.keep fun k hk b hb=>hf2.block b (hk1.kvs.lt hk hb).2 (fun e1=>hk1.off k hk (by rw [hb,e1])),hk1.off⟩,?_,by simp [h.tl,Eng.put],hoff,hqa,hq,?_⟩
 · have:=hk1.arr.set 66 qv'
   have e1:(valC (arrOf e.base)++[xL]++vs++[.slice (some ⟨g,0,none⟩) m c,qv]).set 66 qv'=valC (arrOf e.base)++[xL]++vs++[.slice (some ⟨g,0,none⟩) m c,qv']:=by
    rw [List.set_append_right _ _ (by simp [valC_len,arrOf_len,hvl])]
    congr 1
    simp [valC_len,arrOf_len,hvl]
   rw [e1] at this;exact this
 · exact (OwnR.frm hs hf2 fun r hr b hb e1=>hoff r hr b hb (.inl e1)).mono (Nat.le_refl _) (by simp [World.setCell])
 · refine ⟨h.wf.base,h.wf.list,h.wf.vers,fun x hx=>?_,h.wf.blen,h.wf.llen,h.wf.vlen,by simpa [Eng.put] using h.wf.slen⟩
   have hsw:=h.wf.slots _ (getD_memS e.slots n hn)
   rcases List.mem_or_eq_of_mem_set hx with hx | rfl
   · exact h.wf.slots x hx
   · exact ⟨by rfl,hsw.tries,hsw.from_,hsw.rds,hsw.wrs,hsw.flen,hsw.rlen,hsw.wlen⟩
end
end Go.Proofs.YtaaffpolmecicabGreat
/- What 'steppingEngine{..}' builds: a struct with two arrays in it. -/
namespace Go.Proofs.YtaaffpolmecicabGreat
open Go.RowKit
set_option linter.unusedVariables false
set_option linter.unusedSimpArgs false
end Go.Proofs.YtaaffpolmecicabGreat
/- An engine that will take steps,while its slots are filled and its queue is made. No function of the program is named here. -/
namespace Go.Proofs.YtaaffpolmecicabGreat
open Go.RowKit
set_option linter.unusedVariables false
set_option linter.unusedSimpArgs false
def Eng.slotsOf (e:Eng) (L:List Slt):Eng:=⟨e.base,e.list,e.vers,L⟩
structure BldIn (w:World) (G B:Nat) (T:TypeId) (t:EngT) (e:Eng) (L:List Slt) (Q:List Int) (xL xS qv:Value) (ts:List (Value × Value × Value)) (vs:List Value):Prop where
 kv:KVo w B G T t.tV (valC (arrOf e.base)++[xL]) [xS,qv] vs (ofK e.vers)
 own:OwnR w B w.heap.size (stRs t xL xS qv (e.slotsOf L) ts Q)
 tl:ts.length=L.length
 off:∀ r∈stRs t xL xS qv (e.slotsOf L) ts Q,∀ b,blk r.v=some b→¬ TouchV G vs b
section
variable {w:World} {G B:Nat} {T:TypeId} {t:EngT} {e:Eng} {L:List Slt} {xL xS qv:Value} {g m c:Nat} {ts:List (Value × Value × Value)} {vs:List Value} {Q:List Int}
theorem BldIn.below {w':World} (h:BldIn w G B T t e L Q xL xS qv ts vs) (hb:Below w.heap.size w w'):BldIn w' G B T t e L Q xL xS qv ts vs :=
 ⟨h.kv.below hb,(h.own.below hb).top,h.tl,h.off⟩
theorem BldIn.lt (h:BldIn w G B T t e L Q xL xS qv ts vs):G < w.heap.size:=h.kv.lt
theorem BldIn.frozen (h:BldIn w G B T t e L Q xL xS qv ts vs) (j:Nat):w.frozen? ⟨G,j,none⟩=false:=h.kv.arr.frozen j
theorem BldIn.rowQ (h:BldIn w G B T t e L Q xL xS qv ts vs):w.ownsRow B t.tI 1 qv Q.length (Q.map (Value.int .i64)) :=
 h.own.own ⟨qv,t.tI,1,Q.length,Q.map (Value.int .i64)⟩ (by simp [stRs])
theorem BldIn.slot {w1:World} (h:BldIn w G B T t e L Q xL (.slice (some ⟨g,0,none⟩) m c) qv ts vs) (hb1:Below w.heap.size w w1) {n:Nat} (hn:n < L.length) {s:Slt} {tt:Value × Value × Value}
  (hnew:OwnR w1 w.heap.size w1.heap.size (slRs t.tI t.tE s tt)) (hB:B≤w.heap.size) :
  BldIn (st6 w1 g n s tt) G B T t e (L.set n s) Q xL (.slice (some ⟨g,0,none⟩) m c) qv (ts.set n tt) vs:=by
 have hsz1:=hb1.size
 have hgm:(⟨.slice (some ⟨g,0,none⟩) m c,t.tS,6,L.length,slsCs L ts⟩:Rw)∈stRs t xL (.slice (some ⟨g,0,none⟩) m c) qv (e.slotsOf L) ts Q:=by simp [stRs,Eng.slotsOf]
 have hgo:¬ TouchV G vs g:=h.off _ hgm g rfl
 have hoffN:∀ r∈slRs t.tI t.tE s tt,∀ b,blk r.v=some b→¬ TouchV G vs b:=fun r hr b hb hh=>by
  have hge:=hnew.ge hr hb
  have hlt:=h.lt
  rcases hh with e1 | ⟨i,hi,e1⟩
  · omega
  · have:=(h.kv.kvs.lt hi e1).2;omega
 have hs:=own_slot (R:=[⟨qv,t.tI,1,Q.length,Q.map (Value.int .i64)⟩,⟨xL,t.tA,4,e.list.length,flatA e.list⟩]) (h.own.below hb1) h.tl hn hnew hB hsz1
 have hfr:=st6_frm w1 g n s tt
 refine ⟨(h.kv.below hb1).frm hfr fun i hi e1=>hgo (by rw [← e1];exact hi),hs.mono (Nat.le_refl _) (by rw [st6_size];exact Nat.le_refl _),by simp [h.tl],fun r hr b hb=>?_⟩
 unfold stRs Eng.slotsOf at hr
 simp only [List.mem_cons] at hr
 rw [rs_set h.tl hn,List.mem_append,List.mem_append] at hr
 have hat:∀ r,r∈rsB t.tI t.tE L ts n∨r∈rsA t.tI t.tE L ts n→r∈stRs t xL (.slice (some ⟨g,0,none⟩) m c) qv (e.slotsOf L) ts Q:=fun r hr=>by
  unfold stRs Eng.slotsOf
  refine List.mem_cons_of_mem _ (List.mem_cons_of_mem _ (List.mem_cons_of_mem _ ?_))
  rw [slsRs_at h.tl hn,List.mem_append,List.mem_append]
  rcases hr with h | h
  · exact .inl h
  · exact .inr (.inr h)
 rcases hr with rfl | rfl | rfl | hr | hr | hr
 · exact h.off _ (by simp [stRs]) b hb
 · exact h.off _ (by simp [stRs,Eng.slotsOf]) b hb
 · exact hgo.imp fun _=>by simp only [blk,Option.some.injEq] at hb;rw [hb];assumption
 · exact h.off r (hat r (.inl hr)) b hb
 · exact hoffN r hr b hb
 · exact h.off r (hat r (.inr hr)) b hb
theorem BldIn.fin (h:BldIn w G B T t e e.slots (queTo e e.slots.length) xL xS qv ts vs) (hok:EngOk e) (hwf:EngWf e):StIn w G B T t e xL xS qv qv ts vs (queTo e e.slots.length) 0:=by
 refine ⟨h.kv,h.own,h.tl,h.off,?_,queTo_is hok,hwf⟩
 rcases slice_of_owns h.rowQ with ⟨h1,h2⟩ | ⟨g,cap,h1,-,-,h2,-⟩
 · exact ⟨none,0,by rw [h1,h2],by omega,fun h3=>by omega⟩
 · exact ⟨some ⟨g,0,none⟩,cap,by rw [h1,Nat.sub_zero],by omega,fun _=>⟨g,rfl,by rw [h1];rfl⟩⟩
end
theorem StAt.mono {w:World} {G B B':Nat} {T:TypeId} {t:EngT} {e:Eng} (h:StAt w G B T t e) (hB:B'≤B):StAt w G B' T t e:=by
 obtain ⟨xL,xS,xQ,qv,ts,vs,Q,d,h⟩:=h
 exact ⟨xL,xS,xQ,qv,ts,vs,Q,d,⟨h.kv.arr,h.kv.kvs.mono hB,h.kv.off⟩,h.own.mono hB (Nat.le_refl _),h.tl,h.off,h.qu,h.qi,h.wf⟩
end Go.Proofs.YtaaffpolmecicabGreat
