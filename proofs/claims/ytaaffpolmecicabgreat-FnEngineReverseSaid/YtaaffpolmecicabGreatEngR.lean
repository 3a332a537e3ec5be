/- Texts of ours that stand together: SpecFin, EngRev -/
import Derived.Test.YtaaffpolmecicabGreatSpStep
import Derived.Test.YtaaffpolmecicabGreatStepG
import Derived.Test.YtaaffpolmecicabGreatSpecE
/- The contract of the model's EngineFinish. -/
namespace Go.Proofs.YtaaffpolmecicabGreat
open Go.RowKit
set_option linter.unusedVariables false
set_option linter.unusedSimpArgs false
def le900 (e:Eng):Prop:=∀ k,k < e.slots.length→(e.slots.getD k noSlt).tries≤900
instance (e:Eng):Decidable (le900 e):=by unfold le900;infer_instance
def finAll (e:Eng):Eng × Nat × Nat:=finIt (finMu (e,0,0)) (e,0,0)
def eFinM (e:Eng):Eng × Int:=if engB e=true∧le900 e then ((finAll e).1,((finAll e).2.2:Int)) else (noEng,-1)
theorem fin_start {e:Eng} (h:EngOk e) (h9:le900 e):FinI e (e,0,0):=by
 refine ⟨h,rfl,rfl,rfl,Nat.zero_le _,fun m hm=>absurd hm (by simp),fun m _ hm=>h9 m hm,fun hm=>.inl (h9 0 hm),?_⟩
 have:=finPh_le e 0
 show 0+(if 0 < e.slots.length then finPh e 0 else 4)≤3*0+4
 split <;> omega
theorem finIt_step {e0:Eng} {x:Eng × Nat × Nat} (h:FinI e0 x) (hk:x.2.1 < x.1.slots.length):finIt (finMu x) x=finIt (finMu (finStep x)) (finStep x):=by
 obtain ⟨h1,h2⟩:=fin_next h hk
 obtain ⟨f,hf⟩:∃ f,finMu x=f+1:=⟨finMu x - 1,by omega⟩
 rw [hf]
 show (if x.2.1 < x.1.slots.length then finIt f (finStep x) else x) = _
 rw [if_pos hk]
 exact finIt_more _ _ _ h1 (Nat.le_refl _) (by omega)
def FinAt (e:Eng) (x:Eng × Nat × Nat):Prop:=FinI e x∧finIt (finMu x) x=finAll e
theorem FinAt.next {e:Eng} {x:Eng × Nat × Nat} (h:FinAt e x) (hk:x.2.1 < x.1.slots.length):FinAt e (finStep x):=⟨(fin_next h.1 hk).1,(finIt_step h.1 hk).symm.trans h.2⟩
theorem FinAt.fin {e:Eng} {x:Eng × Nat × Nat} (h:FinAt e x) (hk:¬ x.2.1 < x.1.slots.length):x=finAll e:=by
 rw [← h.2]
 have:finMu x=0:=by unfold finMu;rw [if_neg hk]
 rw [this];rfl
theorem FinAt.bd {e:Eng} {x:Eng × Nat × Nat} (h:FinAt e x):x.2.1≤x.1.slots.length∧x.2.2≤3*x.2.1+4∧x.1.slots.length=e.slots.length:=⟨h.1.le,by have:=h.1.num;omega,h.1.len⟩
end Go.Proofs.YtaaffpolmecicabGreat
/- Engines tried in reverse order: finishing tries each action at most once more. Plain mathematics. No function of the program is named here. -/
namespace Go.Proofs.YtaaffpolmecicabGreat
set_option linter.unusedVariables false
set_option linter.unusedSimpArgs false
def triesAt (e:Eng) (m:Nat):Int:=(e.slots.getD m noSlt).tries
structure FinR (e0:Eng) (x:Eng × Nat × Nat):Prop where
 all:∀ m,triesAt x.1 m≤triesAt e0 m+1
 far:∀ m,x.2.1 < m→triesAt x.1 m≤triesAt e0 m
 here:x.2.1 < x.1.slots.length→triesAt x.1 x.2.1≤triesAt e0 x.2.1∨stg x.1 x.2.1=2∨(stg x.1 x.2.1=1∧sameB x.1 x.2.1=true)
theorem tries_put (e:Eng) (n:Nat) (s:Slt) (V:List Ver) (hn:n < e.slots.length) (m:Nat):triesAt (e.put n s V) m=if m=n then s.tries else triesAt e m:=by
 unfold triesAt;rw [slot_put e n s V hn m];split <;> rfl
theorem finR_next {e0:Eng} {x:Eng × Nat × Nat} (h:FinI e0 x) (hr:FinR e0 x) (hk:x.2.1 < x.1.slots.length):FinR e0 (finStep x):=by
 obtain ⟨e,k,n⟩:=x
 obtain ⟨hok,-,-,-,-,hchk,-,hh,-⟩:=h
 obtain ⟨hall,hfar,hhere⟩:=hr
 simp only at hok hchk hall hfar hhere hk hh
 have hhere:=hhere hk
 have hh:=hh hk
 by_cases h2:stg e k=2
 · have hst:finStep (e,k,n)=(e,k+1,n):=by unfold finStep;rw [if_pos h2]
   rw [hst]
   exact ⟨hall,fun m hm=>hfar m (by simp only at hm;omega),fun _=>.inl (hfar (k+1) (by omega))⟩
 · have hst:finStep (e,k,n)=((stepN e k).1,k,n+1):=by unfold finStep;rw [if_neg h2]
   rw [hst]
   have gen:∀ (s:Slt) (V:List Ver),(stepN e k).1=e.put k s V→s.tries≤triesAt e0 k+1→(s.tries≤triesAt e0 k∨stg (e.put k s V) k=2∨(stg (e.put k s V) k=1∧sameB (e.put k s V) k=true))→FinR e0 ((stepN e k).1,k,n+1):=by
    intro s V hs h1 h3
    rw [hs]
    refine ⟨fun m=>?_,fun m hm=>?_,fun _=>?_⟩
    · simp only;rw [tries_put _ _ _ _ hk];split
      · rename_i e1;rw [e1];exact h1
      · exact hall m
    · simp only at hm ⊢;rw [tries_put _ _ _ _ hk,if_neg (by omega)];exact hfar m hm
    · simp only;rw [tries_put _ _ _ _ hk,if_pos rfl];exact h3
   rcases stg_cases hok hk with h0 | h1 | h3
   · have ht:(e.slots.getD k noSlt).tries≠1000:=by
      rcases hh with h4 | h4 | h4
      · omega
      · exact absurd h4 h2
      · have:=h4.1;omega
     have hfr:=same_fresh hok hk h0 ht
     have hs:(stepN e k).1=e.put k ⟨1,(e.slots.getD k noSlt).tries+1,(tryM e.base e.vers (e.list.getD k noA) k).2,(tryM e.base e.vers (e.list.getD k noA) k).1⟩ (putL e.vers k (tryM e.base e.vers (e.list.getD k noA) k).1.wrs):=by
      unfold stepN;rw [if_pos h0,if_neg ht]
     refine gen _ _ hs ?_ ?_
     · rcases hhere with h4 | h4 | h4
       · unfold triesAt at h4;simp only;unfold triesAt;omega
       · exact absurd h4 h2
       · have:=h4.1;omega
     · rw [← hs];exact .inr (.inr ⟨hfr.2,hfr.1⟩)
   · have hpre:¬ (k≠0∧stg e (k - 1)≠2):=by
      rintro ⟨h4,h5⟩;exact h5 (hchk (k - 1) (by omega))
     cases hsm:sameB e k with
     | true =>
      have hs:(stepN e k).1=e.put k ⟨2,(e.slots.getD k noSlt).tries,(e.slots.getD k noSlt).from_,(e.slots.getD k noSlt).res⟩ e.vers:=by
       unfold stepN;rw [if_neg (by omega),if_pos h1,if_neg hpre,if_pos hsm]
      refine gen _ _ hs (hall k) ?_
      right;left;rw [stg_put _ _ _ _ hk,if_pos rfl]
     | false =>
      have hs:(stepN e k).1=e.put k ⟨0,(e.slots.getD k noSlt).tries,[],noEff⟩ (dropL e.vers k):=by
       unfold stepN;rw [if_neg (by omega),if_pos h1,if_neg hpre,if_neg (by rw [hsm];decide)]
      refine gen _ _ hs (hall k) ?_
      left
      rcases hhere with h4 | h4 | h4
      · exact h4
      · exact absurd h4 h2
      · rw [hsm] at h4;exact absurd h4.2 (by decide)
   · exact absurd h3 h2
theorem finR_end {e0:Eng}:∀ (f:Nat) (x:Eng × Nat × Nat),FinI e0 x→FinR e0 x→FinR e0 (finIt f x):=by
 intro f
 induction f with
 | zero=>intro x _ h;exact h
 | succ f ih =>
  intro x h hr
  unfold finIt
  split
  · rename_i hk
    exact ih _ (fin_next h hk).1 (finR_next h hr hk)
  · exact hr
theorem fin_once {e:Eng} (h:EngOk e) (h9:le900 e) (m:Nat):triesAt (finAll e).1 m≤triesAt e m+1 :=
 (finR_end _ _ (fin_start h h9) ⟨fun m=>by simp only;omega,fun m _=>Int.le_refl _,fun _=>.inl (Int.le_refl _)⟩).all m
theorem fin_len {e:Eng} (h:EngOk e) (h9:le900 e):(finAll e).1.slots.length=e.slots.length∧EngOk (finAll e).1 :=
 have:=(fin_end (finMu (e,0,0)) (e,0,0) (fin_start h h9) (Nat.le_refl _)).1
 ⟨this.len,this.ok⟩
theorem triesTo_le {e x:Eng} (h:∀ m,triesAt x m≤triesAt e m+1):∀ k,triesTo x k≤triesTo e k+k
 | 0=>by simp [triesTo]
 | k+1=>by
  have h1:=triesTo_le h k
  have h2:=h k
  unfold triesAt at h2
  simp only [triesTo];omega
theorem triesTo_one {x:Eng} {n:Nat} (h:∀ m,m < n→triesAt x m=1):∀ k,k≤n→triesTo x k=k
 | 0,_=>by simp [triesTo]
 | k+1,hk=>by
  have h1:=triesTo_one h k (by omega)
  have h2:=h k (by omega)
  unfold triesAt at h2
  simp only [triesTo];omega
def revL (n:Nat):List Int:=(List.range n).map (fun j:Nat=>(n:Int) - 1 - j)
theorem revL_len (n:Nat):(revL n).length=n:=by simp [revL]
theorem revL_get (n j:Nat) (h:j < n):(revL n).getD j 0=(n:Int) - 1 - j:=by
 unfold revL
 rw [List.getD_eq_getElem?_getD,List.getElem?_map,List.getElem?_range h];rfl
structure RevAt (n j:Nat) (p:Eng × Int):Prop where
 ok:EngOk p.1
 len:p.1.slots.length=n
 num:p.2=j
 yes:∀ m,m < n→n≤m+j→triesAt p.1 m=1
 no:∀ m,m+j < n→stg p.1 m=0∧triesAt p.1 m=0
theorem rev_next {n j:Nat} {p:Eng × Int} (h:RevAt n j p) (hj:j < n):RevAt n (j+1) (eStep p ((n:Int) - 1 - j)):=by
 obtain ⟨hok,hlen,hnum,hy,hno⟩:=h
 obtain ⟨e,c⟩:=p
 simp only at hok hlen hnum hy hno
 obtain ⟨k,hk⟩:∃ k:Nat,(n:Int) - 1 - j=k:=⟨n - 1 - j,by omega⟩
 have hkn:k < n:=by omega
 obtain ⟨h0,ht⟩:=hno k (by omega)
 have hin:inB (k:Int) 0 ((e.slots.length:Int) - 1)=true:=inB_yes (by omega) (by omega)
 have hs:stepL e (k:Int)=(e.put k ⟨1,(e.slots.getD k noSlt).tries+1,(tryM e.base e.vers (e.list.getD k noA) k).2,(tryM e.base e.vers (e.list.getD k noA) k).1⟩ (putL e.vers k (tryM e.base e.vers (e.list.getD k noA) k).1.wrs),true):=by
  unfold stepL;rw [if_pos hin]
  show stepN e k = _
  unfold stepN;rw [if_pos h0,if_neg (by unfold triesAt at ht;omega)]
 have hok2:=stepL_ok hok (k:Int)
 rw [hk]
 unfold eStep
 simp only
 rw [hs] at hok2 ⊢
 have hkl:k < e.slots.length:=by omega
 refine ⟨hok2,by simp only;rw [len_put];exact hlen,by simp only [if_true];omega,fun m hm hm2=>?_,fun m hm=>?_⟩
 · simp only;rw [tries_put _ _ _ _ hkl]
   split
   · unfold triesAt at ht;simp only;omega
   · exact hy m hm (by omega)
 · simp only;rw [tries_put _ _ _ _ hkl,stg_put _ _ _ _ hkl,if_neg (by omega),if_neg (by omega)]
   exact hno m (by omega)
theorem rev_all {n:Nat} {e:Eng} (h:EngOk e) (hl:e.slots.length=n) (hf:∀ m,stg e m=0∧triesAt e m=0):∀ j,j≤n→RevAt n j (eRunTo e (revL n) j)
 | 0,_=>⟨h,hl,rfl,fun m h1 h2=>by omega,fun m _=>hf m⟩
 | j+1,hj=>by
  rw [eRunTo_next (by rw [revL_len];omega),revL_get n j (by omega)]
  exact rev_next (rev_all h hl hf j (by omega)) (by omega)
theorem eng_reverse {n:Nat} {e:Eng} (h:EngOk e) (hl:e.slots.length=n) (hf:∀ m,stg e m=0∧triesAt e m=0) :
  (eRunM e (revL n)).2=n∧triesM (eRunM e (revL n)).1=n∧triesM (eFinM (eRunM e (revL n)).1).1≤2*n:=by
 have h10:n≤10:=by rw [← hl];exact h.ten
 have hr:eRunM e (revL n)=eRunTo e (revL n) (revL n).length:=by
  unfold eRunM;rw [if_pos ⟨(engB_iff e).2 h,by rw [revL_len];omega⟩]
 have hA:=rev_all h hl hf n (Nat.le_refl _)
 rw [hr,revL_len]
 rcases hp:eRunTo e (revL n) n with ⟨x,c⟩
 rw [hp] at hA
 obtain ⟨hok,hlen,hnum,hy,-⟩:=hA
 simp only at hok hlen hnum hy ⊢
 have h9:le900 x:=fun k hk=>by
  have:=hy k (by omega) (by omega)
  unfold triesAt at this;omega
 have ht:triesTo x n=n:=triesTo_one (fun m hm=>hy m hm (by omega)) n (Nat.le_refl _)
 refine ⟨hnum,?_,?_⟩
 · unfold triesM;rw [if_pos ((engB_iff x).2 hok),hlen];exact ht
 · obtain ⟨g1,g2⟩:=fin_len hok h9
   have hfm:(eFinM x).1=(finAll x).1:=by unfold eFinM;rw [if_pos ⟨(engB_iff x).2 hok,h9⟩]
   rw [hfm]
   unfold triesM
   rw [if_pos ((engB_iff _).2 g2),g1,hlen]
   have:=triesTo_le (fun m=>fin_once hok h9 m) n
   omega
end Go.Proofs.YtaaffpolmecicabGreat
