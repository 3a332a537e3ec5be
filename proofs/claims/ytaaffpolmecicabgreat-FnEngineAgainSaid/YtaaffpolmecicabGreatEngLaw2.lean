/- What stage 11's promises ask of engines: plain mathematics. No function of the program is named here. -/
import Derived.Test.YtaaffpolmecicabGreatEngR
import Derived.Test.YtaaffpolmecicabGreatSpecE

namespace Go.Proofs.YtaaffpolmecicabGreat
set_option linter.unusedVariables false
set_option linter.unusedSimpArgs false
theorem step_yes {e:Eng} {n:Int} (h:(stepM e n).2=true):engB e=true∧engB (stepM e n).1=true∧(stepM e n).1.slots.length=e.slots.length∧0≤n∧n < e.slots.length ∧
  ∀ k:Nat,k < e.slots.length→((k:Int)≠n→stg (stepM e n).1 k=stg e k)∧(stg e k=2→stg (stepM e n).1 k=2):=by
 unfold stepM at h ⊢
 by_cases hb:engB e=true
 · rw [if_pos hb] at h ⊢
   unfold stepL at h ⊢
   by_cases hi:inB n 0 ((e.slots.length:Int) - 1)=true
   · rw [if_pos hi] at h ⊢
     obtain ⟨i0,i1⟩:=inB_true hi
     obtain ⟨m,rfl⟩:=Int.eq_ofNat_of_zero_le i0
     have hm:m < e.slots.length:=by omega
     rw [show ((m:Nat):Int).toNat=m from rfl] at h ⊢
     have hok:=step_ok ((engB_iff e).1 hb) hm
     refine ⟨hb,(engB_iff _).2 hok,?_,by omega,by omega,?_⟩
     · unfold stepN
       repeat' split
       all_goals first | rfl | exact len_put _ _ _ _
     · intro k hk
       have gen:∀ (s:Slt) (V:List Ver),stg e m≠2→((k:Int)≠m→stg (e.put m s V) k=stg e k)∧(stg e k=2→stg (e.put m s V) k=2):=by
        intro s V h2
        rw [stg_put _ _ _ _ hm]
        refine ⟨fun hne=>by rw [if_neg (by omega)],fun h3=>?_⟩
        rw [if_neg (fun e1=>h2 (by rw [← e1];exact h3))];exact h3
       unfold stepN
       split
       · rename_i h0
         split
         · exact ⟨fun _=>rfl,fun h=>h⟩
         · exact gen _ _ (by rw [h0];decide)
       · split
         · rename_i h0 h1
           split
           · exact ⟨fun _=>rfl,fun h=>h⟩
           · split <;> exact gen _ _ (by rw [h1];decide)
         · exact ⟨fun _=>rfl,fun h=>h⟩
   · rw [if_neg hi] at h;cases h
 · rw [if_neg hb] at h;cases h
theorem fin_yes {e:Eng} (h:0≤(eFinM e).2):doneE (eFinM e).1=true∧(eFinM e).1.base=e.base∧(eFinM e).1.list=e.list∧(eFinM e).1.slots.length=e.slots.length∧(eFinM e).2≤3*e.slots.length:=by
 unfold eFinM at h ⊢
 by_cases hv:engB e=true∧le900 e
 · rw [if_pos hv]
   have hE:=fin_end (finMu (e,0,0)) (e,0,0) (fin_start ((engB_iff e).1 hv.1) hv.2) (Nat.le_refl _)
   have hF:FinI e (finAll e):=hE.1
   have hk:(finAll e).2.1=(finAll e).1.slots.length:=hE.2
   refine ⟨doneE_yes ((engB_iff _).2 hF.ok) (fun n hn=>hF.chk n (by have hn':n < (finAll e).1.slots.length:=hn;omega)),hF.base,hF.list,hF.len,?_⟩
   have hn:=hF.num
   rw [if_neg (by omega),hk,hF.len] at hn
   simp only;omega
 · rw [if_neg hv] at h;simp only at h;omega
theorem finIt_done {e:Eng} (hd:∀ n,n < e.slots.length→stg e n=2):∀ (f k:Nat),e.slots.length≤k+f→k≤e.slots.length→finIt f (e,k,0)=(e,e.slots.length,0)
 | 0,k,h1,h2=>by
  have:k=e.slots.length:=by omega
  rw [this];rfl
 | f+1,k,h1,h2=>by
  unfold finIt
  split
  · rename_i hk
    have:finStep (e,k,0)=(e,k+1,0):=by unfold finStep;rw [if_pos (hd k hk)]
    rw [this];exact finIt_done hd f (k+1) (by omega) hk
  · rename_i hk
    have:k=e.slots.length:=by simp only at hk;omega
    rw [this]
theorem fin_again {e:Eng} (h:doneE e=true):(eFinM e).2≤0∧((eFinM e).2 < 0∨(eFinM e).1=e):=by
 obtain ⟨h1,h2⟩:=(doneE_iff e).1 h
 unfold eFinM
 split
 · rename_i hv
   have hm:e.slots.length≤0+finMu (e,0,0):=by
    unfold finMu
    simp only
    split
    · have:=finPh_le e 0;omega
    · omega
   have:finAll e=(e,e.slots.length,0):=finIt_done h2 _ 0 hm (Nat.zero_le _)
   rw [this]
   exact ⟨by simp,.inr rfl⟩
 · exact ⟨by simp,.inl (by simp)⟩
def manyM (e:Eng):Nat→Int
 | 0=>0
 | k+1=>manyM e k+if stg e k=0 then 0 else 1
theorem many_le {e:Eng} (h:EngOk e):∀ k,k≤e.slots.length→0≤manyM e k∧manyM e k≤k∧manyM e k≤triesTo e k
 | 0,_=>by simp [manyM,triesTo]
 | k+1,hk=>by
  obtain ⟨h1,h2,h3⟩:=many_le h k (by omega)
  have ht:=slot_tries h (k:=k) (by omega)
  simp only [manyM,triesTo]
  by_cases h0:stg e k=0
  · rw [if_pos h0];refine ⟨?_,?_,?_⟩ <;> omega
  · rw [if_neg h0]
    have:=(slot_old (h.act (by omega)) (h.slot k (by omega)) h0).tries
    refine ⟨?_,?_,?_⟩ <;> omega
theorem triesTo_put (e:Eng) (n:Nat) (s:Slt) (V:List Ver) (hn:n < e.slots.length):∀ k,triesTo (e.put n s V) k=triesTo e k+if n < k then s.tries - triesAt e n else 0
 | 0=>by simp [triesTo]
 | k+1=>by
  have h1:=triesTo_put e n s V hn k
  have h2:=tries_put e n s V hn k
  unfold triesAt at h2
  simp only [triesTo]
  rw [h1,h2]
  unfold triesAt
  by_cases hk:k=n
  · subst hk;simp;omega
  · rw [if_neg hk]
    by_cases h3:n < k
    · rw [if_pos h3,if_pos (by omega)];omega
    · rw [if_neg h3,if_neg (by omega)];omega
theorem step_tries {e:Eng} {n:Int} (h:(stepM e n).2=true):triesM e≤triesM (stepM e n).1∧triesM (stepM e n).1≤triesM e+1:=by
 obtain ⟨hb,hb2,hl,h0,h1,-⟩:=step_yes h
 unfold triesM
 rw [if_pos hb,if_pos hb2,hl]
 unfold stepM stepL
 rw [if_pos hb,if_pos (inB_yes h0 (by omega))]
 obtain ⟨m,rfl⟩:=Int.eq_ofNat_of_zero_le h0
 have hm:m < e.slots.length:=by omega
 rw [show ((m:Nat):Int).toNat=m from rfl]
 have gen:∀ (s:Slt) (V:List Ver),(s.tries=triesAt e m∨s.tries=triesAt e m+1)→triesTo e e.slots.length≤triesTo (e.put m s V) e.slots.length∧triesTo (e.put m s V) e.slots.length≤triesTo e e.slots.length+1:=by
  intro s V hs
  rw [triesTo_put e m s V hm,if_pos hm]
  constructor <;> omega
 unfold stepN
 repeat' split
 all_goals first
  | exact ⟨Int.le_refl _,Int.le_add_one (Int.le_refl _)⟩
  | exact gen _ _ (.inr rfl)
  | exact gen _ _ (.inl rfl)
end Go.Proofs.YtaaffpolmecicabGreat
