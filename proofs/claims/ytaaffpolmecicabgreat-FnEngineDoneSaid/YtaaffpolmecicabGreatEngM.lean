/- Texts of ours that stand together: EngMath, EngMath2, EngMem, EngChk -/
import Derived.Test.YtaaffpolmecicabGreatVerA
import Derived.Test.YtaaffpolmecicabGreatOwnG
import Derived.Test.YtaaffpolmecicabGreatLay
import Derived.Test.YtaaffpolmecicabGreatActs
import Derived.Test.YtaaffpolmecicabGreatCore
/- Engines: plain mathematics. No function of the program is named here. -/
namespace Go.Proofs.YtaaffpolmecicabGreat
set_option linter.unusedVariables false
set_option linter.unusedSimpArgs false
structure Slt where
 stage:Int
 tries:Int
 from_:List Int
 res:Eff
def noSlt:Slt:=⟨0,0,[],noEff⟩
structure Eng where
 base:List Ent
 list:List Acn
 vers:List Ver
 slots:List Slt
def noEng:Eng:=⟨[],[],[],[]⟩
instance:DecidableEq Ver:=fun x y=>decidable_of_iff (x.key=y.key∧x.by_=y.by_∧x.val=y.val) (by
 obtain ⟨a,b,c⟩:=x;obtain ⟨d,e,f⟩:=y;simp)
def rdAt (rds:List Ent) (key:Int):Int:=rds.foldl (fun acc r=>if r.1=key then r.2 else acc) 0
theorem rdAt_next (rds:List Ent) (key:Int) (k:Nat) (h:k < rds.length):rdAt (rds.take (k+1)) key=if (rds.getD k (0,0)).1=key then (rds.getD k (0,0)).2 else rdAt (rds.take k) key:=by
 have e:rds.take (k+1)=rds.take k++[rds.getD k (0,0)]:=by
  rw [List.take_succ_eq_append_getElem h,List.getD_eq_getElem?_getD,List.getElem?_eq_getElem h];rfl
 unfold rdAt
 rw [e,List.foldl_append];rfl
def readB (a:Acn) (n:Nat) (s:Slt) (k:Nat):Bool :=
 decide ((s.res.rds.getD k (0,0)).1=(readsM a).getD k 0) && inB (s.res.rds.getD k (0,0)).2 0 1000000 && inB (s.from_.getD k 0) (-1) ((n:Int) - 1)
def wantM (a:Acn) (s:Slt):Eff:=effK a.kind a.src a.dst a.amt (rdAt s.res.rds a.src) (rdAt s.res.rds a.dst)
def slotB (a:Acn) (n:Nat) (s:Slt):Bool :=
 if s.stage=0 then inB s.tries 0 1000 && decide (s.from_=[]) && !s.res.done && decide (s.res.rds=[]) && decide (s.res.wrs=[])
 else decide (s.res.rds.length=(readsM a).length) && decide (s.from_.length=(readsM a).length) && inB s.tries 1 1000 && inB s.stage 1 2 && (List.range (readsM a).length).all (readB a n s) && (s.res.done == (wantM a s).done) && decide (s.res.wrs=(wantM a s).wrs)
def stg (e:Eng) (n:Nat):Int:=(e.slots.getD n noSlt).stage
def resL (e:Eng):List Eff:=e.slots.map Slt.res
def sameB (e:Eng) (n:Nat):Bool :=
 (List.range (e.slots.getD n noSlt).res.rds.length).all fun k=>decide (readL e.base e.vers ((e.slots.getD n noSlt).res.rds.getD k (0,0)).1 n=(((e.slots.getD n noSlt).res.rds.getD k (0,0)).2,(e.slots.getD n noSlt).from_.getD k 0))
def chkB (e:Eng) (n:Nat):Bool:=decide (stg e n≠2) || ((decide (n=0) || decide (stg e (n - 1)=2)) && sameB e n)
def engB (e:Eng):Bool :=
 storeB e.base && actsB e.list && decide (e.slots.length=e.list.length) && (List.range e.slots.length).all (fun n=>slotB (e.list.getD n noA) n (e.slots.getD n noSlt)) && decide (e.vers=vsN (resL e) e.slots.length) && (List.range e.slots.length).all (chkB e)
structure EngOk (e:Eng):Prop where
 base:storeB e.base=true
 list:actsB e.list=true
 len:e.slots.length=e.list.length
 slot:∀ n,n < e.slots.length→slotB (e.list.getD n noA) n (e.slots.getD n noSlt)=true
 vers:e.vers=vsN (resL e) e.slots.length
 chk:∀ n,n < e.slots.length→stg e n=2→(n=0∨stg e (n - 1)=2)∧sameB e n=true
theorem engB_iff (e:Eng):engB e=true ↔ EngOk e:=by
 unfold engB
 simp only [Bool.and_eq_true,decide_eq_true_eq,List.all_eq_true,List.mem_range]
 constructor
 · rintro ⟨⟨⟨⟨⟨h1,h2⟩,h3⟩,h4⟩,h5⟩,h6⟩
   refine ⟨h1,h2,h3,h4,h5,fun n hn hs=>?_⟩
   have:=h6 n hn
   simp only [chkB,Bool.or_eq_true,Bool.and_eq_true,decide_eq_true_eq] at this
   rcases this with h | h
   · exact absurd hs h
   · exact h
 · rintro ⟨h1,h2,h3,h4,h5,h6⟩
   refine ⟨⟨⟨⟨⟨h1,h2⟩,h3⟩,h4⟩,h5⟩,fun n hn=>?_⟩
   simp only [chkB,Bool.or_eq_true,Bool.and_eq_true,decide_eq_true_eq]
   by_cases hs:stg e n=2
   · exact .inr (h6 n hn hs)
   · exact .inl hs
theorem sameB_iff (e:Eng) (n:Nat):sameB e n=true ↔ ∀ k,k < (e.slots.getD n noSlt).res.rds.length→readL e.base e.vers ((e.slots.getD n noSlt).res.rds.getD k (0,0)).1 n=(((e.slots.getD n noSlt).res.rds.getD k (0,0)).2,(e.slots.getD n noSlt).from_.getD k 0):=by
 unfold sameB;simp only [List.all_eq_true,List.mem_range,decide_eq_true_eq]
/-! What an action reads. -/
theorem reads_form (a:Acn):readsM a=[]∨(∃ x,readsM a=[x])∨∃ x y,x≠y∧readsM a=[x,y]:=by
 unfold readsM readsK onceM
 split
 · split
   · exact .inl rfl
   · split
     · exact .inr (.inl ⟨_,rfl⟩)
     · split
       · exact .inr (.inl ⟨_,rfl⟩)
       · rename_i h;exact .inr (.inr ⟨_,_,h,rfl⟩)
 · exact .inl rfl
theorem reads_src {a:Acn} (ha:actB a=true):∀ key∈readsM a,key=a.src∨key=a.dst:=by
 intro key hk
 rw [readsM,if_pos ha] at hk
 unfold readsK at hk
 split at hk
 · cases hk
 · split at hk
   · simp at hk;exact .inl hk
   · unfold onceM at hk;split at hk
     · simp at hk;exact .inl hk
     · simpa using hk
theorem eff_agree {a:Acn} (ha:actB a=true) {g1 g2:Int→Int} (h:∀ key∈readsM a,g1 key=g2 key) :
  effK a.kind a.src a.dst a.amt (g1 a.src) (g1 a.dst)=effK a.kind a.src a.dst a.amt (g2 a.src) (g2 a.dst):=by
 have hk:=kind_of ha
 have hr:readsM a=readsK a.kind a.src a.dst:=by rw [readsM,if_pos ha]
 rw [hr] at h
 obtain ⟨k,s,d,m⟩:=a
 simp only at hk h ⊢
 have h3:∀ f t t',k=3∨k=6∨k=1→effK k s d m f t=effK k s d m f t':=by
  intro f t t' hk3
  rcases hk3 with rfl | rfl | rfl <;> simp [effK,doneK,outsK,rdsK,readsK]
 have h1:∀ f f' t,k=1→effK k s d m f t=effK k s d m f' t:=by
  intro f f' t hk1;subst hk1;simp [effK,doneK,outsK,rdsK,readsK]
 by_cases hk1:k=1
 · rw [h3 _ _ (g2 d) (.inr (.inr hk1)),h1 _ (g2 s) _ hk1]
 · by_cases hk36:k=3∨k=6
   · have:g1 s=g2 s:=h s (by simp [readsK,hk1,hk36])
     rw [this,h3 _ _ (g2 d) (by omega)]
   · have hs:g1 s=g2 s:=h s (by simp only [readsK,hk1,hk36,if_false,onceM];split <;> simp)
     have hd:g1 d=g2 d:=h d (by
      simp only [readsK,hk1,hk36,if_false,onceM]
      split
      · rename_i e;simp [e]
      · simp)
     rw [hs,hd]
theorem effK_rds {a:Acn} (ha:actB a=true) (f t:Int):(effK a.kind a.src a.dst a.amt f t).rds=(readsM a).map (fun key=>(key,if key=a.src then f else t)):=by
 rw [readsM,if_pos ha];rfl
theorem effK_wr {a:Acn} (ha:actB a=true) {f t:Int} (hf:0≤f∧f≤1000000) (ht:0≤t∧t≤1000000):writesB (effK a.kind a.src a.dst a.amt f t).wrs=true:=by
 rw [writesB_ok]
 unfold effK
 simp only
 split
 · rename_i hd
   exact wr_outs ha hf.1 hf.2 ht.1 ht.2 hd
 · exact ⟨List.Pairwise.nil,fun e he=>by cases he⟩
theorem rdAt_map {l:List Int} (hn:l.Nodup) (g:Int→Int) {key:Int} (hk:key∈l):rdAt (l.map fun x=>(x,g x)) key=g key:=by
 have gen:∀ (l:List Int) (acc:Int),l.Nodup→(l.map fun x=>(x,g x)).foldl (fun acc r=>if r.1=key then r.2 else acc) acc=if key∈l then g key else acc:=by
  intro l
  induction l with
  | nil=>intro acc _;simp
  | cons x r ih =>
   intro acc hn
   rw [List.nodup_cons] at hn
   rw [List.map_cons,List.foldl_cons,ih _ hn.2]
   by_cases hx:x=key
   · subst hx
     rw [if_neg hn.1];simp
   · have:key≠x:=fun h=>hx h.symm
     simp [hx,this]
 unfold rdAt
 rw [gen l 0 hn,if_pos hk]
theorem reads_nodup (a:Acn):(readsM a).Nodup:=by
 rcases reads_form a with h | ⟨x,h⟩ | ⟨x,y,hxy,h⟩ <;> rw [h]
 · simp
 · simp
 · simp [hxy]
theorem rdAt_bd {rds:List Ent} (h:∀ r∈rds,0≤r.2∧r.2≤1000000) (key:Int):0≤rdAt rds key∧rdAt rds key≤1000000:=by
 have gen:∀ (l:List Ent) (acc:Int),(∀ r∈l,0≤r.2∧r.2≤1000000)→(0≤acc∧acc≤1000000)→0≤l.foldl (fun acc r=>if r.1=key then r.2 else acc) acc∧l.foldl (fun acc r=>if r.1=key then r.2 else acc) acc≤1000000:=by
  intro l
  induction l with
  | nil=>intro acc _ h;exact h
  | cons x r ih =>
   intro acc hl hacc
   rw [List.foldl_cons]
   refine ih _ (fun y hy=>hl y (List.mem_cons_of_mem _ hy)) ?_
   split
   · exact hl x List.mem_cons_self
   · exact hacc
 exact gen rds 0 h (by omega)
/-! What a slot that may be says. -/
theorem eff_ext {x y:Eff} (h1:x.done=y.done) (h2:x.rds=y.rds) (h3:x.wrs=y.wrs):x=y:=by
 obtain ⟨a,b,c⟩:=x;obtain ⟨d,e,f⟩:=y
 simp only at h1 h2 h3
 rw [h1,h2,h3]
theorem len_two {l:List Ent} {x y:Int} (h:l.length=[x,y].length):∃ r q,l=[r,q]:=by
 rcases l with _ | ⟨r,_ | ⟨q,_ | ⟨z,t⟩⟩⟩
 · simp at h
 · simp at h
 · exact ⟨r,q,rfl⟩
 · simp at h
theorem slot_new {a:Acn} {n:Nat} {s:Slt} (h:slotB a n s=true) (h0:s.stage=0):s=⟨0,s.tries,[],noEff⟩∧0≤s.tries∧s.tries≤1000:=by
 unfold slotB at h
 rw [if_pos h0] at h
 simp only [Bool.and_eq_true,decide_eq_true_eq,Bool.not_eq_true'] at h
 obtain ⟨⟨⟨⟨h1,h2⟩,h3⟩,h4⟩,h5⟩:=h
 have:=inB_true h1
 obtain ⟨st,tr,fr,⟨d,r,w⟩⟩:=s
 simp only at h0 h2 h3 h4 h5 this
 subst h0 h2 h3 h4 h5
 exact ⟨rfl,this⟩
structure SlotIs (a:Acn) (n:Nat) (s:Slt):Prop where
 stage:s.stage=1∨s.stage=2
 tries:1≤s.tries∧s.tries≤1000
 res:s.res=wantM a s
 rds:s.res.rds=(readsM a).map fun key=>(key,rdAt s.res.rds key)
 val:∀ r∈s.res.rds,0≤r.2∧r.2≤1000000
 flen:s.from_.length=(readsM a).length
 from_:∀ k,k < (readsM a).length→-1≤s.from_.getD k 0∧s.from_.getD k 0≤(n:Int) - 1
theorem getD_memP (l:List Ent) (k:Nat) (h:k < l.length):l.getD k (0,0)∈l:=by
 rw [List.getD_eq_getElem?_getD,List.getElem?_eq_getElem h];exact List.getElem_mem h
theorem mem_getP {l:List Ent} {x:Ent} (h:x∈l):∃ i,i < l.length∧l.getD i (0,0)=x:=by
 obtain ⟨i,hi,rfl⟩:=List.getElem_of_mem h
 exact ⟨i,hi,by rw [List.getD_eq_getElem?_getD,List.getElem?_eq_getElem hi];rfl⟩
theorem slot_old {a:Acn} {n:Nat} {s:Slt} (ha:actB a=true) (h:slotB a n s=true) (h0:s.stage≠0):SlotIs a n s:=by
 unfold slotB at h
 rw [if_neg h0] at h
 simp only [Bool.and_eq_true,decide_eq_true_eq,List.all_eq_true,List.mem_range,beq_iff_eq] at h
 obtain ⟨⟨⟨⟨⟨⟨h1,h2⟩,h3⟩,h4⟩,h5⟩,h6⟩,h7⟩:=h
 have h5':∀ k,k < (readsM a).length→(s.res.rds.getD k (0,0)).1=(readsM a).getD k 0∧(0≤(s.res.rds.getD k (0,0)).2∧(s.res.rds.getD k (0,0)).2≤1000000)∧-1≤s.from_.getD k 0∧s.from_.getD k 0≤(n:Int) - 1:=by
  intro k hk
  have:=h5 k hk
  simp only [readB,Bool.and_eq_true,decide_eq_true_eq] at this
  exact ⟨this.1.1,inB_true this.1.2,inB_true this.2⟩
 have hst:=inB_true h4
 have hrd:s.res.rds=(readsM a).map fun key=>(key,rdAt s.res.rds key):=by
  have hkey:s.res.rds=(readsM a).map fun key=>(key,(s.res.rds.find? (fun r=>r.1 == key)).elim 0 Prod.snd):=by
   rcases reads_form a with hf | ⟨x,hf⟩ | ⟨x,y,hxy,hf⟩
   · rw [hf] at h1 ⊢
     exact List.eq_nil_of_length_eq_zero h1
   · rw [hf] at h1 ⊢
     obtain ⟨r,hr⟩:=List.length_eq_one_iff.1 h1
     have:=(h5' 0 (by rw [hf];simp)).1
     rw [hr,hf] at this
     simp at this
     rw [hr];simp [this]
     rw [← this]
   · rw [hf] at h1 ⊢
     obtain ⟨r,q,hr⟩:=len_two h1
     have e1:=(h5' 0 (by rw [hf];simp)).1
     have e2:=(h5' 1 (by rw [hf];simp)).1
     rw [hr,hf] at e1 e2
     simp at e1 e2
     obtain ⟨r1,r2⟩:=r
     obtain ⟨q1,q2⟩:=q
     simp only at e1 e2
     subst e1 e2
     have hb:(r1 == q1)=false:=by simpa using hxy
     rw [hr];simp [List.find?,hb]
  have hat:∀ key∈readsM a,rdAt s.res.rds key=(s.res.rds.find? (fun r=>r.1 == key)).elim 0 Prod.snd:=by
   intro key hk
   have:=rdAt_map (reads_nodup a) (fun key=>(s.res.rds.find? (fun r=>r.1 == key)).elim 0 Prod.snd) hk
   rw [← hkey] at this
   exact this
  refine hkey.trans (List.map_congr_left fun key hk=>?_)
  rw [hat key hk]
 have hw:s.res=wantM a s:=by
  have e1:(wantM a s).rds=s.res.rds:=by
   unfold wantM
   rw [effK_rds ha]
   refine Eq.trans (List.map_congr_left fun key hk=>?_) hrd.symm
   rcases reads_src ha key hk with e | e
   · rw [if_pos e,e]
   · by_cases e2:key=a.src
     · rw [if_pos e2,e2]
     · rw [if_neg e2,e]
  exact eff_ext h6 e1.symm h7
 refine ⟨by omega,inB_true h3,hw,hrd,fun r hr=>?_,h2,fun k hk=>(h5' k hk).2.2⟩
 obtain ⟨i,hi,rfl⟩:=mem_getP hr
 exact (h5' i (by omega)).2.1
theorem slot_wr {a:Acn} {n:Nat} {s:Slt} (ha:actB a=true) (h:slotB a n s=true):writesB s.res.wrs=true:=by
 by_cases h0:s.stage=0
 · rw [(slot_new h h0).1];rfl
 · have hs:=slot_old ha h h0
   rw [hs.res]
   exact effK_wr ha (rdAt_bd hs.val _) (rdAt_bd hs.val _)
end Go.Proofs.YtaaffpolmecicabGreat
/- Steps of engines: plain mathematics. No function of the program is named here. -/
namespace Go.Proofs.YtaaffpolmecicabGreat
set_option linter.unusedVariables false
set_option linter.unusedSimpArgs false
theorem resL_get (e:Eng) (k:Nat):(resL e).getD k noEff=(e.slots.getD k noSlt).res:=by
 unfold resL
 rw [List.getD_eq_getElem?_getD,List.getD_eq_getElem?_getD,List.getElem?_map]
 cases e.slots[k]? <;> rfl
theorem resL_len (e:Eng):(resL e).length=e.slots.length:=by simp [resL]
theorem act_get {L:List Acn} (h:actsB L=true) {k:Nat} (hk:k < L.length):actB (L.getD k noA)=true :=
 (actsB_true h).2 _ (by rw [List.getD_eq_getElem?_getD,List.getElem?_eq_getElem hk];exact List.getElem_mem hk)
theorem EngOk.act {e:Eng} (h:EngOk e) {k:Nat} (hk:k < e.slots.length):actB (e.list.getD k noA)=true:=act_get h.list (by rw [← h.len];exact hk)
theorem EngOk.ten {e:Eng} (h:EngOk e):e.slots.length≤10:=by rw [h.len];exact (actsB_true h.list).1
theorem EngOk.wr {e:Eng} (h:EngOk e):∀ k,k < (resL e).length→writesB ((resL e).getD k noEff).wrs=true:=fun k hk=>by
 rw [resL_len] at hk
 rw [resL_get];exact slot_wr (h.act hk) (h.slot k hk)
theorem EngOk.vok {e:Eng} (h:EngOk e):VOk e.vers:=by
 rw [h.vers];exact (vsN_spec (by rw [resL_len];exact h.ten) h.wr _ (by rw [resL_len];exact Nat.le_refl _)).1
theorem getD_setE (X:List Eff) (n:Nat) (y:Eff) (i:Nat) (hn:n < X.length):(X.set n y).getD i noEff=if i=n then y else X.getD i noEff:=by
 rw [List.getD_eq_getElem?_getD,List.getElem?_set]
 by_cases e:n=i
 · subst e;simp [hn]
 · rw [if_neg e,if_neg (fun h=>e h.symm),List.getD_eq_getElem?_getD]
theorem getD_setS (X:List Slt) (n:Nat) (y:Slt) (i:Nat) (hn:n < X.length):(X.set n y).getD i noSlt=if i=n then y else X.getD i noSlt:=by
 rw [List.getD_eq_getElem?_getD,List.getElem?_set]
 by_cases e:n=i
 · subst e;simp [hn]
 · rw [if_neg e,if_neg (fun h=>e h.symm),List.getD_eq_getElem?_getD]
theorem vs_set {X:List Eff} (hX:X.length≤10) (hW:∀ k,k < X.length→writesB (X.getD k noEff).wrs=true) {n:Nat} (hn:n < X.length) {y:Eff} (hy:writesB y.wrs=true) :
  vsN (X.set n y) X.length=putL (vsN X X.length) n y.wrs:=by
 have hW':∀ k,k < (X.set n y).length→writesB ((X.set n y).getD k noEff).wrs=true:=fun k hk=>by
  rw [getD_setE X n y k hn]
  split
  · exact hy
  · exact hW k (by simpa using hk)
 obtain ⟨v1,m1⟩:=vsN_spec (by simpa using hX) hW' X.length (by simp)
 obtain ⟨v2,m2⟩:=vsN_spec hX hW X.length (Nat.le_refl _)
 have hb:inB (n:Int) 0 9=true:=inB_yes (by omega) (by omega)
 refine v1.ext (ok_putL v2 hb hy) fun x=>?_
 rw [m1,mem_putL,m2]
 constructor
 · rintro ⟨i,hi,e,hm⟩
   rw [getD_setE X n y i hn] at hm
   split at hm
   · rename_i e2;subst e2;exact .inr ⟨e,hm⟩
   · rename_i e2;exact .inl ⟨⟨i,hi,e,hm⟩,by omega⟩
 · rintro (⟨⟨i,hi,e,hm⟩,hne⟩ | ⟨e,hm⟩)
   · exact ⟨i,hi,e,by rw [getD_setE X n y i hn,if_neg (by omega)];exact hm⟩
   · exact ⟨n,hn,e,by rw [getD_setE X n y n hn,if_pos rfl];exact hm⟩
theorem putL_nil (L:List Ver) (n:Int):putL L n []=dropL L n:=rfl
def tryM (S:List Ent) (V:List Ver) (a:Acn) (n:Nat):Eff × List Int :=
 (effK a.kind a.src a.dst a.amt (readL S V a.src n).1 (readL S V a.dst n).1,(readsM a).map fun key=>(readL S V key n).2)
def Eng.put (e:Eng) (n:Nat) (s:Slt) (V:List Ver):Eng:=⟨e.base,e.list,V,e.slots.set n s⟩
def stepN (e:Eng) (n:Nat):Eng × Bool :=
 if stg e n=0 then
  if (e.slots.getD n noSlt).tries=1000 then (e,false)
  else (e.put n ⟨1,(e.slots.getD n noSlt).tries+1,(tryM e.base e.vers (e.list.getD n noA) n).2,(tryM e.base e.vers (e.list.getD n noA) n).1⟩ (putL e.vers n (tryM e.base e.vers (e.list.getD n noA) n).1.wrs),true)
 else if stg e n=1 then
  if n≠0∧stg e (n - 1)≠2 then (e,false)
  else if sameB e n=true then (e.put n ⟨2,(e.slots.getD n noSlt).tries,(e.slots.getD n noSlt).from_,(e.slots.getD n noSlt).res⟩ e.vers,true)
  else (e.put n ⟨0,(e.slots.getD n noSlt).tries,[],noEff⟩ (dropL e.vers n),true)
 else (e,false)
def stepL (e:Eng) (n:Int):Eng × Bool:=if inB n 0 ((e.slots.length:Int) - 1) then stepN e n.toNat else (e,false)
theorem stg_put (e:Eng) (n:Nat) (s:Slt) (V:List Ver) (hn:n < e.slots.length) (m:Nat):stg (e.put n s V) m=if m=n then s.stage else stg e m:=by
 unfold stg Eng.put
 simp only
 rw [getD_setS _ _ _ _ hn];split <;> rfl
theorem slot_put (e:Eng) (n:Nat) (s:Slt) (V:List Ver) (hn:n < e.slots.length) (m:Nat):(e.put n s V).slots.getD m noSlt=if m=n then s else e.slots.getD m noSlt:=getD_setS _ _ _ _ hn
theorem len_put (e:Eng) (n:Nat) (s:Slt) (V:List Ver):(e.put n s V).slots.length=e.slots.length:=by simp [Eng.put]
theorem resL_put (e:Eng) (n:Nat) (s:Slt) (V:List Ver):resL (e.put n s V)=(resL e).set n s.res:=by unfold resL Eng.put;simp [List.map_set]
theorem EngOk.pre {e:Eng} (h:EngOk e):∀ m,m < e.slots.length→stg e m=2→∀ k,k≤m→stg e k=2:=by
 intro m
 induction m with
 | zero => intro _ hs k hk; obtain rfl : k = 0 := by omega
           exact hs
 | succ m ih =>
  intro hm hs k hk
  rcases (by omega:k=m+1∨k≤m) with rfl | hk
  · exact hs
  · rcases (h.chk (m+1) hm hs).1 with h0 | h0
    · omega
    · exact ih (by omega) h0 k hk
theorem same_low {e e':Eng} (hb:e'.base=e.base) (hV:VOk e.vers) (hV':VOk e'.vers) {m:Nat} (hs:e'.slots.getD m noSlt=e.slots.getD m noSlt) (hm:∀ x:Ver,x.by_ < m→(x∈e'.vers ↔ x∈e.vers)) (h:sameB e m=true):sameB e' m=true:=by
 rw [sameB_iff] at h ⊢
 rw [hs,hb]
 intro k hk
 rw [← h k hk]
 exact readL_congr hV' hV rfl fun x _ hb=>hm x hb
theorem eng_put {e:Eng} (h:EngOk e) {n:Nat} (hn:n < e.slots.length) (h2:stg e n≠2) {s:Slt} (hs:slotB (e.list.getD n noA) n s=true) {V:List Ver} (hV:V=vsN ((resL e).set n s.res) e.slots.length)
  (hlow:∀ x:Ver,x.by_ < n→(x∈V ↔ x∈e.vers)) (hc:s.stage=2→(n=0∨stg e (n - 1)=2)∧sameB (e.put n s V) n=true):EngOk (e.put n s V):=by
 have hsl:∀ m,m < e.slots.length→slotB (e.list.getD m noA) m ((e.put n s V).slots.getD m noSlt)=true:=fun m hm=>by
  rw [slot_put e n s V hn m]
  split
  · rename_i e1;rw [e1];exact hs
  · exact h.slot m hm
 have hvok:VOk V:=by
  have hW':∀ k,k < ((resL e).set n s.res).length→writesB (((resL e).set n s.res).getD k noEff).wrs=true:=fun k hk=>by
   have hk':k < e.slots.length:=by simpa [resL_len] using hk
   rw [← resL_put e n s V,resL_get];exact slot_wr (h.act hk') (hsl k hk')
  rw [hV];exact (vsN_spec (by simpa [resL_len] using h.ten) hW' _ (by simp [resL_len])).1
 refine ⟨h.base,h.list,by rw [len_put];exact h.len,fun m hm=>?_,?_,fun m hm hs2=>?_⟩
 · rw [len_put] at hm;exact hsl m hm
 · rw [resL_put,len_put];exact hV
 · rw [len_put] at hm
   rw [stg_put e n s V hn] at hs2
   split at hs2
   · rename_i e1
     subst e1
     obtain ⟨c1,c2⟩:=hc hs2
     refine ⟨?_,c2⟩
     rcases c1 with c1 | c1
     · exact .inl c1
     · right
       rw [stg_put e m s V hn];split
       · exact hs2
       · exact c1
   · rename_i e1
     have hlt:m < n:=by
      rcases (by omega:m < n∨n≤m) with h3 | h3
      · exact h3
      · exact absurd (h.pre m hm hs2 n h3) h2
     obtain ⟨c1,c2⟩:=h.chk m hm hs2
     refine ⟨?_,same_low (e:=e) (by rfl) h.vok hvok (by rw [slot_put e n s V hn,if_neg e1]) (fun x hx=>hlow x (by omega)) c2⟩
     rcases c1 with c1 | c1
     · exact .inl c1
     · right;rw [stg_put e n s V hn,if_neg (by omega)];exact c1
theorem slot_tried {S:List Ent} {V:List Ver} {a:Acn} {n:Nat} {t:Int} (hS:storeB S=true) (hV:VOk V) (ha:actB a=true) (ht:0≤t∧t≤999) (st:Int) (hst:st=1∨st=2) :
  slotB a n ⟨st,t+1,(tryM S V a n).2,(tryM S V a n).1⟩=true:=by
 have hr:∀ key∈readsM a,rdAt (tryM S V a n).1.rds key=(readL S V key n).1:=by
  intro key hk
  have e:(tryM S V a n).1.rds=(readsM a).map fun key=>(key,(readL S V key n).1):=by
   unfold tryM
   rw [effK_rds ha]
   refine List.map_congr_left fun key hk=>?_
   rcases reads_src ha key hk with e | e
   · rw [if_pos e,e]
   · by_cases e2:key=a.src
     · rw [if_pos e2,e2]
     · rw [if_neg e2,e]
  rw [e];exact rdAt_map (reads_nodup a) (fun key=>(readL S V key n).1) hk
 have hw:wantM a ⟨st,t+1,(tryM S V a n).2,(tryM S V a n).1⟩=(tryM S V a n).1:=eff_agree ha (g1:=fun key=>rdAt (tryM S V a n).1.rds key) (g2:=fun key=>(readL S V key n).1) hr
 have hrd:(tryM S V a n).1.rds=(readsM a).map (fun key=>(key,if key=a.src then (readL S V a.src n).1 else (readL S V a.dst n).1)):=effK_rds ha _ _
 unfold slotB
 rw [if_neg (by simp only;omega),hw]
 simp only [Bool.and_eq_true,decide_eq_true_eq,List.all_eq_true,List.mem_range,beq_iff_eq,and_true]
 refine ⟨⟨⟨⟨by rw [hrd];simp,by simp [tryM]⟩,inB_yes (by omega) (by omega)⟩,inB_yes (by omega) (by omega)⟩,fun k hk=>?_⟩
 have hkm:(readsM a)[k]? = some (readsM a)[k]:=List.getElem?_eq_getElem hk
 have b1:=readL_bd hS hV a.src (n:Int)
 have b2:=readL_bd hS hV a.dst (n:Int)
 have b3:=readL_bd hS hV (readsM a)[k] (n:Int)
 have b4:=b3.2.2.2.1 (by omega)
 simp only [readB,Bool.and_eq_true,decide_eq_true_eq]
 have e1:(tryM S V a n).1.rds.getD k (0,0)=((readsM a)[k],if (readsM a)[k]=a.src then (readL S V a.src n).1 else (readL S V a.dst n).1):=by
  rw [hrd,List.getD_eq_getElem?_getD,List.getElem?_map,hkm];rfl
 have e2:(tryM S V a n).2.getD k 0=(readL S V (readsM a)[k] n).2:=by
  unfold tryM
  simp only
  rw [List.getD_eq_getElem?_getD,List.getElem?_map,hkm];rfl
 rw [e1,e2]
 refine ⟨⟨by rw [List.getD_eq_getElem?_getD,hkm];rfl,?_⟩,inB_yes (by omega) (by omega)⟩
 simp only
 split
 · exact inB_yes b1.1.1 b1.1.2
 · exact inB_yes b2.1.1 b2.1.2
theorem step_ok {e:Eng} (h:EngOk e) {n:Nat} (hn:n < e.slots.length):EngOk (stepN e n).1:=by
 have hsl:=h.slot n hn
 have hres10:(resL e).length≤10:=by rw [resL_len];exact h.ten
 have hn':n < (resL e).length:=by rw [resL_len];exact hn
 have hvs:∀ y:Eff,writesB y.wrs=true→vsN ((resL e).set n y) e.slots.length=putL e.vers n y.wrs:=fun y hy=>by
  have:=vs_set hres10 h.wr hn' hy
  rw [resL_len] at this
  rw [this,h.vers]
 have hlow:∀ W:List Ent,∀ x:Ver,x.by_ < n→(x∈putL e.vers n W ↔ x∈e.vers):=fun W x hx=>by
  rw [mem_putL]
  constructor
  · rintro (⟨h1,-⟩ | ⟨h1,-⟩)
    · exact h1
    · omega
  · intro h1;exact .inl ⟨h1,by omega⟩
 unfold stepN
 split
 · rename_i h0
   split
   · exact h
   · rename_i h1
     have ht:=slot_new hsl h0
     have hs':=slot_tried (n:=n) h.base h.vok (h.act hn) (t:=(e.slots.getD n noSlt).tries) (by omega) 1 (.inl rfl)
     have hwr:=slot_wr (h.act hn) hs'
     exact eng_put h hn (by rw [h0];decide) hs' (hvs _ hwr).symm (hlow _) (fun hc=>by simp at hc)
 · split
   · rename_i h0 h1
     split
     · exact h
     · rename_i h2
       have hst:(e.slots.getD n noSlt).stage=1:=h1
       have hso:=slot_old (h.act hn) hsl (by rw [hst];decide)
       split
       · rename_i h3
         have hs':slotB (e.list.getD n noA) n ⟨2,(e.slots.getD n noSlt).tries,(e.slots.getD n noSlt).from_,(e.slots.getD n noSlt).res⟩=true:=by
          unfold slotB at hsl ⊢
          rw [if_neg (by rw [hst];decide)] at hsl
          rw [if_neg (by simp)]
          simp only [Bool.and_eq_true] at hsl ⊢
          exact ⟨⟨⟨⟨⟨hsl.1.1.1.1.1,hsl.1.1.1.1.2⟩,by rfl⟩,hsl.1.1.2⟩,hsl.1.2⟩,hsl.2⟩
         have hsame:(resL e).set n (e.slots.getD n noSlt).res=resL e:=by
          rw [← resL_get e n,List.getD_eq_getElem?_getD,List.getElem?_eq_getElem hn']
          simp
         refine eng_put h hn (by rw [h1];decide) hs' (by simp only;rw [hsame];exact h.vers) (fun x _=>Iff.rfl) fun _=>⟨by omega,?_⟩
         rw [sameB_iff] at h3 ⊢
         rw [slot_put _ _ _ _ hn,if_pos rfl]
         exact h3
       · have hs':slotB (e.list.getD n noA) n ⟨0,(e.slots.getD n noSlt).tries,[],noEff⟩=true:=by
          have hin:inB (e.slots.getD n noSlt).tries 0 1000=true:=inB_yes (by have:=hso.tries;omega) hso.tries.2
          unfold slotB
          rw [if_pos rfl]
          simp only [hin];rfl
         refine eng_put h hn (by rw [h1];decide) hs' ?_ ?_ (fun hc=>by simp at hc)
         · rw [← putL_nil];exact (hvs noEff (by rfl)).symm
         · rw [← putL_nil];exact hlow _
   · exact h
end Go.Proofs.YtaaffpolmecicabGreat
/- Slots and engines in memory. No function of the program is named here. -/
namespace Go.Proofs.YtaaffpolmecicabGreat
open Go.RowKit
set_option linter.unusedVariables false
def SliI (w:World) (x:Value) (l:List Int):Prop:=∃ a n cap,x = .slice a n cap∧RowI w a n l∧(a=none→cap=0)∧n≤cap
def SliA (w:World) (x:Value) (l:List Acn):Prop:=∃ a n cap,x = .slice a n cap∧RowA w a n l∧(a=none→cap=0)∧n≤cap
def SliV (w:World) (x:Value) (l:List Ver):Prop:=∃ a n cap,x = .slice a n cap∧RowV w a n l∧(a=none→cap=0)∧n≤cap
theorem SliI.below {w w':World} {x:Value} {l:List Int} (h:SliI w x l) (hb:Below w.heap.size w w'):SliI w' x l:=by
 obtain ⟨a,n,cap,h1,h2,h3⟩:=h;exact ⟨a,n,cap,h1,h2.below hb,h3⟩
theorem SliA.below {w w':World} {x:Value} {l:List Acn} (h:SliA w x l) (hb:Below w.heap.size w w'):SliA w' x l:=by
 obtain ⟨a,n,cap,h1,h2,h3⟩:=h;exact ⟨a,n,cap,h1,h2.below hb,h3⟩
theorem SliV.below {w w':World} {x:Value} {l:List Ver} (h:SliV w x l) (hb:Below w.heap.size w w'):SliV w' x l:=by
 obtain ⟨a,n,cap,h1,h2,h3⟩:=h;exact ⟨a,n,cap,h1,h2.below hb,h3⟩
structure SlAt (w:World) (b o:Nat) (s:Slt):Prop where
 stage:w.cell? ⟨b,o,none⟩=some (.int .i64 s.stage)
 tries:w.cell? ⟨b,o+1,none⟩=some (.int .i64 s.tries)
 from_:∃ x,w.cell? ⟨b,o+2,none⟩=some x∧SliI w x s.from_
 done:w.cell? ⟨b,o+3,none⟩=some (.bool s.res.done)
 rds:∃ x,w.cell? ⟨b,o+4,none⟩=some x∧SliE w x s.res.rds
 wrs:∃ x,w.cell? ⟨b,o+5,none⟩=some x∧SliE w x s.res.wrs
theorem SlAt.below {w w':World} {b o:Nat} {s:Slt} (h:SlAt w b o s) (hb:Below w.heap.size w w'):SlAt w' b o s:=by
 obtain ⟨h1,h2,⟨x,h3,h4⟩,h5,⟨y,h6,h7⟩,z,h8,h9⟩:=h
 have hlt:b < w.heap.size:=World.block_lt_of_cell? w ⟨b,o,none⟩ h1
 have c:∀ k,w'.cell? ⟨b,o+k,none⟩=w.cell? ⟨b,o+k,none⟩:=fun k=>hb.cell (p:=⟨b,o+k,none⟩) hlt
 have c0:w'.cell? ⟨b,o,none⟩=w.cell? ⟨b,o,none⟩:=hb.cell (p:=⟨b,o,none⟩) hlt
 exact ⟨by rw [c0];exact h1,by rw [c];exact h2,⟨x,by rw [c];exact h3,h4.below hb⟩,by rw [c];exact h5,⟨y,by rw [c];exact h6,h7.below hb⟩,z,by rw [c];exact h8,h9.below hb⟩
structure SlWf (s:Slt):Prop where
 stage:(Lit.int .i64 s.stage).wf=true
 tries:(Lit.int .i64 s.tries).wf=true
 from_:∀ x∈s.from_,(Lit.int .i64 x).wf=true
 rds:WfE s.res.rds
 wrs:WfE s.res.wrs
 flen:s.from_.length≤4000000
 rlen:s.res.rds.length≤4000000
 wlen:s.res.wrs.length≤4000000
def RowSl (w:World) (a:Option Addr) (n:Nat) (L:List Slt):Prop :=
 L.length=n∧n≤maxLen∧(0 < n→∃ b off,a=some ⟨b,off,none⟩∧∀ i,i < n→SlAt w b (off+i*6) (L.getD i noSlt))∧∀ s∈L,(Lit.int .i64 s.stage).wf=true∧(Lit.int .i64 s.tries).wf=true
theorem RowSl.below {w w':World} {a:Option Addr} {n:Nat} {L:List Slt} (h:RowSl w a n L) (hb:Below w.heap.size w w'):RowSl w' a n L:=by
 obtain ⟨h1,h2,h3,h4⟩:=h
 refine ⟨h1,h2,fun hl=>?_,h4⟩
 obtain ⟨b,off,he,hc⟩:=h3 hl
 exact ⟨b,off,he,fun i hi=>(hc i hi).below hb⟩
theorem rowSl_empty (w:World) (a:Option Addr):RowSl w a 0 []:=⟨rfl,by unfold maxLen;omega,fun h=>absurd h (by omega),fun s hs=>by cases hs⟩
theorem RowSl.at {w:World} {a:Option Addr} {n:Nat} {L:List Slt} (h:RowSl w a n L) (k:Nat) (hk:k < n):∃ b off,a=some ⟨b,off,none⟩∧SlAt w b (off+k*6) (L.getD k noSlt):=by
 obtain ⟨b,off,he,hc⟩:=h.2.2.1 (by omega)
 exact ⟨b,off,he,hc k hk⟩
theorem getD_memS (L:List Slt) (k:Nat) (h:k < L.length):L.getD k noSlt∈L:=by
 rw [List.getD_eq_getElem?_getD,List.getElem?_eq_getElem h];exact List.getElem_mem h
theorem RowSl.bd {w:World} {a:Option Addr} {n:Nat} {L:List Slt} (h:RowSl w a n L) (k:Nat) (hk:k < n):(Lit.int .i64 (L.getD k noSlt).stage).wf=true∧(Lit.int .i64 (L.getD k noSlt).tries).wf=true :=
 h.2.2.2 _ (getD_memS L k (by rw [h.1];exact hk))
def SliS (w:World) (x:Value) (L:List Slt):Prop:=∃ a n cap,x = .slice a n cap∧RowSl w a n L∧(a=none→cap=0)∧n≤cap
theorem SliS.below {w w':World} {x:Value} {L:List Slt} (h:SliS w x L) (hb:Below w.heap.size w w'):SliS w' x L:=by
 obtain ⟨a,n,cap,h1,h2,h3⟩:=h;exact ⟨a,n,cap,h1,h2.below hb,h3⟩
structure EngRd (w:World) (v1 v2 v3 v4:Value) (e:Eng):Prop where
 base:SliE w v1 e.base
 list:SliA w v2 e.list
 vers:SliV w v3 e.vers
 slots:SliS w v4 e.slots
theorem EngRd.below {w w':World} {v1 v2 v3 v4:Value} {e:Eng} (h:EngRd w v1 v2 v3 v4 e) (hb:Below w.heap.size w w'):EngRd w' v1 v2 v3 v4 e :=
 ⟨h.base.below hb,h.list.below hb,h.vers.below hb,h.slots.below hb⟩
/-! Engines that a call owns. -/
def slCs (s:Slt) (t:Value × Value × Value):List Value:=[.int .i64 s.stage,.int .i64 s.tries,t.1,.bool s.res.done,t.2.1,t.2.2]
def slRs (tI tE:TypeId) (s:Slt) (t:Value × Value × Value):List Rw :=
 [⟨t.1,tI,1,s.from_.length,s.from_.map (Value.int .i64)⟩,⟨t.2.1,tE,2,s.res.rds.length,flatE s.res.rds⟩,⟨t.2.2,tE,2,s.res.wrs.length,flatE s.res.wrs⟩]
def slsCs (L:List Slt) (ts:List (Value × Value × Value)):List Value:=(L.zip ts).flatMap fun p=>slCs p.1 p.2
def slsRs (tI tE:TypeId) (L:List Slt) (ts:List (Value × Value × Value)):List Rw:=(L.zip ts).flatMap fun p=>slRs tI tE p.1 p.2
structure EngWf (e:Eng):Prop where
 base:WfE e.base
 list:WfAs e.list
 vers:WfVs e.vers
 slots:∀ s∈e.slots,SlWf s
 blen:e.base.length≤4000000
 llen:e.list.length≤4000000
 vlen:e.vers.length≤4000000
 slen:e.slots.length≤4000000
structure EngT where
 tE:TypeId
 tA:TypeId
 tV:TypeId
 tS:TypeId
 tI:TypeId
def engRs (t:EngT) (v1 v2 v3 v4:Value) (e:Eng) (ts:List (Value × Value × Value)):List Rw :=
 ⟨v1,t.tE,2,e.base.length,flatE e.base⟩ :: ⟨v2,t.tA,4,e.list.length,flatA e.list⟩ :: ⟨v3,t.tV,3,e.vers.length,flatV e.vers⟩ :: ⟨v4,t.tS,6,e.slots.length,slsCs e.slots ts⟩ :: slsRs t.tI t.tE e.slots ts
structure EngOwn (w:World) (B T:Nat) (t:EngT) (v1 v2 v3 v4:Value) (e:Eng) (ts:List (Value × Value × Value)):Prop where
 tl:ts.length=e.slots.length
 own:OwnR w B T (engRs t v1 v2 v3 v4 e ts)
 wf:EngWf e
theorem EngOwn.below {w w':World} {B T:Nat} {t:EngT} {v1 v2 v3 v4:Value} {e:Eng} {ts:List (Value × Value × Value)} (h:EngOwn w B T t v1 v2 v3 v4 e ts) (hb:Below w.heap.size w w'):EngOwn w' B T t v1 v2 v3 v4 e ts:=⟨h.tl,h.own.below hb,h.wf⟩
theorem EngOwn.mono {w:World} {B T B' T':Nat} {t:EngT} {v1 v2 v3 v4:Value} {e:Eng} {ts:List (Value × Value × Value)} (h:EngOwn w B T t v1 v2 v3 v4 e ts) (hB:B'≤B) (hT:T≤T'):EngOwn w B' T' t v1 v2 v3 v4 e ts:=⟨h.tl,h.own.mono hB hT,h.wf⟩
theorem zip_get {L:List Slt} {ts:List (Value × Value × Value)} (h:ts.length=L.length) {i:Nat} (hi:i < L.length):(L.zip ts)[i]? = some (L.getD i noSlt,ts.getD i (undef,undef,undef)):=by
 rw [List.getElem?_eq_getElem (by simp [h,hi]),List.getElem_zip,List.getD_eq_getElem?_getD,List.getD_eq_getElem?_getD,List.getElem?_eq_getElem hi,List.getElem?_eq_getElem (by rw [h];exact hi)];rfl
theorem slsCs_get {L:List Slt} {ts:List (Value × Value × Value)} (h:ts.length=L.length) {i:Nat} (hi:i < L.length) {j:Nat} (hj:j < 6):(slsCs L ts)[i*6+j]? = (slCs (L.getD i noSlt) (ts.getD i (undef,undef,undef)))[j]? :=
 flatMap_get (fun p:Slt × (Value × Value × Value)=>slCs p.1 p.2) 6 (fun _=>rfl) (L.zip ts) i j _ (zip_get h hi) hj
theorem slsRs_mem {tI tE:TypeId} {L:List Slt} {ts:List (Value × Value × Value)} (h:ts.length=L.length) {i:Nat} (hi:i < L.length):∀ r∈slRs tI tE (L.getD i noSlt) (ts.getD i (undef,undef,undef)),r∈slsRs tI tE L ts:=fun r hr =>
 List.mem_flatMap.2 ⟨_,List.mem_of_getElem? (zip_get h hi),hr⟩
theorem sliE_of_owns {w:World} {B:Nat} {x:Value} {e:TypeId} {l:List Ent} (h:w.ownsRow B e 2 x l.length (flatE l)) (hw:WfE l) (hl:l.length≤4000000):SliE w x l:=by
 obtain ⟨a,cap,rfl,h5,h6⟩:=rowE_of_owns h hl hw
 refine ⟨a,_,cap,rfl,h5,h6,?_⟩
 rcases h.2 with ⟨he,h0⟩ | ⟨g,cap',cur,he,_,_,hnc,_⟩
 · omega
 · simp at he;omega
theorem sliI_of_owns {w:World} {B:Nat} {x:Value} {e:TypeId} {l:List Int} (h:w.ownsRow B e 1 x l.length (l.map (Value.int .i64))) (hw:∀ y∈l,(Lit.int .i64 y).wf=true) (hl:l.length≤4000000):SliI w x l:=by
 rcases slice_of_owns h with ⟨rfl,hn⟩ | ⟨g,cap,rfl,hB,hg,hnc,hcm⟩
 · obtain rfl:l=[]:=List.eq_nil_of_length_eq_zero hn
   exact ⟨none,0,0,rfl,⟨rfl,by unfold maxLen;omega,fun h=>absurd h (by omega),fun y hy=>by cases hy⟩,fun _=>rfl,Nat.le_refl _⟩
 · obtain ⟨a',c',e',hr⟩:=rowI_of_owns h (by unfold maxLen;omega) hw
   simp only [Value.slice.injEq,true_and] at e'
   obtain ⟨rfl,rfl⟩:=e'
   exact ⟨_,_,cap,rfl,hr,fun h=>(by cases h),hnc⟩
theorem sliV_of_owns {w:World} {B:Nat} {x:Value} {e:TypeId} {l:List Ver} (h:w.ownsRow B e 3 x l.length (flatV l)) (hw:WfVs l) (hl:l.length≤4000000):SliV w x l:=by
 obtain ⟨a,cap,rfl,h5,h6,h7,-⟩:=rowV_of_owns h hl hw
 exact ⟨a,_,cap,rfl,h5,h6,h7⟩
theorem sliA_of_owns {w:World} {B:Nat} {x:Value} {e:TypeId} {l:List Acn} (h:w.ownsRow B e 4 x l.length (flatA l)) (hw:WfAs l) (hl:l.length≤4000000):SliA w x l:=by
 obtain ⟨a,cap,rfl,h5,h6,h7,-⟩:=rowA_of_owns h hl hw
 exact ⟨a,_,cap,rfl,h5,h6,h7⟩
theorem EngOwn.rd {w:World} {B T:Nat} {t:EngT} {v1 v2 v3 v4:Value} {e:Eng} {ts:List (Value × Value × Value)} (h:EngOwn w B T t v1 v2 v3 v4 e ts):EngRd w v1 v2 v3 v4 e:=by
 obtain ⟨htl,ho,hw⟩:=h
 have o1:=ho.own _ (List.mem_cons_self)
 have o2:=ho.own _ (List.mem_cons_of_mem _ List.mem_cons_self)
 have o3:=ho.own _ (List.mem_cons_of_mem _ (List.mem_cons_of_mem _ List.mem_cons_self))
 have o4:=ho.own _ (List.mem_cons_of_mem _ (List.mem_cons_of_mem _ (List.mem_cons_of_mem _ List.mem_cons_self)))
 refine ⟨sliE_of_owns o1 hw.base hw.blen,sliA_of_owns o2 hw.list hw.llen,sliV_of_owns o3 hw.vers hw.vlen,?_⟩
 have hwf:∀ s∈e.slots,(Lit.int .i64 s.stage).wf=true∧(Lit.int .i64 s.tries).wf=true:=fun s hs=>⟨(hw.slots s hs).stage,(hw.slots s hs).tries⟩
 have hsl:=hw.slen
 rcases slice_of_owns o4 with ⟨h4,hn⟩ | ⟨g,cap,h4,hB,hg,hnc,hcm⟩
 · simp only at h4 hn
   subst h4
   have he:e.slots=[]:=List.eq_nil_of_length_eq_zero hn
   exact ⟨none,0,0,rfl,by rw [he];exact rowSl_empty _ _,fun _=>rfl,Nat.le_refl _⟩
 · simp only at h4 hnc
   subst h4
   refine ⟨_,_,cap,rfl,⟨rfl,by unfold maxLen;omega,fun _=>⟨g,0,rfl,fun i hi=>?_⟩,hwf⟩,fun h=>(by cases h),hnc⟩
   have hc:∀ j,j < 6→w.cell? ⟨g,0+i*6+j,none⟩=(slCs (e.slots.getD i noSlt) (ts.getD i (undef,undef,undef)))[j]?:=fun j hj=>by
    rw [Nat.zero_add,← slsCs_get htl hi hj]
    exact World.ownsRow.cellAt (n:=e.slots.length) o4 (i*6+j) (by show i*6+j < e.slots.length*6;omega)
   have hsw:=hw.slots _ (getD_memS e.slots i hi)
   have hm:=slsRs_mem (tI:=t.tI) (tE:=t.tE) htl hi
   have q:∀ r∈slRs t.tI t.tE (e.slots.getD i noSlt) (ts.getD i (undef,undef,undef)),w.ownsRow B r.e r.size r.v r.n r.cs:=fun r hr=>ho.own r (List.mem_cons_of_mem _ (List.mem_cons_of_mem _ (List.mem_cons_of_mem _ (List.mem_cons_of_mem _ (hm r hr)))))
   have q1:=q _ (List.mem_cons_self)
   have q2:=q _ (List.mem_cons_of_mem _ List.mem_cons_self)
   have q3:=q _ (List.mem_cons_of_mem _ (List.mem_cons_of_mem _ List.mem_cons_self))
   exact ⟨hc 0 (by omega),hc 1 (by omega),⟨_,hc 2 (by omega),sliI_of_owns q1 hsw.from_ hsw.flen⟩,hc 3 (by omega),⟨_,hc 4 (by omega),sliE_of_owns q2 hsw.rds hsw.rlen⟩,_,hc 5 (by omega),sliE_of_owns q3 hsw.wrs hsw.wlen⟩
structure EgAt (w:World) (Z:Nat) (v1 v2 v3 v4:Value):Prop where
 c0:w.cell? ⟨Z,0,none⟩=some v1
 c1:w.cell? ⟨Z,1,none⟩=some v2
 c2:w.cell? ⟨Z,2,none⟩=some v3
 c3:w.cell? ⟨Z,3,none⟩=some v4
 f0:w.frozen? ⟨Z,0,none⟩=false
 f1:w.frozen? ⟨Z,1,none⟩=false
 f2:w.frozen? ⟨Z,2,none⟩=false
 f3:w.frozen? ⟨Z,3,none⟩=false
theorem EgAt.lt {w:World} {Z:Nat} {v1 v2 v3 v4:Value} (h:EgAt w Z v1 v2 v3 v4):Z < w.heap.size:=World.block_lt_of_cell? w ⟨Z,0,none⟩ h.c0
theorem EgAt.keep {w w':World} {Z:Nat} {v1 v2 v3 v4:Value} (h:EgAt w Z v1 v2 v3 v4) (hb:w'.heap[Z]? = w.heap[Z]?):EgAt w' Z v1 v2 v3 v4 :=
 ⟨(World.cell?_of_block hb).trans h.c0, (World.cell?_of_block hb).trans h.c1, (World.cell?_of_block hb).trans h.c2, (World.cell?_of_block hb).trans h.c3,
  (World.frozen?_of_block hb).trans h.f0,(World.frozen?_of_block hb).trans h.f1,(World.frozen?_of_block hb).trans h.f2,(World.frozen?_of_block hb).trans h.f3⟩
theorem EgAt.below {w w':World} {Z:Nat} {v1 v2 v3 v4:Value} (h:EgAt w Z v1 v2 v3 v4) (hb:Below w.heap.size w w'):EgAt w' Z v1 v2 v3 v4:=h.keep (hb.block Z h.lt)
theorem EgAt.grown {w w':World} {Z:Nat} {v1 v2 v3 v4:Value} {row:Option Nat} (h:EgAt w Z v1 v2 v3 v4) (hg:w.grownBy w' row) (hne:some Z≠row):EgAt w' Z v1 v2 v3 v4:=h.keep (hg.block Z h.lt hne)
theorem egAt_new (w:World) (T:TypeId) (v1 v2 v3 v4:Value):EgAt (w.alloc (.cells #[v1,v2,v3,v4] T)) w.heap.size v1 v2 v3 v4:=by constructor <;> simp [go_sem]
theorem EgAt.set0 {w:World} {Z:Nat} {v1 v2 v3 v4:Value} (h:EgAt w Z v1 v2 v3 v4) (x:Value):EgAt (w.setCell ⟨Z,0,none⟩ x) Z x v2 v3 v4:=by
 constructor <;> simp [go_sem,h.c0,h.c1,h.c2,h.c3,h.f0,h.f1,h.f2,h.f3]
theorem EgAt.set1 {w:World} {Z:Nat} {v1 v2 v3 v4:Value} (h:EgAt w Z v1 v2 v3 v4) (x:Value):EgAt (w.setCell ⟨Z,1,none⟩ x) Z v1 x v3 v4:=by
 constructor <;> simp [go_sem,h.c0,h.c1,h.c2,h.c3,h.f0,h.f1,h.f2,h.f3]
theorem EgAt.set2 {w:World} {Z:Nat} {v1 v2 v3 v4:Value} (h:EgAt w Z v1 v2 v3 v4) (x:Value):EgAt (w.setCell ⟨Z,2,none⟩ x) Z v1 v2 x v4:=by
 constructor <;> simp [go_sem,h.c0,h.c1,h.c2,h.c3,h.f0,h.f1,h.f2,h.f3]
theorem EgAt.set3 {w:World} {Z:Nat} {v1 v2 v3 v4:Value} (h:EgAt w Z v1 v2 v3 v4) (x:Value):EgAt (w.setCell ⟨Z,3,none⟩ x) Z v1 v2 v3 x:=by
 constructor <;> simp [go_sem,h.c0,h.c1,h.c2,h.c3,h.f0,h.f1,h.f2,h.f3]
def set4 (w:World) (Z:Nat) (v1 v2 v3 v4:Value):World:=(((w.setCell ⟨Z,0,none⟩ v1).setCell ⟨Z,1,none⟩ v2).setCell ⟨Z,2,none⟩ v3).setCell ⟨Z,3,none⟩ v4
theorem EgAt.set4 {w:World} {Z:Nat} {u1 u2 u3 u4:Value} (h:EgAt w Z u1 u2 u3 u4) (v1 v2 v3 v4:Value):EgAt (set4 w Z v1 v2 v3 v4) Z v1 v2 v3 v4:=(((h.set0 v1).set1 v2).set2 v3).set3 v4
theorem set4_turn (w:World) (Z:Nat) (v1 v2 v3 v4:Value):Turn Z (Z+1) w (set4 w Z v1 v2 v3 v4) :=
 ((((Turn.refl Z (Z+1) w).setCell (g:=Z) ⟨Nat.le_refl _,Nat.lt_succ_self _⟩ 0 v1).setCell (g:=Z) ⟨Nat.le_refl _,Nat.lt_succ_self _⟩ 1 v2).setCell (g:=Z) ⟨Nat.le_refl _,Nat.lt_succ_self _⟩ 2 v3).setCell (g:=Z) ⟨Nat.le_refl _,Nat.lt_succ_self _⟩ 3 v4
theorem set4_size (w:World) (Z:Nat) (v1 v2 v3 v4:Value):(set4 w Z v1 v2 v3 v4).heap.size=w.heap.size:=by simp [set4,World.setCell]
def NewEng (w:World) (t:EngT) (e:Eng) (en:Ending) (w':World):Prop :=
 ∃ v1 v2 v3 v4 ts,en = .returned (.agg #[v1,v2,v3,v4])∧EngOwn w' w.heap.size w'.heap.size t v1 v2 v3 v4 e ts∧Below w.heap.size w w'
theorem engWf_no:EngWf noEng:=⟨fun x h=>(by cases h),fun x h=>(by cases h),fun x h=>(by cases h),fun x h=>(by cases h),by simp [noEng],by simp [noEng],by simp [noEng],by simp [noEng]⟩
theorem engOwn_no (w:World) (B T:Nat) (t:EngT):EngOwn w B T t (.slice none 0 0) (.slice none 0 0) (.slice none 0 0) (.slice none 0 0) noEng []:=by
 refine ⟨rfl,⟨fun r hr=>?_,fun r hr b hb=>?_,?_⟩,engWf_no⟩
 · simp [engRs,slsRs,noEng] at hr
   rcases hr with rfl | rfl | rfl | rfl <;> exact World.ownsRow_nil _ _ _ _
 · simp [engRs,slsRs,noEng] at hr
   rcases hr with rfl | rfl | rfl | rfl <;> simp [blk] at hb
 · simp [engRs,slsRs,noEng,Off,blk]
theorem slWf_no:SlWf noSlt:=⟨by rfl,by rfl,fun x h=>(by cases h),fun x h=>(by cases h),fun x h=>(by cases h),by simp [noSlt],by simp [noSlt,noEff],by simp [noSlt,noEff]⟩
def nil3:Value × Value × Value:=(.slice none 0 0,.slice none 0 0,.slice none 0 0)
theorem slsCs_zero (n:Nat):slsCs (List.replicate n noSlt) (List.replicate n nil3)=(madeCells (Value.agg #[.int .i64 0,.int .i64 0,.slice none 0 0,.bool false,.slice none 0 0,.slice none 0 0]).cells (n*6)).toList:=by
 apply List.ext_getElem?
 intro i
 have hl:(slsCs (List.replicate n noSlt) (List.replicate n nil3)).length=n*6:=by
  have:=flatMap_len (fun p:Slt × (Value × Value × Value)=>slCs p.1 p.2) 6 (fun _=>rfl) ((List.replicate n noSlt).zip (List.replicate n nil3))
  simpa [slsCs] using this
 by_cases hi:i < n*6
 · have h1:i / 6 < n:=by omega
   have e:=slsCs_get (L:=List.replicate n noSlt) (ts:=List.replicate n nil3) (by simp) (i:=i / 6) (by simpa using h1) (j:=i % 6) (by omega)
   rw [show i / 6*6+i % 6=i by omega] at e
   rw [e]
   have g1:(List.replicate n noSlt).getD (i / 6) noSlt=noSlt:=by rw [List.getD_eq_getElem?_getD,List.getElem?_replicate,if_pos h1];rfl
   have g2:(List.replicate n nil3).getD (i / 6) (undef,undef,undef)=nil3:=by rw [List.getD_eq_getElem?_getD,List.getElem?_replicate,if_pos h1];rfl
   rw [g1,g2]
   unfold madeCells
   simp only [Value.cells]
   rcases (by omega:i % 6=0∨i % 6=1∨i % 6=2∨i % 6=3∨i % 6=4∨i % 6=5) with h | h | h | h | h | h <;> simp [h,hi,slCs,noSlt,noEff,nil3]
 · rw [List.getElem?_eq_none (by omega),List.getElem?_eq_none (by unfold madeCells;simp [Value.cells];omega)]
theorem slsRs_zero (tI tE:TypeId) (n:Nat):∀ r∈slsRs tI tE (List.replicate n noSlt) (List.replicate n nil3),r.v = .slice none 0 0∧r.n=0∧r.cs=[]:=by
 intro r hr
 obtain ⟨p,hp,hr⟩:=List.mem_flatMap.1 hr
 have hz:=List.of_mem_zip hp
 have e1:p.1=noSlt:=(List.mem_replicate.1 hz.1).2
 have e2:p.2=nil3:=(List.mem_replicate.1 hz.2).2
 rw [e1,e2] at hr
 simp [slRs,noSlt,noEff,nil3] at hr
 rcases hr with rfl | rfl | rfl <;> exact ⟨rfl,rfl,rfl⟩
theorem engOwn_new {w:World} {B T:Nat} {t:EngT} {v1 v2 v4:Value} {S:List Ent} {L:List Acn} (h:OwnR w B T [⟨v1,t.tE,2,S.length,flatE S⟩,⟨v2,t.tA,4,L.length,flatA L⟩,⟨v4,t.tS,6,L.length,(madeCells (Value.agg #[.int .i64 0,.int .i64 0,.slice none 0 0,.bool false,.slice none 0 0,.slice none 0 0]).cells (L.length*6)).toList⟩])
  (hS:WfE S) (hL:WfAs L) (h1:S.length≤4000000) (h2:L.length≤4000000):EngOwn w B T t v1 v2 (.slice none 0 0) v4 ⟨S,L,[],List.replicate L.length noSlt⟩ (List.replicate L.length nil3):=by
 refine ⟨by simp,?_,⟨hS,hL,fun x h=>(by cases h),fun s hs=>(by rw [(List.mem_replicate.1 hs).2];exact slWf_no),h1,h2,by simp,by simpa using h2⟩⟩
 have h3:=(h.addNil ⟨.slice none 0 0,t.tV,3,0,flatV []⟩ ⟨rfl,rfl,rfl⟩).addNils (slsRs t.tI t.tE (List.replicate L.length noSlt) (List.replicate L.length nil3)) (slsRs_zero _ _ _)
 rw [← slsCs_zero] at h3
 have e:engRs t v1 v2 (.slice none 0 0) v4 ⟨S,L,[],List.replicate L.length noSlt⟩ (List.replicate L.length nil3)=([⟨v1,t.tE,2,S.length,flatE S⟩,⟨v2,t.tA,4,L.length,flatA L⟩,⟨.slice none 0 0,t.tV,3,0,flatV []⟩,⟨v4,t.tS,6,L.length,slsCs (List.replicate L.length noSlt) (List.replicate L.length nil3)⟩]:List Rw)++slsRs t.tI t.tE (List.replicate L.length noSlt) (List.replicate L.length nil3):=by
  simp [engRs]
 rw [e]
 refine h3.perm (List.Perm.append_right _ ?_)
 exact (List.Perm.swap _ _ _).trans (List.Perm.cons _ (List.Perm.swap _ _ _))
end Go.Proofs.YtaaffpolmecicabGreat
/- What the program's engines check,and that it is what EngineValid asks: plain mathematics. No function of the program is named here. -/
namespace Go.Proofs.YtaaffpolmecicabGreat
set_option linter.unusedVariables false
set_option linter.unusedSimpArgs false
def rdOk (r:Ent):Bool:=inB r.1 0 31 && inB r.2 0 1000000
def sameF (x y:Eff):Bool:=(x.done == y.done) && decide (x.rds=y.rds) && decide (x.wrs=y.wrs)
theorem sameF_iff (x y:Eff):sameF x y=true ↔ x=y:=by
 unfold sameF
 simp only [Bool.and_eq_true,beq_iff_eq,decide_eq_true_eq]
 constructor
 · rintro ⟨⟨h1,h2⟩,h3⟩;exact eff_ext h1 h2 h3
 · rintro rfl;exact ⟨⟨rfl,rfl⟩,rfl⟩
def isOfB (a:Acn) (x:Eff):Bool:=x.rds.all rdOk && sameF x (runM (applyL [] x.rds) a)
def earlyB (n:Nat) (s:Slt):Bool:=decide (s.from_.length=s.res.rds.length) && s.from_.all fun f=>inB f (-1) ((n:Int) - 1)
def fitsB (a:Acn) (n:Nat) (s:Slt):Bool :=
 if s.stage=0 then inB s.tries 0 1000 && decide (s.from_.length=0) && sameF s.res noEff
 else if s.stage=1∨s.stage=2 then inB s.tries 1 1000 && earlyB n s && isOfB a s.res else false
theorem rdOk_wr {l:List Ent} (h:l.all rdOk=true):WrE l:=by
 intro e he
 have:=List.all_eq_true.1 h e he
 unfold rdOk at this
 rw [Bool.and_eq_true] at this
 have h1:=inB_true this.1
 have h2:=inB_true this.2
 exact ⟨h1.1,h1.2,h2.1,h2.2⟩
theorem ok_nilS:Ok []:=(storeB_ok []).1 rfl
theorem store_rds {l:List Ent} (h:l.all rdOk=true):storeB (applyL [] l)=true:=(storeB_ok _).2 (ok_applyL ok_nilS (rdOk_wr h))
theorem atM_fold (l S:List Ent) (key:Int):atM (applyL S l) key=l.foldl (fun acc r=>if r.1=key then r.2 else acc) (atM S key):=by
 unfold applyL
 induction l generalizing S with
 | nil=>rfl
 | cons e r ih =>
  rw [List.foldl_cons,List.foldl_cons,ih,atM_put]
  by_cases hk:e.1=key
  · rw [if_pos hk,if_pos hk.symm]
  · rw [if_neg hk,if_neg (fun h=>hk h.symm)]
theorem isOf_want {a:Acn} {x:Eff} (ha:actB a=true) (h:x.rds.all rdOk=true):runM (applyL [] x.rds) a=effK a.kind a.src a.dst a.amt (rdAt x.rds a.src) (rdAt x.rds a.dst):=by
 rw [runM_yes (store_rds h) ha,atM_fold,atM_fold];rfl
theorem fits_slot {a:Acn} {n:Nat} {s:Slt} (ha:actB a=true):fitsB a n s=slotB a n s:=by
 by_cases h0:s.stage=0
 · rw [Bool.eq_iff_iff]
   unfold fitsB slotB
   rw [if_pos h0,if_pos h0]
   simp only [Bool.and_eq_true,decide_eq_true_eq,sameF_iff,Bool.not_eq_true',List.length_eq_zero_iff]
   constructor
   · rintro ⟨⟨h1,h2⟩,h3⟩
     rw [h3];exact ⟨⟨⟨⟨h1,h2⟩,rfl⟩,rfl⟩,rfl⟩
   · rintro ⟨⟨⟨⟨h1,h2⟩,h3⟩,h4⟩,h5⟩
     exact ⟨⟨h1,h2⟩,eff_ext h3 h4 h5⟩
 · rw [Bool.eq_iff_iff]
   constructor
   · intro h
     unfold fitsB at h
     rw [if_neg h0] at h
     split at h
     · rename_i hst
       unfold earlyB isOfB at h
       simp only [Bool.and_eq_true,decide_eq_true_eq,sameF_iff] at h
       obtain ⟨⟨h1,h2,h3⟩,h4,h5⟩:=h
       rw [isOf_want ha h4] at h5
       have hr:s.res.rds=(readsM a).map (fun key=>(key,if key=a.src then rdAt s.res.rds a.src else rdAt s.res.rds a.dst)):=by
        have:=effK_rds ha (rdAt s.res.rds a.src) (rdAt s.res.rds a.dst)
        rw [← h5] at this;exact this
       have hl:s.res.rds.length=(readsM a).length:=by rw [hr,List.length_map]
       have hw:=rdOk_wr h4
       unfold slotB
       rw [if_neg h0]
       simp only [Bool.and_eq_true,decide_eq_true_eq,List.all_eq_true,List.mem_range,beq_iff_eq]
       refine ⟨⟨⟨⟨⟨⟨hl,by rw [h2,hl]⟩,h1⟩,inB_yes (by omega) (by omega)⟩,fun k hk=>?_⟩,?_⟩,?_⟩
       · unfold readB
         simp only [Bool.and_eq_true,decide_eq_true_eq]
         have hm:=hw _ (getD_memP s.res.rds k (by omega))
         refine ⟨⟨?_,inB_yes hm.2.2.1 hm.2.2.2⟩,?_⟩
         · have e:s.res.rds.getD k (0,0)=((readsM a).map (fun key=>(key,if key=a.src then rdAt s.res.rds a.src else rdAt s.res.rds a.dst))).getD k (0,0):=by rw [← hr]
           rw [e,List.getD_eq_getElem?_getD,List.getD_eq_getElem?_getD,List.getElem?_map,List.getElem?_eq_getElem hk];rfl
         · have hk2:k < s.from_.length:=by omega
           have:=List.all_eq_true.1 h3 (s.from_.getD k 0) (by rw [List.getD_eq_getElem?_getD,List.getElem?_eq_getElem hk2];exact List.getElem_mem hk2)
           exact this
       · unfold wantM;rw [← h5]
       · unfold wantM;rw [← h5]
     · cases h
   · intro h
     have hs:=slot_old ha h h0
     have hst:s.stage=1∨s.stage=2:=hs.stage
     have hok:s.res.rds.all rdOk=true:=by
      rw [List.all_eq_true]
      intro r hr
      have hv:=hs.val r hr
      have hk:r.1∈readsM a:=by
       rw [hs.rds] at hr
       obtain ⟨key,hk,e⟩:=List.mem_map.1 hr
       rw [← e];exact hk
      have:=readsM_bd a r.1 hk
      unfold rdOk
      rw [inB_yes this.1 this.2,inB_yes hv.1 hv.2];rfl
     unfold fitsB earlyB isOfB
     rw [if_neg h0,if_pos hst]
     simp only [Bool.and_eq_true,decide_eq_true_eq,sameF_iff]
     have hl:s.res.rds.length=(readsM a).length:=by rw [hs.rds,List.length_map]
     refine ⟨⟨inB_yes hs.tries.1 hs.tries.2,by rw [hs.flen,hl],?_⟩,hok,?_⟩
     · rw [List.all_eq_true]
       intro f hf
       obtain ⟨i,hi,e⟩:=List.getElem_of_mem hf
       have:=hs.from_ i (by rw [← hs.flen];exact hi)
       rw [List.getD_eq_getElem?_getD,List.getElem?_eq_getElem hi,Option.getD_some,e] at this
       exact inB_yes this.1 this.2
     · rw [isOf_want ha hok];exact hs.res
/-! How many are checked. -/
def cntC (e:Eng):Nat→Nat
 | 0=>0
 | k+1=>cntC e k+if stg e k=2 then 1 else 0
theorem cntC_le (e:Eng):∀ k,cntC e k≤k:=by
 intro k
 induction k with
 | zero=>exact Nat.le_refl _
 | succ k ih=>unfold cntC;split <;> omega
theorem cntC_yes {e:Eng} {k:Nat} (h:stg e k=2):cntC e (k+1)=cntC e k+1:=by rw [cntC,if_pos h]
theorem cntC_no {e:Eng} {k:Nat} (h:stg e k≠2):cntC e (k+1)=cntC e k:=by rw [cntC,if_neg h];rfl
theorem cntC_mono (e:Eng) {j k:Nat} (h:j≤k):cntC e j≤cntC e k:=by
 induction k with
 | zero=>rw [Nat.le_zero.1 h];exact Nat.le_refl _
 | succ k ih =>
  rcases (by omega:j≤k∨j=k+1) with h1 | rfl
  · exact Nat.le_trans (ih h1) (by rw [cntC];omega)
  · exact Nat.le_refl _
theorem cntC_full {e:Eng}:∀ c,(∀ m,m < c→stg e m=2)→cntC e c=c:=by
 intro c
 induction c with
 | zero=>intro _;rfl
 | succ c ih=>intro h;rw [cntC_yes (h c (by omega)),ih fun m hm=>h m (by omega)]
theorem cntC_none {e:Eng} {n:Nat}:∀ k,n≤k→(∀ m,n≤m→m < k→stg e m≠2)→cntC e k≤n:=by
 intro k
 induction k with
 | zero=>intro h _;exact Nat.zero_le _
 | succ k ih =>
  intro h hn
  rcases (by omega:n≤k∨n=k+1) with h1 | rfl
  · rw [cntC_no (hn k h1 (by omega))];exact ih h1 fun m h2 h3=>hn m h2 (by omega)
  · exact cntC_le e _
theorem cntC_all {e:Eng} {k:Nat}:cntC e k=k ↔ ∀ m,m < k→stg e m=2:=by
 constructor
 · induction k with
   | zero=>intro _ m hm;omega
   | succ k ih =>
    intro h m hm
    have:=cntC_le e k
    by_cases hk:stg e k=2
    · rw [cntC_yes hk] at h
      rcases (by omega:m < k∨m=k) with h1 | rfl
      · exact ih (by omega) m h1
      · exact hk
    · rw [cntC_no hk] at h;omega
 · exact cntC_full k
theorem chk_first {e:Eng}:(∀ n,n < cntC e e.slots.length→stg e n=2∧sameB e n=true) ↔ ∀ n,n < e.slots.length→stg e n=2→(n=0∨stg e (n - 1)=2)∧sameB e n=true:=by
 constructor
 · intro h n hn h2
   have hc:n < cntC e e.slots.length:=by
    rcases Nat.lt_or_ge n (cntC e e.slots.length) with h3 | h3
    · exact h3
    · have h4:=cntC_full (cntC e e.slots.length) fun m hm=>(h m hm).1
      have h5:=cntC_mono e h3
      have h6:=cntC_mono e (show n+1≤e.slots.length by omega)
      rw [cntC_yes h2] at h6
      omega
   refine ⟨?_,(h n hc).2⟩
   rcases Nat.eq_zero_or_pos n with h0 | h0
   · exact .inl h0
   · exact .inr (h (n - 1) (by omega)).1
 · intro h n hn
   have hl:=cntC_le e e.slots.length
   have h2:stg e n=2:=by
    refine Decidable.byContradiction fun hne=>?_
    have hall:∀ m,n≤m→m < e.slots.length→stg e m≠2:=by
     intro m
     induction m with
     | zero=>intro h1 _;rw [Nat.le_zero.1 h1] at hne;exact hne
     | succ m ih =>
      intro h1 h3 h4
      rcases (by omega:n=m+1∨n≤m) with h5 | h5
      · rw [h5] at hne;exact hne h4
      · rcases (h (m+1) h3 h4).1 with h6 | h6
        · omega
        · rw [Nat.add_sub_cancel] at h6;exact ih h5 (by omega) h6
    have:=cntC_none e.slots.length (by omega) hall
    omega
   exact ⟨h2,(h n (by omega) h2).2⟩
theorem engB_prog {e:Eng} (h1:storeB e.base=true) (h2:actsB e.list=true) (h3:e.slots.length=e.list.length) (h4:∀ n,n < e.slots.length→slotB (e.list.getD n noA) n (e.slots.getD n noSlt)=true) (h5:e.vers=vsN (resL e) e.slots.length)
  (h6:∀ n,n < cntC e e.slots.length→stg e n=2∧sameB e n=true):engB e=true:=(engB_iff e).2 ⟨h1,h2,h3,h4,h5,chk_first.1 h6⟩
theorem engB_not {e:Eng} {n:Nat} (hn:n < cntC e e.slots.length) (h:¬ (stg e n=2∧sameB e n=true)):engB e=false:=by
 rw [Bool.eq_false_iff];intro hh
 exact h (chk_first.2 ((engB_iff e).1 hh).chk n hn)
theorem drop_vs {E:List Eff} (hE:E.length≤10) (hW:∀ k,k < E.length→writesB (E.getD k noEff).wrs=true) {k:Nat} (hk:k≤E.length):dropL (vsN E k) (k:Int)=vsN E k:=by
 unfold dropL
 rw [List.filter_eq_self]
 intro x hx
 obtain ⟨i,hi,e1,-⟩:=((vsN_spec hE hW k hk).2 x).1 hx
 rw [decide_eq_true_eq,e1];omega
end Go.Proofs.YtaaffpolmecicabGreat
