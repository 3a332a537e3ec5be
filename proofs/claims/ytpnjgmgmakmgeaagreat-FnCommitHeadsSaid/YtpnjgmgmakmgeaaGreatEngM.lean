/- Texts of ours that stand together: EngMath, EngMath2, EngMem, EngChk -/
import Derived.Test.YtpnjgmgmakmgeaaGreatVerA
import Derived.Test.YtpnjgmgmakmgeaaGreatOwnG
import Derived.Test.YtpnjgmgmakmgeaaGreatLay
import Derived.Test.YtpnjgmgmakmgeaaGreatActs
import Derived.Test.YtpnjgmgmakmgeaaGreatCore
/- Engines: plain mathematics. No function of the program is named here. -/
namespace Go.Proofs.YtpnjgmgmakmgeaaGreat
set_option linter.unusedVariables false
set_option linter.unusedSimpArgs false
structure Slt where
 stage:Int
 tries:Int
 from_:List Int
 res:Eff
def noSlt:Slt:=⟨0,0,[],noEff⟩
structure Eng where
 base:List Ent
 list:List Acn
 vers:List Ver
 slots:List Slt
instance:DecidableEq Ver:=fun x y=>decidable_of_iff (x.key=y.key∧x.by_=y.by_∧x.val=y.val) (by
 obtain ⟨a,b,c⟩:=x;obtain ⟨d,e,f⟩:=y;simp)
def rdAt (rds:List Ent) (key:Int):Int:=rds.foldl (fun acc r=>if r.1=key then r.2 else acc) 0
def readB (a:Acn) (n:Nat) (s:Slt) (k:Nat):Bool :=
 decide ((s.res.rds.getD k (0,0)).1=(readsM a).getD k 0) && inB (s.res.rds.getD k (0,0)).2 0 1000000 && inB (s.from_.getD k 0) (-1) ((n:Int) - 1)
def wantM (a:Acn) (s:Slt):Eff:=effK a.kind a.src a.dst a.amt (rdAt s.res.rds a.src) (rdAt s.res.rds a.dst)
def slotB (a:Acn) (n:Nat) (s:Slt):Bool :=
 if s.stage=0 then inB s.tries 0 1000 && decide (s.from_=[]) && !s.res.done && decide (s.res.rds=[]) && decide (s.res.wrs=[])
 else decide (s.res.rds.length=(readsM a).length) && decide (s.from_.length=(readsM a).length) && inB s.tries 1 1000 && inB s.stage 1 2 && (List.range (readsM a).length).all (readB a n s) && (s.res.done == (wantM a s).done) && decide (s.res.wrs=(wantM a s).wrs)
def stg (e:Eng) (n:Nat):Int:=(e.slots.getD n noSlt).stage
def resL (e:Eng):List Eff:=e.slots.map Slt.res
def sameB (e:Eng) (n:Nat):Bool :=
 (List.range (e.slots.getD n noSlt).res.rds.length).all fun k=>decide (readL e.base e.vers ((e.slots.getD n noSlt).res.rds.getD k (0,0)).1 n=(((e.slots.getD n noSlt).res.rds.getD k (0,0)).2,(e.slots.getD n noSlt).from_.getD k 0))
structure EngOk (e:Eng):Prop where
 base:storeB e.base=true
 list:actsB e.list=true
 len:e.slots.length=e.list.length
 slot:∀ n,n < e.slots.length→slotB (e.list.getD n noA) n (e.slots.getD n noSlt)=true
 vers:e.vers=vsN (resL e) e.slots.length
 chk:∀ n,n < e.slots.length→stg e n=2→(n=0∨stg e (n - 1)=2)∧sameB e n=true
/-! What an action reads. -/
theorem reads_form (a:Acn):readsM a=[]∨(∃ x,readsM a=[x])∨∃ x y,x≠y∧readsM a=[x,y]:=by
 unfold readsM readsK onceM
 split
 · split
   · exact .inl rfl
   · split
     · exact .inr (.inl ⟨_,rfl⟩)
     · split
       · exact .inr (.inl ⟨_,rfl⟩)
       · rename_i h;exact .inr (.inr ⟨_,_,h,rfl⟩)
 · exact .inl rfl
theorem reads_src {a:Acn} (ha:actB a=true):∀ key∈readsM a,key=a.src∨key=a.dst:=by
 intro key hk
 rw [readsM,if_pos ha] at hk
 unfold readsK at hk
 split at hk
 · cases hk
 · split at hk
   · simp at hk;exact .inl hk
   · unfold onceM at hk;split at hk
     · simp at hk;exact .inl hk
     · simpa using hk
theorem effK_rds {a:Acn} (ha:actB a=true) (f t:Int):(effK a.kind a.src a.dst a.amt f t).rds=(readsM a).map (fun key=>(key,if key=a.src then f else t)):=by
 rw [readsM,if_pos ha];rfl
theorem effK_wr {a:Acn} (ha:actB a=true) {f t:Int} (hf:0≤f∧f≤1000000) (ht:0≤t∧t≤1000000):writesB (effK a.kind a.src a.dst a.amt f t).wrs=true:=by
 rw [writesB_ok]
 unfold effK
 simp only
 split
 · rename_i hd
   exact wr_outs ha hf.1 hf.2 ht.1 ht.2 hd
 · exact ⟨List.Pairwise.nil,fun e he=>by cases he⟩
theorem rdAt_map {l:List Int} (hn:l.Nodup) (g:Int→Int) {key:Int} (hk:key∈l):rdAt (l.map fun x=>(x,g x)) key=g key:=by
 have gen:∀ (l:List Int) (acc:Int),l.Nodup→(l.map fun x=>(x,g x)).foldl (fun acc r=>if r.1=key then r.2 else acc) acc=if key∈l then g key else acc:=by
  intro l
  induction l with
  | nil=>intro acc _;simp
  | cons x r ih =>
   intro acc hn
   rw [List.nodup_cons] at hn
   rw [List.map_cons,List.foldl_cons,ih _ hn.2]
   by_cases hx:x=key
   · subst hx
     rw [if_neg hn.1];simp
   · have:key≠x:=fun h=>hx h.symm
     simp [hx,this]
 unfold rdAt
 rw [gen l 0 hn,if_pos hk]
theorem reads_nodup (a:Acn):(readsM a).Nodup:=by
 rcases reads_form a with h | ⟨x,h⟩ | ⟨x,y,hxy,h⟩ <;> rw [h]
 · simp
 · simp
 · simp [hxy]
theorem rdAt_bd {rds:List Ent} (h:∀ r∈rds,0≤r.2∧r.2≤1000000) (key:Int):0≤rdAt rds key∧rdAt rds key≤1000000:=by
 have gen:∀ (l:List Ent) (acc:Int),(∀ r∈l,0≤r.2∧r.2≤1000000)→(0≤acc∧acc≤1000000)→0≤l.foldl (fun acc r=>if r.1=key then r.2 else acc) acc∧l.foldl (fun acc r=>if r.1=key then r.2 else acc) acc≤1000000:=by
  intro l
  induction l with
  | nil=>intro acc _ h;exact h
  | cons x r ih =>
   intro acc hl hacc
   rw [List.foldl_cons]
   refine ih _ (fun y hy=>hl y (List.mem_cons_of_mem _ hy)) ?_
   split
   · exact hl x List.mem_cons_self
   · exact hacc
 exact gen rds 0 h (by omega)
/-! What a slot that may be says. -/
theorem eff_ext {x y:Eff} (h1:x.done=y.done) (h2:x.rds=y.rds) (h3:x.wrs=y.wrs):x=y:=by
 obtain ⟨a,b,c⟩:=x;obtain ⟨d,e,f⟩:=y
 simp only at h1 h2 h3
 rw [h1,h2,h3]
theorem len_two {l:List Ent} {x y:Int} (h:l.length=[x,y].length):∃ r q,l=[r,q]:=by
 rcases l with _ | ⟨r,_ | ⟨q,_ | ⟨z,t⟩⟩⟩
 · simp at h
 · simp at h
 · exact ⟨r,q,rfl⟩
 · simp at h
theorem slot_new {a:Acn} {n:Nat} {s:Slt} (h:slotB a n s=true) (h0:s.stage=0):s=⟨0,s.tries,[],noEff⟩∧0≤s.tries∧s.tries≤1000:=by
 unfold slotB at h
 rw [if_pos h0] at h
 simp only [Bool.and_eq_true,decide_eq_true_eq,Bool.not_eq_true'] at h
 obtain ⟨⟨⟨⟨h1,h2⟩,h3⟩,h4⟩,h5⟩:=h
 have:=inB_true h1
 obtain ⟨st,tr,fr,⟨d,r,w⟩⟩:=s
 simp only at h0 h2 h3 h4 h5 this
 subst h0 h2 h3 h4 h5
 exact ⟨rfl,this⟩
structure SlotIs (a:Acn) (n:Nat) (s:Slt):Prop where
 stage:s.stage=1∨s.stage=2
 tries:1≤s.tries∧s.tries≤1000
 res:s.res=wantM a s
 rds:s.res.rds=(readsM a).map fun key=>(key,rdAt s.res.rds key)
 val:∀ r∈s.res.rds,0≤r.2∧r.2≤1000000
 flen:s.from_.length=(readsM a).length
 from_:∀ k,k < (readsM a).length→-1≤s.from_.getD k 0∧s.from_.getD k 0≤(n:Int) - 1
theorem mem_getP {l:List Ent} {x:Ent} (h:x∈l):∃ i,i < l.length∧l.getD i (0,0)=x:=by
 obtain ⟨i,hi,rfl⟩:=List.getElem_of_mem h
 exact ⟨i,hi,by rw [List.getD_eq_getElem?_getD,List.getElem?_eq_getElem hi];rfl⟩
theorem slot_old {a:Acn} {n:Nat} {s:Slt} (ha:actB a=true) (h:slotB a n s=true) (h0:s.stage≠0):SlotIs a n s:=by
 unfold slotB at h
 rw [if_neg h0] at h
 simp only [Bool.and_eq_true,decide_eq_true_eq,List.all_eq_true,List.mem_range,beq_iff_eq] at h
 obtain ⟨⟨⟨⟨⟨⟨h1,h2⟩,h3⟩,h4⟩,h5⟩,h6⟩,h7⟩:=h
 have h5':∀ k,k < (readsM a).length→(s.res.rds.getD k (0,0)).1=(readsM a).getD k 0∧(0≤(s.res.rds.getD k (0,0)).2∧(s.res.rds.getD k (0,0)).2≤1000000)∧-1≤s.from_.getD k 0∧s.from_.getD k 0≤(n:Int) - 1:=by
  intro k hk
  have:=h5 k hk
  simp only [readB,Bool.and_eq_true,decide_eq_true_eq] at this
  exact ⟨this.1.1,inB_true this.1.2,inB_true this.2⟩
 have hst:=inB_true h4
 have hrd:s.res.rds=(readsM a).map fun key=>(key,rdAt s.res.rds key):=by
  have hkey:s.res.rds=(readsM a).map fun key=>(key,(s.res.rds.find? (fun r=>r.1 == key)).elim 0 Prod.snd):=by
   rcases reads_form a with hf | ⟨x,hf⟩ | ⟨x,y,hxy,hf⟩
   · rw [hf] at h1 ⊢
     exact List.eq_nil_of_length_eq_zero h1
   · rw [hf] at h1 ⊢
     obtain ⟨r,hr⟩:=List.length_eq_one_iff.1 h1
     have:=(h5' 0 (by rw [hf];simp)).1
     rw [hr,hf] at this
     simp at this
     rw [hr];simp [this]
     rw [← this]
   · rw [hf] at h1 ⊢
     obtain ⟨r,q,hr⟩:=len_two h1
     have e1:=(h5' 0 (by rw [hf];simp)).1
     have e2:=(h5' 1 (by rw [hf];simp)).1
     rw [hr,hf] at e1 e2
     simp at e1 e2
     obtain ⟨r1,r2⟩:=r
     obtain ⟨q1,q2⟩:=q
     simp only at e1 e2
     subst e1 e2
     have hb:(r1 == q1)=false:=by simpa using hxy
     rw [hr];simp [List.find?,hb]
  have hat:∀ key∈readsM a,rdAt s.res.rds key=(s.res.rds.find? (fun r=>r.1 == key)).elim 0 Prod.snd:=by
   intro key hk
   have:=rdAt_map (reads_nodup a) (fun key=>(s.res.rds.find? (fun r=>r.1 == key)).elim 0 Prod.snd) hk
   rw [← hkey] at this
   exact this
  refine hkey.trans (List.map_congr_left fun key hk=>?_)
  rw [hat key hk]
 have hw:s.res=wantM a s:=by
  have e1:(wantM a s).rds=s.res.rds:=by
   unfold wantM
   rw [effK_rds ha]
   refine Eq.trans (List.map_congr_left fun key hk=>?_) hrd.symm
   rcases reads_src ha key hk with e | e
   · rw [if_pos e,e]
   · by_cases e2:key=a.src
     · rw [if_pos e2,e2]
     · rw [if_neg e2,e]
  exact eff_ext h6 e1.symm h7
 refine ⟨by omega,inB_true h3,hw,hrd,fun r hr=>?_,h2,fun k hk=>(h5' k hk).2.2⟩
 obtain ⟨i,hi,rfl⟩:=mem_getP hr
 exact (h5' i (by omega)).2.1
theorem slot_wr {a:Acn} {n:Nat} {s:Slt} (ha:actB a=true) (h:slotB a n s=true):writesB s.res.wrs=true:=by
 by_cases h0:s.stage=0
 · rw [(slot_new h h0).1];rfl
 · have hs:=slot_old ha h h0
   rw [hs.res]
   exact effK_wr ha (rdAt_bd hs.val _) (rdAt_bd hs.val _)
theorem resL_get (e:Eng) (k:Nat):(resL e).getD k noEff=(e.slots.getD k noSlt).res:=by
 unfold resL
 rw [List.getD_eq_getElem?_getD,List.getD_eq_getElem?_getD,List.getElem?_map]
 cases e.slots[k]? <;> rfl
theorem resL_len (e:Eng):(resL e).length=e.slots.length:=by simp [resL]
theorem act_get {L:List Acn} (h:actsB L=true) {k:Nat} (hk:k < L.length):actB (L.getD k noA)=true :=
 (actsB_true h).2 _ (by rw [List.getD_eq_getElem?_getD,List.getElem?_eq_getElem hk];exact List.getElem_mem hk)
theorem EngOk.act {e:Eng} (h:EngOk e) {k:Nat} (hk:k < e.slots.length):actB (e.list.getD k noA)=true:=act_get h.list (by rw [← h.len];exact hk)
theorem EngOk.ten {e:Eng} (h:EngOk e):e.slots.length≤10:=by rw [h.len];exact (actsB_true h.list).1
theorem EngOk.wr {e:Eng} (h:EngOk e):∀ k,k < (resL e).length→writesB ((resL e).getD k noEff).wrs=true:=fun k hk=>by
 rw [resL_len] at hk
 rw [resL_get];exact slot_wr (h.act hk) (h.slot k hk)
def Eng.put (e:Eng) (n:Nat) (s:Slt) (V:List Ver):Eng:=⟨e.base,e.list,V,e.slots.set n s⟩
theorem EngOk.pre {e:Eng} (h:EngOk e):∀ m,m < e.slots.length→stg e m=2→∀ k,k≤m→stg e k=2:=by
 intro m
 induction m with
 | zero => intro _ hs k hk; obtain rfl : k = 0 := by omega
           exact hs
 | succ m ih =>
  intro hm hs k hk
  rcases (by omega:k=m+1∨k≤m) with rfl | hk
  · exact hs
  · rcases (h.chk (m+1) hm hs).1 with h0 | h0
    · omega
    · exact ih (by omega) h0 k hk
open Go.RowKit
def SliI (w:World) (x:Value) (l:List Int):Prop:=∃ a n cap,x = .slice a n cap∧RowI w a n l∧(a=none→cap=0)∧n≤cap
def SliA (w:World) (x:Value) (l:List Acn):Prop:=∃ a n cap,x = .slice a n cap∧RowA w a n l∧(a=none→cap=0)∧n≤cap
def SliV (w:World) (x:Value) (l:List Ver):Prop:=∃ a n cap,x = .slice a n cap∧RowV w a n l∧(a=none→cap=0)∧n≤cap
theorem SliI.below {w w':World} {x:Value} {l:List Int} (h:SliI w x l) (hb:Below w.heap.size w w'):SliI w' x l:=by
 obtain ⟨a,n,cap,h1,h2,h3⟩:=h;exact ⟨a,n,cap,h1,h2.below hb,h3⟩
theorem SliA.below {w w':World} {x:Value} {l:List Acn} (h:SliA w x l) (hb:Below w.heap.size w w'):SliA w' x l:=by
 obtain ⟨a,n,cap,h1,h2,h3⟩:=h;exact ⟨a,n,cap,h1,h2.below hb,h3⟩
theorem SliV.below {w w':World} {x:Value} {l:List Ver} (h:SliV w x l) (hb:Below w.heap.size w w'):SliV w' x l:=by
 obtain ⟨a,n,cap,h1,h2,h3⟩:=h;exact ⟨a,n,cap,h1,h2.below hb,h3⟩
structure SlAt (w:World) (b o:Nat) (s:Slt):Prop where
 stage:w.cell? ⟨b,o,none⟩=some (.int .i64 s.stage)
 tries:w.cell? ⟨b,o+1,none⟩=some (.int .i64 s.tries)
 from_:∃ x,w.cell? ⟨b,o+2,none⟩=some x∧SliI w x s.from_
 done:w.cell? ⟨b,o+3,none⟩=some (.bool s.res.done)
 rds:∃ x,w.cell? ⟨b,o+4,none⟩=some x∧SliE w x s.res.rds
 wrs:∃ x,w.cell? ⟨b,o+5,none⟩=some x∧SliE w x s.res.wrs
theorem SlAt.below {w w':World} {b o:Nat} {s:Slt} (h:SlAt w b o s) (hb:Below w.heap.size w w'):SlAt w' b o s:=by
 obtain ⟨h1,h2,⟨x,h3,h4⟩,h5,⟨y,h6,h7⟩,z,h8,h9⟩:=h
 have hlt:b < w.heap.size:=World.block_lt_of_cell? w ⟨b,o,none⟩ h1
 have c:∀ k,w'.cell? ⟨b,o+k,none⟩=w.cell? ⟨b,o+k,none⟩:=fun k=>hb.cell (p:=⟨b,o+k,none⟩) hlt
 have c0:w'.cell? ⟨b,o,none⟩=w.cell? ⟨b,o,none⟩:=hb.cell (p:=⟨b,o,none⟩) hlt
 exact ⟨by rw [c0];exact h1,by rw [c];exact h2,⟨x,by rw [c];exact h3,h4.below hb⟩,by rw [c];exact h5,⟨y,by rw [c];exact h6,h7.below hb⟩,z,by rw [c];exact h8,h9.below hb⟩
structure SlWf (s:Slt):Prop where
 stage:(Lit.int .i64 s.stage).wf=true
 tries:(Lit.int .i64 s.tries).wf=true
 from_:∀ x∈s.from_,(Lit.int .i64 x).wf=true
 rds:WfE s.res.rds
 wrs:WfE s.res.wrs
 flen:s.from_.length≤4000000
 rlen:s.res.rds.length≤4000000
 wlen:s.res.wrs.length≤4000000
def RowSl (w:World) (a:Option Addr) (n:Nat) (L:List Slt):Prop :=
 L.length=n∧n≤maxLen∧(0 < n→∃ b off,a=some ⟨b,off,none⟩∧∀ i,i < n→SlAt w b (off+i*6) (L.getD i noSlt))∧∀ s∈L,(Lit.int .i64 s.stage).wf=true∧(Lit.int .i64 s.tries).wf=true
theorem RowSl.below {w w':World} {a:Option Addr} {n:Nat} {L:List Slt} (h:RowSl w a n L) (hb:Below w.heap.size w w'):RowSl w' a n L:=by
 obtain ⟨h1,h2,h3,h4⟩:=h
 refine ⟨h1,h2,fun hl=>?_,h4⟩
 obtain ⟨b,off,he,hc⟩:=h3 hl
 exact ⟨b,off,he,fun i hi=>(hc i hi).below hb⟩
theorem rowSl_empty (w:World) (a:Option Addr):RowSl w a 0 []:=⟨rfl,by unfold maxLen;omega,fun h=>absurd h (by omega),fun s hs=>by cases hs⟩
theorem RowSl.at {w:World} {a:Option Addr} {n:Nat} {L:List Slt} (h:RowSl w a n L) (k:Nat) (hk:k < n):∃ b off,a=some ⟨b,off,none⟩∧SlAt w b (off+k*6) (L.getD k noSlt):=by
 obtain ⟨b,off,he,hc⟩:=h.2.2.1 (by omega)
 exact ⟨b,off,he,hc k hk⟩
theorem getD_memS (L:List Slt) (k:Nat) (h:k < L.length):L.getD k noSlt∈L:=by
 rw [List.getD_eq_getElem?_getD,List.getElem?_eq_getElem h];exact List.getElem_mem h
theorem RowSl.bd {w:World} {a:Option Addr} {n:Nat} {L:List Slt} (h:RowSl w a n L) (k:Nat) (hk:k < n):(Lit.int .i64 (L.getD k noSlt).stage).wf=true∧(Lit.int .i64 (L.getD k noSlt).tries).wf=true :=
 h.2.2.2 _ (getD_memS L k (by rw [h.1];exact hk))
def SliS (w:World) (x:Value) (L:List Slt):Prop:=∃ a n cap,x = .slice a n cap∧RowSl w a n L∧(a=none→cap=0)∧n≤cap
theorem SliS.below {w w':World} {x:Value} {L:List Slt} (h:SliS w x L) (hb:Below w.heap.size w w'):SliS w' x L:=by
 obtain ⟨a,n,cap,h1,h2,h3⟩:=h;exact ⟨a,n,cap,h1,h2.below hb,h3⟩
structure EngRd (w:World) (v1 v2 v3 v4:Value) (e:Eng):Prop where
 base:SliE w v1 e.base
 list:SliA w v2 e.list
 vers:SliV w v3 e.vers
 slots:SliS w v4 e.slots
theorem EngRd.below {w w':World} {v1 v2 v3 v4:Value} {e:Eng} (h:EngRd w v1 v2 v3 v4 e) (hb:Below w.heap.size w w'):EngRd w' v1 v2 v3 v4 e :=
 ⟨h.base.below hb,h.list.below hb,h.vers.below hb,h.slots.below hb⟩
/-! Engines that a call owns. -/
def slCs (s:Slt) (t:Value × Value × Value):List Value:=[.int .i64 s.stage,.int .i64 s.tries,t.1,.bool s.res.done,t.2.1,t.2.2]
def slRs (tI tE:TypeId) (s:Slt) (t:Value × Value × Value):List Rw :=
 [⟨t.1,tI,1,s.from_.length,s.from_.map (Value.int .i64)⟩,⟨t.2.1,tE,2,s.res.rds.length,flatE s.res.rds⟩,⟨t.2.2,tE,2,s.res.wrs.length,flatE s.res.wrs⟩]
def slsCs (L:List Slt) (ts:List (Value × Value × Value)):List Value:=(L.zip ts).flatMap fun p=>slCs p.1 p.2
def slsRs (tI tE:TypeId) (L:List Slt) (ts:List (Value × Value × Value)):List Rw:=(L.zip ts).flatMap fun p=>slRs tI tE p.1 p.2
structure EngWf (e:Eng):Prop where
 base:WfE e.base
 list:WfAs e.list
 vers:WfVs e.vers
 slots:∀ s∈e.slots,SlWf s
 blen:e.base.length≤4000000
 llen:e.list.length≤4000000
 vlen:e.vers.length≤4000000
 slen:e.slots.length≤4000000
structure EngT where
 tE:TypeId
 tA:TypeId
 tV:TypeId
 tS:TypeId
 tI:TypeId
def engRs (t:EngT) (v1 v2 v3 v4:Value) (e:Eng) (ts:List (Value × Value × Value)):List Rw :=
 ⟨v1,t.tE,2,e.base.length,flatE e.base⟩ :: ⟨v2,t.tA,4,e.list.length,flatA e.list⟩ :: ⟨v3,t.tV,3,e.vers.length,flatV e.vers⟩ :: ⟨v4,t.tS,6,e.slots.length,slsCs e.slots ts⟩ :: slsRs t.tI t.tE e.slots ts
structure EngOwn (w:World) (B T:Nat) (t:EngT) (v1 v2 v3 v4:Value) (e:Eng) (ts:List (Value × Value × Value)):Prop where
 tl:ts.length=e.slots.length
 own:OwnR w B T (engRs t v1 v2 v3 v4 e ts)
 wf:EngWf e
theorem EngOwn.below {w w':World} {B T:Nat} {t:EngT} {v1 v2 v3 v4:Value} {e:Eng} {ts:List (Value × Value × Value)} (h:EngOwn w B T t v1 v2 v3 v4 e ts) (hb:Below w.heap.size w w'):EngOwn w' B T t v1 v2 v3 v4 e ts:=⟨h.tl,h.own.below hb,h.wf⟩
theorem EngOwn.mono {w:World} {B T B' T':Nat} {t:EngT} {v1 v2 v3 v4:Value} {e:Eng} {ts:List (Value × Value × Value)} (h:EngOwn w B T t v1 v2 v3 v4 e ts) (hB:B'≤B) (hT:T≤T'):EngOwn w B' T' t v1 v2 v3 v4 e ts:=⟨h.tl,h.own.mono hB hT,h.wf⟩
theorem zip_get {L:List Slt} {ts:List (Value × Value × Value)} (h:ts.length=L.length) {i:Nat} (hi:i < L.length):(L.zip ts)[i]? = some (L.getD i noSlt,ts.getD i (undef,undef,undef)):=by
 rw [List.getElem?_eq_getElem (by simp [h,hi]),List.getElem_zip,List.getD_eq_getElem?_getD,List.getD_eq_getElem?_getD,List.getElem?_eq_getElem hi,List.getElem?_eq_getElem (by rw [h];exact hi)];rfl
theorem slsCs_get {L:List Slt} {ts:List (Value × Value × Value)} (h:ts.length=L.length) {i:Nat} (hi:i < L.length) {j:Nat} (hj:j < 6):(slsCs L ts)[i*6+j]? = (slCs (L.getD i noSlt) (ts.getD i (undef,undef,undef)))[j]? :=
 flatMap_get (fun p:Slt × (Value × Value × Value)=>slCs p.1 p.2) 6 (fun _=>rfl) (L.zip ts) i j _ (zip_get h hi) hj
theorem slsRs_mem {tI tE:TypeId} {L:List Slt} {ts:List (Value × Value × Value)} (h:ts.length=L.length) {i:Nat} (hi:i < L.length):∀ r∈slRs tI tE (L.getD i noSlt) (ts.getD i (undef,undef,undef)),r∈slsRs tI tE L ts:=fun r hr =>
 List.mem_flatMap.2 ⟨_,List.mem_of_getElem? (zip_get h hi),hr⟩
theorem sliE_of_owns {w:World} {B:Nat} {x:Value} {e:TypeId} {l:List Ent} (h:w.ownsRow B e 2 x l.length (flatE l)) (hw:WfE l) (hl:l.length≤4000000):SliE w x l:=by
 obtain ⟨a,cap,rfl,h5,h6⟩:=rowE_of_owns h hl hw
 refine ⟨a,_,cap,rfl,h5,h6,?_⟩
 rcases h.2 with ⟨he,h0⟩ | ⟨g,cap',cur,he,_,_,hnc,_⟩
 · omega
 · simp at he;omega
theorem sliI_of_owns {w:World} {B:Nat} {x:Value} {e:TypeId} {l:List Int} (h:w.ownsRow B e 1 x l.length (l.map (Value.int .i64))) (hw:∀ y∈l,(Lit.int .i64 y).wf=true) (hl:l.length≤4000000):SliI w x l:=by
 rcases slice_of_owns h with ⟨rfl,hn⟩ | ⟨g,cap,rfl,hB,hg,hnc,hcm⟩
 · obtain rfl:l=[]:=List.eq_nil_of_length_eq_zero hn
   exact ⟨none,0,0,rfl,⟨rfl,by unfold maxLen;omega,fun h=>absurd h (by omega),fun y hy=>by cases hy⟩,fun _=>rfl,Nat.le_refl _⟩
 · obtain ⟨a',c',e',hr⟩:=rowI_of_owns h (by unfold maxLen;omega) hw
   simp only [Value.slice.injEq,true_and] at e'
   obtain ⟨rfl,rfl⟩:=e'
   exact ⟨_,_,cap,rfl,hr,fun h=>(by cases h),hnc⟩
theorem sliV_of_owns {w:World} {B:Nat} {x:Value} {e:TypeId} {l:List Ver} (h:w.ownsRow B e 3 x l.length (flatV l)) (hw:WfVs l) (hl:l.length≤4000000):SliV w x l:=by
 obtain ⟨a,cap,rfl,h5,h6,h7,-⟩:=rowV_of_owns h hl hw
 exact ⟨a,_,cap,rfl,h5,h6,h7⟩
theorem sliA_of_owns {w:World} {B:Nat} {x:Value} {e:TypeId} {l:List Acn} (h:w.ownsRow B e 4 x l.length (flatA l)) (hw:WfAs l) (hl:l.length≤4000000):SliA w x l:=by
 obtain ⟨a,cap,rfl,h5,h6,h7,-⟩:=rowA_of_owns h hl hw
 exact ⟨a,_,cap,rfl,h5,h6,h7⟩
theorem EngOwn.rd {w:World} {B T:Nat} {t:EngT} {v1 v2 v3 v4:Value} {e:Eng} {ts:List (Value × Value × Value)} (h:EngOwn w B T t v1 v2 v3 v4 e ts):EngRd w v1 v2 v3 v4 e:=by
 obtain ⟨htl,ho,hw⟩:=h
 have o1:=ho.own _ (List.mem_cons_self)
 have o2:=ho.own _ (List.mem_cons_of_mem _ List.mem_cons_self)
 have o3:=ho.own _ (List.mem_cons_of_mem _ (List.mem_cons_of_mem _ List.mem_cons_self))
 have o4:=ho.own _ (List.mem_cons_of_mem _ (List.mem_cons_of_mem _ (List.mem_cons_of_mem _ List.mem_cons_self)))
 refine ⟨sliE_of_owns o1 hw.base hw.blen,sliA_of_owns o2 hw.list hw.llen,sliV_of_owns o3 hw.vers hw.vlen,?_⟩
 have hwf:∀ s∈e.slots,(Lit.int .i64 s.stage).wf=true∧(Lit.int .i64 s.tries).wf=true:=fun s hs=>⟨(hw.slots s hs).stage,(hw.slots s hs).tries⟩
 have hsl:=hw.slen
 rcases slice_of_owns o4 with ⟨h4,hn⟩ | ⟨g,cap,h4,hB,hg,hnc,hcm⟩
 · simp only at h4 hn
   subst h4
   have he:e.slots=[]:=List.eq_nil_of_length_eq_zero hn
   exact ⟨none,0,0,rfl,by rw [he];exact rowSl_empty _ _,fun _=>rfl,Nat.le_refl _⟩
 · simp only at h4 hnc
   subst h4
   refine ⟨_,_,cap,rfl,⟨rfl,by unfold maxLen;omega,fun _=>⟨g,0,rfl,fun i hi=>?_⟩,hwf⟩,fun h=>(by cases h),hnc⟩
   have hc:∀ j,j < 6→w.cell? ⟨g,0+i*6+j,none⟩=(slCs (e.slots.getD i noSlt) (ts.getD i (undef,undef,undef)))[j]?:=fun j hj=>by
    rw [Nat.zero_add,← slsCs_get htl hi hj]
    exact World.ownsRow.cellAt (n:=e.slots.length) o4 (i*6+j) (by show i*6+j < e.slots.length*6;omega)
   have hsw:=hw.slots _ (getD_memS e.slots i hi)
   have hm:=slsRs_mem (tI:=t.tI) (tE:=t.tE) htl hi
   have q:∀ r∈slRs t.tI t.tE (e.slots.getD i noSlt) (ts.getD i (undef,undef,undef)),w.ownsRow B r.e r.size r.v r.n r.cs:=fun r hr=>ho.own r (List.mem_cons_of_mem _ (List.mem_cons_of_mem _ (List.mem_cons_of_mem _ (List.mem_cons_of_mem _ (hm r hr)))))
   have q1:=q _ (List.mem_cons_self)
   have q2:=q _ (List.mem_cons_of_mem _ List.mem_cons_self)
   have q3:=q _ (List.mem_cons_of_mem _ (List.mem_cons_of_mem _ List.mem_cons_self))
   exact ⟨hc 0 (by omega),hc 1 (by omega),⟨_,hc 2 (by omega),sliI_of_owns q1 hsw.from_ hsw.flen⟩,hc 3 (by omega),⟨_,hc 4 (by omega),sliE_of_owns q2 hsw.rds hsw.rlen⟩,_,hc 5 (by omega),sliE_of_owns q3 hsw.wrs hsw.wlen⟩
structure EgAt (w:World) (Z:Nat) (v1 v2 v3 v4:Value):Prop where
 c0:w.cell? ⟨Z,0,none⟩=some v1
 c1:w.cell? ⟨Z,1,none⟩=some v2
 c2:w.cell? ⟨Z,2,none⟩=some v3
 c3:w.cell? ⟨Z,3,none⟩=some v4
 f0:w.frozen? ⟨Z,0,none⟩=false
 f1:w.frozen? ⟨Z,1,none⟩=false
 f2:w.frozen? ⟨Z,2,none⟩=false
 f3:w.frozen? ⟨Z,3,none⟩=false
theorem EgAt.lt {w:World} {Z:Nat} {v1 v2 v3 v4:Value} (h:EgAt w Z v1 v2 v3 v4):Z < w.heap.size:=World.block_lt_of_cell? w ⟨Z,0,none⟩ h.c0
theorem EgAt.keep {w w':World} {Z:Nat} {v1 v2 v3 v4:Value} (h:EgAt w Z v1 v2 v3 v4) (hb:w'.heap[Z]? = w.heap[Z]?):EgAt w' Z v1 v2 v3 v4 :=
 ⟨(World.cell?_of_block hb).trans h.c0, (World.cell?_of_block hb).trans h.c1, (World.cell?_of_block hb).trans h.c2, (World.cell?_of_block hb).trans h.c3,
  (World.frozen?_of_block hb).trans h.f0,(World.frozen?_of_block hb).trans h.f1,(World.frozen?_of_block hb).trans h.f2,(World.frozen?_of_block hb).trans h.f3⟩
theorem EgAt.below {w w':World} {Z:Nat} {v1 v2 v3 v4:Value} (h:EgAt w Z v1 v2 v3 v4) (hb:Below w.heap.size w w'):EgAt w' Z v1 v2 v3 v4:=h.keep (hb.block Z h.lt)
theorem EgAt.grown {w w':World} {Z:Nat} {v1 v2 v3 v4:Value} {row:Option Nat} (h:EgAt w Z v1 v2 v3 v4) (hg:w.grownBy w' row) (hne:some Z≠row):EgAt w' Z v1 v2 v3 v4:=h.keep (hg.block Z h.lt hne)
theorem EgAt.set0 {w:World} {Z:Nat} {v1 v2 v3 v4:Value} (h:EgAt w Z v1 v2 v3 v4) (x:Value):EgAt (w.setCell ⟨Z,0,none⟩ x) Z x v2 v3 v4:=by
 constructor <;> simp [go_sem,h.c0,h.c1,h.c2,h.c3,h.f0,h.f1,h.f2,h.f3]
theorem EgAt.set1 {w:World} {Z:Nat} {v1 v2 v3 v4:Value} (h:EgAt w Z v1 v2 v3 v4) (x:Value):EgAt (w.setCell ⟨Z,1,none⟩ x) Z v1 x v3 v4:=by
 constructor <;> simp [go_sem,h.c0,h.c1,h.c2,h.c3,h.f0,h.f1,h.f2,h.f3]
theorem EgAt.set2 {w:World} {Z:Nat} {v1 v2 v3 v4:Value} (h:EgAt w Z v1 v2 v3 v4) (x:Value):EgAt (w.setCell ⟨Z,2,none⟩ x) Z v1 v2 x v4:=by
 constructor <;> simp [go_sem,h.c0,h.c1,h.c2,h.c3,h.f0,h.f1,h.f2,h.f3]
theorem EgAt.set3 {w:World} {Z:Nat} {v1 v2 v3 v4:Value} (h:EgAt w Z v1 v2 v3 v4) (x:Value):EgAt (w.setCell ⟨Z,3,none⟩ x) Z v1 v2 v3 x:=by
 constructor <;> simp [go_sem,h.c0,h.c1,h.c2,h.c3,h.f0,h.f1,h.f2,h.f3]
/-! How many are checked. -/
end Go.Proofs.YtpnjgmgmakmgeaaGreat
