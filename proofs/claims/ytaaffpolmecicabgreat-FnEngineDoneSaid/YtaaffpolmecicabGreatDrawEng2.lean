/- The contract of the draw of engines. -/
import Derived.Test.YtaaffpolmecicabGreatDrawEng
import Derived.Test.YtaaffpolmecicabGreatSpecE0
import Derived.Test.YtaaffpolmecicabGreatEngR
import Derived.Test.YtaaffpolmecicabGreatEngApp
import Derived.Deep.AppendLies
import Derived.Deep.DeepCutAuto
import Derived.StillTailTactics
namespace Go.Proofs.YtaaffpolmecicabGreat
open Go.RowKit
set_option linter.unusedVariables false
set_option linter.unusedSimpArgs false
theorem engB_zero:engB noEng=true:=by decide
theorem noEng_ok:EngOk noEng:=(engB_iff _).1 engB_zero
theorem eRunM_ok (e:Eng) (L:List Int):EngOk (eRunM e L).1:=by
 unfold eRunM
 split
 · rename_i h;exact (eRunTo_ok ((engB_iff e).1 h.1) L _ (Nat.le_refl _)).1
 · exact noEng_ok
theorem eFinM_ok (e:Eng):EngOk (eFinM e).1:=by
 unfold eFinM
 split
 · rename_i h
   exact (fin_end (finMu (e,0,0)) (e,0,0) (fin_start ((engB_iff e).1 h.1) h.2) (Nat.le_refl _)).1.ok
 · exact noEng_ok
theorem OwnR.upd {w w':World} {B T R:Nat} {L:List Rw} (h:OwnR w B T L) (hu:Upd R w w') (hR:R < B):OwnR w' B T L :=
 h.keep fun r hr b hb=>hu.block b (h.ge hr hb).2.2 (fun e=>by simp only [Option.some.injEq] at e;have:=(h.ge hr hb).1;omega)
theorem EngOwn.upd {w w':World} {B T R:Nat} {t:EngT} {v1 v2 v3 v4:Value} {e:Eng} {ts:List (Value × Value × Value)} (h:EngOwn w B T t v1 v2 v3 v4 e ts) (hu:Upd R w w') (hR:R < B):EngOwn w' B T t v1 v2 v3 v4 e ts:=⟨h.tl,h.own.upd hu hR,h.wf⟩
theorem EgAt.upd {w w':World} {Z R:Nat} {v1 v2 v3 v4:Value} (h:EgAt w Z v1 v2 v3 v4) (hu:Upd R w w') (hne:Z≠R):EgAt w' Z v1 v2 v3 v4:=h.keep (hu.block Z h.lt (fun e=>hne (by simpa using e)))
structure EngSm (e:Eng):Prop where
 base:e.base.length≤32
 list:e.list.length≤10
 vers:e.vers.length≤321
 slots:e.slots.length≤10
 parts:∀ s∈e.slots,s.from_.length≤32∧s.res.rds.length≤33∧s.res.wrs.length≤32
def DrawEn (w:World) (R P c:Nat) (en:Ending) (w':World):Prop :=
 ∃ v1 v2 v3 v4 e,en = .returned (.agg #[v1,v2,v3,v4])∧(∀ W:World,(∀ k,w.heap.size < k→k < w'.heap.size→k≠R→W.heap[k]? = w'.heap[k]?)→EngRd W v1 v2 v3 v4 e)∧EngSm e∧Rd w' R (P+c)∧Upd R w w'
theorem engOf_list (S:List Ent) (L:List Acn):(engOfM S L).list.length≤L.length:=by
 unfold engOfM;split <;> simp [noEng]
theorem Upd.setNewE {R g o:Nat} {w w9:World} {v:Value} (h:Upd R w w9) (hg:w.heap.size≤g):Upd R w (w9.setCell ⟨g,o,none⟩ v) :=
 ⟨h.os,h.tape,h.output,by simpa [World.setCell] using h.size,fun k hk hr=>(Below.heap_setCell _ _ _ _ (by simp;omega)).trans (h.block k hk hr)⟩
theorem set4_upd {R:Nat} {w w9:World} {Z:Nat} {v1 v2 v3 v4:Value} (h:Upd R w w9) (hg:w.heap.size≤Z):Upd R w (set4 w9 Z v1 v2 v3 v4):=(((h.setNewE hg).setNewE hg).setNewE hg).setNewE hg
theorem set4_grown (w:World) (Z:Nat) (v1 v2 v3 v4:Value):w.grownBy (set4 w Z v1 v2 v3 v4) (some Z) :=
 ⟨rfl,rfl,rfl,by rw [set4_size];exact Nat.le_refl _,fun k _ hk=>by
  have hne:k≠Z:=fun h=>hk (by rw [h])
  unfold set4
  rw [Below.heap_setCell _ _ _ _ (by simpa using hne),Below.heap_setCell _ _ _ _ (by simpa using hne),Below.heap_setCell _ _ _ _ (by simpa using hne),Below.heap_setCell _ _ _ _ (by simpa using hne)]⟩
def EnD (w wx:World) (R P Z:Nat) (e:Eng):Prop :=
 ∃ b1 m1 d1 b2 m2 d2 b3 m3 d3 b4 m4 d4 ts B T,EgAt wx Z (.slice b1 m1 d1) (.slice b2 m2 d2) (.slice b3 m3 d3) (.slice b4 m4 d4)∧EngOwn wx B T tEng (.slice b1 m1 d1) (.slice b2 m2 d2) (.slice b3 m3 d3) (.slice b4 m4 d4) e ts∧(R < B∧Z < B∧w.heap.size < Z∧T≤wx.heap.size∧R < w.heap.size)∧Rd wx R P∧Upd R w wx∧EgAt wx w.heap.size (.slice none 0 0) (.slice none 0 0) (.slice none 0 0) (.slice none 0 0)
theorem enD_set {w w6 w7:World} {R P Z:Nat} {y1 y2 y3 y4:Value} {b1 b2 b3 b4:Option Addr} {m1 d1 m2 d2 m3 d3 m4 d4:Nat} {e:Eng} {ts:List (Value × Value × Value)}
  (hr:Rd w6 R P) (hb:Below w6.heap.size w6 w7) (hu:Upd R w w6) (hz:EgAt w7 Z y1 y2 y3 y4) (ho:EngOwn w7 w6.heap.size w7.heap.size tEng (.slice b1 m1 d1) (.slice b2 m2 d2) (.slice b3 m3 d3) (.slice b4 m4 d4) e ts) (hZ:Z < w6.heap.size) (hR:R < w.heap.size) (hwZ:w.heap.size < Z) (hg:EgAt w6 w.heap.size (.slice none 0 0) (.slice none 0 0) (.slice none 0 0) (.slice none 0 0)) :
  EnD w (set4 w7 Z (.slice b1 m1 d1) (.slice b2 m2 d2) (.slice b3 m3 d3) (.slice b4 m4 d4)) R P Z e:=by
 have hG:=set4_grown w7 Z (.slice b1 m1 d1) (.slice b2 m2 d2) (.slice b3 m3 d3) (.slice b4 m4 d4)
 refine ⟨b1,m1,d1,b2,m2,d2,b3,m3,d3,b4,m4,d4,ts,w6.heap.size,w7.heap.size,hz.set4 _ _ _ _,ho.turn (set4_turn w7 Z _ _ _ _) (.inr (.inl hZ)),⟨by omega,hZ,hwZ,by rw [set4_size];exact Nat.le_refl _,hR⟩,(hr.below hb).grown hG (fun k hk=>by simp only [Option.some.injEq] at hk;omega),?_,(hg.below hb).grown hG (fun h=>by simp only [Option.some.injEq] at h;omega)⟩
 exact set4_upd (hu.trans (Upd.ofBelow R hb)) (by omega)
theorem OwnR.len4 {e:Eng} (h:EngOk e):EngSm e:=by
 have h10:=h.ten
 refine ⟨store_len h.base,by rw [← h.len];exact h10,by have:=vers_len h.vok;omega,h10,fun s hs=>?_⟩
 obtain ⟨k,hk,rfl⟩:=List.getElem_of_mem hs
 have hg:e.slots.getD k noSlt=e.slots[k]:=by rw [List.getD_eq_getElem?_getD,List.getElem?_eq_getElem hk];rfl
 have hsl:=h.slot k hk
 rw [hg] at hsl
 by_cases h0:(e.slots[k]).stage=0
 · rw [(slot_new hsl h0).1];simp [noEff]
 · have hact:=h.act hk
   have hso:=slot_old hact hsl h0
   have hw:=wr_len (slot_wr hact hsl)
   have hrl:(readsM (e.list.getD k noA)).length≤2:=by
    rcases reads_form (e.list.getD k noA) with hf | ⟨x,hf⟩ | ⟨x,y,-,hf⟩ <;> rw [hf] <;> simp
   refine ⟨by rw [hso.flen];omega,?_,hw⟩
   rw [hso.rds,List.length_map];omega
theorem enD_upd {w wx w':World} {R P P' Z:Nat} {e:Eng} (h:EnD w wx R P Z e) (hu:Upd R wx w') (hr:Rd w' R P'):EnD w w' R P' Z e:=by
 obtain ⟨b1,m1,d1,b2,m2,d2,b3,m3,d3,b4,m4,d4,ts,B,T,hZ,ho,⟨h1,h2,h3,h4,h5⟩,hr0,hu0,hg⟩:=h
 exact ⟨b1,m1,d1,b2,m2,d2,b3,m3,d3,b4,m4,d4,ts,B,T,hZ.upd hu (by omega),ho.upd hu h1,⟨h1,h2,h3,Nat.le_trans h4 hu.size,h5⟩,hr,hu0.trans hu,hg.upd hu (by omega)⟩
theorem engSm_set {e:Eng} (h:EngSm e) {k:Nat} {s:Slt} (hs:s.from_.length≤32∧s.res.rds.length≤33∧s.res.wrs.length≤32):EngSm ⟨e.base,e.list,e.vers,e.slots.set k s⟩ :=
 ⟨h.base,h.list,h.vers,by simpa using h.slots,fun x hx=>by
  rcases List.mem_or_eq_of_mem_set hx with hx | rfl
  · exact h.parts x hx
  · exact hs⟩
theorem enD_stage {w wx:World} {R P Z:Nat} {b1 b2 b3 b4:Option Addr} {m1 d1 m2 d2 m3 d3 m4 d4 B T g:Nat} {e:Eng} {ts:List (Value × Value × Value)} (hZ:EgAt wx Z (.slice b1 m1 d1) (.slice b2 m2 d2) (.slice b3 m3 d3) (.slice (some ⟨g,0,none⟩) m4 d4)) (ho:EngOwn wx B T tEng (.slice b1 m1 d1) (.slice b2 m2 d2) (.slice b3 m3 d3) (.slice (some ⟨g,0,none⟩) m4 d4) e ts)
  (hB:R < B∧Z < B∧w.heap.size < Z∧T≤wx.heap.size∧R < w.heap.size) (hg:B≤g) (hr:Rd wx R P) (hu:Upd R w wx) (hG:EgAt wx w.heap.size (.slice none 0 0) (.slice none 0 0) (.slice none 0 0) (.slice none 0 0)) {k:Nat} (hk:k < e.slots.length) (x:Int) (hx:(Lit.int .i64 x).wf=true) :
  EnD w (wx.setCell ⟨g,k*6,none⟩ (.int .i64 x)) R P Z ⟨e.base,e.list,e.vers,e.slots.set k ⟨x,(e.slots.getD k noSlt).tries,(e.slots.getD k noSlt).from_,(e.slots.getD k noSlt).res⟩⟩:=by
 obtain ⟨h1,h2,h3,h4,h5⟩:=hB
 exact ⟨b1,m1,d1,b2,m2,d2,b3,m3,d3,_,m4,d4,ts,B,T,hZ.keep (Below.heap_setCell _ _ _ _ (by show Z≠g;omega)),eng_stage ho hk x hx,⟨h1,h2,h3,by simpa [World.setCell] using h4,h5⟩,hr.grown (row:=some g) ⟨rfl,rfl,rfl,by simp [World.setCell],fun q _ hq=>Below.heap_setCell _ _ _ _ (fun hh=>hq (by rw [hh]))⟩ (fun q hq=>by simp only [Option.some.injEq] at hq;omega),hu.setNewE (by omega),hG.keep (Below.heap_setCell _ _ _ _ (by show w.heap.size≠g;omega))⟩
theorem getD_drop1 (L:List Slt) (i:Nat):(L.drop 1).getD i noSlt=L.getD (1+i) noSlt:=by
 rw [List.getD_eq_getElem?_getD,List.getElem?_drop,← List.getD_eq_getElem?_getD]
theorem sliS_tail {w:World} {g n c:Nat} {L:List Slt} (h:SliS w (.slice (some ⟨g,0,none⟩) n c) L) (hn:0 < n):SliS w (.slice (some ⟨g,6,none⟩) (n - 1) (c - 1)) (L.drop 1):=by
 obtain ⟨a,m,cap,he,⟨h1,h2,h3,h4⟩,-,h6⟩:=h
 simp only [Value.slice.injEq] at he
 obtain ⟨rfl,rfl,rfl⟩:=he
 refine ⟨_,_,_,rfl,⟨by rw [List.length_drop];omega,by omega,fun _=>⟨g,6,rfl,fun i hi=>?_⟩,fun s hs=>h4 s (List.mem_of_mem_drop hs)⟩,fun h=>(by cases h),by omega⟩
 obtain ⟨b,off,hb,hc⟩:=h3 (by omega)
 simp only [Option.some.injEq,Addr.mk.injEq,and_true] at hb
 obtain ⟨rfl,rfl⟩:=hb
 have:=hc (1+i) (by omega)
 rw [getD_drop1]
 rwa [show 0+(1+i)*6=6+i*6 by omega] at this
def EnX (w wx:World) (R P Z:Nat):Prop :=
 ∃ b1 m1 d1 b2 m2 d2 b3 m3 d3 b4 m4 d4 e,EgAt wx Z (.slice b1 m1 d1) (.slice b2 m2 d2) (.slice b3 m3 d3) (.slice b4 m4 d4)∧(∀ W:World,(∀ k,w.heap.size < k→k < wx.heap.size→k≠R→k≠w.heap.size→k≠Z→W.heap[k]? = wx.heap[k]?)→EngRd W (.slice b1 m1 d1) (.slice b2 m2 d2) (.slice b3 m3 d3) (.slice b4 m4 d4) e)∧EngSm e∧Rd wx R P∧Upd R w wx∧EgAt wx w.heap.size (.slice none 0 0) (.slice none 0 0) (.slice none 0 0) (.slice none 0 0)∧w.heap.size < Z∧R < w.heap.size
theorem enX_tail {w wx:World} {R P Z:Nat} {b1 b2 b3:Option Addr} {m1 d1 m2 d2 m3 d3 m4 d4 B T g:Nat} {e:Eng} {ts:List (Value × Value × Value)} (hZ:EgAt wx Z (.slice b1 m1 d1) (.slice b2 m2 d2) (.slice b3 m3 d3) (.slice (some ⟨g,0,none⟩) m4 d4)) (ho:EngOwn wx B T tEng (.slice b1 m1 d1) (.slice b2 m2 d2) (.slice b3 m3 d3) (.slice (some ⟨g,0,none⟩) m4 d4) e ts)
  (hB:R < B∧Z < B∧w.heap.size < Z∧T≤wx.heap.size∧R < w.heap.size) (hr:Rd wx R P) (hu:Upd R w wx) (hG:EgAt wx w.heap.size (.slice none 0 0) (.slice none 0 0) (.slice none 0 0) (.slice none 0 0)) (hn:0 < m4) (hs:EngSm e) :
  EnX w (wx.setCell ⟨Z,3,none⟩ (.slice (some ⟨g,6,none⟩) (m4 - 1) (d4 - 1))) R P Z:=by
 obtain ⟨h1,h2,h3,h4,h5⟩:=hB
 refine ⟨b1,m1,d1,b2,m2,d2,b3,m3,d3,some ⟨g,6,none⟩,m4 - 1,d4 - 1,⟨e.base,e.list,e.vers,e.slots.drop 1⟩,hZ.set3 _,fun W hW=>?_,⟨hs.base,hs.list,hs.vers,by have:=hs.slots;simp only [List.length_drop];omega,fun s hm=>hs.parts s (List.mem_of_mem_drop hm)⟩,hr.grown (row:=some Z) ⟨rfl,rfl,rfl,by simp [World.setCell],fun q _ hq=>Below.heap_setCell _ _ _ _ (fun hh=>hq (by rw [hh]))⟩ (fun q hq=>by simp only [Option.some.injEq] at hq;omega),hu.setNewE (by omega),hG.keep (Below.heap_setCell _ _ _ _ (by show w.heap.size≠Z;omega)),h3,h5⟩
 have hrd:=(⟨ho.tl,ho.own.keep fun r hr b hb=>(by
  have hge:=ho.own.ge hr hb
  refine (hW b (by omega) (by simpa [World.setCell] using hge.2.2) (by omega) (by omega) (by omega)).trans (Below.heap_setCell _ _ _ _ (by show b≠Z;omega))),ho.wf⟩:EngOwn W B T tEng _ _ _ _ e ts).rd
 exact ⟨hrd.base,hrd.list,hrd.vers,sliS_tail hrd.slots hn⟩
theorem enX_tail0 {w wx:World} {R P Z:Nat} {b1 b2 b3 b4:Option Addr} {m1 d1 m2 d2 m3 d3 m4 d4 B T g:Nat} {e:Eng} {ts:List (Value × Value × Value)} (hZ:EgAt wx Z (.slice b1 m1 d1) (.slice b2 m2 d2) (.slice b3 m3 d3) (.slice b4 m4 d4)) (ho:EngOwn wx B T tEng (.slice b1 m1 d1) (.slice b2 m2 d2) (.slice b3 m3 d3) (.slice b4 m4 d4) e ts)
  (hB:R < B∧Z < B∧w.heap.size < Z∧T≤wx.heap.size∧R < w.heap.size) (hr:Rd wx R P) (hu:Upd R w wx) (hG:EgAt wx w.heap.size (.slice none 0 0) (.slice none 0 0) (.slice none 0 0) (.slice none 0 0)) (hs:EngSm e) :
  EnX w (wx.setCell ⟨Z,3,none⟩ (.slice (some ⟨g,0,none⟩) 0 0)) R P Z:=by
 obtain ⟨h1,h2,h3,h4,h5⟩:=hB
 refine ⟨b1,m1,d1,b2,m2,d2,b3,m3,d3,some ⟨g,0,none⟩,0,0,⟨e.base,e.list,e.vers,[]⟩,hZ.set3 _,fun W hW=>?_,⟨hs.base,hs.list,hs.vers,by simp,fun s hm=>(by cases hm)⟩,hr.grown (row:=some Z) ⟨rfl,rfl,rfl,by simp [World.setCell],fun q _ hq=>Below.heap_setCell _ _ _ _ (fun hh=>hq (by rw [hh]))⟩ (fun q hq=>by simp only [Option.some.injEq] at hq;omega),hu.setNewE (by omega),hG.keep (Below.heap_setCell _ _ _ _ (by show w.heap.size≠Z;omega)),h3,h5⟩
 have hrd:=(⟨ho.tl,ho.own.keep fun r hr b hb=>(by
  have hge:=ho.own.ge hr hb
  refine (hW b (by omega) (by simpa [World.setCell] using hge.2.2) (by omega) (by omega) (by omega)).trans (Below.heap_setCell _ _ _ _ (by show b≠Z;omega))),ho.wf⟩:EngOwn W B T tEng _ _ _ _ e ts).rd
 exact ⟨hrd.base,hrd.list,hrd.vers,_,_,_,rfl,rowSl_empty _ _,fun h=>(by cases h),Nat.le_refl _⟩
theorem infoVerD:(Tryz.prog.info? 73).map (fun i=>(i.zero,i.size,i.bytes))=some (some (.agg #[.int .i64 0,.int .i64 0,.int .i64 0]),3,24):=by kernel_rfl
theorem infoEntD:(Tryz.prog.info? 43).map (fun i=>(i.zero,i.size,i.bytes))=some (some (.agg #[.int .i64 0,.int .i64 0]),2,16):=by kernel_rfl
theorem enX_of {w wx:World} {R P Z:Nat} {e:Eng} (h:EnD w wx R P Z e) (hs:EngSm e):EnX w wx R P Z:=by
 obtain ⟨b1,m1,d1,b2,m2,d2,b3,m3,d3,b4,m4,d4,ts,B,T,hZ,ho,⟨h1,h2,h3,h4,h5⟩,hr,hu,hg⟩:=h
 exact ⟨b1,m1,d1,b2,m2,d2,b3,m3,d3,b4,m4,d4,e,hZ,fun W hW=>(⟨ho.tl,ho.own.keep fun r hr b hb=>(by have:=ho.own.ge hr hb;exact hW b (by omega) this.2.2 (by omega) (by omega) (by omega)),ho.wf⟩:EngOwn W B T tEng _ _ _ _ e ts).rd,hs,hr,hu,hg,h3,h5⟩
theorem enX_fin {w wx:World} {R P Z:Nat} {b1 b2 b3 b4:Option Addr} {m1 d1 m2 d2 m3 d3 m4 d4:Nat} {e:Eng} (hk:∀ W:World,(∀ k,w.heap.size < k→k < wx.heap.size→k≠R→k≠w.heap.size→k≠Z→W.heap[k]? = wx.heap[k]?)→EngRd W (.slice b1 m1 d1) (.slice b2 m2 d2) (.slice b3 m3 d3) (.slice b4 m4 d4) e) (hs:EngSm e) (hr:Rd wx R P) (hu:Upd R w wx) (hg:EgAt wx w.heap.size (.slice none 0 0) (.slice none 0 0) (.slice none 0 0) (.slice none 0 0)) (hR:R < w.heap.size) :
  EgAt (set4 wx w.heap.size (.slice b1 m1 d1) (.slice b2 m2 d2) (.slice b3 m3 d3) (.slice b4 m4 d4)) w.heap.size (.slice b1 m1 d1) (.slice b2 m2 d2) (.slice b3 m3 d3) (.slice b4 m4 d4) ∧
  (∀ W:World,(∀ k,w.heap.size < k→k < (set4 wx w.heap.size (.slice b1 m1 d1) (.slice b2 m2 d2) (.slice b3 m3 d3) (.slice b4 m4 d4)).heap.size→k≠R→W.heap[k]? = (set4 wx w.heap.size (.slice b1 m1 d1) (.slice b2 m2 d2) (.slice b3 m3 d3) (.slice b4 m4 d4)).heap[k]?)→EngRd W (.slice b1 m1 d1) (.slice b2 m2 d2) (.slice b3 m3 d3) (.slice b4 m4 d4) e) ∧
  Rd (set4 wx w.heap.size (.slice b1 m1 d1) (.slice b2 m2 d2) (.slice b3 m3 d3) (.slice b4 m4 d4)) R P∧Upd R w (set4 wx w.heap.size (.slice b1 m1 d1) (.slice b2 m2 d2) (.slice b3 m3 d3) (.slice b4 m4 d4)):=by
 have hG:=set4_grown wx w.heap.size (.slice b1 m1 d1) (.slice b2 m2 d2) (.slice b3 m3 d3) (.slice b4 m4 d4)
 refine ⟨hg.set4 _ _ _ _,fun W hW=>hk W (fun k hk0 hk1 hk2 hk3 hk4=>?_),hr.grown hG (fun k hk=>by simp only [Option.some.injEq] at hk;omega),set4_upd hu (Nat.le_refl _)⟩
 exact (hW k hk0 (Nat.lt_of_lt_of_le hk1 hG.size) hk2).trans (hG.block k hk1 (fun h=>hk3 (by simpa using h)))
theorem engSm_more {e:Eng} (h:EngOk e):e.vers.length≤320∧∀ s∈e.slots,s.res.rds.length≤2:=by
 refine ⟨by have:=vers_len h.vok;omega,fun s hs=>?_⟩
 obtain ⟨k,hk,rfl⟩:=List.getElem_of_mem hs
 have hg:e.slots.getD k noSlt=e.slots[k]:=by rw [List.getD_eq_getElem?_getD,List.getElem?_eq_getElem hk];rfl
 have hsl:=h.slot k hk
 rw [hg] at hsl
 by_cases h0:(e.slots[k]).stage=0
 · rw [(slot_new hsl h0).1];simp [noEff]
 · have hact:=h.act hk
   have hso:=slot_old hact hsl h0
   have hrl:(readsM (e.list.getD k noA)).length≤2:=by
    rcases reads_form (e.list.getD k noA) with hf | ⟨x,hf⟩ | ⟨x,y,-,hf⟩ <;> rw [hf] <;> simp
   rw [hso.rds,List.length_map];omega
def EnC (w wx:World) (R P Z B T:Nat) (x1 x2 x3 x4:Value) (e:Eng) (ts:List (Value × Value × Value)):Prop :=
 EgAt wx Z x1 x2 x3 x4∧EngOwn wx B T tEng x1 x2 x3 x4 e ts∧(R < B∧Z < B∧w.heap.size < Z∧T≤wx.heap.size∧R < w.heap.size)∧Rd wx R P∧Upd R w wx∧EgAt wx w.heap.size (.slice none 0 0) (.slice none 0 0) (.slice none 0 0) (.slice none 0 0)
theorem EnC.upd {w wx w':World} {R P P' Z B T:Nat} {x1 x2 x3 x4:Value} {e:Eng} {ts:List (Value × Value × Value)} (h:EnC w wx R P Z B T x1 x2 x3 x4 e ts) (hu:Upd R wx w') (hr:Rd w' R P'):EnC w w' R P' Z B T x1 x2 x3 x4 e ts:=by
 obtain ⟨hZ,ho,⟨h1,h2,h3,h4,h5⟩,hr0,hu0,hg⟩:=h
 exact ⟨hZ.upd hu (by omega),ho.upd hu h1,⟨h1,h2,h3,Nat.le_trans h4 hu.size,h5⟩,hr,hu0.trans hu,hg.upd hu (by omega)⟩
theorem EnC.alloc {w wx:World} {R P Z B T:Nat} {x1 x2 x3 x4:Value} {e:Eng} {ts:List (Value × Value × Value)} (h:EnC w wx R P Z B T x1 x2 x3 x4 e ts) (o:Obj):EnC w (wx.alloc o) R P Z B T x1 x2 x3 x4 e ts :=
 h.upd ((Upd.refl R wx).alloc o) (h.2.2.2.1.alloc o)
theorem EnC.far {w wx w':World} {R P Z B T:Nat} {x1 x2 x3 x4:Value} {e:Eng} {ts:List (Value × Value × Value)} {q:Option Nat} (h:EnC w wx R P Z B T x1 x2 x3 x4 e ts) (hg:wx.grownBy w' q) (hq:∀ k,q=some k→B≤k) :
  EgAt w' Z x1 x2 x3 x4∧Rd w' R P∧Upd R w w'∧EgAt w' w.heap.size (.slice none 0 0) (.slice none 0 0) (.slice none 0 0) (.slice none 0 0):=by
 obtain ⟨hZ,ho,⟨h1,h2,h3,h4,h5⟩,hr,hu,hG⟩:=h
 have hwz:=hZ.lt
 refine ⟨hZ.grown hg (fun e=>by have:=hq Z e.symm;omega),hr.grown hg (fun k e=>by have:=hq k e;omega),⟨hg.os.trans hu.os,hg.tape.trans hu.tape,hg.output.trans hu.output,Nat.le_trans hu.size hg.size,fun k hk hkr=>(hg.block k (Nat.lt_of_lt_of_le hk hu.size) (fun e=>by have:=hq k e.symm;omega)).trans (hu.block k hk hkr)⟩,hG.grown hg (fun e=>by have:=hq _ e.symm;omega)⟩
theorem EnC.stage {w wx:World} {R P Z B T:Nat} {b1 b2 b3:Option Addr} {m1 d1 m2 d2 m3 d3 m4 d4 g:Nat} {e:Eng} {ts:List (Value × Value × Value)} (h:EnC w wx R P Z B T (.slice b1 m1 d1) (.slice b2 m2 d2) (.slice b3 m3 d3) (.slice (some ⟨g,0,none⟩) m4 d4) e ts) (hg:B≤g) {k:Nat} (hk:k < e.slots.length) (x:Int) (hx:(Lit.int .i64 x).wf=true) :
  EnD w (wx.setCell ⟨g,k*6,none⟩ (.int .i64 x)) R P Z ⟨e.base,e.list,e.vers,e.slots.set k ⟨x,(e.slots.getD k noSlt).tries,(e.slots.getD k noSlt).from_,(e.slots.getD k noSlt).res⟩⟩ :=
 enD_stage (b4:=none) h.1 h.2.1 h.2.2.1 hg h.2.2.2.1 h.2.2.2.2.1 h.2.2.2.2.2 hk x hx
theorem EnC.tries {w wx:World} {R P Z B T:Nat} {b1 b2 b3:Option Addr} {m1 d1 m2 d2 m3 d3 m4 d4 g:Nat} {e:Eng} {ts:List (Value × Value × Value)} (h:EnC w wx R P Z B T (.slice b1 m1 d1) (.slice b2 m2 d2) (.slice b3 m3 d3) (.slice (some ⟨g,0,none⟩) m4 d4) e ts) (hg:B≤g) {k:Nat} (hk:k < e.slots.length) (x:Int) (hx:(Lit.int .i64 x).wf=true) :
  EnD w (wx.setCell ⟨g,k*6+1,none⟩ (.int .i64 x)) R P Z ⟨e.base,e.list,e.vers,e.slots.set k ⟨(e.slots.getD k noSlt).stage,x,(e.slots.getD k noSlt).from_,(e.slots.getD k noSlt).res⟩⟩:=by
 have ho:=eng_tries h.2.1 hk x hx
 obtain ⟨hZ,-,⟨h1,h2,h3,h4,h5⟩,hr,hu,hG⟩:=h
 exact ⟨b1,m1,d1,b2,m2,d2,b3,m3,d3,_,m4,d4,ts,B,T,hZ.keep (Below.heap_setCell _ _ _ _ (by show Z≠g;omega)),ho,⟨h1,h2,h3,by simpa [World.setCell] using h4,h5⟩,hr.grown (row:=some g) ⟨rfl,rfl,rfl,by simp [World.setCell],fun q _ hq=>Below.heap_setCell _ _ _ _ (fun hh=>hq (by rw [hh]))⟩ (fun q hq=>by simp only [Option.some.injEq] at hq;omega),hu.setNewE (by omega),hG.keep (Below.heap_setCell _ _ _ _ (by show w.heap.size≠g;omega))⟩
theorem EnC.vers {w wx w':World} {R P Z B T:Nat} {b1 b2 b3 b4:Option Addr} {m1 d1 m2 d2 m3 d3 m4 d4:Nat} {e:Eng} {ts:List (Value × Value × Value)} {v':Value} (h:EnC w wx R P Z B T (.slice b1 m1 d1) (.slice b2 m2 d2) (.slice b3 m3 d3) (.slice b4 m4 d4) e ts) (y:Ver)
  (ho:w'.ownsRow B tEng.tV 3 v' (e.vers.length+1) (flatV e.vers++flatV [y])) (hg:wx.grownBy w' (Value.slice b3 m3 d3).ownBlock) (hloc:v'.ownBlock=(Value.slice b3 m3 d3).ownBlock∨v'.ownBlock=some wx.heap.size) (hy:WfV y) (hl:e.vers.length+1≤4000000) :
  EnD w (w'.setCell ⟨Z,2,none⟩ v') R P Z ⟨e.base,e.list,e.vers++[y],e.slots⟩:=by
 obtain ⟨b,m,d,rfl⟩:=slice_form ho
 have hE:=eng_vers_app h.2.1 y ho hg hloc hy hl
 obtain ⟨f1,f2,f3,f4⟩:=h.far hg (fun k hk=>by
  have hm:(⟨.slice b3 m3 d3,tEng.tV,3,e.vers.length,flatV e.vers⟩:Rw)∈engRs tEng (.slice b1 m1 d1) (.slice b2 m2 d2) (.slice b3 m3 d3) (.slice b4 m4 d4) e ts:=by simp [engRs]
  exact (h.2.1.own.ge hm (by rw [owns_blk (h.2.1.own.own _ hm)];exact hk)).1)
 obtain ⟨-,-,⟨h1,h2,h3,h4,h5⟩,-,-,-⟩:=h
 exact ⟨b1,m1,d1,b2,m2,d2,b,m,d,b4,m4,d4,ts,B,w'.heap.size,f1.set2 _,hE.storeZ (fun r hr hb=>by have:=(hE.own.ge hr hb).1;omega) 2 _,⟨h1,h2,h3,by simp [World.setCell],h5⟩,f2.grown (row:=some Z) ⟨rfl,rfl,rfl,by simp [World.setCell],fun q _ hq=>Below.heap_setCell _ _ _ _ (fun hh=>hq (by rw [hh]))⟩ (fun q hq=>by simp only [Option.some.injEq] at hq;omega),f3.setNewE (by omega),f4.keep (Below.heap_setCell _ _ _ _ (by show w.heap.size≠Z;omega))⟩
theorem EnC.rds {w wx w':World} {R P Z B T:Nat} {b1 b2 b3:Option Addr} {m1 d1 m2 d2 m3 d3 m4 d4 g:Nat} {e:Eng} {ts:List (Value × Value × Value)} {v':Value} (h:EnC w wx R P Z B T (.slice b1 m1 d1) (.slice b2 m2 d2) (.slice b3 m3 d3) (.slice (some ⟨g,0,none⟩) m4 d4) e ts) (hgB:B≤g) {k:Nat} (hk:k < e.slots.length) (y:Ent)
  (ho:w'.ownsRow B tEng.tE 2 v' ((e.slots.getD k noSlt).res.rds.length+1) (flatE (e.slots.getD k noSlt).res.rds++flatE [y])) (hg:wx.grownBy w' (ts.getD k (undef,undef,undef)).2.1.ownBlock)
  (hloc:v'.ownBlock=(ts.getD k (undef,undef,undef)).2.1.ownBlock∨v'.ownBlock=some wx.heap.size) (hy:(Lit.int .i64 y.1).wf=true∧(Lit.int .i64 y.2).wf=true) (hl:(e.slots.getD k noSlt).res.rds.length+1≤4000000) :
  EnD w (w'.setCell ⟨g,k*6+4,none⟩ v') R P Z ⟨e.base,e.list,e.vers,e.slots.set k ⟨(e.slots.getD k noSlt).stage,(e.slots.getD k noSlt).tries,(e.slots.getD k noSlt).from_,⟨(e.slots.getD k noSlt).res.done,(e.slots.getD k noSlt).res.rds++[y],(e.slots.getD k noSlt).res.wrs⟩⟩⟩:=by
 have hE:=eng_rds_app h.2.1 hk y ho hg hloc hy hl
 obtain ⟨f1,f2,f3,f4⟩:=h.far hg (fun q hq=>((slot_rds h.2.1 hk).2 q hq).1)
 obtain ⟨-,-,⟨h1,h2,h3,h4,h5⟩,-,-,-⟩:=h
 exact ⟨b1,m1,d1,b2,m2,d2,b3,m3,d3,some ⟨g,0,none⟩,m4,d4,_,B,w'.heap.size,f1.keep (Below.heap_setCell _ _ _ _ (by show Z≠g;omega)),hE,⟨h1,h2,h3,by simp [World.setCell],h5⟩,f2.grown (row:=some g) ⟨rfl,rfl,rfl,by simp [World.setCell],fun q _ hq=>Below.heap_setCell _ _ _ _ (fun hh=>hq (by rw [hh]))⟩ (fun q hq=>by simp only [Option.some.injEq] at hq;omega),f3.setNewE (by omega),f4.keep (Below.heap_setCell _ _ _ _ (by show w.heap.size≠g;omega))⟩
theorem EnC.rd {w wx:World} {R P Z B T:Nat} {x1 x2 x3 x4:Value} {e:Eng} {ts:List (Value × Value × Value)} (h:EnC w wx R P Z B T x1 x2 x3 x4 e ts):Rd wx R P:=h.2.2.2.1
theorem EnC.drew {w wx:World} {R P Z B T:Nat} {x1 x2 x3 x4:Value} {e:Eng} {ts:List (Value × Value × Value)} (h:EnC w wx R P Z B T x1 x2 x3 x4 e ts):EnC w wx.drew R P Z B T x1 x2 x3 x4 e ts :=
 h.upd ((Upd.refl R wx).drew) h.2.2.2.1.drew
theorem EnC.cells {w wx:World} {R P Z B T g m4 d4:Nat} {x1 x2 x3:Value} {e:Eng} {ts:List (Value × Value × Value)} (h:EnC w wx R P Z B T x1 x2 x3 (.slice (some ⟨g,0,none⟩) m4 d4) e ts) {k:Nat} (hk:k < e.slots.length) :
  wx.cell? ⟨Z,3,none⟩=some (.slice (some ⟨g,0,none⟩) m4 d4)∧(∃ v,wx.cell? ⟨g,k*6,none⟩=some v)∧(∃ v,wx.cell? ⟨g,k*6+1,none⟩=some v)∧wx.cell? ⟨g,k*6+4,none⟩=some (ts.getD k (undef,undef,undef)).2.1∧wx.frozen? ⟨g,k*6,none⟩=false∧wx.frozen? ⟨g,k*6+1,none⟩=false∧wx.frozen? ⟨g,k*6+4,none⟩=false:=by
 obtain ⟨hZ,ho,-⟩:=h
 obtain ⟨g',he,-,-,hf,hc⟩:=slot_cells ho hk
 simp only [Option.some.injEq,Addr.mk.injEq,and_true] at he
 subst he
 exact ⟨hZ.c3,hc 0 (by omega),hc 1 (by omega),slot_rds_cell ho hk,hf _,hf _,hf _⟩
theorem EnC.cells2 {w wx w':World} {R P Z B T g m4 d4:Nat} {x1 x2 x3:Value} {e:Eng} {ts:List (Value × Value × Value)} (h:EnC w wx R P Z B T x1 x2 x3 (.slice (some ⟨g,0,none⟩) m4 d4) e ts) {k:Nat} (hk:k < e.slots.length) (hg:wx.grownBy w' (ts.getD k (undef,undef,undef)).2.1.ownBlock) :
  w'.cell? ⟨Z,3,none⟩=some (.slice (some ⟨g,0,none⟩) m4 d4)∧w'.cell? ⟨g,k*6+4,none⟩=some (ts.getD k (undef,undef,undef)).2.1∧w'.frozen? ⟨g,k*6+4,none⟩=false:=by
 have hc:=h.cells hk
 obtain ⟨f1,-⟩:=h.far hg (fun q hq=>((slot_rds h.2.1 hk).2 q hq).1)
 have hng:some g≠(ts.getD k (undef,undef,undef)).2.1.ownBlock:=slot_rds_ne h.2.1 hk
 have hlt:=World.block_lt_of_cell? wx ⟨g,k*6+4,none⟩ hc.2.2.2.1
 have hb:=hg.block g hlt hng
 exact ⟨f1.c3,(World.cell?_of_block (a:=⟨g,k*6+4,none⟩) hb).trans hc.2.2.2.1,(World.frozen?_of_block (a:=⟨g,k*6+4,none⟩) hb).trans hc.2.2.2.2.2.2⟩
theorem enX_done {w wx:World} {R P P' Z:Nat} {e:Eng} (h:EnD w wx R P' Z e) (hP:P'≤P) (hs:EngSm e):EnX w wx R P Z:=by
 obtain ⟨b1,m1,d1,b2,m2,d2,b3,m3,d3,b4,m4,d4,ts,B,T,hZ,ho,hsz,hr,hu,hg⟩:=h
 exact enX_of (P:=P) ⟨b1,m1,d1,b2,m2,d2,b3,m3,d3,b4,m4,d4,ts,B,T,hZ,ho,hsz,hr.mono hP,hu,hg⟩ hs
theorem EnC.rdsX {w wx:World} {R P Z B T:Nat} {b1 b2 b3:Option Addr} {m1 d1 m2 d2 m3 d3 m4 d4 g:Nat} {e:Eng} {ts:List (Value × Value × Value)} (h:EnC w wx R P Z B T (.slice b1 m1 d1) (.slice b2 m2 d2) (.slice b3 m3 d3) (.slice (some ⟨g,0,none⟩) m4 d4) e ts) (hgB:B≤g) {k:Nat} (hk:k < e.slots.length) (hs:EngSm e) (hm:∀ s∈e.slots,s.res.rds.length≤2)
  {vr:Value} (hvr:vr=(ts.getD k (undef,undef,undef)).2.1) {RD:List Ent} (hRD:RD=(e.slots.getD k noSlt).res.rds) {Q:Nat} (hQ:P≤Q) (o:Obj) (v':Value) (w':World)
  (h1:w'.ownsRow B 43 2 v' (RD.length+1) (flatE RD++[.int .i64 0,.int .i64 0])) (h2:(wx.alloc o).grownBy w' vr.ownBlock) (h3:v'.ownBlock=vr.ownBlock∨v'.ownBlock=some (wx.heap.size+1)) :
  (w'.cell? ⟨Z,3,none⟩=some (.slice (some ⟨g,0,none⟩) m4 d4)∧w'.cell? ⟨g,k*6+3+1,none⟩=some vr∧w'.frozen? ⟨g,k*6+3+1,none⟩=false)∧EnX w (w'.setCell ⟨g,k*6+3+1,none⟩ v') R Q Z:=by
 subst hvr hRD
 have hrl:=hm _ (getD_memS _ _ hk)
 have hpt:=hs.parts _ (getD_memS _ _ hk)
 have hnd:=(h.alloc o).rds hgB hk (0,0) h1 h2 (by rw [World.size_alloc];exact h3) ⟨rfl,rfl⟩ (by omega)
 exact ⟨(h.alloc o).cells2 hk h2,enX_done hnd hQ (engSm_set hs ⟨hpt.1,by simp only [List.length_append,List.length_cons,List.length_nil];omega,hpt.2.2⟩)⟩
theorem lit_at4 {w:World} {T:TypeId} {p q r t:Int} {x:Int} (h0:0≤x) (h1:x < 4) :
  ∃ y,(w.alloc (.cells #[.int .i64 p,.int .i64 q,.int .i64 r,.int .i64 t] T)).cell? ⟨w.heap.size,x.toNat,none⟩=some (.int .i64 y)∧(#[Value.int .i64 p,.int .i64 q,.int .i64 r,.int .i64 t]:Array Value)[x.toNat]? = some (.int .i64 y)∧(y=p∨y=q∨y=r∨y=t):=by
 rcases (by omega:x=0∨x=1∨x=2∨x=3) with rfl | rfl | rfl | rfl
 · exact ⟨p,by simp [go_sem],by simp,.inl rfl⟩
 · exact ⟨q,by simp [go_sem],by simp,.inr (.inl rfl)⟩
 · exact ⟨r,by simp [go_sem],by simp,.inr (.inr (.inl rfl))⟩
 · exact ⟨t,by simp [go_sem],by simp,.inr (.inr (.inr rfl))⟩
theorem pick_lit4 {w6 w7:World} {R:Nat} {T:TypeId} {p q r t:Int} (hu:Upd R (w6.alloc (.cells #[.int .i64 p,.int .i64 q,.int .i64 r,.int .i64 t] T)).drew w7) (hR:R < w6.heap.size) {x:Int} (h0:0≤x) (h1:x < 4) :
  ∃ y,w7.cell? ⟨w6.heap.size,x.toNat,none⟩=some (.int .i64 y)∧(y=p∨y=q∨y=r∨y=t):=by
 obtain ⟨y,hy,-,hd⟩:=lit_at4 (w:=w6) (T:=T) (p:=p) (q:=q) (r:=r) (t:=t) h0 h1
 exact ⟨y,hu.cell (w:=(w6.alloc (.cells #[.int .i64 p,.int .i64 q,.int .i64 r,.int .i64 t] T)).drew) hy (by show w6.heap.size≠R;omega),hd⟩
set_option maxRecDepth 100000 in
set_option maxHeartbeats 8000000 in
theorem l20Engine_any (R P:Nat) (n:Int) (w:World) (h:Rd w R P) (hP:P≤500000) (hn0:0≤n) (hn:n≤1000) :
  Calls Tryz.prog 110 #[.pointer (some ⟨R,0,none⟩),.int .i64 n] w (DrawEn w R P 400):=by
 have hRw:=h.lt
 have HRW:=Lib.hid hRw
 have HG0:=Lib.hid (egAt_new w 57 (.slice none 0 0) (.slice none 0 0) (.slice none 0 0) (.slice none 0 0))
 go_enter Tryz.func110,Tryz.ntmps110
 go_wp2_with fail
 refine (l20Store_any R P 0 _ (h.alloc _) (by omega) (by omega) (by omega)).mono ?_;rintro e w2 ⟨v0,S,rfl,hoS,hwS,hSl,hr2,hu2⟩
 obtain ⟨g0,c0,rfl,hg0,hrS⟩:=rowE_of_own hoS (by omega) hwS
 have hu02:=((Upd.refl R w).alloc _).trans hu2
 have HG2:=Lib.hid (HG0.out.upd hu2 (by omega))
 clear h hoS
 go_wp2_with fail
 refine (l20Actions_any R _ 0 _ hr2 (by omega) (by omega) (by omega)).mono ?_;rintro e w3 ⟨v3,L,rfl,hoL,hwL,hLl,hr3,hu3⟩
 obtain ⟨g1,c1,rfl,hg1,-,hrL,-⟩:=rowA_of_own hoL (by omega) hwL
 have hrS3:=hrS.grown hu3 (by simp at hg0 ⊢;omega)
 have hu03:=hu02.trans hu3
 have HG3:=Lib.hid (HG2.out.upd hu3 (by omega))
 clear hr2 hrS hu2 hu3 hu02 hoL HG2 HG0
 go_wp2_with fail
 refine (engineOf_spec _ _ c0 S _ _ c1 L w3 hrS3 (by intro h;cases h) hrL (by intro h;cases h)).mono ?_;rintro e w4 ⟨x1,x2,x3,x4,ts,rfl,ho4,hb4⟩
 obtain ⟨b1,m1,d1,b2,m2,d2,b3,m3,d3,b4,m4,d4,rfl,rfl,rfl,rfl⟩:=newEng_formS ho4
 go_upto_region 2 with (fail)
 have HO4:=Lib.hid ho4
 have HS3:Hid (R < w3.heap.size∧w.heap.size+1≤w3.heap.size):=Lib.hid (by have:=HG3.out.lt;omega)
 have HU4:=Lib.hid (hu03.trans (Upd.ofBelow R hb4))
 have HR4:=Lib.hid (hr3.below hb4)
 have HG4:=Lib.hid (HG3.out.below hb4)
 clear hrS3 hrL hr3 hu03 ho4 hb4 HG3 hg0 hg1 hwS hwL
 generalize hw5:World.alloc _ _=w5
 have hb5:Below w4.heap.size w4 w5:=by rw [← hw5];exact (Below.refl _ _).alloc (Nat.le_refl _) _
 have HZ5:Hid (EgAt w5 w4.heap.size (.slice b1 m1 d1) (.slice b2 m2 d2) (.slice b3 m3 d3) (.slice b4 m4 d4)):=Lib.hid (by rw [← hw5];exact egAt_new w4 _ _ _ _ _)
 have HO5:=Lib.hid (HO4.out.below hb5)
 have HU5:=Lib.hid (HU4.out.trans (Upd.ofBelow R hb5))
 have hr5:=HR4.out.below hb5
 have HG5:=Lib.hid (HG4.out.below hb5)
 have HSZ:Hid (w.heap.size < w4.heap.size∧R≠w4.heap.size∧R < w4.heap.size):=Lib.hid (by have:=HG4.out.lt;refine ⟨this,?_,?_⟩ <;> omega)
 obtain ⟨Z5,hZ5⟩:∃ Z,Z=w4.heap.size:=⟨_,rfl⟩
 rw [← hZ5] at HZ5 HSZ ⊢
 clear hw5 hb5 HO4 HU4 HR4 HG4 hZ5
 obtain ⟨e0,he0⟩:∃ x,x=engOfM S L:=⟨_,rfl⟩
 have hml:m2≤1000:=by
  have h1:=engOf_list S L
  obtain ⟨-,⟨q2,k2,f2,hq,hr,-⟩,-⟩:=HO5.out.rd
  simp only [Value.slice.injEq] at hq
  have:=hr.1;omega
 rw [← he0] at HO5
 have HSC:=Lib.hid (l20Script_any R _ m2 w5.drew hr5.drew (by omega) hml)
 have HRUN:=Lib.hid (fun (w6:World) (hu:Upd R w5.drew w6) (l:List Int) (g c:Nat) (hri:RowI w6 (some ⟨g,0,none⟩) l.length l)=>engineRun_spec (.slice b1 m1 d1) (.slice b2 m2 d2) (.slice b3 m3 d3) (.slice b4 m4 d4) e0 (some ⟨g,0,none⟩) l.length c l w6 ((HO5.out.below (Below.refl _ _).drew).upd hu HS3.out.1).rd hri)
 obtain ⟨y0,y1,y2,y3,f0,f1,f2,f3⟩:=HZ5.out
 have hza:=HZ5.out.lt
 have hzR:Z5≠R:=fun h=>HSZ.out.2.1 h.symm
 have HKU:=Lib.hid (fun (w6:World) (hu:Upd R w5.drew w6)=>(⟨hu.cell (w:=w5.drew) y0 hzR,hu.cell (w:=w5.drew) y1 hzR,hu.cell (w:=w5.drew) y2 hzR,hu.cell (w:=w5.drew) y3 hzR⟩:(_∧_∧_∧_)))
 have HML:=Lib.hid hml
 clear hza hml he0
 have HGR:=Lib.hid (fun (w6:World) (hu:Upd R w5.drew w6)=>(⟨(HG5.out.below (Below.refl _ _).drew).upd hu (Nat.ne_of_gt HRW.out),HU5.out.drew.trans hu,Nat.lt_of_lt_of_le HZ5.out.lt hu.size⟩:EgAt w6 w.heap.size (.slice none 0 0) (.slice none 0 0) (.slice none 0 0) (.slice none 0 0)∧Upd R w w6∧Z5 < w6.heap.size))
 go_cut [5] (fun s5 wx=>s5 = .pointer (some ⟨Z5,0,none⟩)∧∃ e,EngOk e∧EnD w wx R (P+250) Z5 e)
 case first =>
  have HY:=Lib.hid (Upd.refl R w5.drew)
  obtain ⟨yd0,yd1,yd2,yd3⟩:=HKU.out _ HY.out
  go_region_law
   (first
    | (go_simp;go_at_call 122;(with_reducible refine HSC.out.mono ?_);rintro e6 w6 ⟨vs,l,rfl,hos,hlb,hll,hr6,hu6⟩;obtain ⟨gs,cs,hvs,-,-,hri⟩:=rowI_of_own hos (by omega) (fun x hx=>WalkArith.wf_i64 (by have:=hlb x hx;have:=HML.out;omega));subst hvs;obtain ⟨yk0,yk1,yk2,yk3⟩:=HKU.out _ hu6)
    | (go_simp;go_at_call 54;(with_reducible refine (HRUN.out _ hu6 l gs cs hri).mono ?_);rintro e7 w7 ⟨u1,u2,u3,u4,ts7,rfl,ho7,hb7⟩;obtain ⟨p1,r1,s1,p2,r2,s2,p3,r3,s3,p4,r4,s4,rfl,rfl,rfl,rfl⟩:=newEng_formS ho7;have hz7:=(HZ5.out.below (Below.refl _ _).drew).upd (hu6.trans (Upd.ofBelow R hb7)) hzR;obtain ⟨zz0,zz1,zz2,zz3,zf0,zf1,zf2,zf3⟩:=id hz7))
  all_goals
   have hgr:=HGR.out _ hu6
   have hend:=enD_set (R:=R) (hr6.mono (P':=P+250) (by omega)) hb7 hgr.2.1 hz7 ho7 hgr.2.2 HRW.out HSZ.out.1 hgr.1
   go_wp2_with fail
   go_meet
   exact ⟨rfl,_,eRunM_ok _ _,hend⟩
 case rest =>
  obtain ⟨rfl,e1,hok,hen⟩:=hcut
  clear HSC HRUN HKU HGR HU5 hr5 HG5 HO5 HZ5 HML y0 y1 y2 y3 f0 f1 f2 f3
  go_upto_region 3 with (fail)
  go_cut [5,30] (fun s5 s30 wx=>s5 = .pointer (some ⟨Z5,0,none⟩)∧∃ x:Bool,s30 = .bool x∧∃ e,EngOk e∧EnD w wx R (P+251) Z5 e∧(x=true→0 < e.slots.length))
  case first =>
   have HOK:=Lib.hid hok
   obtain ⟨b1,m1,d1,b2,m2,d2,b3,m3,d3,b4,m4,d4,ts,B,T,hZ,ho,hsz,hr,hu,hg⟩:=hen
   have HZ:=Lib.hid hZ
   have HO:=Lib.hid ho
   have HB:=Lib.hid hsz
   have HU:=Lib.hid hu
   have HG:=Lib.hid hg
   clear hok hZ ho hsz hu hg
   go_wp2_with fail
   refine (odd_any R _ n _ hr (by omega) (by omega) hn0).mono ?_;rintro e8 w8 ⟨x,rfl,hr8,hu8⟩
   have hne:Z5≠R:=by have:=HB.out;omega
   have HZ8:=Lib.hid (HZ.out.upd hu8 hne)
   have HO8:=Lib.hid (HO.out.upd hu8 HB.out.1)
   have HG8:=Lib.hid (HG.out.upd hu8 (by have:=HRW.out;omega))
   have HU8:=Lib.hid (HU.out.trans hu8)
   have HT8:Hid (T≤w8.heap.size):=Lib.hid (Nat.le_trans HB.out.2.2.2.1 hu8.size)
   have HD8:Hid (EnD w w8 R (P+251) Z5 e1):=Lib.hid ⟨b1,m1,d1,b2,m2,d2,b3,m3,d3,b4,m4,d4,ts,B,T,HZ8.out,HO8.out,⟨HB.out.1,HB.out.2.1,HB.out.2.2.1,HT8.out,HRW.out⟩,hr8,HU8.out,HG8.out⟩
   have HM4:Hid (m4=e1.slots.length):=Lib.hid (by
    obtain ⟨-,-,-,q4,k4,f4,hq,hrr,-⟩:=HO8.out.rd
    simp only [Value.slice.injEq] at hq
    rw [hq.2.1];exact hrr.1.symm)
   clear hr hu8 hr8 HZ HO HU HG
   obtain ⟨y0,y1,y2,y3,-,-,-,-⟩:=HZ8.out
   cases x with
   | false =>
    go_wp2_with fail
    go_meet
    exact ⟨rfl,false,rfl,e1,HOK.out,HD8.out,fun h=>by cases h⟩
   | true =>
    by_cases h4:0 < m4
    · have t4:decide ((0:Int) < (m4:Int))=true:=by simp;omega
      have t5:decide (0 < m4)=true:=by simp;omega
      go_wp2_with fail
      go_meet
      exact ⟨rfl,true,rfl,e1,HOK.out,HD8.out,fun _=>by rw [← HM4.out];exact h4⟩
    · have t4:decide ((0:Int) < (m4:Int))=false:=by simp;omega
      have t5:decide (0 < m4)=false:=by simp;omega
      go_wp2_with fail
      go_meet
      exact ⟨rfl,false,rfl,e1,HOK.out,HD8.out,fun h=>by cases h⟩
  case rest =>
   obtain ⟨rfl,x,rfl,e2,hok2,hen2,hx2⟩:=hcut
   clear hok hen
   have HEN:=Lib.hid hen2
   have HSM:=Lib.hid (OwnR.len4 hok2)
   have HSV:=Lib.hid (engSm_more hok2)
   go_upto_if 30 with (fail)
   go_cut [5] (fun s5 wx=>s5 = .pointer (some ⟨Z5,0,none⟩)∧EnX w wx R (P+400) Z5)
   case first =>
    cases x with
    | false =>
     go_wp2_with fail
     go_meet
     refine ⟨rfl,enX_of (P:=P+400) (?_:EnD w _ R (P+400) Z5 e2) HSM.out⟩
     obtain ⟨b1,m1,d1,b2,m2,d2,b3,m3,d3,b4,m4,d4,ts,B,T,hZ,ho,hsz,hr,hu,hg⟩:=HEN.out
     exact ⟨b1,m1,d1,b2,m2,d2,b3,m3,d3,b4,m4,d4,ts,B,T,hZ,ho,hsz,hr.mono (by omega),hu,hg⟩
    | true =>
     have h0:=hx2 rfl
     have HX2:=Lib.hid h0
     obtain ⟨b1,m1,d1,b2,m2,d2,b3,m3,d3,b4,m4,d4,ts,B,T,hZ,ho,hsz,hr,hu,hg⟩:=id hen2
     obtain ⟨gg,rfl,hm4,-,-,-⟩:=slot_cells ho h0
     obtain ⟨y0,y1,y2,y3,-,-,-,-⟩:=hZ
     have hl10:=HSM.out.slots
     have hp1:(m4:Int)≤1000000:=by omega
     have hp2:1≤(m4:Int):=by omega
     have HPK:=Lib.hid (pick_pos R _ (m4:Int) wc hr (by omega) hp1 hp2)
     have HM4:=Lib.hid hm4
     clear ho hsz hu hg hok2 h0 hx2 hm4 hl10 hp1 hp2 hr hen2
     go_upto_region 4 with (fail)
     go_wp2_with fail
     refine HPK.out.mono ?_;rintro e8 w8 ⟨xk,rfl,hk0,hk1,hr8,hu8⟩
     obtain ⟨k,rfl⟩:∃ k:Nat,xk=(k:Int):=⟨xk.toNat,by omega⟩
     have HP5:=Lib.hid (pick_pos R _ 5 w8 hr8 (by omega) (by omega) (by omega))
     have HD8:=Lib.hid (enD_upd HEN.out hu8 hr8)
     have HK:Hid (k < e2.slots.length):=Lib.hid (by rw [← HM4.out];omega)
     clear y0 y1 y2 y3 hr8 hu8 hk0 hk1 HPK HEN HM4
     go_upto_region 5 with (fail)
     go_wp2_with fail
     refine HP5.out.mono ?_;rintro e9 w9 ⟨x5,rfl,hx0,hx1,hr9,hu9⟩
     have HD9:=Lib.hid (enD_upd HD8.out hu9 hr9)
     clear HP5 HD8 hr9 hu9
     obtain ⟨b1,m1,d1,b2,m2,d2,b3,m3,d3,b4,m4,d4,ts,B,T,hC⟩:=HD9.out
     obtain ⟨gg,rfl,hm4,hgb,-,-⟩:=slot_cells hC.2.1 HK.out
     have HC:=Lib.hid (show EnC w w9 R (P+251+1+1) Z5 B T (.slice b1 m1 d1) (.slice b2 m2 d2) (.slice b3 m3 d3) (.slice (some ⟨gg,0,none⟩) m4 d4) e2 ts from hC)
     have HGB:=Lib.hid hgb.1
     have hkm:k < m4:=by rw [hm4];exact HK.out
     have HKM:=Lib.hid hkm
     have HPT:=Lib.hid (HSM.out.parts _ (getD_memS _ _ HK.out))
     have HMR:=Lib.hid (HSV.out.2 _ (getD_memS _ _ HK.out))
     clear hC hgb hm4 HD9 hkm
     rcases (by omega:x5=0∨x5=1∨x5=2∨x5=3∨x5=4) with rfl | rfl | rfl | rfl | rfl
     all_goals clear hx0 hx1
     · go_upto_region 8 with (fail)
       obtain ⟨y3,⟨v0,s0⟩,-,-,f0,-,-⟩:=HC.out.drew.cells HK.out
       have i4:(k:Int) < (m4:Int):=by have:=HKM.out;omega
       go_region_law
        (first | (go_simp;go_at_call 119;(with_reducible refine (pick_pos R _ 4 _ HC.out.rd.drew (by omega) (by omega) (by omega)).mono ?_);rintro e10 w10 ⟨x10,rfl,h10a,h10b,hr10,hu10⟩;have HC10:=HC.out.drew.upd hu10 hr10;obtain ⟨y3',⟨v0',s0'⟩,-,-,f0',-,-⟩:=HC10.cells HK.out))
       all_goals
        have hend:=HC10.stage HGB.out HK.out x10 (WalkArith.wf_i64 (by omega))
        have HEND:=Lib.hid (enX_done (P:=P+400) hend (by omega) (engSm_set HSM.out HPT.out))
        clear hend HC10 hr10 hu10
        go_wp2_with fail
        go_meet
        exact ⟨rfl,HEND.out⟩
     · go_upto_region 10 with (fail)
       obtain ⟨y3,-,⟨v0,s0⟩,-,-,f0,-⟩:=HC.out.drew.cells HK.out
       obtain ⟨y3a,-,⟨v0a,s0a⟩,-,-,f0a,-⟩:=(HC.out.alloc (.cells #[.int .i64 0,.int .i64 1001,.int .i64 1000,.int .i64 900] 3)).cells HK.out
       obtain ⟨y3b,-,⟨v0b,s0b⟩,-,-,f0b,-⟩:=(HC.out.alloc (.cells #[.int .i64 0,.int .i64 1001,.int .i64 1000,.int .i64 900] 3)).drew.cells HK.out
       have i4:(k:Int) < (m4:Int):=by have:=HKM.out;omega
       go_region_law
        (first
         | (go_simp;go_at_call 119;(with_reducible refine (pick_pos R _ 4 _ HC.out.rd.drew (by omega) (by omega) (by omega)).mono ?_);rintro e10 w10 ⟨x10,rfl,h10a,h10b,hr10,hu10⟩;have HC9:=HC.out.drew.upd hu10 hr10;have HC10:=HC9.alloc (.cells #[.int .i64 0,.int .i64 1001,.int .i64 1000,.int .i64 900] 3);obtain ⟨y,hy,hy',hyc⟩:=lit_at4 (w:=w10) (T:=3) (p:=0) (q:=1001) (r:=1000) (t:=900) h10a h10b;obtain ⟨z3',-,⟨z0',q0'⟩,-,-,q1',-⟩:=HC9.cells HK.out;obtain ⟨y3',-,⟨v0',s0'⟩,-,-,f0',-⟩:=HC10.cells HK.out)
         | (go_simp;go_at_call 119;(refine (pick_pos R _ 4 _ (by exact (HC.out.rd.alloc _).drew) (by omega) (by omega) (by omega)).mono ?_);rintro e10 w10 ⟨x10,rfl,h10a,h10b,hr10,hu10⟩;have HC10:=(HC.out.alloc (.cells #[.int .i64 0,.int .i64 1001,.int .i64 1000,.int .i64 900] 3)).drew.upd hu10 hr10;obtain ⟨y,hy,hyc⟩:=pick_lit4 hu10 (by exact HC.out.rd.lt) h10a h10b;obtain ⟨y3',-,⟨v0',s0'⟩,-,-,f0',-⟩:=HC10.cells HK.out))
       all_goals
        have hend:=HC10.tries HGB.out HK.out y (WalkArith.wf_i64 (by omega))
        have HEND:=Lib.hid (enX_done (P:=P+400) hend (by omega) (engSm_set HSM.out HPT.out))
        clear hend HC10 hr10 hu10
        go_wp2_with fail
        go_meet
        exact ⟨rfl,HEND.out⟩
     · go_upto_region 12 with (fail)
       have HOV:Hid (w9.ownsRow B 73 3 (.slice b3 m3 d3) e2.vers.length (flatV e2.vers)):=Lib.hid (HC.out.2.1.own.own ⟨.slice b3 m3 d3,tEng.tV,3,e2.vers.length,flatV e2.vers⟩ (by simp [engRs]))
       have HVD:Hid (∀ (o:Obj) (v':Value) (w':World),w'.ownsRow B 73 3 v' (e2.vers.length+1) (flatV e2.vers++[.int .i64 31,.int .i64 9,.int .i64 1])→(w9.alloc o).grownBy w' (Value.slice b3 m3 d3).ownBlock→(v'.ownBlock=(Value.slice b3 m3 d3).ownBlock∨v'.ownBlock=some (w9.heap.size+1))→EgAt w' Z5 (.slice b1 m1 d1) (.slice b2 m2 d2) (.slice b3 m3 d3) (.slice (some ⟨gg,0,none⟩) m4 d4)∧EnX w (w'.setCell ⟨Z5,2,none⟩ v') R (P+400) Z5):=Lib.hid (fun o v' w' h1 h2 h3=>by
        have hvl:=HSV.out.1
        refine ⟨((HC.out.alloc o).far h2 (fun q hq=>(HOV.out.lt q hq).1)).1,enX_done (P:=P+400) ((HC.out.alloc o).vers ⟨31,9,1⟩ h1 h2 (by rw [World.size_alloc];exact h3) ⟨rfl,rfl,rfl⟩ (by omega)) (by omega) ⟨HSM.out.base,HSM.out.list,by simp only [List.length_append,List.length_cons,List.length_nil];omega,HSM.out.slots,HSM.out.parts⟩⟩)
       have HBS:Hid (B≤w9.heap.size):=Lib.hid (Nat.le_of_lt (Nat.lt_of_le_of_lt HGB.out (by
        obtain ⟨g',he,-,h1,-⟩:=slot_cells HC.out.2.1 HK.out
        simp only [Option.some.injEq,Addr.mk.injEq,and_true] at he
        subst he;exact h1.2.2)))
       have HVL:=Lib.hid HSV.out.1
       obtain ⟨-,-,y2,-,-,-,f2,-⟩:=HC.out.1
       go_wp2_with (at_builtin;go_loud (refine wpList_append_eng rfl _ _ 35 rfl B 73 _ (.agg #[.int .i64 0,.int .i64 0,.int .i64 0]) 3 24 Tryz.underlying35 infoVerD rfl (by decide) _ _ _ [.int .i64 31,.int .i64 9,.int .i64 1] (by rfl) HOV.out (by rfl) rfl (by intro u hu;simp at hu;rcases hu with rfl | rfl | rfl <;> rfl) (by have:=HVL.out;omega) (by decide) HBS.out ?_;intro v10 w10 ho10 hg10 hat10;obtain ⟨hz10,hx10⟩:=HVD.out _ v10 w10 ho10 hg10 hat10;obtain ⟨a10,n10,c10,rfl⟩:=slice_form ho10;obtain ⟨-,-,q2,-,-,-,p2,-⟩:=hz10;have HX10:=Lib.hid hx10;clear ho10 hg10 hat10 hx10))
       go_meet
       exact ⟨rfl,HX10.out⟩
     · go_upto_region 14 with (fail)
       obtain ⟨vr,hvr⟩:∃ v,v=(ts.getD k (undef,undef,undef)).2.1:=⟨_,rfl⟩
       obtain ⟨RD,hRD⟩:∃ l,l=(e2.slots.getD k noSlt).res.rds:=⟨_,rfl⟩
       have HOR:Hid (w9.ownsRow B 43 2 vr RD.length (flatE RD)):=Lib.hid (by rw [hvr,hRD];exact (slot_rds HC.out.2.1 HK.out).1)
       have HRL:Hid (RD.length≤2):=Lib.hid (by rw [hRD];exact HMR.out)
       have HRDD:=Lib.hid (HC.out.rdsX HGB.out HK.out HSM.out HSV.out.2 hvr hRD (Q:=P+400) (by omega))
       have HBS:Hid (B≤w9.heap.size):=Lib.hid (Nat.le_of_lt (Nat.lt_of_le_of_lt HGB.out (by
        obtain ⟨g',he,-,h1,-⟩:=slot_cells HC.out.2.1 HK.out
        simp only [Option.some.injEq,Addr.mk.injEq,and_true] at he
        subst he;exact h1.2.2)))
       have hcc:=HC.out.drew.cells HK.out
       rw [← hvr] at hcc
       obtain ⟨y3,-,-,s4',-,-,f4'⟩:=hcc
       have s4:w9.drew.cell? ⟨gg,k*6+3+1,none⟩=some vr:=s4'
       have f4:w9.drew.frozen? ⟨gg,k*6+3+1,none⟩=false:=f4'
       have hcc:=(HC.out.alloc (.cells #[.int .i64 0,.int .i64 0] 43)).cells HK.out
       rw [← hvr] at hcc
       obtain ⟨y3a,-,-,s4a',-,-,f4a'⟩:=hcc
       have s4a:(w9.alloc (.cells #[.int .i64 0,.int .i64 0] 43)).cell? ⟨gg,k*6+3+1,none⟩=some vr:=s4a'
       have f4a:(w9.alloc (.cells #[.int .i64 0,.int .i64 0] 43)).frozen? ⟨gg,k*6+3+1,none⟩=false:=f4a'
       clear s4' f4' s4a' f4a'
       have i4:(k:Int) < (m4:Int):=by have:=HKM.out;omega
       clear hvr hRD
       go_region_law
        (first
         | (refine step_app1d rfl (.tmp 82) (.tmp 84) 23 rfl B 43 _ (.agg #[.int .i64 0,.int .i64 0]) 2 16 Tryz.underlying23 infoEntD rfl (by decide) vr RD.length _ [.int .i64 0,.int .i64 0] (by rfl) HOR.out (by rfl) rfl (by intro u hu;simp at hu;rcases hu with rfl | rfl <;> rfl) (by have:=HRL.out;omega) (by decide) HBS.out ?_;intro v10 w10 ho10 hnn10 hg10 hat10;obtain ⟨⟨q3,q4,p4⟩,hx10⟩:=HRDD.out _ v10 w10 ho10 hg10 hat10;obtain ⟨g10,c10,rfl,-,-⟩:=Own.slice ⟨ho10,hnn10⟩;have HX10:=Lib.hid hx10;clear ho10 hg10 hat10 hx10 hnn10)
         | (refine step_app1 (W:=w9.drew) rfl (.tmp 82) (.tmp 84) 23 rfl B 43 _ (.agg #[.int .i64 0,.int .i64 0]) 2 16 Tryz.underlying23 infoEntD rfl (by decide) vr RD.length _ [.int .i64 0,.int .i64 0] (by rfl) HOR.out (by rfl) rfl (by intro u hu;simp at hu;rcases hu with rfl | rfl <;> rfl) (by have:=HRL.out;omega) (by decide) HBS.out ?_;intro v10 w10 ho10 hnn10 hg10 hat10;obtain ⟨⟨q3,q4,p4⟩,hx10⟩:=HRDD.out _ v10 w10 ho10 hg10 hat10;obtain ⟨g10,c10,rfl,-,-⟩:=Own.slice ⟨ho10,hnn10⟩;have HX10:=Lib.hid hx10;clear ho10 hg10 hat10 hx10 hnn10))
       all_goals
        go_wp2_with fail
        go_meet
        exact ⟨rfl,HX10.out⟩
     · go_upto_region 6 with (fail)
       have h0m:(0:Int) < (m4:Int):=by have:=HKM.out;omega
       have h1m:(1:Int)≤(m4:Int):=by omega
       have h1n:1≤m4:=by omega
       obtain ⟨hZ,ho,hB,hr,hu,hG⟩:=HC.out
       have hmd:m4≤d4:=by
        obtain ⟨-,-,-,a5,n5,c5,h5,-,-,h6⟩:=ho.rd
        simp only [Value.slice.injEq] at h5
        omega
       by_cases hd:d4=1
       · obtain rfl:m4=1:=by omega
         subst hd
         have hend:=enX_tail0 (g:=gg) hZ ho hB (hr.mono (P':=P+400) (by omega)) hu hG HSM.out
         obtain ⟨y0,y1,y2,y3,f0,f1,f2,f3⟩:=hZ
         have HEND:=Lib.hid hend
         clear hend ho hr hu hG hB y0 y1 y2
         go_wp2_with fail
         go_meet
         exact ⟨rfl,HEND.out⟩
       · have hend:=enX_tail hZ ho hB (hr.mono (P':=P+400) (by omega)) hu hG (by omega) HSM.out
         obtain ⟨y0,y1,y2,y3,f0,f1,f2,f3⟩:=hZ
         have HEND:=Lib.hid hend
         clear hend ho hr hu hG hB y0 y1 y2
         go_wp2_with fail
         go_meet
         exact ⟨rfl,HEND.out⟩
   case rest =>
    clear hok2 hen2 hx2 HEN HSM HSV
    obtain ⟨rfl,hX⟩:=hcut
    obtain ⟨b1,m1,d1,b2,m2,d2,b3,m3,d3,b4,m4,d4,e9,hZ,hk,hs,hr,hu,hg,hz1,hz2⟩:=hX
    have HFIN:=Lib.hid (enX_fin hk hs hr hu hg hz2)
    have HE:=Lib.hid HFIN.out.1
    have HSM:=Lib.hid hs
    obtain ⟨y0,y1,y2,y3,-,-,-,-⟩:=hZ
    obtain ⟨x0,x1,x2,x3,f0,f1,f2,f3⟩:=hg
    unfold set4 at HFIN HE
    clear hk hs hr hu hz1 hz2
    go_wp2_with fail
    refine bodyPost_ret (results_eng Tryz.results110 _ (by rfl) HE.out) rfl ⟨_,_,_,_,e9,rfl,HFIN.out.2.1,HSM.out,HFIN.out.2.2.1,HFIN.out.2.2.2⟩
end Go.Proofs.YtaaffpolmecicabGreat
