/- Texts of ours that stand together: TreDr, DrawTr, DrawTr2, DrawAt -/
import Derived.Test.YtpnjgmgmakmgeaaGreatTrX
import Derived.Test.YtpnjgmgmakmgeaaGreatCore
import Derived.Test.YtpnjgmgmakmgeaaGreatSpT
import Derived.Test.YtpnjgmgmakmgeaaGreatRegionWord
import Derived.Test.YtpnjgmgmakmgeaaGreatRegT
import Derived.Test.YtpnjgmgmakmgeaaGreatDrawAc
import Derived.Test.YtpnjgmgmakmgeaaGreatDrawT
import Derived.Deep.AppendLies
import Derived.Deep.DeepCutAuto
import Derived.Deep.RegionLaw
import Derived.Test.YtpnjgmgmakmgeaaGreatCvB
/- A tree that a draw has under way: its box,its rows,the reader;and a drawn tree,bent or not. No function of the program is named here. -/
namespace Go.Proofs.YtpnjgmgmakmgeaaGreat
open Go.RowKit
set_option linter.unusedVariables false
theorem OwnR.updD {w w':World} {B T R:Nat} {L:List Rw} (h:OwnR w B T L) (hu:Upd R w w') (hR:R < B):OwnR w' B T L :=
 h.keep fun r hr b hb=>hu.block b (h.ge hr hb).2.2 (fun e=>by simp only [Option.some.injEq] at e;have:=(h.ge hr hb).1;omega)
theorem TreOwn.upd {w w':World} {B T R:Nat} {t:TreT} {v1 v2 v3:Value} {x:Tre} {ts:List Value} (h:TreOwn w B T t v1 v2 v3 x ts) (hu:Upd R w w') (hR:R < B):TreOwn w' B T t v1 v2 v3 x ts:=⟨h.tl,h.own.updD hu hR,h.wf⟩
theorem TrAt.upd {w w':World} {Z R:Nat} {v1 v2 v3:Value} (h:TrAt w Z v1 v2 v3) (hu:Upd R w w') (hne:Z≠R):TrAt w' Z v1 v2 v3:=h.keep (hu.block Z h.lt (fun e=>hne (by simpa using e)))
theorem Upd.setNewT {R g o:Nat} {w w9:World} {v:Value} (h:Upd R w w9) (hg:w.heap.size≤g):Upd R w (w9.setCell ⟨g,o,none⟩ v) :=
 ⟨h.os,h.tape,h.output,by simpa [World.setCell] using h.size,fun k hk hr=>(Below.heap_setCell _ _ _ _ (by simp;omega)).trans (h.block k hk hr)⟩
theorem Rd.setT {w:World} {R P g o:Nat} {v:Value} (h:Rd w R P) (hg:R < g):Rd (w.setCell ⟨g,o,none⟩ v) R P :=
 h.grown (row:=some g) ⟨rfl,rfl,rfl,by simp [World.setCell],fun q _ hq=>Below.heap_setCell _ _ _ _ (fun hh=>hq (by rw [hh]))⟩ (fun q hq=>by simp only [Option.some.injEq] at hq;omega)
theorem set3b_upd {R:Nat} {w w9:World} {Z:Nat} {v1 v2 v3:Value} (h:Upd R w w9) (hg:w.heap.size≤Z):Upd R w (set3b w9 Z v1 v2 v3):=((h.setNewT hg).setNewT hg).setNewT hg
theorem set3b_rd {R P:Nat} {w9:World} {Z:Nat} {v1 v2 v3:Value} (h:Rd w9 R P) (hg:R < Z):Rd (set3b w9 Z v1 v2 v3) R P:=((h.setT hg).setT hg).setT hg
structure TrD (w wx:World) (R P Z G B T:Nat) (tT:TreT) (v1 v2 v3:Value) (t:Tre) (ts:List Value):Prop where
 box:TrAt wx Z v1 v2 v3
 own:TreOwn wx B T tT v1 v2 v3 t ts
 rb:R < B
 rg:R < G
 gz:G < Z
 gb:G < B
 wg:w.heap.size≤G
 off:Z < B∨T≤Z
 tw:T≤wx.heap.size
 rd:Rd wx R P
 upd:Upd R w wx
 res:TrAt wx G (.slice none 0 0) (.slice none 0 0) (.slice none 0 0)
theorem TrD.go {w wx w':World} {R P P' Z G B T:Nat} {tT:TreT} {v1 v2 v3:Value} {t:Tre} {ts:List Value} (h:TrD w wx R P Z G B T tT v1 v2 v3 t ts) (hu:Upd R wx w') (hr:Rd w' R P'):TrD w w' R P' Z G B T tT v1 v2 v3 t ts :=
 ⟨h.box.upd hu (by have:=h.rg;have:=h.gz;omega),h.own.upd hu h.rb,h.rb,h.rg,h.gz,h.gb,h.wg,h.off,Nat.le_trans h.tw hu.size,hr,h.upd.trans hu,h.res.upd hu (by have:=h.rg;omega)⟩
theorem TrD.more {w wx:World} {R P P' Z G B T:Nat} {tT:TreT} {v1 v2 v3:Value} {t:Tre} {ts:List Value} (h:TrD w wx R P Z G B T tT v1 v2 v3 t ts) (hP:P≤P'):TrD w wx R P' Z G B T tT v1 v2 v3 t ts :=
 ⟨h.box,h.own,h.rb,h.rg,h.gz,h.gb,h.wg,h.off,h.tw,h.rd.mono hP,h.upd,h.res⟩
theorem TrD.put {w wx w7:World} {R P P' Z G B T B' T':Nat} {tT:TreT} {v1 v2 v3 u1 u2 u3:Value} {t t':Tre} {ts ts':List Value} (h:TrD w wx R P Z G B T tT v1 v2 v3 t ts) (hu:Upd R wx w7) (hr:Rd w7 R P') (ho:TreOwn w7 B' T' tT u1 u2 u3 t' ts') (hB:wx.heap.size≤B') (hT:T'≤w7.heap.size) :
  TrD w (set3b w7 Z u1 u2 u3) R P' Z G B' T' tT u1 u2 u3 t' ts':=by
 have hz:=h.box.lt
 have h1:=h.gz;have h2:=h.rg;have h3:=h.wg
 have ht:=set3b_turn w7 Z u1 u2 u3
 refine ⟨(h.box.upd hu (by omega)).set3b u1 u2 u3,ho.turn ht (.inr (.inl (by omega))),by omega,h.rg,h.gz,by omega,h.wg,.inl (by omega),by rw [set3b_size];exact hT,set3b_rd hr (by omega),set3b_upd (h.upd.trans hu) (by omega),?_⟩
 have hg:=(h.res.upd hu (by omega)).lt
 exact (h.res.upd hu (by omega)).keep (ht.block G hg (.inl (by omega)))
structure TreSm (t:Tre):Prop where
 base:t.base.length≤33
 one:1≤t.blocks.length
 most:t.blocks.length≤14
 bef:t.bef.length≤15
 blk:∀ b∈t.blocks,b.acts.length≤10∧(0≤b.hgt∧b.hgt≤101)∧(0≤b.view∧b.view≤1000)∧(0≤b.bef∧b.bef≤1000002)∧(0≤b.root∧b.root≤1000002)∧(0≤b.effs∧b.effs≤1000002)
theorem blkAt_mem {L:List Blk} {k:Nat} (h:k < L.length):blkAt L k∈L:=getD_memBk L k h
theorem TreOk.sm {t:Tre} (h:TreOk t):TreSm t:=by
 have hm:=h.most;have ho:=h.one
 refine ⟨by have:=store_len h.base;omega,ho,hm,by rw [h.len];omega,fun b hb=>?_⟩
 obtain ⟨k,hk,rfl⟩:=List.getElem_of_mem hb
 have e:blkAt t.blocks k=t.blocks[k]:=by unfold blkAt;rw [List.getD_eq_getElem?_getD,List.getElem?_eq_getElem hk];rfl
 obtain ⟨h1,h2,h3,h4,h5,h6⟩:=blkB_true (h.ok hk)
 rw [e] at h1 h2 h3 h4 h5 h6
 exact ⟨(actsB_true h6).1,by omega,h5,h1,h2,h3⟩
def TrX (w wx:World) (R P Z G:Nat):Prop :=
 ∃ v1 v2 v3 t,(∃ b1 m1 d1 b2 m2 d2 b3 m3 d3,v1 = .slice b1 m1 d1∧v2 = .slice b2 m2 d2∧v3 = .slice b3 m3 d3)∧TrAt wx Z v1 v2 v3∧(∀ W:World,(∀ k,G < k→k < wx.heap.size→k≠R→k≠Z→W.heap[k]? = wx.heap[k]?)→TreRd W v1 v2 v3 t)∧TreSm t∧Rd wx R P∧Upd R w wx∧TrAt wx G (.slice none 0 0) (.slice none 0 0) (.slice none 0 0)∧G < Z∧R < G
theorem trRd_formD {w:World} {v1 v2 v3:Value} {t:Tre} (h:TreRd w v1 v2 v3 t):∃ b1 m1 d1 b2 m2 d2 b3 m3 d3,v1 = .slice b1 m1 d1∧v2 = .slice b2 m2 d2∧v3 = .slice b3 m3 d3:=by
 obtain ⟨⟨b1,m1,d1,rfl,-⟩,⟨b2,m2,d2,rfl,-⟩,b3,m3,d3,rfl,-⟩:=h
 exact ⟨b1,m1,d1,b2,m2,d2,b3,m3,d3,rfl,rfl,rfl⟩
theorem TrD.x {w wx:World} {R P P' Z G B T:Nat} {tT:TreT} {v1 v2 v3:Value} {t:Tre} {ts:List Value} (h:TrD w wx R P Z G B T tT v1 v2 v3 t ts) (hs:TreSm t) (hP:P≤P'):TrX w wx R P' Z G:=by
 refine ⟨v1,v2,v3,t,trRd_formD h.own.rd,h.box,fun W hW=>?_,hs,h.rd.mono hP,h.upd,h.res,h.gz,h.rg⟩
 have:=h.rb;have:=h.gb;have:=h.off
 exact (⟨h.own.tl,h.own.own.keep fun r hr b hb=>(by have:=h.own.own.ge hr hb;exact hW b (by omega) this.2.2 (by omega) (by omega)),h.own.wf⟩:TreOwn W B T tT v1 v2 v3 t ts).rd
theorem TreOwn.row2 {w:World} {B T:Nat} {t:TreT} {v1 v3:Value} {g m c:Nat} {x:Tre} {ts:List Value} (h:TreOwn w B T t v1 (.slice (some ⟨g,0,none⟩) m c) v3 x ts):m=x.blocks.length∧B≤g∧g < T∧g < w.heap.size∧w.ownsRow B t.tB 6 (.slice (some ⟨g,0,none⟩) m c) x.blocks.length (bksCs x.blocks ts):=by
 have hm:(⟨.slice (some ⟨g,0,none⟩) m c,t.tB,6,x.blocks.length,bksCs x.blocks ts⟩:Rw)∈treRs t v1 (.slice (some ⟨g,0,none⟩) m c) v3 x ts:=treRs_swap.mem_iff.2 List.mem_cons_self
 have ho:=h.own.own _ hm
 have hge:=h.own.ge hm (b:=g) rfl
 refine ⟨?_,hge.1,hge.2.1,hge.2.2,ho⟩
 rcases slice_of_owns ho with ⟨h1,-⟩ | ⟨g',cap,h1,-⟩
 · simp at h1
 · simp only [Value.slice.injEq] at h1;exact h1.2.1
theorem TreOwn.form2 {w:World} {B T:Nat} {t:TreT} {v1 v2 v3:Value} {x:Tre} {ts:List Value} (h:TreOwn w B T t v1 v2 v3 x ts) (h1:1≤x.blocks.length):∃ g c,v2 = .slice (some ⟨g,0,none⟩) x.blocks.length c:=by
 have hm:(⟨v2,t.tB,6,x.blocks.length,bksCs x.blocks ts⟩:Rw)∈treRs t v1 v2 v3 x ts:=treRs_swap.mem_iff.2 List.mem_cons_self
 rcases slice_of_owns (h.own.own _ hm) with ⟨-,h4⟩ | ⟨g,cap,h4,-⟩
 · simp only at h4;omega
 · exact ⟨g,cap,h4⟩
theorem TreOwn.form3 {w:World} {B T:Nat} {t:TreT} {v1 v2 v3:Value} {x:Tre} {ts:List Value} (h:TreOwn w B T t v1 v2 v3 x ts) (h1:1≤x.bef.length):∃ g c,v3 = .slice (some ⟨g,0,none⟩) x.bef.length c:=by
 have hm:(⟨v3,t.tI,1,x.bef.length,x.bef.map (Value.int .i64)⟩:Rw)∈treRs t v1 v2 v3 x ts:=treRs_swap3.mem_iff.2 List.mem_cons_self
 rcases slice_of_owns (h.own.own _ hm) with ⟨-,h4⟩ | ⟨g,cap,h4,-⟩
 · simp only at h4;omega
 · exact ⟨g,cap,h4⟩
theorem TreOwn.cells {w:World} {B T:Nat} {t:TreT} {v1 v3:Value} {g m c:Nat} {x:Tre} {ts:List Value} (h:TreOwn w B T t v1 (.slice (some ⟨g,0,none⟩) m c) v3 x ts) {k:Nat} (hk:k < x.blocks.length) {j:Nat} (hj:j < 6):w.cell? ⟨g,k*6+j,none⟩=(bkCs (blkAt x.blocks k) (ts.getD k undef))[j]?:=by
 obtain ⟨rfl,-,-,-,ho⟩:=h.row2
 rw [World.ownsRow.cellAt (n:=x.blocks.length) ho (k*6+j) (by show k*6+j < x.blocks.length*6;omega)]
 exact bksCs_get h.tl hk hj
theorem TreOwn.list {w:World} {B T:Nat} {t:TreT} {v1 v2 v3:Value} {x:Tre} {ts:List Value} (h:TreOwn w B T t v1 v2 v3 x ts) {k:Nat} (hk:k < x.blocks.length):SliAt w (ts.getD k undef) (blkAt x.blocks k).acts:=by
 have hsw:=h.wf.blocks.all _ (getD_memBk x.blocks k hk)
 have hm:bkR t.tA (x.blocks.getD k noBlk) (ts.getD k undef)∈treRs t v1 v2 v3 x ts:=treRs_swap.mem_iff.2 (List.mem_cons_of_mem _ (List.mem_cons_of_mem _ (List.mem_cons_of_mem _ (bksRs_mem h.tl hk))))
 exact sliA_of_ownst (h.own.own _ hm) hsw.acts hsw.len
theorem TrD.setBef {w wx:World} {R P Z G B T:Nat} {tT:TreT} {v1 v2:Value} {g m c:Nat} {t:Tre} {ts:List Value} (h:TrD w wx R P Z G B T tT v1 v2 (.slice (some ⟨g,0,none⟩) m c) t ts) {k:Nat} (hk:k < t.bef.length) (x:Int) (hx:(Lit.int .i64 x).wf=true) :
  TrD w (wx.setCell ⟨g,k,none⟩ (.int .i64 x)) R P Z G B T tT v1 v2 (.slice (some ⟨g,0,none⟩) m c) ⟨t.base,t.blocks,t.bef.set k x⟩ ts:=by
 obtain ⟨htl,ho,hwf⟩:=h.own
 have hp:=ho.perm treRs_swap3
 obtain rfl:m=t.bef.length:=by
  rcases slice_of_owns hp.head with ⟨h1,-⟩ | ⟨g',cap,h1,-⟩
  · simp at h1
  · simp only [Value.slice.injEq] at h1;exact h1.2.1
 have hge:=hp.ge List.mem_cons_self (b:=g) rfl
 have h1:=hp.store k (.int .i64 x)
 have e1:=h.rb;have e2:=h.rg;have e3:=h.gz;have e4:=h.gb;have e5:=h.wg;have e6:=h.off
 refine ⟨h.box.keep (Below.heap_setCell _ _ _ _ (by show Z≠g;omega)),⟨htl,?_,⟨hwf.base,fun y hy=>?_,hwf.blocks,hwf.blen,by simpa using hwf.flen⟩⟩,h.rb,h.rg,h.gz,h.gb,h.wg,h.off,by simpa [World.setCell] using h.tw,h.rd.setT (by omega),h.upd.setNewT (by omega),h.res.keep (Below.heap_setCell _ _ _ _ (by show G≠g;omega))⟩
 · refine OwnR.perm ?_ treRs_swap3.symm
   simp only [List.length_set,List.map_set]
   exact h1
 · rcases List.mem_or_eq_of_mem_set hy with hy | rfl
   · exact hwf.bef y hy
   · exact hx
theorem TrD.far {w wx w':World} {R P Z G B T:Nat} {tT:TreT} {v1 v2 v3:Value} {t:Tre} {ts:List Value} {o:Obj} {k:Option Nat} (h:TrD w wx R P Z G B T tT v1 v2 v3 t ts) (hg:(wx.alloc o).grownBy w' k) (hk:∀ q,k=some q→B≤q∧q < T) :
  TrAt w' Z v1 v2 v3∧Rd w' R P∧Upd R w w'∧TrAt w' G (.slice none 0 0) (.slice none 0 0) (.slice none 0 0):=by
 have e1:=h.rb;have e2:=h.rg;have e3:=h.gz;have e4:=h.gb;have e5:=h.wg;have e6:=h.off
 have ha:=(Below.refl wx.heap.size wx).alloc (Nat.le_refl _) o
 refine ⟨(h.box.below ha).grown hg (fun e=>by have:=hk Z e.symm;omega),(h.rd.alloc o).grown hg (fun q hq=>by have:=hk q hq;omega),?_,(h.res.below ha).grown hg (fun e=>by have:=hk G e.symm;omega)⟩
 have hs:=hg.size
 rw [World.size_alloc] at hs
 have hu:=h.upd
 have hus:=hu.size
 refine ⟨hg.os.trans (ha.os.trans hu.os),hg.tape.trans (ha.tape.trans hu.tape),hg.output.trans (ha.output.trans hu.output),by omega,fun b hb hr=>?_⟩
 rw [hg.block b (by rw [World.size_alloc];omega) (fun e=>by have:=hk b e.symm;omega),ha.block b (by omega),hu.block b hb hr]
set_option linter.unusedSimpArgs false
theorem owns_updT {w w':World} {B R:Nat} {e:TypeId} {size n:Nat} {v:Value} {xs:List Value} (h:w.ownsRow B e size v n xs) (hu:Upd R w w') (hR:R < B):w'.ownsRow B e size v n xs:=owns_grown h hu (fun k hk=>by simp at hk;omega)
def WdActs (R:Nat):Wd R:=⟨fun v w=>∃ (g c:Nat) (L:List Acn),v = .slice (some ⟨g,0,none⟩) L.length c∧R < g∧RowA w (some ⟨g,0,none⟩) L.length L∧L.length≤20,
 fun v w w' ⟨g,c,L,h1,h2,h3,h4⟩ hu=>⟨g,c,L,h1,h2,h3.grown hu (by simp;omega),h4⟩⟩
def WdGrow (R:Nat) (w0:World) (mn:Nat):Wd R:=⟨fun v w=>∃ a1 m1 c1 a2 m2 c2 a3 m3 c3 z t ts B T,v = .tuple #[.agg #[.slice a1 m1 c1,.slice a2 m2 c2,.slice a3 m3 c3],.bool z]∧(treB t=true∧mn≤t.blocks.length)∧TreOwn w B T tTre (.slice a1 m1 c1) (.slice a2 m2 c2) (.slice a3 m3 c3) t ts∧w0.heap.size≤B∧R < B∧T≤w.heap.size,
 fun v w w' ⟨a1,m1,c1,a2,m2,c2,a3,m3,c3,z,t,ts,B,T,h1,h2,h3,h4,h5,h6⟩ hu=>⟨a1,m1,c1,a2,m2,c2,a3,m3,c3,z,t,ts,B,T,h1,h2,h3.upd hu h5,h4,h5,Nat.le_trans h6 hu.size⟩⟩
def WdTree (R:Nat) (w0:World) (mn:Nat):Wd R:=⟨fun v w=>∃ a1 m1 c1 a2 m2 c2 a3 m3 c3 t ts B T,v = .agg #[.slice a1 m1 c1,.slice a2 m2 c2,.slice a3 m3 c3]∧(treB t=true∧mn≤t.blocks.length)∧TreOwn w B T tTre (.slice a1 m1 c1) (.slice a2 m2 c2) (.slice a3 m3 c3) t ts∧w0.heap.size≤B∧R < B∧T≤w.heap.size,
 fun v w w' ⟨a1,m1,c1,a2,m2,c2,a3,m3,c3,t,ts,B,T,h1,h2,h3,h4,h5,h6⟩ hu=>⟨a1,m1,c1,a2,m2,c2,a3,m3,c3,t,ts,B,T,h1,h2,h3.upd hu h5,h4,h5,Nat.le_trans h6 hu.size⟩⟩
theorem BkAt.updT {w w':World} {Z R:Nat} {v0 v1 v2 v3 v4 v5:Value} (h:BkAt w Z v0 v1 v2 v3 v4 v5) (hu:Upd R w w') (hne:Z≠R):BkAt w' Z v0 v1 v2 v3 v4 v5:=h.keep (hu.block Z h.lt (fun e=>hne (by simpa using e)))
def WdBox (R:Nat) (w0:World):Wd R:=⟨fun v w=>∃ Z,v = .pointer (some ⟨Z,0,none⟩)∧w0.heap.size≤Z∧R < Z∧BkAt w Z (.int .i64 0) (.int .i64 0) (.int .i64 0) (.slice none 0 0) (.int .i64 0) (.int .i64 0),
 fun v w w' ⟨Z,h1,h2,h3,h4⟩ hu=>⟨Z,h1,h2,h3,h4.updT hu (by omega)⟩⟩
def ActsIn (R:Nat) (w:World) (a:Option Addr) (n c:Nat) (L:List Acn):Prop :=
 L.length=n∧(a=none→c=0)∧WfAs L∧(0 < n→∃ g B,R < B∧a=some ⟨g,0,none⟩∧w.ownsRow B 113 4 (.slice a n c) L.length (flatA L))
theorem ActsIn.set {w:World} {a p:Option Addr} {n c q k Z R:Nat} {L:List Acn} {v0 v1 v2 v4 v5:Value} (h:ActsIn R w a n c L) (hz:BkAt w Z v0 v1 v2 (.slice p q k) v4 v5) (o:Nat) (x:Value):ActsIn R (w.setCell ⟨Z,o,none⟩ x) a n c L:=by
 obtain ⟨h1,h2,h3,h4⟩:=h
 refine ⟨h1,h2,h3,fun hn=>?_⟩
 obtain ⟨g,B,hRB,rfl,ho⟩:=h4 hn
 have hne:g≠Z:=fun e=>by
  subst e
  have hc:=World.ownsRow.cellAt (n:=n) (by rw [h1] at ho;exact ho) 3 (by show 3 < n*4;omega)
  rw [hz.c3] at hc
  cases L with
  | nil=>simp at h1;omega
  | cons y r =>
   have hfl:(flatA (y :: r))[3]? = some (.int .i64 y.amt):=rfl
   rw [hfl] at hc;cases hc
 exact ⟨g,B,hRB,rfl,owns_keep ho (fun b hb=>Below.heap_setCell _ _ _ _ (by simp [blk] at hb;simp;omega))⟩
theorem ActsIn.upd {w w':World} {a:Option Addr} {n c R:Nat} {L:List Acn} (h:ActsIn R w a n c L) (hu:Upd R w w'):ActsIn R w' a n c L:=by
 obtain ⟨h1,h2,h3,h4⟩:=h
 refine ⟨h1,h2,h3,fun hn=>?_⟩
 obtain ⟨g,B,hRB,rfl,ho⟩:=h4 hn
 exact ⟨g,B,hRB,rfl,owns_updT ho hu hRB⟩
theorem ActsIn.row {w:World} {a:Option Addr} {n c R:Nat} {L:List Acn} (h:ActsIn R w a n c L) (hn:n≤4000000):RowA w a n L:=by
 obtain ⟨rfl,h2,h3,h4⟩:=h
 by_cases h0:0 < L.length
 · obtain ⟨g,B,hRB,rfl,ho⟩:=h4 h0
   obtain ⟨a',c',e,r,-⟩:=rowA_of_owns ho hn h3
   simp only [Value.slice.injEq,true_and] at e
   obtain ⟨rfl,-⟩:=e
   exact r
 · have:L=[]:=List.eq_nil_of_length_eq_zero (by omega)
   subst this
   exact ⟨rfl,by unfold maxLen;simp,fun h=>absurd h (by simp),h3⟩
def DrawTr (w:World) (R P c:Nat) (en:Ending) (w':World):Prop :=
 ∃ v1 v2 v3 t,en = .returned (.agg #[v1,v2,v3])∧(∀ W:World,(∀ k,w.heap.size < k→k < w'.heap.size→k≠R→W.heap[k]? = w'.heap[k]?)→TreRd W v1 v2 v3 t)∧TreSm t∧Rd w' R (P+c)∧Upd R w w'
theorem rowB_belowT {w w':World} {a:Option Addr} {len:Nat} {z:List Int} (h:RowB w a len z) (hb:Below w.heap.size w w'):RowB w' a len z:=by
 obtain ⟨h1,h2,h3,h4⟩:=h
 refine ⟨h1,h2,fun hl=>?_,h4⟩
 obtain ⟨b,off,he,hc⟩:=h3 hl
 refine ⟨b,off,he,fun i hi=>?_⟩
 have hlt:b < w.heap.size:=World.block_lt_of_cell? w ⟨b,off+i,none⟩ (hc i hi)
 rw [hb.cell (p:=⟨b,off+i,none⟩) hlt]
 exact hc i hi
end Go.Proofs.YtpnjgmgmakmgeaaGreat
