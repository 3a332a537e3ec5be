/- Texts of ours that stand together: TreDr, DrawTr, DrawTr2, DrawAt -/
import Derived.Test.YtpnjgmgmakmgeaaGreatTrX
import Derived.Test.YtpnjgmgmakmgeaaGreatCore
import Derived.Test.YtpnjgmgmakmgeaaGreatSpT
import Derived.Test.YtpnjgmgmakmgeaaGreatTreeOfTr
import Derived.Test.YtpnjgmgmakmgeaaGreatRegionWord
import Derived.Test.YtpnjgmgmakmgeaaGreatRegT
import Derived.Test.YtpnjgmgmakmgeaaGreatDrawAc
import Derived.Test.YtpnjgmgmakmgeaaGreatDrawT
import Derived.Deep.AppendLies
import Derived.Deep.DeepCutAuto
import Derived.Deep.RegionLaw
import Derived.Test.YtpnjgmgmakmgeaaGreatCvB
/- A tree that a draw has under way: its box,its rows,the reader;and a drawn tree,bent or not. No function of the program is named here. -/
namespace Go.Proofs.YtpnjgmgmakmgeaaGreat
open Go.RowKit
set_option linter.unusedVariables false
theorem OwnR.updD {w w':World} {B T R:Nat} {L:List Rw} (h:OwnR w B T L) (hu:Upd R w w') (hR:R < B):OwnR w' B T L :=
 h.keep fun r hr b hb=>hu.block b (h.ge hr hb).2.2 (fun e=>by simp only [Option.some.injEq] at e;have:=(h.ge hr hb).1;omega)
theorem TreOwn.upd {w w':World} {B T R:Nat} {t:TreT} {v1 v2 v3:Value} {x:Tre} {ts:List Value} (h:TreOwn w B T t v1 v2 v3 x ts) (hu:Upd R w w') (hR:R < B):TreOwn w' B T t v1 v2 v3 x ts:=⟨h.tl,h.own.updD hu hR,h.wf⟩
theorem TrAt.upd {w w':World} {Z R:Nat} {v1 v2 v3:Value} (h:TrAt w Z v1 v2 v3) (hu:Upd R w w') (hne:Z≠R):TrAt w' Z v1 v2 v3:=h.keep (hu.block Z h.lt (fun e=>hne (by simpa using e)))
theorem Upd.setNewT {R g o:Nat} {w w9:World} {v:Value} (h:Upd R w w9) (hg:w.heap.size≤g):Upd R w (w9.setCell ⟨g,o,none⟩ v) :=
 ⟨h.os,h.tape,h.output,by simpa [World.setCell] using h.size,fun k hk hr=>(Below.heap_setCell _ _ _ _ (by simp;omega)).trans (h.block k hk hr)⟩
theorem Rd.setT {w:World} {R P g o:Nat} {v:Value} (h:Rd w R P) (hg:R < g):Rd (w.setCell ⟨g,o,none⟩ v) R P :=
 h.grown (row:=some g) ⟨rfl,rfl,rfl,by simp [World.setCell],fun q _ hq=>Below.heap_setCell _ _ _ _ (fun hh=>hq (by rw [hh]))⟩ (fun q hq=>by simp only [Option.some.injEq] at hq;omega)
theorem set3b_upd {R:Nat} {w w9:World} {Z:Nat} {v1 v2 v3:Value} (h:Upd R w w9) (hg:w.heap.size≤Z):Upd R w (set3b w9 Z v1 v2 v3):=((h.setNewT hg).setNewT hg).setNewT hg
theorem set3b_rd {R P:Nat} {w9:World} {Z:Nat} {v1 v2 v3:Value} (h:Rd w9 R P) (hg:R < Z):Rd (set3b w9 Z v1 v2 v3) R P:=((h.setT hg).setT hg).setT hg
structure TrD (w wx:World) (R P Z G B T:Nat) (tT:TreT) (v1 v2 v3:Value) (t:Tre) (ts:List Value):Prop where
 box:TrAt wx Z v1 v2 v3
 own:TreOwn wx B T tT v1 v2 v3 t ts
 rb:R < B
 rg:R < G
 gz:G < Z
 gb:G < B
 wg:w.heap.size≤G
 off:Z < B∨T≤Z
 tw:T≤wx.heap.size
 rd:Rd wx R P
 upd:Upd R w wx
 res:TrAt wx G (.slice none 0 0) (.slice none 0 0) (.slice none 0 0)
theorem TrD.go {w wx w':World} {R P P' Z G B T:Nat} {tT:TreT} {v1 v2 v3:Value} {t:Tre} {ts:List Value} (h:TrD w wx R P Z G B T tT v1 v2 v3 t ts) (hu:Upd R wx w') (hr:Rd w' R P'):TrD w w' R P' Z G B T tT v1 v2 v3 t ts :=
 ⟨h.box.upd hu (by have:=h.rg;have:=h.gz;omega),h.own.upd hu h.rb,h.rb,h.rg,h.gz,h.gb,h.wg,h.off,Nat.le_trans h.tw hu.size,hr,h.upd.trans hu,h.res.upd hu (by have:=h.rg;omega)⟩
theorem TrD.more {w wx:World} {R P P' Z G B T:Nat} {tT:TreT} {v1 v2 v3:Value} {t:Tre} {ts:List Value} (h:TrD w wx R P Z G B T tT v1 v2 v3 t ts) (hP:P≤P'):TrD w wx R P' Z G B T tT v1 v2 v3 t ts :=
 ⟨h.box,h.own,h.rb,h.rg,h.gz,h.gb,h.wg,h.off,h.tw,h.rd.mono hP,h.upd,h.res⟩
theorem TrD.put {w wx w7:World} {R P P' Z G B T B' T':Nat} {tT:TreT} {v1 v2 v3 u1 u2 u3:Value} {t t':Tre} {ts ts':List Value} (h:TrD w wx R P Z G B T tT v1 v2 v3 t ts) (hu:Upd R wx w7) (hr:Rd w7 R P') (ho:TreOwn w7 B' T' tT u1 u2 u3 t' ts') (hB:wx.heap.size≤B') (hT:T'≤w7.heap.size) :
  TrD w (set3b w7 Z u1 u2 u3) R P' Z G B' T' tT u1 u2 u3 t' ts':=by
 have hz:=h.box.lt
 have h1:=h.gz;have h2:=h.rg;have h3:=h.wg
 have ht:=set3b_turn w7 Z u1 u2 u3
 refine ⟨(h.box.upd hu (by omega)).set3b u1 u2 u3,ho.turn ht (.inr (.inl (by omega))),by omega,h.rg,h.gz,by omega,h.wg,.inl (by omega),by rw [set3b_size];exact hT,set3b_rd hr (by omega),set3b_upd (h.upd.trans hu) (by omega),?_⟩
 have hg:=(h.res.upd hu (by omega)).lt
 exact (h.res.upd hu (by omega)).keep (ht.block G hg (.inl (by omega)))
structure TreSm (t:Tre):Prop where
 base:t.base.length≤33
 one:1≤t.blocks.length
 most:t.blocks.length≤14
 bef:t.bef.length≤15
 blk:∀ b∈t.blocks,b.acts.length≤10∧(0≤b.hgt∧b.hgt≤101)∧(0≤b.view∧b.view≤1000)∧(0≤b.bef∧b.bef≤1000002)∧(0≤b.root∧b.root≤1000002)∧(0≤b.effs∧b.effs≤1000002)
theorem blkAt_mem {L:List Blk} {k:Nat} (h:k < L.length):blkAt L k∈L:=getD_memBk L k h
theorem TreOk.sm {t:Tre} (h:TreOk t):TreSm t:=by
 have hm:=h.most;have ho:=h.one
 refine ⟨by have:=store_len h.base;omega,ho,hm,by rw [h.len];omega,fun b hb=>?_⟩
 obtain ⟨k,hk,rfl⟩:=List.getElem_of_mem hb
 have e:blkAt t.blocks k=t.blocks[k]:=by unfold blkAt;rw [List.getD_eq_getElem?_getD,List.getElem?_eq_getElem hk];rfl
 obtain ⟨h1,h2,h3,h4,h5,h6⟩:=blkB_true (h.ok hk)
 rw [e] at h1 h2 h3 h4 h5 h6
 exact ⟨(actsB_true h6).1,by omega,h5,h1,h2,h3⟩
def TrX (w wx:World) (R P Z G:Nat):Prop :=
 ∃ v1 v2 v3 t,(∃ b1 m1 d1 b2 m2 d2 b3 m3 d3,v1 = .slice b1 m1 d1∧v2 = .slice b2 m2 d2∧v3 = .slice b3 m3 d3)∧TrAt wx Z v1 v2 v3∧(∀ W:World,(∀ k,G < k→k < wx.heap.size→k≠R→k≠Z→W.heap[k]? = wx.heap[k]?)→TreRd W v1 v2 v3 t)∧TreSm t∧Rd wx R P∧Upd R w wx∧TrAt wx G (.slice none 0 0) (.slice none 0 0) (.slice none 0 0)∧G < Z∧R < G
theorem trRd_formD {w:World} {v1 v2 v3:Value} {t:Tre} (h:TreRd w v1 v2 v3 t):∃ b1 m1 d1 b2 m2 d2 b3 m3 d3,v1 = .slice b1 m1 d1∧v2 = .slice b2 m2 d2∧v3 = .slice b3 m3 d3:=by
 obtain ⟨⟨b1,m1,d1,rfl,-⟩,⟨b2,m2,d2,rfl,-⟩,b3,m3,d3,rfl,-⟩:=h
 exact ⟨b1,m1,d1,b2,m2,d2,b3,m3,d3,rfl,rfl,rfl⟩
theorem TrD.x {w wx:World} {R P P' Z G B T:Nat} {tT:TreT} {v1 v2 v3:Value} {t:Tre} {ts:List Value} (h:TrD w wx R P Z G B T tT v1 v2 v3 t ts) (hs:TreSm t) (hP:P≤P'):TrX w wx R P' Z G:=by
 refine ⟨v1,v2,v3,t,trRd_formD h.own.rd,h.box,fun W hW=>?_,hs,h.rd.mono hP,h.upd,h.res,h.gz,h.rg⟩
 have:=h.rb;have:=h.gb;have:=h.off
 exact (⟨h.own.tl,h.own.own.keep fun r hr b hb=>(by have:=h.own.own.ge hr hb;exact hW b (by omega) this.2.2 (by omega) (by omega)),h.own.wf⟩:TreOwn W B T tT v1 v2 v3 t ts).rd
theorem bkzipD_set {L:List Blk} {ts:List Value} (hl:ts.length=L.length) {j:Nat} (hj:j < L.length) (s':Blk):(L.zip ts).set j (s',ts.getD j undef)=(L.set j s').zip ts:=by
 apply List.ext_getElem?
 intro i
 rw [List.getElem?_set]
 by_cases e:j=i
 · subst e
   rw [if_pos rfl,if_pos (by simp;omega),bzip_get (by simpa using hl) (by simpa using hj)]
   congr 2
   rw [List.getD_eq_getElem?_getD,List.getElem?_set_self hj];rfl
 · rw [if_neg e]
   by_cases hi:i < L.length
   · rw [bzip_get hl hi,bzip_get (by simpa using hl) (by simpa using hi)]
     congr 2
     rw [List.getD_eq_getElem?_getD,List.getD_eq_getElem?_getD,List.getElem?_set_ne e]
   · rw [List.getElem?_eq_none (by simp;omega),List.getElem?_eq_none (by simp;omega)]
theorem bksCsD_set {L:List Blk} {ts:List Value} (hl:ts.length=L.length) {j:Nat} (hj:j < L.length) (s':Blk) (i:Nat) (hi:i < 6) (c:Value)
  (h:bkCs s' (ts.getD j undef)=(bkCs (L.getD j noBlk) (ts.getD j undef)).set i c):(bksCs L ts).set (j*6+i) c=bksCs (L.set j s') ts:=by
 unfold bksCs
 rw [← bkzipD_set hl hj]
 exact (flatMap_set (fun p:Blk × Value=>bkCs p.1 p.2) 6 (fun _=>rfl) (L.zip ts) j i _ _ c (bzip_get hl hj) hi h).symm
theorem bksRsD_set {tA:TypeId} {L:List Blk} {ts:List Value} (hl:ts.length=L.length) {j:Nat} (hj:j < L.length) (s':Blk) (he:s'.acts=(L.getD j noBlk).acts):bksRs tA (L.set j s') ts=bksRs tA L ts:=by
 unfold bksRs
 rw [← bkzipD_set hl hj,List.map_set]
 have hg:=bzip_get hl hj
 have hlen:j < ((L.zip ts).map fun p=>bkR tA p.1 p.2).length:=by simp;omega
 have e:bkR tA s' (ts.getD j undef)=((L.zip ts).map fun p=>bkR tA p.1 p.2)[j]:=by
  have h2:((L.zip ts).map fun p=>bkR tA p.1 p.2)[j]? = some (bkR tA (L.getD j noBlk) (ts.getD j undef)):=by rw [List.getElem?_map,hg];rfl
  rw [List.getElem?_eq_getElem hlen] at h2
  rw [Option.some.inj h2]
  unfold bkR;rw [he]
 show List.set _ j (bkR tA s' (ts.getD j undef)) = _
 rw [e,List.set_getElem_self]
theorem TreOwn.row2 {w:World} {B T:Nat} {t:TreT} {v1 v3:Value} {g m c:Nat} {x:Tre} {ts:List Value} (h:TreOwn w B T t v1 (.slice (some ⟨g,0,none⟩) m c) v3 x ts):m=x.blocks.length∧B≤g∧g < T∧g < w.heap.size∧w.ownsRow B t.tB 6 (.slice (some ⟨g,0,none⟩) m c) x.blocks.length (bksCs x.blocks ts):=by
 have hm:(⟨.slice (some ⟨g,0,none⟩) m c,t.tB,6,x.blocks.length,bksCs x.blocks ts⟩:Rw)∈treRs t v1 (.slice (some ⟨g,0,none⟩) m c) v3 x ts:=treRs_swap.mem_iff.2 List.mem_cons_self
 have ho:=h.own.own _ hm
 have hge:=h.own.ge hm (b:=g) rfl
 refine ⟨?_,hge.1,hge.2.1,hge.2.2,ho⟩
 rcases slice_of_owns ho with ⟨h1,-⟩ | ⟨g',cap,h1,-⟩
 · simp at h1
 · simp only [Value.slice.injEq] at h1;exact h1.2.1
theorem TreOwn.form2 {w:World} {B T:Nat} {t:TreT} {v1 v2 v3:Value} {x:Tre} {ts:List Value} (h:TreOwn w B T t v1 v2 v3 x ts) (h1:1≤x.blocks.length):∃ g c,v2 = .slice (some ⟨g,0,none⟩) x.blocks.length c:=by
 have hm:(⟨v2,t.tB,6,x.blocks.length,bksCs x.blocks ts⟩:Rw)∈treRs t v1 v2 v3 x ts:=treRs_swap.mem_iff.2 List.mem_cons_self
 rcases slice_of_owns (h.own.own _ hm) with ⟨-,h4⟩ | ⟨g,cap,h4,-⟩
 · simp only at h4;omega
 · exact ⟨g,cap,h4⟩
theorem TreOwn.form3 {w:World} {B T:Nat} {t:TreT} {v1 v2 v3:Value} {x:Tre} {ts:List Value} (h:TreOwn w B T t v1 v2 v3 x ts) (h1:1≤x.bef.length):∃ g c,v3 = .slice (some ⟨g,0,none⟩) x.bef.length c:=by
 have hm:(⟨v3,t.tI,1,x.bef.length,x.bef.map (Value.int .i64)⟩:Rw)∈treRs t v1 v2 v3 x ts:=treRs_swap3.mem_iff.2 List.mem_cons_self
 rcases slice_of_owns (h.own.own _ hm) with ⟨-,h4⟩ | ⟨g,cap,h4,-⟩
 · simp only at h4;omega
 · exact ⟨g,cap,h4⟩
theorem TreOwn.cells {w:World} {B T:Nat} {t:TreT} {v1 v3:Value} {g m c:Nat} {x:Tre} {ts:List Value} (h:TreOwn w B T t v1 (.slice (some ⟨g,0,none⟩) m c) v3 x ts) {k:Nat} (hk:k < x.blocks.length) {j:Nat} (hj:j < 6):w.cell? ⟨g,k*6+j,none⟩=(bkCs (blkAt x.blocks k) (ts.getD k undef))[j]?:=by
 obtain ⟨rfl,-,-,-,ho⟩:=h.row2
 rw [World.ownsRow.cellAt (n:=x.blocks.length) ho (k*6+j) (by show k*6+j < x.blocks.length*6;omega)]
 exact bksCs_get h.tl hk hj
theorem TreOwn.list {w:World} {B T:Nat} {t:TreT} {v1 v2 v3:Value} {x:Tre} {ts:List Value} (h:TreOwn w B T t v1 v2 v3 x ts) {k:Nat} (hk:k < x.blocks.length):SliAt w (ts.getD k undef) (blkAt x.blocks k).acts:=by
 have hsw:=h.wf.blocks.all _ (getD_memBk x.blocks k hk)
 have hm:bkR t.tA (x.blocks.getD k noBlk) (ts.getD k undef)∈treRs t v1 v2 v3 x ts:=treRs_swap.mem_iff.2 (List.mem_cons_of_mem _ (List.mem_cons_of_mem _ (List.mem_cons_of_mem _ (bksRs_mem h.tl hk))))
 exact sliA_of_ownst (h.own.own _ hm) hsw.acts hsw.len
theorem TrD.setHgt {w wx:World} {R P Z G B T:Nat} {tT:TreT} {v1 v3:Value} {g m c:Nat} {t:Tre} {ts:List Value} (h:TrD w wx R P Z G B T tT v1 (.slice (some ⟨g,0,none⟩) m c) v3 t ts) {k:Nat} (hk:k < t.blocks.length) (x:Int) (hx:(Lit.int .i64 x).wf=true) :
  TrD w (wx.setCell ⟨g,k*6+1,none⟩ (.int .i64 x)) R P Z G B T tT v1 (.slice (some ⟨g,0,none⟩) m c) v3 ⟨t.base,t.blocks.set k ⟨(blkAt t.blocks k).bef,x,(blkAt t.blocks k).view,(blkAt t.blocks k).acts,(blkAt t.blocks k).root,(blkAt t.blocks k).effs⟩,t.bef⟩ ts:=by
 obtain ⟨rfl,hg1,hg2,hg3,-⟩:=h.own.row2
 obtain ⟨htl,ho,hwf⟩:=h.own
 have hp:=ho.perm treRs_swap
 have h1:=hp.store (k*6+1) (.int .i64 x)
 rw [bksCsD_set htl hk ⟨(blkAt t.blocks k).bef,x,(blkAt t.blocks k).view,(blkAt t.blocks k).acts,(blkAt t.blocks k).root,(blkAt t.blocks k).effs⟩ 1 (by omega) (.int .i64 x) rfl] at h1
 have hsw:=hwf.blocks.all _ (getD_memBk t.blocks k hk)
 have e1:=h.rb;have e2:=h.rg;have e3:=h.gz;have e4:=h.gb;have e5:=h.wg;have e6:=h.off
 refine ⟨h.box.keep (Below.heap_setCell _ _ _ _ (by show Z≠g;omega)),⟨by simp [htl],?_,⟨hwf.base,hwf.bef,⟨fun y hy=>?_,by simpa using hwf.blocks.len⟩,hwf.blen,hwf.flen⟩⟩,h.rb,h.rg,h.gz,h.gb,h.wg,h.off,by simpa [World.setCell] using h.tw,h.rd.setT (by omega),h.upd.setNewT (by omega),h.res.keep (Below.heap_setCell _ _ _ _ (by show G≠g;omega))⟩
 · refine OwnR.perm ?_ treRs_swap.symm
   simp only [List.length_set]
   rw [bksRsD_set htl hk ⟨(blkAt t.blocks k).bef,x,(blkAt t.blocks k).view,(blkAt t.blocks k).acts,(blkAt t.blocks k).root,(blkAt t.blocks k).effs⟩ rfl]
   exact h1
 · rcases List.mem_or_eq_of_mem_set hy with hy | rfl
   · exact hwf.blocks.all y hy
   · exact ⟨⟨hsw.wf.1,hx,hsw.wf.2.2.1,hsw.wf.2.2.2.1,hsw.wf.2.2.2.2⟩,hsw.acts,hsw.len⟩
theorem TrD.setBef {w wx:World} {R P Z G B T:Nat} {tT:TreT} {v1 v2:Value} {g m c:Nat} {t:Tre} {ts:List Value} (h:TrD w wx R P Z G B T tT v1 v2 (.slice (some ⟨g,0,none⟩) m c) t ts) {k:Nat} (hk:k < t.bef.length) (x:Int) (hx:(Lit.int .i64 x).wf=true) :
  TrD w (wx.setCell ⟨g,k,none⟩ (.int .i64 x)) R P Z G B T tT v1 v2 (.slice (some ⟨g,0,none⟩) m c) ⟨t.base,t.blocks,t.bef.set k x⟩ ts:=by
 obtain ⟨htl,ho,hwf⟩:=h.own
 have hp:=ho.perm treRs_swap3
 obtain rfl:m=t.bef.length:=by
  rcases slice_of_owns hp.head with ⟨h1,-⟩ | ⟨g',cap,h1,-⟩
  · simp at h1
  · simp only [Value.slice.injEq] at h1;exact h1.2.1
 have hge:=hp.ge List.mem_cons_self (b:=g) rfl
 have h1:=hp.store k (.int .i64 x)
 have e1:=h.rb;have e2:=h.rg;have e3:=h.gz;have e4:=h.gb;have e5:=h.wg;have e6:=h.off
 refine ⟨h.box.keep (Below.heap_setCell _ _ _ _ (by show Z≠g;omega)),⟨htl,?_,⟨hwf.base,fun y hy=>?_,hwf.blocks,hwf.blen,by simpa using hwf.flen⟩⟩,h.rb,h.rg,h.gz,h.gb,h.wg,h.off,by simpa [World.setCell] using h.tw,h.rd.setT (by omega),h.upd.setNewT (by omega),h.res.keep (Below.heap_setCell _ _ _ _ (by show G≠g;omega))⟩
 · refine OwnR.perm ?_ treRs_swap3.symm
   simp only [List.length_set,List.map_set]
   exact h1
 · rcases List.mem_or_eq_of_mem_set hy with hy | rfl
   · exact hwf.bef y hy
   · exact hx
theorem TrD.far {w wx w':World} {R P Z G B T:Nat} {tT:TreT} {v1 v2 v3:Value} {t:Tre} {ts:List Value} {o:Obj} {k:Option Nat} (h:TrD w wx R P Z G B T tT v1 v2 v3 t ts) (hg:(wx.alloc o).grownBy w' k) (hk:∀ q,k=some q→B≤q∧q < T) :
  TrAt w' Z v1 v2 v3∧Rd w' R P∧Upd R w w'∧TrAt w' G (.slice none 0 0) (.slice none 0 0) (.slice none 0 0):=by
 have e1:=h.rb;have e2:=h.rg;have e3:=h.gz;have e4:=h.gb;have e5:=h.wg;have e6:=h.off
 have ha:=(Below.refl wx.heap.size wx).alloc (Nat.le_refl _) o
 refine ⟨(h.box.below ha).grown hg (fun e=>by have:=hk Z e.symm;omega),(h.rd.alloc o).grown hg (fun q hq=>by have:=hk q hq;omega),?_,(h.res.below ha).grown hg (fun e=>by have:=hk G e.symm;omega)⟩
 have hs:=hg.size
 rw [World.size_alloc] at hs
 have hu:=h.upd
 have hus:=hu.size
 refine ⟨hg.os.trans (ha.os.trans hu.os),hg.tape.trans (ha.tape.trans hu.tape),hg.output.trans (ha.output.trans hu.output),by omega,fun b hb hr=>?_⟩
 rw [hg.block b (by rw [World.size_alloc];omega) (fun e=>by have:=hk b e.symm;omega),ha.block b (by omega),hu.block b hb hr]
theorem TrD.appBef {w wx w9:World} {R P Z G B T:Nat} {tT:TreT} {v1 v2 v3 v3':Value} {t:Tre} {ts:List Value} {o:Obj} {n:Int} (h:TrD w wx R P Z G B T tT v1 v2 v3 t ts)
  (hg:(wx.alloc o).grownBy w9 v3.ownBlock) (hloc:v3'.ownBlock=v3.ownBlock∨v3'.ownBlock=some (wx.heap.size+1))
  (ho:w9.ownsRow B tT.tI 1 v3' (t.bef.length+1) (t.bef.map (Value.int .i64)++[.int .i64 n])) (hn:(Lit.int .i64 n).wf=true) (hl:t.bef.length < 4000000) (hs:TreSm t) (hl15:t.bef.length≤14) :
  TrAt w9 Z v1 v2 v3∧TrX w (w9.setCell ⟨Z,2,none⟩ v3') R P Z G:=by
 have hr3:(⟨v3,tT.tI,1,t.bef.length,t.bef.map (Value.int .i64)⟩:Rw)∈treRs tT v1 v2 v3 t ts:=treRs_swap3.mem_iff.2 (by simp)
 have hv:=owns_blk (h.own.own.own _ hr3)
 simp only at hv
 obtain ⟨f1,f2,f3,f4⟩:=h.far hg (fun q hq=>by
  have:=h.own.own.ge hr3 (b:=q) (by show blk v3=some q;rw [hv];exact hq);exact ⟨this.1,this.2.1⟩)
 have hs9:=hg.size
 rw [World.size_alloc] at hs9
 have htw:=h.tw
 have e1:=h.rb;have e2:=h.rg;have e3:=h.gz;have e4:=h.gb;have e5:=h.wg;have e6:=h.off
 have hO:OwnR w9 B (w9.heap.size+1) (treRs tT v1 v2 v3' ⟨t.base,t.blocks,t.bef++[n]⟩ ts):=by
  have h3:=(h.own.own.perm treRs_swap3).below ((Below.refl wx.heap.size wx).alloc (Nat.le_refl _) o)
  have h4:=(h3.mono (Nat.le_refl B) (show T≤wx.heap.size+1 by omega)).grow (T':=w9.heap.size+1) (r':=⟨v3',tT.tI,1,(t.bef++[n]).length,(t.bef++[n]).map (Value.int .i64)⟩) (by rw [List.length_append,List.length_singleton,List.map_append];exact ho) hg (by rw [World.size_alloc];exact hloc) (by omega) (.inl (by rw [World.size_alloc];omega))
  exact h4.perm (treRs_swap3 (tT:=tT) (v1:=v1) (v2:=v2) (v3:=v3') (t:=⟨t.base,t.blocks,t.bef++[n]⟩) (ts:=ts)).symm
 have hZ:∀ r∈treRs tT v1 v2 v3' ⟨t.base,t.blocks,t.bef++[n]⟩ ts,blk r.v≠some Z:=by
  have hZw:=h.box.lt
  intro r hr hrb
  have hr':=treRs_swap3.mem_iff.1 hr
  simp only [List.mem_cons] at hr'
  have old:∀ r∈treRs tT v1 v2 v3 t ts,blk r.v≠some Z:=fun r hr e=>by have:=h.own.own.ge hr e;omega
  rcases hr' with rfl | rfl | hr'
  · simp only at hrb
    rw [owns_blk ho] at hrb
    rcases hloc with e | e
    · rw [e,← hv] at hrb;exact old _ hr3 hrb
    · rw [e] at hrb;cases hrb;omega
  · exact old _ (treRs_swap3.mem_iff.2 (by simp)) hrb
  · exact old _ (treRs_swap3.mem_iff.2 (by simp [hr'])) hrb
 have hwf:=h.own.wf
 have hT9:TreOwn (w9.setCell ⟨Z,2,none⟩ v3') B (w9.heap.size+1) tT v1 v2 v3' ⟨t.base,t.blocks,t.bef++[n]⟩ ts:=by
  refine ⟨h.own.tl,hO.keep (fun r hr q hq=>Below.heap_setCell _ _ _ _ (by simp;intro e;exact hZ r hr (by rw [hq,e]))),⟨hwf.base,fun y hy=>?_,hwf.blocks,hwf.blen,by simp;omega⟩⟩
  rcases List.mem_append.1 hy with hy | hy
  · exact hwf.bef y hy
  · simp at hy;subst hy;exact hn
 refine ⟨f1,v1,v2,v3',⟨t.base,t.blocks,t.bef++[n]⟩,trRd_formD hT9.rd,f1.set2 v3',fun W hW=>?_,⟨hs.base,hs.one,hs.most,by simp;omega,hs.blk⟩,f2.setT (by omega),f3.setNewT (by omega),f4.keep (Below.heap_setCell _ _ _ _ (by show G≠Z;omega)),h.gz,h.rg⟩
 exact (⟨hT9.tl,hT9.own.keep fun r hr b hb=>(by
  have h9:=hT9.own.ge hr hb
  exact hW b (by omega) h9.2.2 (by omega) (fun e=>hZ r hr (by rw [hb,e]))),hT9.wf⟩:TreOwn W B _ tT v1 v2 v3' _ ts).rd
theorem TrD.appBase {w wx w9:World} {R P Z G B T:Nat} {tT:TreT} {v1 v2 v3 v1':Value} {t:Tre} {ts:List Value} {o:Obj} {n:Ent} (h:TrD w wx R P Z G B T tT v1 v2 v3 t ts)
  (hg:(wx.alloc o).grownBy w9 v1.ownBlock) (hloc:v1'.ownBlock=v1.ownBlock∨v1'.ownBlock=some (wx.heap.size+1))
  (ho:w9.ownsRow B tT.tE 2 v1' (t.base.length+1) (flatE t.base++flatE [n])) (hn:(Lit.int .i64 n.1).wf=true∧(Lit.int .i64 n.2).wf=true) (hl:t.base.length < 4000000) (hs:TreSm t) (hl15:t.base.length≤32) :
  TrAt w9 Z v1 v2 v3∧TrX w (w9.setCell ⟨Z,0,none⟩ v1') R P Z G:=by
 have hr1:(⟨v1,tT.tE,2,t.base.length,flatE t.base⟩:Rw)∈treRs tT v1 v2 v3 t ts:=List.mem_cons_self
 have hv:=owns_blk (h.own.own.own _ hr1)
 simp only at hv
 obtain ⟨f1,f2,f3,f4⟩:=h.far hg (fun q hq=>by
  have:=h.own.own.ge hr1 (b:=q) (by show blk v1=some q;rw [hv];exact hq);exact ⟨this.1,this.2.1⟩)
 have hs9:=hg.size
 rw [World.size_alloc] at hs9
 have htw:=h.tw
 have e1:=h.rb;have e2:=h.rg;have e3:=h.gz;have e4:=h.gb;have e5:=h.wg;have e6:=h.off
 have hO:OwnR w9 B (w9.heap.size+1) (treRs tT v1' v2 v3 ⟨t.base++[n],t.blocks,t.bef⟩ ts):=by
  have h3:=h.own.own.below ((Below.refl wx.heap.size wx).alloc (Nat.le_refl _) o)
  have h4:=(h3.mono (Nat.le_refl B) (show T≤wx.heap.size+1 by omega)).grow (T':=w9.heap.size+1) (r':=⟨v1',tT.tE,2,(t.base++[n]).length,flatE (t.base++[n])⟩) (by rw [List.length_append,List.length_singleton,flatE_append];exact ho) hg (by rw [World.size_alloc];exact hloc) (by omega) (.inl (by rw [World.size_alloc];omega))
  exact h4
 have hZ:∀ r∈treRs tT v1' v2 v3 ⟨t.base++[n],t.blocks,t.bef⟩ ts,blk r.v≠some Z:=by
  have hZw:=h.box.lt
  intro r hr hrb
  have old:∀ r∈treRs tT v1 v2 v3 t ts,blk r.v≠some Z:=fun r hr e=>by have:=h.own.own.ge hr e;omega
  rcases List.mem_cons.1 hr with rfl | hr'
  · simp only at hrb
    rw [owns_blk ho] at hrb
    rcases hloc with e | e
    · rw [e,← hv] at hrb;exact old _ hr1 hrb
    · rw [e] at hrb;cases hrb;omega
  · exact old _ (List.mem_cons_of_mem _ hr') hrb
 have hwf:=h.own.wf
 have hT9:TreOwn (w9.setCell ⟨Z,0,none⟩ v1') B (w9.heap.size+1) tT v1' v2 v3 ⟨t.base++[n],t.blocks,t.bef⟩ ts:=by
  refine ⟨h.own.tl,hO.keep (fun r hr q hq=>Below.heap_setCell _ _ _ _ (by simp;intro e;exact hZ r hr (by rw [hq,e]))),⟨fun y hy=>?_,hwf.bef,hwf.blocks,by simp;omega,hwf.flen⟩⟩
  rcases List.mem_append.1 hy with hy | hy
  · exact hwf.base y hy
  · simp at hy;subst hy;exact hn
 refine ⟨f1,v1',v2,v3,⟨t.base++[n],t.blocks,t.bef⟩,trRd_formD hT9.rd,f1.set0 v1',fun W hW=>?_,⟨by simp;omega,hs.one,hs.most,hs.bef,hs.blk⟩,f2.setT (by omega),f3.setNewT (by omega),f4.keep (Below.heap_setCell _ _ _ _ (by show G≠Z;omega)),h.gz,h.rg⟩
 exact (⟨hT9.tl,hT9.own.keep fun r hr b hb=>(by
  have h9:=hT9.own.ge hr hb
  exact hW b (by omega) h9.2.2 (by omega) (fun e=>hZ r hr (by rw [hb,e]))),hT9.wf⟩:TreOwn W B _ tT v1' v2 v3 _ ts).rd
set_option linter.unusedSimpArgs false
theorem owns_updT {w w':World} {B R:Nat} {e:TypeId} {size n:Nat} {v:Value} {xs:List Value} (h:w.ownsRow B e size v n xs) (hu:Upd R w w') (hR:R < B):w'.ownsRow B e size v n xs:=owns_grown h hu (fun k hk=>by simp at hk;omega)
theorem owns_len9 {w:World} {B:Nat} {e:TypeId} {size n m c:Nat} {a:Option Addr} {xs:List Value} (h:w.ownsRow B e size (.slice a m c) n xs):m=n:=by
 rcases slice_of_owns h with ⟨h1,h2⟩ | ⟨g,cap,h1,-⟩
 · simp only [Value.slice.injEq] at h1;omega
 · simp only [Value.slice.injEq] at h1;exact h1.2.1
def WdActs (R:Nat):Wd R:=⟨fun v w=>∃ (g c:Nat) (L:List Acn),v = .slice (some ⟨g,0,none⟩) L.length c∧R < g∧RowA w (some ⟨g,0,none⟩) L.length L∧L.length≤20,
 fun v w w' ⟨g,c,L,h1,h2,h3,h4⟩ hu=>⟨g,c,L,h1,h2,h3.grown hu (by simp;omega),h4⟩⟩
def WdGrow (R:Nat) (w0:World) (mn:Nat):Wd R:=⟨fun v w=>∃ a1 m1 c1 a2 m2 c2 a3 m3 c3 z t ts B T,v = .tuple #[.agg #[.slice a1 m1 c1,.slice a2 m2 c2,.slice a3 m3 c3],.bool z]∧(treB t=true∧mn≤t.blocks.length)∧TreOwn w B T tTre (.slice a1 m1 c1) (.slice a2 m2 c2) (.slice a3 m3 c3) t ts∧w0.heap.size≤B∧R < B∧T≤w.heap.size,
 fun v w w' ⟨a1,m1,c1,a2,m2,c2,a3,m3,c3,z,t,ts,B,T,h1,h2,h3,h4,h5,h6⟩ hu=>⟨a1,m1,c1,a2,m2,c2,a3,m3,c3,z,t,ts,B,T,h1,h2,h3.upd hu h5,h4,h5,Nat.le_trans h6 hu.size⟩⟩
def WdTree (R:Nat) (w0:World) (mn:Nat):Wd R:=⟨fun v w=>∃ a1 m1 c1 a2 m2 c2 a3 m3 c3 t ts B T,v = .agg #[.slice a1 m1 c1,.slice a2 m2 c2,.slice a3 m3 c3]∧(treB t=true∧mn≤t.blocks.length)∧TreOwn w B T tTre (.slice a1 m1 c1) (.slice a2 m2 c2) (.slice a3 m3 c3) t ts∧w0.heap.size≤B∧R < B∧T≤w.heap.size,
 fun v w w' ⟨a1,m1,c1,a2,m2,c2,a3,m3,c3,t,ts,B,T,h1,h2,h3,h4,h5,h6⟩ hu=>⟨a1,m1,c1,a2,m2,c2,a3,m3,c3,t,ts,B,T,h1,h2,h3.upd hu h5,h4,h5,Nat.le_trans h6 hu.size⟩⟩
def WdSt (R:Nat):Wd R:=⟨fun v w=>∃ (a:Option Addr) (S:List Ent) (c B:Nat),v = .slice a (List.length S) c∧w.ownsRow B 142 2 (.slice a (List.length S) c) S.length (flatE S)∧WfE S∧S.length≤32∧R < B,
 fun v w w' ⟨a,S,c,B,h1,h2,h3,h4,h5⟩ hu=>⟨a,S,c,B,h1,owns_updT h2 hu h5,h3,h4,h5⟩⟩
def WdNB (R:Nat):Wd R:=⟨fun v w=>∃ (y:Blk) (a:Option Addr) (n c:Nat) (z:Bool) (B:Nat),v = .tuple #[.agg #[.int .i64 y.bef,.int .i64 y.hgt,.int .i64 y.view,.slice a n c,.int .i64 y.root,.int .i64 y.effs],.bool z]∧w.ownsRow B 113 4 (.slice a n c) y.acts.length (flatA y.acts)∧WfAs y.acts∧WfB y∧y.acts.length≤10∧R < B,
 fun v w w' ⟨y,a,n,c,z,B,h1,h2,h3,h4,h5,h6⟩ hu=>⟨y,a,n,c,z,B,h1,owns_updT h2 hu h6,h3,h4,h5,h6⟩⟩
def WdNBb (R:Nat):Wd R:=⟨fun v w=>∃ (y:Blk) (a:Option Addr) (n c B:Nat),v = .agg #[.int .i64 y.bef,.int .i64 y.hgt,.int .i64 y.view,.slice a n c,.int .i64 y.root,.int .i64 y.effs]∧w.ownsRow B 113 4 (.slice a n c) y.acts.length (flatA y.acts)∧WfAs y.acts∧WfB y∧y.acts.length≤10∧R < B,
 fun v w w' ⟨y,a,n,c,B,h1,h2,h3,h4,h5,h6⟩ hu=>⟨y,a,n,c,B,h1,owns_updT h2 hu h6,h3,h4,h5,h6⟩⟩
theorem BkAt.updT {w w':World} {Z R:Nat} {v0 v1 v2 v3 v4 v5:Value} (h:BkAt w Z v0 v1 v2 v3 v4 v5) (hu:Upd R w w') (hne:Z≠R):BkAt w' Z v0 v1 v2 v3 v4 v5:=h.keep (hu.block Z h.lt (fun e=>hne (by simpa using e)))
def WdBox (R:Nat) (w0:World):Wd R:=⟨fun v w=>∃ Z,v = .pointer (some ⟨Z,0,none⟩)∧w0.heap.size≤Z∧R < Z∧BkAt w Z (.int .i64 0) (.int .i64 0) (.int .i64 0) (.slice none 0 0) (.int .i64 0) (.int .i64 0),
 fun v w w' ⟨Z,h1,h2,h3,h4⟩ hu=>⟨Z,h1,h2,h3,h4.updT hu (by omega)⟩⟩
theorem BkAt.put0 {w:World} {Z:Nat} {v0 v1 v2 v3 v4 v5:Value} (h:BkAt w Z v0 v1 v2 v3 v4 v5) (x:Value):BkAt (w.setCell ⟨Z,0,none⟩ x) Z x v1 v2 v3 v4 v5:=by
 constructor <;> simp [go_sem,h.c0,h.c1,h.c2,h.c3,h.c4,h.c5,h.f0,h.f1,h.f2,h.f3,h.f4,h.f5]
theorem BkAt.put1 {w:World} {Z:Nat} {v0 v1 v2 v3 v4 v5:Value} (h:BkAt w Z v0 v1 v2 v3 v4 v5) (x:Value):BkAt (w.setCell ⟨Z,1,none⟩ x) Z v0 x v2 v3 v4 v5:=by
 constructor <;> simp [go_sem,h.c0,h.c1,h.c2,h.c3,h.c4,h.c5,h.f0,h.f1,h.f2,h.f3,h.f4,h.f5]
theorem BkAt.put2 {w:World} {Z:Nat} {v0 v1 v2 v3 v4 v5:Value} (h:BkAt w Z v0 v1 v2 v3 v4 v5) (x:Value):BkAt (w.setCell ⟨Z,2,none⟩ x) Z v0 v1 x v3 v4 v5:=by
 constructor <;> simp [go_sem,h.c0,h.c1,h.c2,h.c3,h.c4,h.c5,h.f0,h.f1,h.f2,h.f3,h.f4,h.f5]
theorem BkAt.put3D {w:World} {Z:Nat} {v0 v1 v2 v3 v4 v5:Value} (h:BkAt w Z v0 v1 v2 v3 v4 v5) (x:Value):BkAt (w.setCell ⟨Z,3,none⟩ x) Z v0 v1 v2 x v4 v5:=by
 constructor <;> simp [go_sem,h.c0,h.c1,h.c2,h.c3,h.c4,h.c5,h.f0,h.f1,h.f2,h.f3,h.f4,h.f5]
theorem BkAt.put4D {w:World} {Z:Nat} {v0 v1 v2 v3 v4 v5:Value} (h:BkAt w Z v0 v1 v2 v3 v4 v5) (x:Value):BkAt (w.setCell ⟨Z,4,none⟩ x) Z v0 v1 v2 v3 x v5:=by
 constructor <;> simp [go_sem,h.c0,h.c1,h.c2,h.c3,h.c4,h.c5,h.f0,h.f1,h.f2,h.f3,h.f4,h.f5]
def ActsIn (R:Nat) (w:World) (a:Option Addr) (n c:Nat) (L:List Acn):Prop :=
 L.length=n∧(a=none→c=0)∧WfAs L∧(0 < n→∃ g B,R < B∧a=some ⟨g,0,none⟩∧w.ownsRow B 113 4 (.slice a n c) L.length (flatA L))
theorem actsIn_of {w:World} {B R:Nat} {a:Option Addr} {n c:Nat} {L:List Acn} (h:w.ownsRow B 113 4 (.slice a n c) L.length (flatA L)) (hw:WfAs L) (hl:L.length≤4000000) (hR:R < B):ActsIn R w a n c L:=by
 obtain rfl:=owns_len9 h
 obtain ⟨a',c',e,-,hz,-⟩:=rowA_of_owns h hl hw
 simp only [Value.slice.injEq,true_and] at e
 obtain ⟨rfl,rfl⟩:=e
 refine ⟨rfl,hz,hw,fun hn=>?_⟩
 rcases slice_of_owns h with ⟨h1,h2⟩ | ⟨g,cap,h1,-⟩
 · omega
 · simp only [Value.slice.injEq] at h1;exact ⟨g,B,hR,h1.1,h⟩
theorem ActsIn.set {w:World} {a p:Option Addr} {n c q k Z R:Nat} {L:List Acn} {v0 v1 v2 v4 v5:Value} (h:ActsIn R w a n c L) (hz:BkAt w Z v0 v1 v2 (.slice p q k) v4 v5) (o:Nat) (x:Value):ActsIn R (w.setCell ⟨Z,o,none⟩ x) a n c L:=by
 obtain ⟨h1,h2,h3,h4⟩:=h
 refine ⟨h1,h2,h3,fun hn=>?_⟩
 obtain ⟨g,B,hRB,rfl,ho⟩:=h4 hn
 have hne:g≠Z:=fun e=>by
  subst e
  have hc:=World.ownsRow.cellAt (n:=n) (by rw [h1] at ho;exact ho) 3 (by show 3 < n*4;omega)
  rw [hz.c3] at hc
  cases L with
  | nil=>simp at h1;omega
  | cons y r =>
   have hfl:(flatA (y :: r))[3]? = some (.int .i64 y.amt):=rfl
   rw [hfl] at hc;cases hc
 exact ⟨g,B,hRB,rfl,owns_keep ho (fun b hb=>Below.heap_setCell _ _ _ _ (by simp [blk] at hb;simp;omega))⟩
theorem ActsIn.upd {w w':World} {a:Option Addr} {n c R:Nat} {L:List Acn} (h:ActsIn R w a n c L) (hu:Upd R w w'):ActsIn R w' a n c L:=by
 obtain ⟨h1,h2,h3,h4⟩:=h
 refine ⟨h1,h2,h3,fun hn=>?_⟩
 obtain ⟨g,B,hRB,rfl,ho⟩:=h4 hn
 exact ⟨g,B,hRB,rfl,owns_updT ho hu hRB⟩
theorem TrD.away {w wx:World} {R P Z G B T Q o:Nat} {tT:TreT} {v1 v2 v3 x:Value} {t:Tre} {ts:List Value} (h:TrD w wx R P Z G B T tT v1 v2 v3 t ts) (hz:Z < Q) (hT:T≤Q):TrD w (wx.setCell ⟨Q,o,none⟩ x) R P Z G B T tT v1 v2 v3 t ts:=by
 have e1:=h.rb;have e2:=h.rg;have e3:=h.gz;have e4:=h.gb;have e5:=h.wg;have e6:=h.off
 exact ⟨h.box.keep (Below.heap_setCell _ _ _ _ (by show Z≠Q;omega)),⟨h.own.tl,h.own.own.keep fun r hr b hb=>Below.heap_setCell _ _ _ _ (by have:=h.own.own.ge hr hb;show b≠Q;omega),h.own.wf⟩,h.rb,h.rg,h.gz,h.gb,h.wg,h.off,by simpa [World.setCell] using h.tw,h.rd.setT (by omega),h.upd.setNewT (by omega),h.res.keep (Below.heap_setCell _ _ _ _ (by show G≠Q;omega))⟩
theorem ActsIn.row {w:World} {a:Option Addr} {n c R:Nat} {L:List Acn} (h:ActsIn R w a n c L) (hn:n≤4000000):RowA w a n L:=by
 obtain ⟨rfl,h2,h3,h4⟩:=h
 by_cases h0:0 < L.length
 · obtain ⟨g,B,hRB,rfl,ho⟩:=h4 h0
   obtain ⟨a',c',e,r,-⟩:=rowA_of_owns ho hn h3
   simp only [Value.slice.injEq,true_and] at e
   obtain ⟨rfl,-⟩:=e
   exact r
 · have:L=[]:=List.eq_nil_of_length_eq_zero (by omega)
   subst this
   exact ⟨rfl,by unfold maxLen;simp,fun h=>absurd h (by simp),h3⟩
def DrawTr (w:World) (R P c:Nat) (en:Ending) (w':World):Prop :=
 ∃ v1 v2 v3 t,en = .returned (.agg #[v1,v2,v3])∧(∀ W:World,(∀ k,w.heap.size < k→k < w'.heap.size→k≠R→W.heap[k]? = w'.heap[k]?)→TreRd W v1 v2 v3 t)∧TreSm t∧Rd w' R (P+c)∧Upd R w w'
set_option maxRecDepth 100000 in
set_option maxHeartbeats 16000000 in
theorem l20Tree_any (R P:Nat) (n:Int) (w:World) (h:Rd w R P) (hP:P≤500000) (hn0:0≤n) (hn:n≤1000) :
  Calls Tryz.prog 67 #[.pointer (some ⟨R,0,none⟩),.int .i64 n] w (DrawTr w R P 4000):=by
 have hRw:=h.lt
 have HRW:=Lib.hid hRw
 have HG0:=Lib.hid (trAt_new w 27 (.slice none 0 0) (.slice none 0 0) (.slice none 0 0))
 go_enter Tryz.func67,Tryz.ntmps67
 go_wp2_with fail
 refine (l20Store_valid R P _ (h.alloc _) (by omega)).mono ?_;rintro e w2 ⟨v0,S,rfl,hoS,hwS,hSv,hr2,hu2⟩
 have hSl:=store_len hSv
 obtain ⟨g0,c0,rfl,hg0,hrS⟩:=rowE_of_own hoS (by omega) hwS
 have hu02:=((Upd.refl R w).alloc _).trans hu2
 have HG2:=Lib.hid (HG0.out.upd hu2 (by omega))
 clear h hoS
 go_wp2_with fail
 refine (treeOf_spec _ _ c0 S _ hrS (by intro h;cases h)).mono ?_;rintro e w4 ⟨x1,x2,x3,ts,rfl,ho4,hb4⟩
 obtain ⟨b1,m1,d1,b2,m2,d2,b3,m3,d3,rfl,rfl,rfl⟩:=trRd_formD ho4.rd
 go_upto_region 2 with (fail)
 have HS2:Hid (R < w2.heap.size∧w.heap.size < w2.heap.size):=Lib.hid (by have:=HG2.out.lt;omega)
 have hU4:=hu02.trans (Upd.ofBelow R hb4)
 have hR4:=hr2.below hb4
 have hG4:=HG2.out.below hb4
 have hS4:=hb4.size
 have HTV:=Lib.hid (treOf_ok hSv)
 clear hrS hr2 hu02 hu2 hb4 hg0 hwS HG2 HG0
 generalize hw5:World.alloc _ _=w5
 have hb5:Below w4.heap.size w4 w5:=by rw [← hw5];exact (Below.refl _ _).alloc (Nat.le_refl _) _
 have hA5:TrAt w5 w4.heap.size (.slice b1 m1 d1) (.slice b2 m2 d2) (.slice b3 m3 d3):=by rw [← hw5];exact trAt_new w4 _ _ _ _
 obtain ⟨Z,hZ⟩:∃ Z,Z=w4.heap.size:=⟨_,rfl⟩
 have hD5:TrD w w5 R (P+60) Z w.heap.size w2.heap.size w4.heap.size tTre (.slice b1 m1 d1) (.slice b2 m2 d2) (.slice b3 m3 d3) (treOfM S) ts :=
  ⟨by rw [hZ];exact hA5,ho4.below hb5,HS2.out.1,HRW.out,by have:=HS2.out;omega,HS2.out.2,Nat.le_refl _,.inr (by omega),hb5.size,hR4.below hb5,hU4.trans (Upd.ofBelow R hb5),hG4.below hb5⟩
 rw [← hZ]
 have HD5:=Lib.hid hD5
 clear hw5 hb5 hA5 hZ hU4 hR4 hG4 hS4 ho4
 go_wp2_with fail
 refine (pick_pos R _ 8 _ HD5.out.rd (by omega) (by omega) (by omega)).mono ?_;rintro e w6 ⟨x6,rfl,h60,h61,hr6,hu6⟩
 have HD6:=Lib.hid (HD5.out.go hu6 hr6)
 clear HD5 hr6 hu6 hD5
 go_wp2_with fail
 go_loopw [6] (fun i wr=>∃ x:Nat,i = .int .i64 (x:Int)∧x≤7∧∃ b1 m1 d1 b2 m2 d2 b3 m3 d3 t ts B T,treB t=true∧TrD w wr R (P+61+(7 - x)*400) Z w.heap.size B T tTre (.slice b1 m1 d1) (.slice b2 m2 d2) (.slice b3 m3 d3) t ts) (fun i _=>(intOf i).toNat)
 case atStart =>
  obtain ⟨y,rfl⟩:=Int.eq_ofNat_of_zero_le h60
  exact ⟨y,rfl,by omega,_,_,_,_,_,_,_,_,_,_,_,_,_,HTV.out,HD6.out.more (by omega)⟩
 case round =>
  clear HD6 HTV
  obtain ⟨x,rfl,hx7,b1,m1,d1,b2,n2,d2,b3,m3,d3,t,ts,B,T,hok,hD⟩:=hrel
  have HOK:=Lib.hid hok
  have htk:=(treB_iff t).1 hok
  have HSM:=Lib.hid htk.sm
  by_cases hx0:0 < x
  · obtain ⟨P5,hP5⟩:∃ p,p=P+61+(7 - x)*400:=⟨_,rfl⟩
    rw [← hP5] at hD
    have hPb:P5≤P+61+2800:=by omega
    have h1:=htk.one
    have h14:=htk.most
    obtain ⟨g,c2,e2⟩:=hD.own.form2 h1
    simp only [Value.slice.injEq] at e2
    obtain ⟨rfl,hn2,rfl⟩:=e2
    rw [← hn2] at h1 h14
    have HN2:=Lib.hid hn2
    have HTD:=Lib.hid hD
    have hr0:=hD.rd
    have HBX:=Lib.hid (fun (W:World) (hu:Upd R wr W)=>hD.box.upd hu (by have:=hD.rg;have:=hD.gz;omega))
    have hw1:IntKind.i64.wrap ((n2:Int) - 1)=(n2:Int) - 1:=IntWalk.i64_in _ (by omega)
    have hgx:decide ((0:Int) < (x:Int))=true:=by simp;omega
    have hgx2:decide (0 < x)=true:=by simp;omega
    clear hok htk hn2 hD
    go_upto_region 5 with (fail)
    refine wp_region_light (by kernel_rfl) (WdJ R wr (P5) [(8,1),(11,1)] [(0,21,Wd.is R (.pointer (some ⟨Z,1,none⟩))),(1,22,Wd.is R (.slice (some ⟨g,0,none⟩) n2 d2)),(2,23,Wd.is R (.int .i64 (n2:Int))),(3,24,Wd.is R (.int .i64 ((n2:Int) - 1))),(4,25,Wd.is R (.pointer (some ⟨R,0,none⟩))),(5,26,Wd.is R (.pointer (some ⟨Z,1,none⟩))),(6,27,Wd.is R (.slice (some ⟨g,0,none⟩) n2 d2)),(7,28,Wd.is R (.int .i64 (n2:Int))),(8,29,Wd.int R (0) ((n2:Int) - 1)),(9,30,Wd.lit R 2 (0) ((n2:Int) - 1)),(10,31,Wd.is R (.pointer (some ⟨R,0,none⟩))),(11,32,Wd.int R (0) (3)),(12,33,Wd.int R (0) (1)),(13,34,Wd.to R (0) ((n2:Int) - 1)),(14,35,Wd.int R (0) ((n2:Int) - 1)),(15,7,Wd.int R (0) ((n2:Int) - 1))]) 137 rfl [21,22,23,24,25,26,27,28,29,30,31,32,33,34,35,7] (by kernel_rfl) (by kernel_rfl) (by kernel_rfl) (fun f=>WdJ.nothing _ _ f hr0) ?_ ?_
    · intro i hi
      rcases (by have:i < 16:=hi;omega:i=0∨i=1∨i=2∨i=3∨i=4∨i=5∨i=6∨i=7∨i=8∨i=9∨i=10∨i=11∨i=12∨i=13∨i=14∨i=15) with rfl | rfl | rfl | rfl | rfl | rfl | rfl | rfl | rfl | rfl | rfl | rfl | rfl | rfl | rfl | rfl
      all_goals (clear hi;intro o ho lz fz w' A hJ0 hli ha hA K hK;obtain rfl:=Option.some.inj ho;clear ho)
      · have hJ:=hJ0
        have gg5:=so hA 5 _ rfl
        simp only [List.getD_cons_succ,List.getD_cons_zero] at gg5
        rw [if_pos (by rfl)]
        have hF:=hK _ w' (hJ.stay 0 0 21 rfl rfl rfl rfl)
        clear hJ hJ0 ha hK hA hli;go_simp;exact hF
      · have hJ:=hJ0
        have gg21:=sj hA 21 (hJ.at 0 rfl (ha 0 (by decide)))
        rw [if_pos (by rfl)]
        obtain ⟨z0,z1,z2,-,-,-⟩:=HBX.out w' hJ.upd
        have hF:=hK _ w' (hJ.stay 1 1 22 rfl rfl rfl rfl)
        clear hJ hJ0 ha hK hA hli;go_simp;exact hF
      · have hJ:=hJ0
        have gg22:=sj hA 22 (hJ.at 1 rfl (ha 1 (by decide)))
        rw [if_pos (by rfl)]
        have hF:=hK _ w' (hJ.stay 2 2 23 rfl rfl rfl rfl)
        clear hJ hJ0 ha hK hA hli;go_simp;exact hF
      · have hJ:=hJ0
        have gg23:=sj hA 23 (hJ.at 2 rfl (ha 2 (by decide)))
        rw [if_pos (by rfl)]
        have hF:=hK _ w' (hJ.stay 3 3 24 rfl rfl rfl rfl)
        clear hJ hJ0 ha hK hA hli;go_simp;exact hF
      · have hJ:=hJ0
        have gg0:=so hA 0 _ rfl
        simp only [List.getD_cons_succ,List.getD_cons_zero] at gg0
        rw [if_pos (by rfl)]
        have hF:=hK _ w' (hJ.stay 4 4 25 rfl rfl rfl rfl)
        clear hJ hJ0 ha hK hA hli;go_simp;exact hF
      · have hJ:=hJ0
        have gg5:=so hA 5 _ rfl
        simp only [List.getD_cons_succ,List.getD_cons_zero] at gg5
        rw [if_pos (by rfl)]
        have hF:=hK _ w' (hJ.stay 5 5 26 rfl rfl rfl rfl)
        clear hJ hJ0 ha hK hA hli;go_simp;exact hF
      · have hJ:=hJ0
        have gg26:=sj hA 26 (hJ.at 5 rfl (ha 5 (by decide)))
        rw [if_pos (by rfl)]
        obtain ⟨z0,z1,z2,-,-,-⟩:=HBX.out w' hJ.upd
        have hF:=hK _ w' (hJ.stay 6 6 27 rfl rfl rfl rfl)
        clear hJ hJ0 ha hK hA hli;go_simp;exact hF
      · have hJ:=hJ0
        have gg27:=sj hA 27 (hJ.at 6 rfl (ha 6 (by decide)))
        rw [if_pos (by rfl)]
        have hF:=hK _ w' (hJ.stay 7 7 28 rfl rfl rfl rfl)
        clear hJ hJ0 ha hK hA hli;go_simp;exact hF
      · have hJ:=hJ0
        have hbd:=costOf_le [(8,1),(11,1)] lz
        simp only [List.map_cons,List.map_nil,List.sum_cons,List.sum_nil] at hbd
        have gg25:=sj hA 25 (hJ.at 4 rfl (ha 4 (by decide)))
        have gg28:=sj hA 28 (hJ.at 7 rfl (ha 7 (by decide)))
        rw [if_pos (by rfl)]
        clear hA
        go_simp
        refine (pick_pos R _ (n2:Int) w' hJ.rd (by omega) (by omega) (by omega)).mono ?_
        rintro e9 w9 ⟨x9,rfl,h90,h91,hr9,hu9⟩
        exact hK _ w9 (hJ.step 8 8 29 (.int .i64 x9) rfl rfl rfl hu9 (hJ.asked 8 (by simp) hli hr9) ⟨x9,rfl,by omega,by omega⟩)
      · have hJ:=hJ0
        have hbd:=costOf_le [(8,1),(11,1)] lz
        simp only [List.map_cons,List.map_nil,List.sum_cons,List.sum_nil] at hbd
        have gg24:=sj hA 24 (hJ.at 3 rfl (ha 3 (by decide)))
        obtain ⟨x29,hx29,hl29,hu29⟩:=hJ.at 8 rfl (ha 8 (by decide))
        have gg29:=sj hA 29 hx29
        rw [if_pos (by rfl)]
        have hRw:=hJ.rd.lt
        have hlo:=wd_lit (w:=w') (R:=R) (n:=2) (T:=3) (lo:=0) (hi:=(n2:Int) - 1) (cs:=[(n2:Int) - 1,x29]) hRw rfl (by intro z hz;simp only [List.mem_cons,List.not_mem_nil,or_false] at hz;omega)
        have hF:=hK (.slice (some ⟨w'.heap.size,0,none⟩) 2 2) (w'.alloc (.cells #[.int .i64 ((n2:Int) - 1),.int .i64 (x29)] 3)) (hJ.step 9 9 30 (.slice (some ⟨w'.heap.size,0,none⟩) 2 2) rfl rfl rfl ((Upd.refl _ _).alloc _) (hJ.same 9 (hJ.rd.alloc _)) hlo)
        clear hJ hJ0 ha hK hA hli hbd;go_simp;exact hF
      · have hJ:=hJ0
        have gg0:=so hA 0 _ rfl
        simp only [List.getD_cons_succ,List.getD_cons_zero] at gg0
        rw [if_pos (by rfl)]
        have hF:=hK _ w' (hJ.stay 10 10 31 rfl rfl rfl rfl)
        clear hJ hJ0 ha hK hA hli;go_simp;exact hF
      · have hJ:=hJ0
        have hbd:=costOf_le [(8,1),(11,1)] lz
        simp only [List.map_cons,List.map_nil,List.sum_cons,List.sum_nil] at hbd
        have gg31:=sj hA 31 (hJ.at 10 rfl (ha 10 (by decide)))
        rw [if_pos (by rfl)]
        clear hA
        go_simp
        refine (pick_pos R _ 4 w' hJ.rd (by omega) (by omega) (by omega)).mono ?_
        rintro e9 w9 ⟨x9,rfl,h90,h91,hr9,hu9⟩
        exact hK _ w9 (hJ.step 11 11 32 (.int .i64 x9) rfl rfl rfl hu9 (hJ.asked 11 (by simp) hli hr9) ⟨x9,rfl,by omega,by omega⟩)
      · have hJ:=hJ0
        have hbd:=costOf_le [(8,1),(11,1)] lz
        simp only [List.map_cons,List.map_nil,List.sum_cons,List.sum_nil] at hbd
        obtain ⟨x32,hx32,hl32,hu32⟩:=hJ.at 11 rfl (ha 11 (by decide))
        have gg32:=sj hA 32 hx32
        rw [if_pos (by rfl)]
        have ew33:IntKind.i64.wrap (Int.tdiv x32 3)=x32 / 3:=by rw [Int.tdiv_eq_ediv_of_nonneg (by omega)];exact IntWalk.i64_in _ (by omega)
        have hF:=hK (.int .i64 (x32 / 3)) w' (hJ.stay 12 12 33 rfl rfl rfl ⟨_,rfl,by omega,by omega⟩)
        clear hJ hJ0 ha hK hA hli hbd;go_simp;exact hF
      · have hJ:=hJ0
        have hbd:=costOf_le [(8,1),(11,1)] lz
        simp only [List.map_cons,List.map_nil,List.sum_cons,List.sum_nil] at hbd
        obtain ⟨q30,hx30,hg30,hc30⟩:=hJ.at 9 rfl (ha 9 (by decide))
        have gg30:=sj hA 30 hx30
        obtain ⟨x33,hx33,hl33,hu33⟩:=hJ.at 12 rfl (ha 12 (by decide))
        have gg33:=sj hA 33 hx33
        rw [if_pos (by rfl)]
        obtain ⟨y,hy,hy0,hy1⟩:=hc30 x33.toNat (by omega)
        have hx2:x33 < 2:=by omega
        have hF:=hK (.pointer (some ⟨q30,x33.toNat,none⟩)) w' (hJ.stay 13 13 34 rfl rfl rfl ⟨_,_,rfl,hg30,y,hy,hy0,hy1⟩)
        clear hJ hJ0 ha hK hA hli hbd;go_simp;exact hF
      · have hJ:=hJ0
        have hbd:=costOf_le [(8,1),(11,1)] lz
        simp only [List.map_cons,List.map_nil,List.sum_cons,List.sum_nil] at hbd
        obtain ⟨q34,i34,hx34,hg34,y34,hy34,hl34,hu34⟩:=hJ.at 13 rfl (ha 13 (by decide))
        have gg34:=sj hA 34 hx34
        rw [if_pos (by rfl)]
        have hF:=hK (.int .i64 y34) w' (hJ.stay 14 14 35 rfl rfl rfl ⟨_,rfl,hl34,hu34⟩)
        clear hJ hJ0 ha hK hA hli hbd;go_simp;exact hF
      · have hJ:=hJ0
        have hbd:=costOf_le [(8,1),(11,1)] lz
        simp only [List.map_cons,List.map_nil,List.sum_cons,List.sum_nil] at hbd
        obtain ⟨x35,hx35,hl35,hu35⟩:=hJ.at 14 rfl (ha 14 (by decide))
        have gg35:=sj hA 35 hx35
        rw [if_pos (by rfl)]
        have hF:=hK (.int .i64 x35) w' (hJ.stay 15 15 7 rfl rfl rfl ⟨_,rfl,hl35,hu35⟩)
        clear hJ hJ0 ha hK hA hli hbd;go_simp;exact hF
    intro lz fz w5 hall hJ
    obtain ⟨x7,hx7',hl7,hu7⟩:=hJ.at 15 rfl (hall 15 (by decide))
    have hu5:=hJ.upd
    have hr5:Rd w5 R (P5+2):=by simpa using hJ.end_
    clear hJ hall
    obtain ⟨k,rfl⟩:=Int.eq_ofNat_of_zero_le hl7
    have hkn:k < n2:=by omega
    have HD7:=Lib.hid (HTD.out.go hu5 hr5)
    clear HTD HBX hr0 hu5 hr5 hl7 hu7
    simp only [mixF,List.contains_cons,List.contains_nil]
    go_simp
    obtain ⟨wA,hwA⟩:∃ W,W=w5:=⟨_,rfl⟩
    rw [← hwA] at HD7 ⊢
    clear hwA
    have hrA:=HD7.out.rd
    obtain ⟨P6,hP6⟩:∃ p,p=P5+2:=⟨_,rfl⟩
    rw [← hP6] at hrA HD7
    have HBX:=Lib.hid (fun (W:World) (hu:Upd R wA W)=>HD7.out.box.upd hu (by have:=HD7.out.rg;have:=HD7.out.gz;omega))
    have hkl:k < t.blocks.length:=by rw [← HN2.out];exact hkn
    obtain ⟨y,hy⟩:∃ y,y=blkAt t.blocks k:=⟨_,rfl⟩
    have hyb:=HSM.out.blk _ (blkAt_mem hkl)
    rw [← hy] at hyb
    obtain ⟨vw,hvw⟩:∃ v,v=y.view:=⟨_,rfl⟩
    have hvb:0≤vw∧vw≤1000:=by rw [hvw];exact hyb.2.2.1
    have HBC:Hid (∀ W,Upd R wA W→W.cell? ⟨g,k*6,none⟩=some (.int .i64 y.bef)∧W.cell? ⟨g,k*6+1,none⟩=some (.int .i64 y.hgt)∧W.cell? ⟨g,k*6+2,none⟩=some (.int .i64 vw)∧True∧True∧True):=Lib.hid (fun W hu=>by
     have hc:=fun (j:Nat) (hj:j < 6)=>(HD7.out.own.upd hu HD7.out.rb).cells hkl hj
     rw [← hy] at hc
     exact ⟨hc 0 (by omega),hc 1 (by omega),by rw [hvw];exact hc 2 (by omega),trivial,trivial,trivial⟩)
    have i1:(0:Int)≤(k:Int):=by omega
    have i2:(k:Int) < (n2:Int):=by omega
    clear hy hvw hyb
    go_upto_region 6 with (fail)
    refine wp_region_light (by kernel_rfl) (WdJ R wA (P6) [(8,1)] [(0,36,Wd.is R (.pointer (some ⟨Z,1,none⟩))),(1,37,Wd.is R (.slice (some ⟨g,0,none⟩) n2 d2)),(2,38,Wd.is R (.int .i64 (k:Int))),(3,39,Wd.is R (.pointer (some ⟨g,k*6,none⟩))),(4,40,Wd.is R (.pointer (some ⟨g,k*6+2,none⟩))),(5,41,Wd.is R (.int .i64 vw)),(6,42,Wd.lit R 4 (1) (2)),(7,43,Wd.is R (.pointer (some ⟨R,0,none⟩))),(8,44,Wd.int R (0) (3)),(9,45,Wd.to R (1) (2)),(10,46,Wd.int R (1) (2)),(11,47,Wd.int R (vw+1) (vw+2)),(12,8,Wd.int R (vw+1) (vw+2))]) 137 rfl [36,37,38,39,40,41,42,43,44,45,46,47,8] (by kernel_rfl) (by kernel_rfl) (by kernel_rfl) (fun f=>WdJ.nothing _ _ f hrA) ?_ ?_
    · intro i hi
      rcases (by have:i < 13:=hi;omega:i=0∨i=1∨i=2∨i=3∨i=4∨i=5∨i=6∨i=7∨i=8∨i=9∨i=10∨i=11∨i=12) with rfl | rfl | rfl | rfl | rfl | rfl | rfl | rfl | rfl | rfl | rfl | rfl | rfl
      all_goals (clear hi;intro o ho lz fz w' A hJ0 hli ha hA K hK;obtain rfl:=Option.some.inj ho;clear ho)
      · have hJ:=hJ0
        have gg5:=so hA 5 _ rfl
        simp only [List.getD_cons_succ,List.getD_cons_zero] at gg5
        rw [if_pos (by rfl)]
        have hF:=hK _ w' (hJ.stay 0 0 36 rfl rfl rfl rfl)
        clear hJ hJ0 ha hK hA hli;go_simp;exact hF
      · have hJ:=hJ0
        have gg36:=sj hA 36 (hJ.at 0 rfl (ha 0 (by decide)))
        rw [if_pos (by rfl)]
        obtain ⟨z0,z1,z2,-,-,-⟩:=HBX.out w' hJ.upd
        have hF:=hK _ w' (hJ.stay 1 1 37 rfl rfl rfl rfl)
        clear hJ hJ0 ha hK hA hli;go_simp;exact hF
      · have hJ:=hJ0
        have gg7:=so hA 7 _ rfl
        simp only [List.getD_cons_succ,List.getD_cons_zero] at gg7
        rw [if_pos (by rfl)]
        have hF:=hK _ w' (hJ.stay 2 2 38 rfl rfl rfl rfl)
        clear hJ hJ0 ha hK hA hli;go_simp;exact hF
      · have hJ:=hJ0
        have gg37:=sj hA 37 (hJ.at 1 rfl (ha 1 (by decide)))
        have gg38:=sj hA 38 (hJ.at 2 rfl (ha 2 (by decide)))
        rw [if_pos (by rfl)]
        have hF:=hK _ w' (hJ.stay 3 3 39 rfl rfl rfl rfl)
        clear hJ hJ0 ha hK hA hli;go_simp;exact hF
      · have hJ:=hJ0
        have gg39:=sj hA 39 (hJ.at 3 rfl (ha 3 (by decide)))
        rw [if_pos (by rfl)]
        have hF:=hK _ w' (hJ.stay 4 4 40 rfl rfl rfl rfl)
        clear hJ hJ0 ha hK hA hli;go_simp;exact hF
      · have hJ:=hJ0
        have gg40:=sj hA 40 (hJ.at 4 rfl (ha 4 (by decide)))
        rw [if_pos (by rfl)]
        obtain ⟨k0,k1,k2,k3,k4,k5⟩:=HBC.out w' hJ.upd
        have hF:=hK _ w' (hJ.stay 5 5 41 rfl rfl rfl rfl)
        clear hJ hJ0 ha hK hA hli;go_simp;exact hF
      · have hJ:=hJ0
        have hbd:=costOf_le [(8,1)] lz
        simp only [List.map_cons,List.map_nil,List.sum_cons,List.sum_nil] at hbd
        rw [if_pos (by rfl)]
        have hRw:=hJ.rd.lt
        have hlo:=wd_lit (w:=w') (R:=R) (n:=4) (T:=3) (lo:=1) (hi:=2) (cs:=[1,1,1,2]) hRw rfl (by intro z hz;simp only [List.mem_cons,List.not_mem_nil,or_false] at hz;omega)
        have hF:=hK (.slice (some ⟨w'.heap.size,0,none⟩) 4 4) (w'.alloc (.cells #[.int .i64 (1),.int .i64 (1),.int .i64 (1),.int .i64 (2)] 3)) (hJ.step 6 6 42 (.slice (some ⟨w'.heap.size,0,none⟩) 4 4) rfl rfl rfl ((Upd.refl _ _).alloc _) (hJ.same 6 (hJ.rd.alloc _)) hlo)
        clear hJ hJ0 ha hK hA hli hbd
        go_simp
        exact hF
      · have hJ:=hJ0
        have gg0:=so hA 0 _ rfl
        simp only [List.getD_cons_succ,List.getD_cons_zero] at gg0
        rw [if_pos (by rfl)]
        have hF:=hK _ w' (hJ.stay 7 7 43 rfl rfl rfl rfl)
        clear hJ hJ0 ha hK hA hli;go_simp;exact hF
      · have hJ:=hJ0
        have hbd:=costOf_le [(8,1)] lz
        simp only [List.map_cons,List.map_nil,List.sum_cons,List.sum_nil] at hbd
        have gg43:=sj hA 43 (hJ.at 7 rfl (ha 7 (by decide)))
        rw [if_pos (by rfl)]
        clear hA
        go_simp
        refine (pick_pos R _ 4 w' hJ.rd (by omega) (by omega) (by omega)).mono ?_
        rintro e9 w9 ⟨x9,rfl,h90,h91,hr9,hu9⟩
        exact hK _ w9 (hJ.step 8 8 44 (.int .i64 x9) rfl rfl rfl hu9 (hJ.asked 8 (by simp) hli hr9) ⟨x9,rfl,by omega,by omega⟩)
      · have hJ:=hJ0
        have hbd:=costOf_le [(8,1)] lz
        simp only [List.map_cons,List.map_nil,List.sum_cons,List.sum_nil] at hbd
        obtain ⟨q42,hx42,hg42,hc42⟩:=hJ.at 6 rfl (ha 6 (by decide))
        have gg42:=sj hA 42 hx42
        obtain ⟨x44,hx44,hl44,hu44⟩:=hJ.at 8 rfl (ha 8 (by decide))
        have gg44:=sj hA 44 hx44
        rw [if_pos (by rfl)]
        obtain ⟨y,hy,hy0,hy1⟩:=hc42 x44.toNat (by omega)
        have hx2:x44 < 4:=by omega
        have hF:=hK (.pointer (some ⟨q42,x44.toNat,none⟩)) w' (hJ.stay 9 9 45 rfl rfl rfl ⟨_,_,rfl,hg42,y,hy,hy0,hy1⟩)
        clear hJ hJ0 ha hK hA hli hbd;go_simp;exact hF
      · have hJ:=hJ0
        have hbd:=costOf_le [(8,1)] lz
        simp only [List.map_cons,List.map_nil,List.sum_cons,List.sum_nil] at hbd
        obtain ⟨q45,i45,hx45,hg45,y45,hy45,hl45,hu45⟩:=hJ.at 9 rfl (ha 9 (by decide))
        have gg45:=sj hA 45 hx45
        rw [if_pos (by rfl)]
        have hF:=hK (.int .i64 y45) w' (hJ.stay 10 10 46 rfl rfl rfl ⟨_,rfl,hl45,hu45⟩)
        clear hJ hJ0 ha hK hA hli hbd;go_simp;exact hF
      · have hJ:=hJ0
        have hbd:=costOf_le [(8,1)] lz
        simp only [List.map_cons,List.map_nil,List.sum_cons,List.sum_nil] at hbd
        have gg41:=sj hA 41 (hJ.at 5 rfl (ha 5 (by decide)))
        obtain ⟨x46,hx46,hl46,hu46⟩:=hJ.at 10 rfl (ha 10 (by decide))
        have gg46:=sj hA 46 hx46
        rw [if_pos (by rfl)]
        have ew47:IntKind.i64.wrap (vw+x46)=vw+x46:=IntWalk.i64_in _ (by omega)
        have hF:=hK (.int .i64 (vw+x46)) w' (hJ.stay 11 11 47 rfl rfl rfl ⟨_,rfl,by omega,by omega⟩)
        clear hJ hJ0 ha hK hA hli hbd;go_simp;exact hF
      · have hJ:=hJ0
        have hbd:=costOf_le [(8,1)] lz
        simp only [List.map_cons,List.map_nil,List.sum_cons,List.sum_nil] at hbd
        obtain ⟨x47,hx47,hl47,hu47⟩:=hJ.at 11 rfl (ha 11 (by decide))
        have gg47:=sj hA 47 hx47
        rw [if_pos (by rfl)]
        have hF:=hK (.int .i64 x47) w' (hJ.stay 12 12 8 rfl rfl rfl ⟨_,rfl,hl47,hu47⟩)
        clear hJ hJ0 ha hK hA hli hbd;go_simp;exact hF
    intro lz fz w5 hall hJ
    obtain ⟨v8,hx8',hl8,hu8⟩:=hJ.at 12 rfl (hall 12 (by decide))
    have hu5:=hJ.upd
    have hr5:Rd w5 R (P6+1):=by simpa using hJ.end_
    clear hJ hall
    have HD8:=Lib.hid (HD7.out.go hu5 hr5)
    clear HD7 HBX HBC hrA hu5 hr5
    simp only [mixF,List.contains_cons,List.contains_nil]
    go_simp
    obtain ⟨wB,hwB⟩:∃ W,W=w5:=⟨_,rfl⟩
    rw [← hwB] at HD8 ⊢
    clear hwB
    have hrB:=HD8.out.rd
    obtain ⟨P7,hP7⟩:∃ p,p=P6+1:=⟨_,rfl⟩
    rw [← hP7] at hrB HD8
    have HTD:=HD8
    have HWV:Hid ((Lit.int .i64 v8).wf=true):=Lib.hid (WalkArith.wf_i64 (by omega))
    have HBX:=Lib.hid (fun (W:World) (hu:Upd R wB W)=>HD8.out.box.upd hu (by have:=HD8.out.rg;have:=HD8.out.gz;omega))
    have HGC:=Lib.hid (fun (W:World) (hu:Upd R wB W) (gg cc:Nat) (LL:List Acn) (hra:RowA W (some ⟨gg,0,none⟩) LL.length LL)=>(⟨_,_,growM_ok HOK.out (k:Int) v8 LL,by have:=growM_len HOK.out (k:Int) v8 LL;have:=HN2.out;omega,growTree_spec _ _ _ t (k:Int) v8 (some ⟨gg,0,none⟩) LL.length cc LL W (HD8.out.own.upd hu HD8.out.rb).rd hra (fun h=>by cases h) HWV.out⟩:∃ (tg:Tre) (zg:Bool),treB tg=true∧n2≤tg.blocks.length∧Calls Tryz.prog 124 #[.agg #[.slice b1 m1 d1,.slice (some ⟨g,0,none⟩) n2 d2,.slice b3 m3 d3],.int .i64 (k:Int),.int .i64 v8,.slice (some ⟨gg,0,none⟩) LL.length cc] W (NewTreB W tTre tg zg)))
    clear HD8
    go_upto_region 7 with (fail)
    refine wp_region_light (by kernel_rfl) (StoJ (fun lz fz wz=>WdJ R wB (P7) [(4,150)] [(0,49,Wd.is R (.agg #[.slice b1 m1 d1,.slice (some ⟨g,0,none⟩) n2 d2,.slice b3 m3 d3])),(1,50,Wd.is R (.int .i64 (k:Int))),(2,51,Wd.is R (.int .i64 v8)),(3,52,Wd.is R (.pointer (some ⟨R,0,none⟩))),(4,53,WdActs R),(5,54,WdGrow R wB n2),(6,48,WdGrow R wB n2),(7,55,WdTree R wB n2),(8,56,Wd.bool R)] lz fz wz∧ClJ [(4,[3]),(5,[0,1,2,4]),(6,[5]),(7,[6]),(8,[6])] lz) (fun lz fz wz=>(∀ i,i < 10→i≠8→lz i=true)∧(∃ a1 m1 c1 a2 m2 c2 a3 m3 c3 t' ts' B' T',(treB t'=true∧n2≤t'.blocks.length)∧TrD w wz R (P7+150) Z w.heap.size B' T' tTre (.slice a1 m1 c1) (.slice a2 m2 c2) (.slice a3 m3 c3) t' ts')∧∃ a x,fz 48 = .tuple #[a,.bool x]) 9) 137 rfl [49,50,51,52,53,54,48,55,56] (by kernel_rfl) (by kernel_rfl) (by kernel_rfl) (fun f=>StoJ.nothing ⟨WdJ.nothing _ _ f hrB,ClJ.nothing _⟩) ?_ ?_
    · intro i hi
      rcases (by have:i < 10:=hi;omega:i=0∨i=1∨i=2∨i=3∨i=4∨i=5∨i=6∨i=7∨i=8∨i=9) with rfl | rfl | rfl | rfl | rfl | rfl | rfl | rfl | rfl | rfl
      all_goals (clear hi;intro o ho lz fz w' A hJ0 hli ha hA K hK;obtain rfl:=Option.some.inj ho;clear ho)
      · have hM:=hJ0.ahead hli (fun hq=>hq.1 0 (by decide) (by decide))
        obtain ⟨hJ,hC⟩:=hJ0.1 hM
        have gg5:=so hA 5 _ rfl
        simp only [List.getD_cons_succ,List.getD_cons_zero] at gg5
        rw [if_pos (by rfl)]
        obtain ⟨z0,z1,z2,-,-,-⟩:=HBX.out w' hJ.upd
        have hF:=hK _ w' (StoJ.step 0 (by decide) hM ⟨hJ.stay 0 0 49 rfl rfl rfl rfl,hC.step 0 (by simp)⟩)
        clear hJ hJ0 ha hK hA hli hC hM;go_simp;exact hF
      · have hM:=hJ0.ahead hli (fun hq=>hq.1 1 (by decide) (by decide))
        obtain ⟨hJ,hC⟩:=hJ0.1 hM
        have gg7:=so hA 7 _ rfl
        simp only [List.getD_cons_succ,List.getD_cons_zero] at gg7
        rw [if_pos (by rfl)]
        have hF:=hK _ w' (StoJ.step 1 (by decide) hM ⟨hJ.stay 1 1 50 rfl rfl rfl rfl,hC.step 1 (by simp)⟩)
        clear hJ hJ0 ha hK hA hli hC hM;go_simp;exact hF
      · have hM:=hJ0.ahead hli (fun hq=>hq.1 2 (by decide) (by decide))
        obtain ⟨hJ,hC⟩:=hJ0.1 hM
        have gg8:=so hA 8 _ rfl
        simp only [List.getD_cons_succ,List.getD_cons_zero] at gg8
        rw [if_pos (by rfl)]
        have hF:=hK _ w' (StoJ.step 2 (by decide) hM ⟨hJ.stay 2 2 51 rfl rfl rfl rfl,hC.step 2 (by simp)⟩)
        clear hJ hJ0 ha hK hA hli hC hM;go_simp;exact hF
      · have hM:=hJ0.ahead hli (fun hq=>hq.1 3 (by decide) (by decide))
        obtain ⟨hJ,hC⟩:=hJ0.1 hM
        have gg0:=so hA 0 _ rfl
        simp only [List.getD_cons_succ,List.getD_cons_zero] at gg0
        rw [if_pos (by rfl)]
        have hF:=hK _ w' (StoJ.step 3 (by decide) hM ⟨hJ.stay 3 3 52 rfl rfl rfl rfl,hC.step 3 (by simp)⟩)
        clear hJ hJ0 ha hK hA hli hC hM;go_simp;exact hF
      · have hM:=hJ0.ahead hli (fun hq=>hq.1 4 (by decide) (by decide))
        obtain ⟨hJ,hC⟩:=hJ0.1 hM
        have hbd:=costOf_le [(4,150)] lz
        simp only [List.map_cons,List.map_nil,List.sum_cons,List.sum_nil] at hbd
        have gg52:=sj hA 52 (hJ.at 3 rfl (ha 3 (by decide)))
        rw [if_pos (by rfl)]
        clear hA
        go_simp
        refine (l20Actions_any R _ 0 w' hJ.rd (by omega) (by omega) (by omega)).mono ?_
        rintro e9 w9 ⟨v9,L9,rfl,ho9,hw9,hl9,hr9,hu9⟩
        obtain ⟨g9,c9,rfl,hg9,hgs9,hrA9,-⟩:=rowA_of_own ho9 (by omega) hw9
        have hRw9:=hJ.rd.lt
        exact hK _ w9 (StoJ.step 4 (by decide) hM ⟨hJ.step 4 4 53 (.slice (some ⟨g9,0,none⟩) L9.length c9) rfl rfl rfl hu9 (hJ.asked 4 (by simp) hli hr9) ⟨g9,c9,L9,rfl,by omega,hrA9,hl9⟩,hC.step 4 (by simp [ha 3 (by decide)])⟩)
      · have hM:=hJ0.ahead hli (fun hq=>hq.1 5 (by decide) (by decide))
        obtain ⟨hJ,hC⟩:=hJ0.1 hM
        have hbd:=costOf_le [(4,150)] lz
        simp only [List.map_cons,List.map_nil,List.sum_cons,List.sum_nil] at hbd
        have gg49:=sj hA 49 (hJ.at 0 rfl (ha 0 (by decide)))
        have gg50:=sj hA 50 (hJ.at 1 rfl (ha 1 (by decide)))
        have gg51:=sj hA 51 (hJ.at 2 rfl (ha 2 (by decide)))
        obtain ⟨gb53,c53,L53,hx53,hg53,hr53,hl53⟩:=hJ.at 4 rfl (ha 4 (by decide))
        have gg53:=sj hA 53 hx53
        rw [if_pos (by rfl)]
        clear hA
        go_simp
        obtain ⟨tg,zg,hg1,hg2,hgt⟩:=HGC.out w' hJ.upd gb53 c53 L53 hr53
        refine hgt.mono ?_
        rintro e9 w9 ⟨u1,u2,u3,ts9,rfl,ho9,hb9⟩
        obtain ⟨a1,m1',c1,a2,m2',c2,a3,m3',c3,rfl,rfl,rfl⟩:=trRd_formD ho9.rd
        have hus:=hJ.upd.size
        exact hK _ w9 (StoJ.step 5 (by decide) hM ⟨hJ.step 5 5 54 (.tuple #[.agg #[.slice a1 m1' c1,.slice a2 m2' c2,.slice a3 m3' c3],.bool zg]) rfl rfl rfl (Upd.ofBelow R hb9) (hJ.same 5 (hJ.rd.below hb9)) ⟨_,_,_,_,_,_,_,_,_,zg,tg,ts9,_,_,rfl,⟨hg1,hg2⟩,ho9,hus,by have:=hJ.rd.lt;omega,Nat.le_refl _⟩,hC.step 5 (by simp [ha 0 (by decide),ha 1 (by decide),ha 2 (by decide),ha 4 (by decide)])⟩)
      · have hM:=hJ0.ahead hli (fun hq=>hq.1 6 (by decide) (by decide))
        obtain ⟨hJ,hC⟩:=hJ0.1 hM
        have hbd:=costOf_le [(4,150)] lz
        simp only [List.map_cons,List.map_nil,List.sum_cons,List.sum_nil] at hbd
        obtain ⟨a154,m154,c154,a254,m254,c254,a354,m354,c354,z54,t54,ts54,B54,T54,hx54,hk54,ho54,hB54,hR54,hT54⟩:=hJ.at 5 rfl (ha 5 (by decide))
        have gg54:=sj hA 54 hx54
        rw [if_pos (by rfl)]
        have hF:=hK (.tuple #[.agg #[.slice a154 m154 c154,.slice a254 m254 c254,.slice a354 m354 c354],.bool z54]) w' (StoJ.step 6 (by decide) hM ⟨hJ.stay 6 6 48 rfl rfl rfl ⟨_,_,_,_,_,_,_,_,_,_,_,_,_,_,rfl,hk54,ho54,hB54,hR54,hT54⟩,hC.step 6 (by simp [ha 5 (by decide)])⟩)
        clear hJ hJ0 ha hK hA hli hbd hC hM;go_simp;exact hF
      · have hM:=hJ0.ahead hli (fun hq=>hq.1 7 (by decide) (by decide))
        obtain ⟨hJ,hC⟩:=hJ0.1 hM
        have hbd:=costOf_le [(4,150)] lz
        simp only [List.map_cons,List.map_nil,List.sum_cons,List.sum_nil] at hbd
        obtain ⟨a148,m148,c148,a248,m248,c248,a348,m348,c348,z48,t48,ts48,B48,T48,hx48,hk48,ho48,hB48,hR48,hT48⟩:=hJ.at 6 rfl (ha 6 (by decide))
        have gg48:=sj hA 48 hx48
        rw [if_pos (by rfl)]
        have hF:=hK (.agg #[.slice a148 m148 c148,.slice a248 m248 c248,.slice a348 m348 c348]) w' (StoJ.step 7 (by decide) hM ⟨hJ.stay 7 7 55 rfl rfl rfl ⟨_,_,_,_,_,_,_,_,_,_,_,_,_,rfl,hk48,ho48,hB48,hR48,hT48⟩,hC.step 7 (by simp [ha 6 (by decide)])⟩)
        clear hJ hJ0 ha hK hA hli hbd hC hM;go_simp;exact hF
      · by_cases h9:lz 9=true
        · have hq:=hJ0.2 h9
          obtain ⟨hq1,hq2,a48,z48,hx48⟩:=hq
          have gg48:=sj hA 48 hx48
          rw [if_pos (by rfl)]
          have hF:=hK (.bool z48) w' (StoJ.behind 8 h9 ⟨fun i h1 h2=>by simp [hq1 i h1 h2],hq2,a48,z48,by show (if some 56=some 48 then _ else fz 48) = _;rw [if_neg (by decide)];exact hx48⟩)
          clear hJ0 ha hK hA hli hq1 hq2;go_simp;exact hF
        · have h9':lz 9=false:=by simpa using h9
          obtain ⟨hJ,hC⟩:=hJ0.1 h9'
          obtain ⟨a148,m148,c148,a248,m248,c248,a348,m348,c348,z48,t48,ts48,B48,T48,hx48,-⟩:=hJ.at 6 rfl (ha 6 (by decide))
          have gg48:=sj hA 48 hx48
          rw [if_pos (by rfl)]
          have hF:=hK (.bool z48) w' (StoJ.step 8 (by decide) h9' ⟨hJ.stay 8 8 56 rfl rfl rfl ⟨_,rfl⟩,hC.step 8 (by simp [ha 6 (by decide)])⟩)
          clear hJ0 hJ hC ha hK hA hli;go_simp;exact hF
      · obtain ⟨hJ,hC⟩:=hJ0.1 hli
        have hbd:=costOf_le [(4,150)] lz
        simp only [List.map_cons,List.map_nil,List.sum_cons,List.sum_nil] at hbd
        have gg5:=so hA 5 _ rfl
        simp only [List.getD_cons_succ,List.getD_cons_zero] at gg5
        obtain ⟨a155,m155,c155,a255,m255,c255,a355,m355,c355,t55,ts55,B55,T55,hx55,hk55,ho55,hB55,hR55,hT55⟩:=hJ.at 7 rfl (ha 7 (by decide))
        have gg55:=sj hA 55 hx55
        rw [if_pos (by rfl)]
        have l7:lz 7=true:=ha 7 (by decide)
        have l6:lz 6=true:=hC (7,[6]) (by simp) l7 6 (by simp)
        have l5:lz 5=true:=hC (6,[5]) (by simp) l6 5 (by simp)
        have l0:lz 0=true:=hC (5,[0,1,2,4]) (by simp) l5 0 (by simp)
        have l1:lz 1=true:=hC (5,[0,1,2,4]) (by simp) l5 1 (by simp)
        have l2:lz 2=true:=hC (5,[0,1,2,4]) (by simp) l5 2 (by simp)
        have l4:lz 4=true:=hC (5,[0,1,2,4]) (by simp) l5 4 (by simp)
        have l3:lz 3=true:=hC (4,[3]) (by simp) l4 3 (by simp)
        have hall:∀ i,i < 10→i≠8→(i == 9 || lz i)=true:=fun i hi h8a=>by
         rcases (by omega:i=0∨i=1∨i=2∨i=3∨i=4∨i=5∨i=6∨i=7∨i=9) with rfl | rfl | rfl | rfl | rfl | rfl | rfl | rfl | rfl <;> simp [*]
        obtain ⟨a148,m148,c148,a248,m248,c248,a348,m348,c348,z48,t48,ts48,B48,T48,hx48,-⟩:=hJ.at 6 rfl l6
        have hput:=HTD.out.put hJ.upd (hJ.rd.mono (show _≤P7+150 by omega)) ho55 hB55 hT55
        obtain ⟨z0,z1,z2,f0,f1,f2⟩:=HBX.out w' hJ.upd
        have hF:=hK undef _ (StoJ.at ⟨hall,⟨_,_,_,_,_,_,_,_,_,_,_,_,_,hk55,hput⟩,_,_,by simpa using hx48⟩)
        clear hJ hJ0 ha hK hA hli hbd hC hput hall
        unfold set3b at hF;go_simp;exact hF
    intro lz fz w5 hall hJ
    obtain ⟨-,⟨p1,r1,s1,p2,r2,s2,p3,r3,s3,t2,ts2,B2,T2,⟨hok2,hln2⟩,hD2⟩,-⟩:=hJ.2 (hall 9 (by decide))
    clear hJ hall
    simp only [mixF,List.contains_cons,List.contains_nil]
    go_simp
    clear HTD HBX HGC hrB
    obtain ⟨wD,hwD⟩:∃ W,W=w5:=⟨_,rfl⟩
    rw [← hwD] at hD2 ⊢
    clear hwD
    have HOK2:=Lib.hid hok2
    have htk2:=(treB_iff t2).1 hok2
    have HSM2:=Lib.hid htk2.sm
    obtain ⟨g',c2,e2⟩:=hD2.own.form2 htk2.one
    simp only [Value.slice.injEq] at e2
    obtain ⟨rfl,hn2',rfl⟩:=e2
    obtain ⟨n',hn'⟩:∃ m,m=r2:=⟨_,rfl⟩
    rw [← hn'] at hn2' hD2
    rw [← hn2'] at hln2
    have hk':k < n':=by omega
    have h14':n'≤14:=by rw [hn2'];exact htk2.most
    have HN':=Lib.hid hn2'
    have HD2:=Lib.hid hD2
    obtain ⟨z0,z1,z2,-,-,-⟩:=hD2.box
    have hwx:IntKind.i64.wrap ((x:Int) - 1)=(x:Int) - 1:=IntWalk.i64_in _ (by omega)
    have hrD:=hD2.rd
    have HEND:Hid (∀ wz P' a1 m1 c1 a2 m2 c2 a3 m3 c3 t' ts' B' T',treB t'=true→P'≤P5+400→TrD w wz R P' Z w.heap.size B' T' tTre (.slice a1 m1 c1) (.slice a2 m2 c2) (.slice a3 m3 c3) t' ts'→∃ x':Nat,(.int .i64 ((x:Int) - 1):Value) = .int .i64 (x':Int)∧x'≤7∧∃ b1 m1 d1 b2 m2 d2 b3 m3 d3 t ts B T,treB t=true∧TrD w wz R (P+61+(7 - x')*400) Z w.heap.size B T tTre (.slice b1 m1 d1) (.slice b2 m2 d2) (.slice b3 m3 d3) t ts):=Lib.hid (fun wz P' a1 m1 c1 a2 m2 c2 a3 m3 c3 t' ts' B' T' h1 h2 h3=>⟨x - 1,by congr 1;omega,by omega,a1,m1,c1,a2,m2,c2,a3,m3,c3,t',ts',B',T',h1,h3.more (by
     have:7 - (x - 1)=7 - x+1:=by omega
     rw [this,Nat.add_mul];omega)⟩)
    clear hok2 htk2 hln2 hn2' hn' hD2 HOK HSM HN2
    go_wp2_with fail
    refine (odd_any R _ 9 _ hrD (by omega) (by omega) (by omega)).mono ?_;rintro e w6 ⟨x9,rfl,hr6,hu6⟩
    have HD3:=Lib.hid (HD2.out.go hu6 hr6)
    clear hr6 hu6 hrD z0 z1 z2 HD2
    obtain ⟨z0,z1,z2,-,-,-⟩:=HD3.out.box
    cases x9 with
    | false =>
     have HE:=Lib.hid (HEND.out _ _ _ _ _ _ _ _ _ _ _ _ _ _ _ HOK2.out (by omega) HD3.out)
     clear HEND HD3 z0 z1 z2
     go_wp2_with fail
     go_roundw
     case rel=>exact HE.out
     case measure=>simp [intOf];omega
    | true =>
    by_cases hg1:1 < n'
    case neg =>
     have hd1:decide ((1:Int) < (n':Int))=false:=by simp;omega
     have hd2:decide (1 < n')=false:=by simp;omega
     have HE:=Lib.hid (HEND.out _ _ _ _ _ _ _ _ _ _ _ _ _ _ _ HOK2.out (by omega) HD3.out)
     clear HEND HD3 hg1 z0
     go_wp2_with fail
     go_roundw
     case rel=>exact HE.out
     case measure=>simp [intOf];omega
    have hd1:decide ((1:Int) < (n':Int))=true:=by simp;omega
    have hd2:decide (1 < n')=true:=by simp;omega
    clear hg1 z0 z2
    obtain ⟨wC,hwC⟩:∃ W,W=w6:=⟨_,rfl⟩
    rw [← hwC] at HD3 z1 ⊢
    clear hwC
    go_upto_region 9 with (fail)
    clear z1 hd1 hd2
    have hrC:=HD3.out.rd
    obtain ⟨P9,hP9⟩:∃ p,p=P7+150+1:=⟨_,rfl⟩
    rw [← hP9] at hrC HD3
    have hkl2:k < t2.blocks.length:=by rw [← HN'.out];exact hk'
    obtain ⟨y,hy⟩:∃ y,y=blkAt t2.blocks k:=⟨_,rfl⟩
    obtain ⟨al,ml,cl,hls,hrl,-,-⟩:=HD3.out.own.list hkl2
    have HBX:=Lib.hid (fun (W:World) (hu:Upd R wC W)=>HD3.out.box.upd hu (by have:=HD3.out.rg;have:=HD3.out.gz;omega))
    have HBC:Hid (∀ W,Upd R wC W→W.cell? ⟨g',k*6,none⟩=some (.int .i64 y.bef)∧W.cell? ⟨g',k*6+1,none⟩=some (.int .i64 y.hgt)∧W.cell? ⟨g',k*6+2,none⟩=some (.int .i64 y.view)∧W.cell? ⟨g',k*6+3,none⟩=some (.slice al ml cl)∧W.cell? ⟨g',k*6+4,none⟩=some (.int .i64 y.root)∧W.cell? ⟨g',k*6+5,none⟩=some (.int .i64 y.effs)):=Lib.hid (fun W hu=>by
     have hc:=fun (j:Nat) (hj:j < 6)=>(HD3.out.own.upd hu HD3.out.rb).cells hkl2 hj
     rw [← hy] at hc
     exact ⟨hc 0 (by omega),hc 1 (by omega),hc 2 (by omega),by rw [← hls];exact hc 3 (by omega),hc 4 (by omega),hc 5 (by omega)⟩)
    have HSC:=Lib.hid (fun (W:World) (hu:Upd R wC W)=>(⟨_,storeOf_spec _ _ _ t2 (k:Int) W (HD3.out.own.upd hu HD3.out.rb).rd⟩:∃ SS:List Ent,Calls Tryz.prog 91 #[.agg #[.slice p1 r1 s1,.slice (some ⟨g',0,none⟩) n' s2,.slice p3 r3 s3],.int .i64 (k:Int)] W (NewSt W SS)))
    have HNC:=Lib.hid (fun (W:World) (hu:Upd R wC W) (aS:Option Addr) (SS:List Ent) (cS BS:Nat) (ho:W.ownsRow BS 142 2 (.slice aS SS.length cS) SS.length (flatE SS)) (hw:WfE SS) (hl:SS.length≤32) (gA cA:Nat) (LA:List Acn) (hra:RowA W (some ⟨gA,0,none⟩) LA.length LA)=>(by
     obtain ⟨a9,c9,e9,r9,hz9⟩:=rowE_of_owns ho (by omega) hw
     simp only [Value.slice.injEq,true_and] at e9
     obtain ⟨rfl,rfl⟩:=e9
     obtain ⟨a8,m8,c8,e8,r8,-,-⟩:=(HD3.out.own.upd hu HD3.out.rb).list hkl2
     rw [hls] at e8
     simp only [Value.slice.injEq] at e8
     obtain ⟨rfl,rfl,rfl⟩:=e8
     rw [← hy] at r8
     exact ⟨_,_,nextM_len _ _ _ _,nextBlock_spec y.bef y.hgt y.view y.root y.effs al ml cl y.acts aS _ cS SS v8 (some ⟨gA,0,none⟩) LA.length cA LA W r8 r9 hz9 hra (fun h=>by cases h) HWV.out⟩:∃ (yN:Blk) (zN:Bool),yN.acts.length≤10∧Calls Tryz.prog 90 #[.agg #[.int .i64 y.bef,.int .i64 y.hgt,.int .i64 y.view,.slice al ml cl,.int .i64 y.root,.int .i64 y.effs],.slice aS SS.length cS,.int .i64 v8,.slice (some ⟨gA,0,none⟩) LA.length cA] W (NewBkB W 113 yN zN)))
    have i3:(k:Int) < (n':Int):=by omega
    clear hls hrl hy
    refine wp_region_light (by kernel_rfl) (StoJ (fun lz fz wz=>WdJ R wC (P9) [(10,150)] [(0,66,Wd.is R (.pointer (some ⟨Z,1,none⟩))),(1,67,Wd.is R (.slice (some ⟨g',0,none⟩) n' s2)),(2,68,Wd.is R (.int .i64 (k:Int))),(3,69,Wd.is R (.pointer (some ⟨g',k*6,none⟩))),(4,70,Wd.is R (.agg #[.int .i64 y.bef,.int .i64 y.hgt,.int .i64 y.view,.slice al ml cl,.int .i64 y.root,.int .i64 y.effs])),(5,71,Wd.is R (.agg #[.slice p1 r1 s1,.slice (some ⟨g',0,none⟩) n' s2,.slice p3 r3 s3])),(6,72,Wd.is R (.int .i64 (k:Int))),(7,73,WdSt R),(8,74,Wd.is R (.int .i64 v8)),(9,75,Wd.is R (.pointer (some ⟨R,0,none⟩))),(10,76,WdActs R),(11,77,WdNB R),(12,65,WdNB R),(13,78,WdNBb R),(14,79,Wd.bool R),(15,9,WdBox R wC),(17,10,Wd.bool R)] lz fz wz∧ClJ [(1,[0]),(3,[1,2]),(4,[3]),(7,[5,6]),(10,[9]),(11,[4,7,8,10]),(12,[11]),(13,[12]),(14,[12])] lz) (fun lz fz wz=>(∀ i,i < 18→i≠14→i≠17→lz i=true)∧(∃ Zb y a n c,fz 9 = .pointer (some ⟨Zb,0,none⟩)∧wC.heap.size≤Zb∧BkAt wz Zb (.int .i64 y.bef) (.int .i64 y.hgt) (.int .i64 y.view) (.slice a n c) (.int .i64 y.root) (.int .i64 y.effs)∧ActsIn R wz a n c y.acts∧n≤10∧WfB y∧Upd R wC wz∧Rd wz R (P9+150))∧(∃ a x,fz 65 = .tuple #[a,.bool x])∧(lz 14=true→∃ x,fz 79 = .bool x)∧(lz 17=true→∃ x,fz 10 = .bool x)) 16) 137 rfl [66,67,68,69,70,71,72,73,74,75,76,77,65,78,79,9,10] (by kernel_rfl) (by kernel_rfl) (by kernel_rfl) (fun f=>StoJ.nothing ⟨WdJ.nothing _ _ f hrC,ClJ.nothing _⟩) ?_ ?_
    · intro i hi
      rcases (by have:i < 18:=hi;omega:i=0∨i=1∨i=2∨i=3∨i=4∨i=5∨i=6∨i=7∨i=8∨i=9∨i=10∨i=11∨i=12∨i=13∨i=14∨i=15∨i=16∨i=17) with rfl | rfl | rfl | rfl | rfl | rfl | rfl | rfl | rfl | rfl | rfl | rfl | rfl | rfl | rfl | rfl | rfl | rfl
      all_goals (clear hi;intro o ho lz fz w' A hJ0 hli ha hA K hK;obtain rfl:=Option.some.inj ho;clear ho)
      · have hM:=hJ0.ahead hli (fun hq=>by apply hq.1<;>decide)
        obtain ⟨hJ,hC⟩:=hJ0.1 hM
        have gg5:=so hA 5 _ rfl
        simp only [List.getD_cons_succ,List.getD_cons_zero] at gg5
        rw [if_pos (by rfl)]
        have hF:=hK _ w' (StoJ.step 0 (by decide) hM ⟨hJ.stay 0 0 66 rfl rfl rfl rfl,hC.step 0 (by simp)⟩)
        clear hJ hJ0 ha hK hA hli hC hM;go_simp;exact hF
      · have hM:=hJ0.ahead hli (fun hq=>by apply hq.1<;>decide)
        obtain ⟨hJ,hC⟩:=hJ0.1 hM
        have gg66:=sj hA 66 (hJ.at 0 rfl (ha 0 (by decide)))
        rw [if_pos (by rfl)]
        obtain ⟨z0,z1,z2,-,-,-⟩:=HBX.out w' hJ.upd
        have hF:=hK _ w' (StoJ.step 1 (by decide) hM ⟨hJ.stay 1 1 67 rfl rfl rfl rfl,hC.step 1 (by simp [ha 0 (by decide)])⟩)
        clear hJ hJ0 ha hK hA hli hC hM;go_simp;exact hF
      · have hM:=hJ0.ahead hli (fun hq=>by apply hq.1<;>decide)
        obtain ⟨hJ,hC⟩:=hJ0.1 hM
        have gg7:=so hA 7 _ rfl
        simp only [List.getD_cons_succ,List.getD_cons_zero] at gg7
        rw [if_pos (by rfl)]
        have hF:=hK _ w' (StoJ.step 2 (by decide) hM ⟨hJ.stay 2 2 68 rfl rfl rfl rfl,hC.step 2 (by simp)⟩)
        clear hJ hJ0 ha hK hA hli hC hM;go_simp;exact hF
      · have hM:=hJ0.ahead hli (fun hq=>by apply hq.1<;>decide)
        obtain ⟨hJ,hC⟩:=hJ0.1 hM
        have gg67:=sj hA 67 (hJ.at 1 rfl (ha 1 (by decide)))
        have gg68:=sj hA 68 (hJ.at 2 rfl (ha 2 (by decide)))
        rw [if_pos (by rfl)]
        have hF:=hK _ w' (StoJ.step 3 (by decide) hM ⟨hJ.stay 3 3 69 rfl rfl rfl rfl,hC.step 3 (by simp [ha 1 (by decide),ha 2 (by decide)])⟩)
        clear hJ hJ0 ha hK hA hli hC hM;go_simp;exact hF
      · have hM:=hJ0.ahead hli (fun hq=>by apply hq.1<;>decide)
        obtain ⟨hJ,hC⟩:=hJ0.1 hM
        have gg69:=sj hA 69 (hJ.at 3 rfl (ha 3 (by decide)))
        rw [if_pos (by rfl)]
        obtain ⟨k0,k1,k2,k3,k4,k5⟩:=HBC.out w' hJ.upd
        have hF:=hK _ w' (StoJ.step 4 (by decide) hM ⟨hJ.stay 4 4 70 rfl rfl rfl rfl,hC.step 4 (by simp [ha 3 (by decide)])⟩)
        clear hJ hJ0 ha hK hA hli hC hM;go_simp;exact hF
      · have hM:=hJ0.ahead hli (fun hq=>by apply hq.1<;>decide)
        obtain ⟨hJ,hC⟩:=hJ0.1 hM
        have gg5:=so hA 5 _ rfl
        simp only [List.getD_cons_succ,List.getD_cons_zero] at gg5
        rw [if_pos (by rfl)]
        obtain ⟨z0,z1,z2,-,-,-⟩:=HBX.out w' hJ.upd
        have hF:=hK _ w' (StoJ.step 5 (by decide) hM ⟨hJ.stay 5 5 71 rfl rfl rfl rfl,hC.step 5 (by simp)⟩)
        clear hJ hJ0 ha hK hA hli hC hM;go_simp;exact hF
      · have hM:=hJ0.ahead hli (fun hq=>by apply hq.1<;>decide)
        obtain ⟨hJ,hC⟩:=hJ0.1 hM
        have gg7:=so hA 7 _ rfl
        simp only [List.getD_cons_succ,List.getD_cons_zero] at gg7
        rw [if_pos (by rfl)]
        have hF:=hK _ w' (StoJ.step 6 (by decide) hM ⟨hJ.stay 6 6 72 rfl rfl rfl rfl,hC.step 6 (by simp)⟩)
        clear hJ hJ0 ha hK hA hli hC hM;go_simp;exact hF
      · have hM:=hJ0.ahead hli (fun hq=>by apply hq.1<;>decide)
        obtain ⟨hJ,hC⟩:=hJ0.1 hM
        have hbd:=costOf_le [(10,150)] lz
        simp only [List.map_cons,List.map_nil,List.sum_cons,List.sum_nil] at hbd
        have gg71:=sj hA 71 (hJ.at 5 rfl (ha 5 (by decide)))
        have gg72:=sj hA 72 (hJ.at 6 rfl (ha 6 (by decide)))
        rw [if_pos (by rfl)]
        clear hA
        go_simp
        obtain ⟨SS,hst⟩:=HSC.out w' hJ.upd
        refine hst.mono ?_
        rintro e9 w9 ⟨v9,rfl,ho9,hw9,hl9,hb9⟩
        obtain ⟨a9,n9,c9,rfl⟩:=slice_form ho9
        have hRw9:=hJ.rd.lt
        have hn9:=owns_len9 ho9
        subst hn9
        exact hK _ w9 (StoJ.step 7 (by decide) hM ⟨hJ.step 7 7 73 (.slice a9 SS.length c9) rfl rfl rfl (Upd.ofBelow R hb9) (hJ.same 7 (hJ.rd.below hb9)) ⟨a9,SS,c9,_,rfl,ho9,hw9,hl9,hRw9⟩,hC.step 7 (by simp [ha 5 (by decide),ha 6 (by decide)])⟩)
      · have hM:=hJ0.ahead hli (fun hq=>by apply hq.1<;>decide)
        obtain ⟨hJ,hC⟩:=hJ0.1 hM
        have gg8:=so hA 8 _ rfl
        simp only [List.getD_cons_succ,List.getD_cons_zero] at gg8
        rw [if_pos (by rfl)]
        have hF:=hK _ w' (StoJ.step 8 (by decide) hM ⟨hJ.stay 8 8 74 rfl rfl rfl rfl,hC.step 8 (by simp)⟩)
        clear hJ hJ0 ha hK hA hli hC hM;go_simp;exact hF
      · have hM:=hJ0.ahead hli (fun hq=>by apply hq.1<;>decide)
        obtain ⟨hJ,hC⟩:=hJ0.1 hM
        have gg0:=so hA 0 _ rfl
        simp only [List.getD_cons_succ,List.getD_cons_zero] at gg0
        rw [if_pos (by rfl)]
        have hF:=hK _ w' (StoJ.step 9 (by decide) hM ⟨hJ.stay 9 9 75 rfl rfl rfl rfl,hC.step 9 (by simp)⟩)
        clear hJ hJ0 ha hK hA hli hC hM;go_simp;exact hF
      · have hM:=hJ0.ahead hli (fun hq=>by apply hq.1<;>decide)
        obtain ⟨hJ,hC⟩:=hJ0.1 hM
        have hbd:=costOf_le [(10,150)] lz
        simp only [List.map_cons,List.map_nil,List.sum_cons,List.sum_nil] at hbd
        have gg75:=sj hA 75 (hJ.at 9 rfl (ha 9 (by decide)))
        rw [if_pos (by rfl)]
        clear hA
        go_simp
        refine (l20Actions_any R _ 0 w' hJ.rd (by omega) (by omega) (by omega)).mono ?_
        rintro e9 w9 ⟨v9,L9,rfl,ho9,hw9,hl9,hr9,hu9⟩
        obtain ⟨g9,c9,rfl,hg9,hgs9,hrA9,-⟩:=rowA_of_own ho9 (by omega) hw9
        have hRw9:=hJ.rd.lt
        exact hK _ w9 (StoJ.step 10 (by decide) hM ⟨hJ.step 10 10 76 (.slice (some ⟨g9,0,none⟩) L9.length c9) rfl rfl rfl hu9 (hJ.asked 10 (by simp) hli hr9) ⟨g9,c9,L9,rfl,by omega,hrA9,hl9⟩,hC.step 10 (by simp [ha 9 (by decide)])⟩)
      · have hM:=hJ0.ahead hli (fun hq=>by apply hq.1<;>decide)
        obtain ⟨hJ,hC⟩:=hJ0.1 hM
        have hbd:=costOf_le [(10,150)] lz
        simp only [List.map_cons,List.map_nil,List.sum_cons,List.sum_nil] at hbd
        have gg70:=sj hA 70 (hJ.at 4 rfl (ha 4 (by decide)))
        obtain ⟨a73,S73,c73,B73,hx73,ho73,hw73,hl73,hR73⟩:=hJ.at 7 rfl (ha 7 (by decide))
        have gg73:=sj hA 73 hx73
        have gg74:=sj hA 74 (hJ.at 8 rfl (ha 8 (by decide)))
        obtain ⟨gb76,c76,L76,hx76,hg76,hr76,hl76⟩:=hJ.at 10 rfl (ha 10 (by decide))
        have gg76:=sj hA 76 hx76
        rw [if_pos (by rfl)]
        clear hA
        go_simp
        obtain ⟨yN,zN,hyl,hnx⟩:=HNC.out w' hJ.upd a73 S73 c73 B73 ho73 hw73 hl73 gb76 c76 L76 hr76
        refine hnx.mono ?_
        rintro e9 w9 ⟨v9,rfl,ho9,hwa9,hwb9,hb9⟩
        obtain ⟨a9,n9,c9,rfl⟩:=slice_form ho9
        have hRw9:=hJ.rd.lt
        exact hK _ w9 (StoJ.step 11 (by decide) hM ⟨hJ.step 11 11 77 (.tuple #[.agg #[.int .i64 yN.bef,.int .i64 yN.hgt,.int .i64 yN.view,.slice a9 n9 c9,.int .i64 yN.root,.int .i64 yN.effs],.bool zN]) rfl rfl rfl (Upd.ofBelow R hb9) (hJ.same 11 (hJ.rd.below hb9)) ⟨yN,_,_,_,zN,_,rfl,ho9,hwa9,hwb9,hyl,hRw9⟩,hC.step 11 (by simp [ha 4 (by decide),ha 7 (by decide),ha 8 (by decide),ha 10 (by decide)])⟩)
      · have hM:=hJ0.ahead hli (fun hq=>by apply hq.1<;>decide)
        obtain ⟨hJ,hC⟩:=hJ0.1 hM
        have hbd:=costOf_le [(10,150)] lz
        simp only [List.map_cons,List.map_nil,List.sum_cons,List.sum_nil] at hbd
        obtain ⟨y77,a77,n77,c77,z77,B77,hx77,ho77,hwa77,hwb77,hl77,hR77⟩:=hJ.at 11 rfl (ha 11 (by decide))
        have gg77:=sj hA 77 hx77
        rw [if_pos (by rfl)]
        have hF:=hK (.tuple #[.agg #[.int .i64 y77.bef,.int .i64 y77.hgt,.int .i64 y77.view,.slice a77 n77 c77,.int .i64 y77.root,.int .i64 y77.effs],.bool z77]) w' (StoJ.step 12 (by decide) hM ⟨hJ.stay 12 12 65 rfl rfl rfl ⟨_,_,_,_,_,_,rfl,ho77,hwa77,hwb77,hl77,hR77⟩,hC.step 12 (by simp [ha 11 (by decide)])⟩)
        clear hJ hJ0 ha hK hA hli hbd hC hM;go_simp;exact hF
      · have hM:=hJ0.ahead hli (fun hq=>by apply hq.1<;>decide)
        obtain ⟨hJ,hC⟩:=hJ0.1 hM
        have hbd:=costOf_le [(10,150)] lz
        simp only [List.map_cons,List.map_nil,List.sum_cons,List.sum_nil] at hbd
        obtain ⟨y65,a65,n65,c65,z65,B65,hx65,ho65,hwa65,hwb65,hl65,hR65⟩:=hJ.at 12 rfl (ha 12 (by decide))
        have gg65:=sj hA 65 hx65
        rw [if_pos (by rfl)]
        have hF:=hK (.agg #[.int .i64 y65.bef,.int .i64 y65.hgt,.int .i64 y65.view,.slice a65 n65 c65,.int .i64 y65.root,.int .i64 y65.effs]) w' (StoJ.step 13 (by decide) hM ⟨hJ.stay 13 13 78 rfl rfl rfl ⟨_,_,_,_,_,rfl,ho65,hwa65,hwb65,hl65,hR65⟩,hC.step 13 (by simp [ha 12 (by decide)])⟩)
        clear hJ hJ0 ha hK hA hli hbd hC hM;go_simp;exact hF
      · by_cases h16:lz 16=true
        · have hq:=hJ0.2 h16
          obtain ⟨hq1,hq2,⟨a65,z65,hx65⟩,hq4,hq5⟩:=hq
          have gg65:=sj hA 65 hx65
          rw [if_pos (by rfl)]
          have hF:=hK (.bool z65) w' (StoJ.behind 14 h16 ⟨fun i h1 h2 h3=>by simp [hq1 i h1 h2 h3],by simpa using hq2,⟨a65,_,by simpa using hx65⟩,fun _=>⟨_,by simp;rfl⟩,by simpa using hq5⟩)
          clear hJ0 ha hK hA hli hq1 hq2 hq4 hq5;go_simp;exact hF
        · have h16':lz 16=false:=by simpa using h16
          obtain ⟨hJ,hC⟩:=hJ0.1 h16'
          obtain ⟨y65,a65,n65,c65,z65,B65,hx65,-⟩:=hJ.at 12 rfl (ha 12 (by decide))
          have gg65:=sj hA 65 hx65
          rw [if_pos (by rfl)]
          have hF:=hK (.bool z65) w' (StoJ.step 14 (by decide) h16' ⟨hJ.stay 14 14 79 rfl rfl rfl ⟨_,rfl⟩,hC.step 14 (by simp [ha 12 (by decide)])⟩)
          clear hJ0 hJ hC ha hK hA hli;go_simp;exact hF
      · have hM:=hJ0.ahead hli (fun hq=>hq.1 15 (by decide) (by decide) (by decide))
        obtain ⟨hJ,hC⟩:=hJ0.1 hM
        have hbd:=costOf_le [(10,150)] lz
        simp only [List.map_cons,List.map_nil,List.sum_cons,List.sum_nil] at hbd
        rw [if_pos (by rfl)]
        have hF:=hK (.pointer (some ⟨w'.heap.size,0,none⟩)) (w'.alloc (.cells #[.int .i64 0,.int .i64 0,.int .i64 0,.slice none 0 0,.int .i64 0,.int .i64 0] 37)) (StoJ.step 15 (by decide) hM ⟨hJ.step 15 15 9 (.pointer (some ⟨w'.heap.size,0,none⟩)) rfl rfl rfl ((Upd.refl _ _).alloc _) (hJ.same 15 (hJ.rd.alloc _)) ⟨_,rfl,hJ.upd.size,hJ.rd.lt,bkAt_new w' _ _ _ _ _ _ _⟩,hC.step 15 (by simp)⟩)
        clear hJ hJ0 ha hK hA hli hbd hC hM
        go_simp
        exact hF
      · obtain ⟨hJ,hC⟩:=hJ0.1 hli
        have hbd:=costOf_le [(10,150)] lz
        simp only [List.map_cons,List.map_nil,List.sum_cons,List.sum_nil] at hbd
        obtain ⟨Z9,hx9,hZ9,hR9,hb9⟩:=hJ.at 15 rfl (ha 15 (by decide))
        have gg9:=sj hA 9 hx9
        obtain ⟨y78,a78,n78,c78,B78,hx78,ho78,hwa78,hwb78,hl78,hR78⟩:=hJ.at 13 rfl (ha 13 (by decide))
        have gg78:=sj hA 78 hx78
        rw [if_pos (by rfl)]
        have l15:lz 15=true:=ha 15 (by decide)
        have l13:lz 13=true:=ha 13 (by decide)
        have l12:lz 12=true:=hC (13,[12]) (by simp) l13 12 (by simp)
        have l11:lz 11=true:=hC (12,[11]) (by simp) l12 11 (by simp)
        have l4:lz 4=true:=hC (11,[4,7,8,10]) (by simp) l11 4 (by simp)
        have l3:lz 3=true:=hC (4,[3]) (by simp) l4 3 (by simp)
        have l1:lz 1=true:=hC (3,[1,2]) (by simp) l3 1 (by simp)
        have l0:lz 0=true:=hC (1,[0]) (by simp) l1 0 (by simp)
        have l2:lz 2=true:=hC (3,[1,2]) (by simp) l3 2 (by simp)
        have l7:lz 7=true:=hC (11,[4,7,8,10]) (by simp) l11 7 (by simp)
        have l5:lz 5=true:=hC (7,[5,6]) (by simp) l7 5 (by simp)
        have l6:lz 6=true:=hC (7,[5,6]) (by simp) l7 6 (by simp)
        have l8:lz 8=true:=hC (11,[4,7,8,10]) (by simp) l11 8 (by simp)
        have l10:lz 10=true:=hC (11,[4,7,8,10]) (by simp) l11 10 (by simp)
        have l9:lz 9=true:=hC (10,[9]) (by simp) l10 9 (by simp)
        have hall:∀ i,i < 18→i≠14→i≠17→(i == 16 || lz i)=true:=fun i hi h14a h17a=>by
         rcases (by omega:i=0∨i=1∨i=2∨i=3∨i=4∨i=5∨i=6∨i=7∨i=8∨i=9∨i=10∨i=11∨i=12∨i=13∨i=15∨i=16) with rfl | rfl | rfl | rfl | rfl | rfl | rfl | rfl | rfl | rfl | rfl | rfl | rfl | rfl | rfl | rfl <;> simp [*]
        obtain ⟨y65,a65,n65,c65,z65,B65,hx65,-⟩:=hJ.at 12 rfl l12
        have hai:=actsIn_of ho78 hwa78 (by omega) hR78
        have hai2:=(((((hai.set hb9 0 (.int .i64 y78.bef)).set (hb9.put0 _) 1 (.int .i64 y78.hgt)).set ((hb9.put0 _).put1 _) 2 (.int .i64 y78.view)).set (((hb9.put0 _).put1 _).put2 _) 3 (.slice a78 n78 c78)).set ((((hb9.put0 _).put1 _).put2 _).put3D _) 4 (.int .i64 y78.root)).set (((((hb9.put0 _).put1 _).put2 _).put3D _).put4D _) 5 (.int .i64 y78.effs)
        have hupd:Upd R wC ((((((w'.setCell ⟨Z9,0,none⟩ (.int .i64 y78.bef)).setCell ⟨Z9,1,none⟩ (.int .i64 y78.hgt)).setCell ⟨Z9,2,none⟩ (.int .i64 y78.view)).setCell ⟨Z9,3,none⟩ (.slice a78 n78 c78)).setCell ⟨Z9,4,none⟩ (.int .i64 y78.root)).setCell ⟨Z9,5,none⟩ (.int .i64 y78.effs)):=(((((hJ.upd.setNewT hZ9).setNewT hZ9).setNewT hZ9).setNewT hZ9).setNewT hZ9).setNewT hZ9
        have hrd:=((((((hJ.rd.mono (show _≤P9+150 by omega)).setT (o:=0) (v:=.int .i64 y78.bef) hR9).setT (o:=1) (v:=.int .i64 y78.hgt) hR9).setT (o:=2) (v:=.int .i64 y78.view) hR9).setT (o:=3) (v:=.slice a78 n78 c78) hR9).setT (o:=4) (v:=.int .i64 y78.root) hR9).setT (o:=5) (v:=.int .i64 y78.effs) hR9
        have hbf:=hb9.set6 (.int .i64 y78.bef) (.int .i64 y78.hgt) (.int .i64 y78.view) (.slice a78 n78 c78) (.int .i64 y78.root) (.int .i64 y78.effs)
        obtain ⟨z0,z1,z2,z3,z4,z5,f0,f1,f2,f3,f4,f5⟩:=hb9
        have hn78:n78≤10:=by have:=hai.1;omega
        have hF:=hK undef _ (StoJ.at ⟨hall,⟨_,y78,_,_,_,by simpa using hx9,hZ9,hbf,hai2,hn78,hwb78,hupd,hrd⟩,⟨_,_,by simpa using hx65⟩,fun h14=>(by obtain ⟨x,hx⟩:=hJ.at 14 rfl (by simpa using h14);exact ⟨x,by simpa using hx⟩),fun h17=>(by obtain ⟨x,hx⟩:=hJ.at 16 rfl (by simpa using h17);exact ⟨x,by simpa using hx⟩)⟩)
        clear hJ hJ0 ha hK hA hli hbd hC hall hai hai2 hupd hrd hbf;go_simp;exact hF
      · by_cases h16:lz 16=true
        · have hq:=hJ0.2 h16
          obtain ⟨hq1,hq2,⟨a65,z65,hx65⟩,hq4,hq5⟩:=hq
          obtain ⟨z79,hx79⟩:=hq4 (ha 14 (by decide))
          have gg79:=sj hA 79 hx79
          rw [if_pos (by rfl)]
          have hF:=hK (.bool z79) w' (StoJ.behind 17 h16 ⟨fun i h1 h2 h3=>by simp [hq1 i h1 h2 h3],by simpa using hq2,⟨a65,_,by simpa using hx65⟩,by simpa using hq4,fun _=>⟨_,by simp;rfl⟩⟩)
          clear hJ0 ha hK hA hli hq1 hq2 hq4 hq5;go_simp;exact hF
        · have h16':lz 16=false:=by simpa using h16
          obtain ⟨hJ,hC⟩:=hJ0.1 h16'
          obtain ⟨z79,hx79⟩:=hJ.at 14 rfl (ha 14 (by decide))
          have gg79:=sj hA 79 hx79
          rw [if_pos (by rfl)]
          have hF:=hK (.bool z79) w' (StoJ.step 17 (by decide) h16' ⟨hJ.stay 16 17 10 rfl rfl rfl ⟨_,rfl⟩,hC.step 17 (by simp [ha 14 (by decide)])⟩)
          clear hJ0 hJ hC ha hK hA hli;go_simp;exact hF
    intro lz fz w5 hall hJ
    obtain ⟨-,⟨Zb,yb,ab,nbq,cb,hfz,hZb,hBb,hAb,hnb,hWb,hub,hrb⟩,-,-,hb10⟩:=hJ.2 (hall 16 (by decide))
    obtain ⟨x10,hx10⟩:=hb10 (hall 17 (by decide))
    clear hJ hall
    have HD4:=Lib.hid (HD3.out.go hub hrb)
    simp only [mixF,List.contains_cons,List.contains_nil]
    go_simp
    have HBB:=Lib.hid hBb
    have HAB:=Lib.hid hAb
    have HWB:=Lib.hid hWb
    have hCD:Hid (wC.heap.size≤w5.heap.size):=Lib.hid hub.size
    have HZC:Hid (w.heap.size < wC.heap.size∧R < wC.heap.size∧Z < wC.heap.size):=Lib.hid (by have:=HD3.out.gz;have:=HD3.out.rg;have:=HD3.out.box.lt;omega)
    have HTW:Hid (T2≤wC.heap.size):=Lib.hid HD3.out.tw
    clear HBX HBC HSC HNC hrC hfz hBb hAb hWb hub hrb hb10 HD3 i3
    cases x10 with
    | false =>
     have HE:=Lib.hid (HEND.out _ _ _ _ _ _ _ _ _ _ _ _ _ _ _ HOK2.out (by omega) HD4.out)
     clear HEND HD4
     go_wp2_with fail
     go_roundw
     case rel=>exact HE.out
     case measure=>simp [intOf];omega
    | true =>
     have hr4:=HD4.out.rd
     go_wp2_with fail
     refine (pick_pos R _ 256 _ hr4 (by omega) (by omega) (by omega)).mono ?_;rintro e w7 ⟨xr,rfl,hx0',hx1',hr7,hu7⟩
     have HD5:=Lib.hid (HD4.out.go hu7 hr7)
     have hB7:=HBB.out.updT hu7 (by have:=HZC.out;omega)
     have hAI:=HAB.out.upd hu7
     have hB8:=hB7.put4D (.int .i64 xr)
     have hA8:=(hAI.set hB7 4 (.int .i64 xr)).row (by omega)
     have hWx:WfB (⟨yb.bef,yb.hgt,yb.view,yb.acts,xr,yb.effs⟩:Blk):=⟨HWB.out.1,HWB.out.2.1,HWB.out.2.2.1,(WalkArith.wf_i64 (by omega):(Lit.int .i64 xr).wf=true),HWB.out.2.2.2.2⟩
     have hzc:=hAI.2.1
     have hD8:=HD5.out.away (Q:=Zb) (o:=4) (x:=.int .i64 xr) (by have:=HZC.out;omega) (by have:=HTW.out;omega)
     obtain ⟨w8,hw8⟩:∃ W,W=w7.setCell ⟨Zb,4,none⟩ (.int .i64 xr):=⟨_,rfl⟩
     rw [← hw8] at hB8 hA8 hD8
     have HW8:=Lib.hid hw8
     obtain ⟨q0,q1,q2,q3,q4,q5,qf0,qf1,qf2,qf3,qf4,qf5⟩:=hB7
     have HD8:=Lib.hid hD8
     have HB8:=Lib.hid hB8
     have HA8:=Lib.hid hA8
     clear hw8 hAI hB8 hA8 hD8 hu7 hr7 hr4 HD4 HD5 HBB HAB
     go_upto_region 12 with (fail)
     rw [← HW8.out]
     clear q0 q1 q2 q3 q4 q5 qf0 qf1 qf2 qf3 qf4 qf5 HW8
     obtain ⟨q0,q1,q2,q3,q4,q5,-⟩:=HB8.out
     obtain ⟨z0,z1,z2,-,-,-⟩:=HD8.out.box
     obtain ⟨b9,hb9⟩:∃ b:Blk,b=⟨yb.bef,yb.hgt,yb.view,yb.acts,xr,yb.effs⟩:=⟨_,rfl⟩
     have HPC:Hid (Calls Tryz.prog 30 #[.agg #[.slice p1 r1 s1,.slice (some ⟨g',0,none⟩) n' s2,.slice p3 r3 s3],.agg #[.int .i64 yb.bef,.int .i64 yb.hgt,.int .i64 yb.view,.slice ab nbq cb,.int .i64 xr,.int .i64 yb.effs]] w8 (NewTreB w8 tTre (putT t2 b9).1 (putT t2 b9).2)):=Lib.hid (by rw [hb9];exact putBlock_spec _ _ _ t2 ⟨yb.bef,yb.hgt,yb.view,yb.acts,xr,yb.effs⟩ ab nbq cb w8 HD8.out.own.rd HA8.out hzc hWx (by omega))
     have hpk:=putT_ok HOK2.out b9
     obtain ⟨tp,htp⟩:∃ x,x=(putT t2 b9).1:=⟨_,rfl⟩
     obtain ⟨zp,hzp⟩:∃ x,x=(putT t2 b9).2:=⟨_,rfl⟩
     rw [← htp] at hpk
     rw [← htp,← hzp] at HPC
     clear htp hzp hb9
     go_wp2_with fail
     refine HPC.out.mono ?_;rintro e w9 ⟨u1,u2,u3,ts9,rfl,ho9,hb9⟩
     obtain ⟨a1,m1',c1,a2,m2',c2,a3,m3',c3,rfl,rfl,rfl⟩:=trRd_formD ho9.rd
     have hput:=HD8.out.put (Upd.ofBelow R hb9) (HD8.out.rd.below hb9) ho9 (Nat.le_refl _) (Nat.le_refl _)
     have hbx:=HD8.out.box.below hb9
     have HE:=HEND.out _ _ _ _ _ _ _ _ _ _ _ _ _ _ _ hpk (by omega) hput
     have HE:=Lib.hid HE
     obtain ⟨y0,y1,y2,f0,f1,f2⟩:=hbx
     unfold set3b at HE
     clear hput ho9 hb9 q0 q1 q2 q3 q4 q5 z0 z1 z2 HD8 HB8 HA8 HPC HEND
     go_wp2_with fail
     go_roundw
     case rel=>exact HE.out
     case measure=>simp [intOf];omega
  · obtain rfl:x=0:=by omega
    have HD:=Lib.hid hD
    obtain ⟨z0,z1,z2,-,-,-⟩:=hD.box
    have hr0:=hD.rd
    have h1:=htk.one
    have h14:=htk.most
    have hlb:=htk.len
    obtain ⟨g,c2,e2⟩:=hD.own.form2 h1
    obtain ⟨g3,c3,e3⟩:=hD.own.form3 (by omega)
    simp only [Value.slice.injEq] at e2 e3
    obtain ⟨rfl,rfl,rfl⟩:=e2
    obtain ⟨rfl,rfl,rfl⟩:=e3
    have hb32:=store_len htk.base
    clear hok htk hD
    go_wp2_with fail
    refine (odd_any R _ n _ hr0 (by omega) (by omega) hn0).mono ?_;rintro e w6 ⟨x9,rfl,hr6,hu6⟩
    have HD3:=Lib.hid (HD.out.go hu6 hr6)
    clear hr6 hu6 hr0 z0 z1 z2 HD
    go_upto_if 92 with (fail)
    go_cut [5] (fun s5 wx=>s5 = .pointer (some ⟨Z,0,none⟩)∧TrX w wx R (P+4000) Z w.heap.size)
    case first =>
     cases x9 with
     | false =>
      go_wp2_with fail
      go_meet
      exact ⟨rfl,HD3.out.x HSM.out (by omega)⟩
     | true =>
      obtain ⟨z0,z1,z2,-,-,-⟩:=HD3.out.box
      have hr3:=HD3.out.rd
      go_wp2_with fail
      refine (pick_pos R _ (t.blocks.length:Int) _ hr3 (by omega) (by omega) (by omega)).mono ?_;rintro e w7 ⟨xk,rfl,hk0,hk1,hr7,hu7⟩
      obtain ⟨k,rfl⟩:=Int.eq_ofNat_of_zero_le hk0
      have HD7:=Lib.hid (HD3.out.go hu7 hr7)
      clear z0 z1 z2 hr3 hr7 hu7 HD3
      have hr7:=HD7.out.rd
      go_wp2_with fail
      refine (pick_pos R _ 4 _ hr7 (by omega) (by omega) (by omega)).mono ?_;rintro e w8 ⟨x4,rfl,h40,h41,hr8,hu8⟩
      have HD8:=Lib.hid (HD7.out.go hu8 hr8)
      clear hr7 hr8 hu8 HD7
      have hkn:k < t.blocks.length:=by omega
      have hkb:k < t.bef.length:=by rw [hlb];exact hkn
      have i1:(0:Int)≤(k:Int):=by omega
      have i3:(k:Int) < (t.bef.length:Int):=by omega
      have HDD:=Lib.hid (HD8.out.go (Upd.refl R w8).drew HD8.out.rd.drew)
      obtain ⟨z0,z1,z2,f0,f1,f2⟩:=HD8.out.box
      obtain ⟨za0,za1,za2,fa0,fa1,fa2⟩:=HDD.out.box
      have HKN:=Lib.hid hkn
      rcases (by omega:x4=0∨x4=1∨x4=2∨x4=3) with rfl | rfl | rfl | rfl
      all_goals clear h40 h41 hk0
      · obtain ⟨hh,hhe⟩:∃ q,q=(blkAt t.blocks k).hgt:=⟨_,rfl⟩
        have hhb:=(HSM.out.blk _ (blkAt_mem hkn)).2.1
        rw [← hhe] at hhb
        have htt:=(treB_iff t).1 HOK.out
        have hh100:hh≤100:=by rw [hhe];exact (blkB_true (htt.ok hkn)).2.2.2.1.2
        have q1:w8.cell? ⟨g,k*6+1,none⟩=some (.int .i64 hh):=by rw [hhe];exact HD8.out.own.cells hkn (by omega:1 < 6)
        have qa1:w8.drew.cell? ⟨g,k*6+1,none⟩=some (.int .i64 hh):=by rw [hhe];exact HDD.out.own.cells hkn (by omega:1 < 6)
        have qf:w8.frozen? ⟨g,k*6+1,none⟩=false:=World.ownsRow.frozenAt HD8.out.own.row2.2.2.2.2 _
        have qfa:w8.drew.frozen? ⟨g,k*6+1,none⟩=false:=World.ownsRow.frozenAt HDD.out.own.row2.2.2.2.2 _
        have hwr:IntKind.i64.wrap (hh+1)=hh+1:=IntWalk.i64_in _ (by omega)
        have hset:=HDD.out.setHgt hkn (hh+1) (WalkArith.wf_i64 (by omega))
        have hsm:TreSm ⟨t.base,t.blocks.set k ⟨(blkAt t.blocks k).bef,hh+1,(blkAt t.blocks k).view,(blkAt t.blocks k).acts,(blkAt t.blocks k).root,(blkAt t.blocks k).effs⟩,t.bef⟩:=⟨HSM.out.base,by simpa using HSM.out.one,by simpa using HSM.out.most,HSM.out.bef,fun b hb=>by
         rcases List.mem_or_eq_of_mem_set hb with hb | rfl
         · exact HSM.out.blk b hb
         · have h9:=HSM.out.blk _ (blkAt_mem hkn);exact ⟨h9.1,by simp only;omega,h9.2.2⟩⟩
        have HX:=Lib.hid (hset.x (P':=P+4000) hsm (by omega))
        clear hset hsm hhe htt
        go_upto_region 18 with (fail)
        go_region
        go_wp2_with fail
        go_meet
        exact ⟨rfl,HX.out⟩
      · have q1:=World.ownsRow.frozenAt (HD8.out.own.row3) k
        have hset:=fun (W:World) (P':Nat) (hd:TrD w W R P' Z w.heap.size B T tTre (.slice b1 m1 d1) (.slice (some ⟨g,0,none⟩) t.blocks.length d2) (.slice (some ⟨g3,0,none⟩) t.bef.length d3) t ts) (hP':P'≤P+4000) (y:Int) (hy : -1≤y∧y≤4)=>((hd.setBef hkb y (WalkArith.wf_i64 (by omega))).x (P':=P+4000) ⟨HSM.out.base,HSM.out.one,HSM.out.most,by simpa using HSM.out.bef,HSM.out.blk⟩ hP':TrX w (W.setCell ⟨g3,k,none⟩ (.int .i64 y)) R (P+4000) Z w.heap.size)
        have HSET:=Lib.hid hset
        have HRD:=Lib.hid HDD.out.rd
        clear q1 hset
        obtain ⟨vk,hvk⟩:∃ y,w8.drew.cell? ⟨g3,k,none⟩=some y:=by
         have:=World.ownsRow.cellAt (n:=t.bef.length) HDD.out.own.row3 k (by omega)
         rw [List.getElem?_eq_getElem (by simpa using hkb)] at this;exact ⟨_,this⟩
        have hfk:w8.drew.frozen? ⟨g3,k,none⟩=false:=World.ownsRow.frozenAt HDD.out.own.row3 k
        go_upto_region 20 with (fail)
        go_region_law
         (first | (go_simp;go_at_call 79;(with_reducible refine (pick_pos R _ 5 _ HRD.out (by omega) (by omega) (by omega)).mono ?_);rintro e10 w10 ⟨x10,rfl,h10a,h10b,hr10,hu10⟩;have hd10:=HDD.out.go hu10 hr10;obtain ⟨y0,y1,y2,-,-,-⟩:=hd10.box;have hf10:w10.frozen? ⟨g3,k,none⟩=false:=World.ownsRow.frozenAt hd10.own.row3 k;obtain ⟨vk',hvk'⟩:∃ y,w10.cell? ⟨g3,k,none⟩=some y:=(by have:=World.ownsRow.cellAt (n:=t.bef.length) hd10.own.row3 k (by omega);rw [List.getElem?_eq_getElem (by simpa using hkb)] at this;exact ⟨_,this⟩);have hwr:IntKind.i64.wrap (x10 - 1)=x10 - 1:=IntWalk.i64_in _ (by omega)))
        all_goals
         have HX:=Lib.hid (HSET.out w10 _ hd10 (by omega) (x10 - 1) (by omega))
         clear hd10 hr10 hu10
         go_wp2_with fail
         go_meet
         exact ⟨rfl,HX.out⟩
      · have hBs:B≤w8.heap.size:=by have h5:=HD8.out.own.own.ge (r:=⟨.slice (some ⟨g3,0,none⟩) t.bef.length d3,tTre.tI,1,t.bef.length,t.bef.map (Value.int .i64)⟩) (treRs_swap3.mem_iff.2 List.mem_cons_self) (b:=g3) rfl;omega
        have HO3:=Lib.hid HD8.out.own.row3
        have hlb14:t.bef.length≤14:=by omega
        clear hlb
        clear za0 za1 za2 fa0 fa1 fa2 HDD
        go_upto_region 22 with (fail)
        go_wp2_with (at_builtin;go_loud (refine wpList_append_lit (W:=w8) rfl _ _ 25 rfl B 3 3 (.int .i64 0) 1 8 1 Tryz.underlying25 infoIntT rfl (by decide) (.slice (some ⟨g3,0,none⟩) t.bef.length d3) t.bef.length _ [.int .i64 0] (by rfl) HO3.out (by simp [Act.eval]) rfl (by intro u hu;simp at hu;rcases hu with rfl;rfl) (by decide) (by omega) (by decide) hBs ?_;intro v10 w10 ho10 hnn10 hg10 hat10;obtain ⟨ra,rn,rc,rfl⟩:=slice_form ho10;obtain ⟨⟨j0,j1,j2,jf0,jf1,jf2⟩,hX⟩:=HD8.out.appBef (n:=0) hg10 hat10 ho10 rfl (by omega) HSM.out hlb14;have HX:=Lib.hid hX;clear hX ho10 hg10 hat10 hnn10))
        go_meet
        obtain ⟨a1,a2,a3,a4,a5,a6,a7,a8,a9,a10,a11,a12⟩:=HX.out
        exact ⟨rfl,a1,a2,a3,a4,a5,a6,a7,a8,a9.mono (by omega),a10,a11,a12⟩
      · have hBs:B≤w8.heap.size:=by have h5:=HD8.out.own.own.ge (r:=⟨.slice (some ⟨g3,0,none⟩) t.bef.length d3,tTre.tI,1,t.bef.length,t.bef.map (Value.int .i64)⟩) (treRs_swap3.mem_iff.2 List.mem_cons_self) (b:=g3) rfl;omega
        have HO1:=Lib.hid HD8.out.own.row1
        clear za0 za1 za2 fa0 fa1 fa2 HDD
        go_upto_region 16 with (fail)
        go_wp2_with (first | (at_builtin;refine wpList_append_lit (W:=w8) rfl _ _ 23 rfl B 142 142 (.agg #[.int .i64 0,.int .i64 0]) 2 16 1 Tryz.underlying23 infoEntT rfl (by decide) (.slice b1 m1 d1) t.base.length _ [.int .i64 32,.int .i64 1] (by rfl) HO1.out (by simp [Act.eval]) rfl (by intro u hu;simp at hu;rcases hu with rfl | rfl <;> rfl) (by decide) (by omega) (by decide) hBs ?_;intro v10 w10 ho10 hnn10 hg10 hat10;obtain ⟨ra,rn,rc,rfl⟩:=slice_form ho10;obtain ⟨⟨j0,j1,j2,jf0,jf1,jf2⟩,hX⟩:=HD8.out.appBase (n:=(32,1)) hg10 hat10 ho10 ⟨rfl,rfl⟩ (by omega) HSM.out hb32;have HX:=Lib.hid hX;clear hX ho10 hg10 hat10 hnn10))
        go_meet
        obtain ⟨a1,a2,a3,a4,a5,a6,a7,a8,a9,a10,a11,a12⟩:=HX.out
        exact ⟨rfl,a1,a2,a3,a4,a5,a6,a7,a8,a9.mono (by omega),a10,a11,a12⟩
    case rest =>
     obtain ⟨rfl,hX⟩:=hcut
     obtain ⟨v1,v2,v3,t',⟨e1,e2,e3,e4,e5,e6,e7,e8,e9,rfl,rfl,rfl⟩,hZ,hk,hs,hr,hu,hg,hgz,hrg⟩:=hX
     have HFF:=Lib.hid (hg.set3b (.slice e1 e2 e3) (.slice e4 e5 e6) (.slice e7 e8 e9))
     have htt:=set3b_turn wc w.heap.size (.slice e1 e2 e3) (.slice e4 e5 e6) (.slice e7 e8 e9)
     have HFIN:Hid (DrawTr w R P 4000 (.returned (.agg #[.slice e1 e2 e3,.slice e4 e5 e6,.slice e7 e8 e9])) (set3b wc w.heap.size (.slice e1 e2 e3) (.slice e4 e5 e6) (.slice e7 e8 e9))):=Lib.hid ⟨_,_,_,t',rfl,fun W hW=>hk W (fun q h1 h2 h3 h4=>(hW q h1 (by rw [set3b_size];exact h2) h3).trans (htt.block q h2 (.inr (by omega)))),hs,set3b_rd hr hrg,set3b_upd hu (Nat.le_refl _)⟩
     obtain ⟨y0,y1,y2,-,-,-⟩:=hZ
     obtain ⟨x0,x1,x2,f0,f1,f2⟩:=hg
     unfold set3b at HFF HFIN
     clear hk hs hr hu hgz hrg htt
     go_wp2_with fail
     exact bodyPost_ret (results_tre Tryz.results67 _ (by rfl) HFF.out) rfl HFIN.out
theorem rowB_belowT {w w':World} {a:Option Addr} {len:Nat} {z:List Int} (h:RowB w a len z) (hb:Below w.heap.size w w'):RowB w' a len z:=by
 obtain ⟨h1,h2,h3,h4⟩:=h
 refine ⟨h1,h2,fun hl=>?_,h4⟩
 obtain ⟨b,off,he,hc⟩:=h3 hl
 refine ⟨b,off,he,fun i hi=>?_⟩
 have hlt:b < w.heap.size:=World.block_lt_of_cell? w ⟨b,off+i,none⟩ (hc i hi)
 rw [hb.cell (p:=⟨b,off+i,none⟩) hlt]
 exact hc i hi
end Go.Proofs.YtpnjgmgmakmgeaaGreat
