/- Texts of ours that stand together: TreMath3, TreBx, TreLaw, PathLaw, IsbLaw -/
import Derived.Test.YtpnjgmgmakmgeaaGreatTrM
import Derived.Test.YtpnjgmgmakmgeaaGreatTrI
/- Trees of blocks: the stores after blocks,and growing. No function of the program is named here. -/
namespace Go.Proofs.YtpnjgmgmakmgeaaGreat
set_option linter.unusedVariables false
theorem storesL_snoc (t:Tre) (S:List Ent) (p:List Int) (k:Int):storesL t S (p++[k])=(serM (storesL t S p) (blkAt t.blocks k.toNat).acts).1:=by
 unfold storesL;rw [List.foldl_append];rfl
theorem putT_ok {t:Tre} (h:treB t=true) (b:Blk):treB (putT t b).1=true:=by
 unfold putT;rw [if_pos h]
 by_cases e:treB (t.add b)=true
 · rw [if_pos e];exact e
 · rw [if_neg e];exact h
theorem putT_len (t:Tre) (b:Blk) (h:treB t=true):t.blocks.length≤(putT t b).1.blocks.length:=by
 unfold putT;rw [if_pos h]
 by_cases e:treB (t.add b)=true
 · rw [if_pos e];simp [Tre.add]
 · rw [if_neg e];exact Nat.le_refl _
theorem growM_ok {t:Tre} (h:treB t=true) (n view:Int) (L:List Acn):treB (growM t n view L).1=true:=by
 unfold growM;rw [if_pos h]
 split
 · split
   · exact putT_ok h _
   · exact h
 · exact h
theorem growM_len {t:Tre} (h:treB t=true) (n view:Int) (L:List Acn):t.blocks.length≤(growM t n view L).1.blocks.length:=by
 unfold growM;rw [if_pos h]
 split
 · split
   · exact putT_len t _ h
   · exact Nat.le_refl _
 · exact Nat.le_refl _
open Go.RowKit
structure TrBx (w:World) (B T Z:Nat) (tT:TreT) (v1 v2 v3:Value) (t:Tre) (ts:List Value):Prop where
 box:TrAt w Z v1 v2 v3
 own:OwnR w B T (treRs tT v1 v2 v3 t ts)
 tl:ts.length=t.blocks.length
 wf:TreWf t
 zB:B≤Z
 zT:Z < T
 tw:T≤w.heap.size
 off:∀ r∈treRs tT v1 v2 v3 t ts,blk r.v≠some Z
theorem TrBx.keep {w w':World} {B T Z:Nat} {tT:TreT} {v1 v2 v3:Value} {t:Tre} {ts:List Value} (h:TrBx w B T Z tT v1 v2 v3 t ts) (hs:w.heap.size≤w'.heap.size) (hk:∀ k,B≤k→k < T→w'.heap[k]? = w.heap[k]?):TrBx w' B T Z tT v1 v2 v3 t ts :=
 ⟨h.box.keep (hk Z h.zB h.zT),h.own.keep fun r hr b hb=>(by have:=h.own.ge hr hb;exact hk b this.1 this.2.1),h.tl,h.wf,h.zB,h.zT,Nat.le_trans h.tw hs,h.off⟩
theorem TrBx.below {w w':World} {B T Z:Nat} {tT:TreT} {v1 v2 v3:Value} {t:Tre} {ts:List Value} (h:TrBx w B T Z tT v1 v2 v3 t ts) (hb:Below w.heap.size w w'):TrBx w' B T Z tT v1 v2 v3 t ts :=
 h.keep hb.size (fun k _ hk=>hb.block k (Nat.lt_of_lt_of_le hk h.tw))
theorem TrBx.top {w:World} {B T Z:Nat} {tT:TreT} {v1 v2 v3:Value} {t:Tre} {ts:List Value} (h:TrBx w B T Z tT v1 v2 v3 t ts):TrBx w B w.heap.size Z tT v1 v2 v3 t ts :=
 ⟨h.box,h.own.top,h.tl,h.wf,h.zB,h.box.lt,Nat.le_refl _,h.off⟩
theorem TrBx.mono {w:World} {B B' T Z:Nat} {tT:TreT} {v1 v2 v3:Value} {t:Tre} {ts:List Value} (h:TrBx w B T Z tT v1 v2 v3 t ts) (hB:B'≤B):TrBx w B' T Z tT v1 v2 v3 t ts :=
 ⟨h.box,h.own.mono hB (Nat.le_refl _),h.tl,h.wf,Nat.le_trans hB h.zB,h.zT,h.tw,h.off⟩
theorem TrBx.tre {w:World} {B T Z:Nat} {tT:TreT} {v1 v2 v3:Value} {t:Tre} {ts:List Value} (h:TrBx w B T Z tT v1 v2 v3 t ts):TreOwn w B T tT v1 v2 v3 t ts:=⟨h.tl,h.own,h.wf⟩
theorem TrBx.rd {w:World} {B T Z:Nat} {tT:TreT} {v1 v2 v3:Value} {t:Tre} {ts:List Value} (h:TrBx w B T Z tT v1 v2 v3 t ts):TreRd w v1 v2 v3 t:=h.tre.rd
theorem TrBx.set {w:World} {B T Z G o:Nat} {tT:TreT} {v1 v2 v3 x:Value} {t:Tre} {ts:List Value} (h:TrBx w B T Z tT v1 v2 v3 t ts) (hG:G < B∨T≤G):TrBx (w.setCell ⟨G,o,none⟩ x) B T Z tT v1 v2 v3 t ts :=
 h.keep (by simp [World.setCell]) (fun k h1 h2=>Below.heap_setCell _ _ _ _ (by show k≠G;omega))
theorem trBx_new {w:World} {B T:Nat} {tT:TreT} {v1 v2 v3:Value} {t:Tre} {ts:List Value} (h:TreOwn w B T tT v1 v2 v3 t ts) (hB:B≤w.heap.size) (ty:TypeId):TrBx (w.alloc (.cells #[v1,v2,v3] ty)) B (w.heap.size+1) w.heap.size tT v1 v2 v3 t ts:=by
 have hb:=(Below.refl w.heap.size w).alloc (Nat.le_refl _) (.cells #[v1,v2,v3] ty)
 refine ⟨trAt_new w ty v1 v2 v3,(h.top.own.below hb).mono (Nat.le_refl _) (Nat.le_succ _),h.tl,h.wf,hB,Nat.lt_succ_self _,by simp,fun r hr e=>?_⟩
 have:=(h.own.ge hr e).2.2;omega
theorem treApp_own {w7 w9:World} {B T:Nat} {tT:TreT} {v1 v2 v3 v2' x:Value} {t:Tre} {ts:List Value} {b:Blk} {o:Obj} (hO:OwnR w7 B T (treRs tT v1 v2 v3 t ts)) (htl:ts.length=t.blocks.length) (hBT:B≤T) (hT:T≤w7.heap.size)
  (hx:w7.ownsRow T tT.tA 4 x b.acts.length (flatA b.acts)) (hg:(w7.alloc o).grownBy w9 v2.ownBlock) (hloc:v2'.ownBlock=v2.ownBlock∨v2'.ownBlock=some (w7.heap.size+1))
  (ho:w9.ownsRow B tT.tB 6 v2' (t.blocks.length+1) (bksCs t.blocks ts++bkCs b x)):OwnR w9 B w9.heap.size (treRs tT v1 v2' v3 (t.mid b) (ts++[x])):=by
 have h1:=hO.perm treRs_swap
 have hx1:OwnR w7 T w7.heap.size [bkR tT.tA b x]:=(OwnR.nil w7 T w7.heap.size).cons (bkR tT.tA b x) hx (fun q hq=>by
  have hq:blk x=some q:=hq
  rw [owns_blk hx] at hq;exact (hx.lt q hq).2) (fun x hx=>by cases hx)
 have h2:=h1.append hx1 (Nat.le_refl _) hBT hT
 have h3:=h2.below ((Below.refl _ _).alloc (Nat.le_refl _) o)
 rw [List.cons_append] at h3
 have hs:=hg.size
 rw [World.size_alloc] at hs
 have h4:=h3.grow (T':=w9.heap.size+1) (r':=⟨v2',tT.tB,6,(t.mid b).blocks.length,bksCs (t.mid b).blocks (ts++[x])⟩) (by simp only [Tre.mid];rw [bksCs_snoc htl,List.length_append,List.length_singleton];exact ho) hg (by rw [World.size_alloc];exact hloc) (by omega) (.inl (by rw [World.size_alloc];omega))
 refine (h4.perm ?_).top
 refine List.Perm.trans ?_ treRs_swap.symm
 simp only [Tre.mid,List.cons_append]
 rw [bksRs_snoc htl]
theorem treApp_off {w7 w9:World} {B T:Nat} {tT:TreT} {v1 v2 v3 v2' x:Value} {t:Tre} {ts:List Value} {b:Blk} {Z:Nat} (htl:ts.length=t.blocks.length) (hZ:Z < T) (hoff:∀ r∈treRs tT v1 v2 v3 t ts,blk r.v≠some Z)
  (hT:T≤w7.heap.size) (hx:w7.ownsRow T tT.tA 4 x b.acts.length (flatA b.acts)) (hv2:blk v2'=v2'.ownBlock) (hv:blk v2=v2.ownBlock) (hloc:v2'.ownBlock=v2.ownBlock∨v2'.ownBlock=some (w7.heap.size+1)) :
  ∀ r∈treRs tT v1 v2' v3 (t.mid b) (ts++[x]),blk r.v≠some Z:=by
 intro r hr
 have hr':=treRs_swap.mem_iff.1 hr
 simp only [Tre.mid,List.mem_cons] at hr'
 rcases hr' with rfl | rfl | rfl | hr'
 · simp only
   rw [hv2]
   rcases hloc with e | e
   · rw [e,← hv];exact hoff ⟨v2,tT.tB,6,t.blocks.length,bksCs t.blocks ts⟩ (treRs_swap.mem_iff.2 (by simp))
   · rw [e];intro e';injection e';omega
 · exact hoff _ (treRs_swap.mem_iff.2 (by simp))
 · exact hoff _ (treRs_swap.mem_iff.2 (by simp))
 · rw [bksRs_snoc htl] at hr'
   rcases List.mem_append.1 hr' with hr' | hr'
   · exact hoff _ (treRs_swap.mem_iff.2 (by simp [hr']))
   · simp only [List.mem_singleton] at hr'
     subst hr'
     simp only [bkR]
     rw [owns_blk hx]
     intro e;have:=(hx.lt _ e).1;omega
theorem TrBx.putBlock {w7 w9:World} {B T Z:Nat} {tT:TreT} {v1 v2 v3 v2' x:Value} {t:Tre} {ts:List Value} {b:Blk} {o:Obj} (h:TrBx w7 B T Z tT v1 v2 v3 t ts)
  (hx:w7.ownsRow T tT.tA 4 x b.acts.length (flatA b.acts)) (hg:(w7.alloc o).grownBy w9 v2.ownBlock) (hloc:v2'.ownBlock=v2.ownBlock∨v2'.ownBlock=some (w7.heap.size+1))
  (ho:w9.ownsRow B tT.tB 6 v2' (t.blocks.length+1) (bksCs t.blocks ts++bkCs b x)) (hb:BkWf b) (hl:t.blocks.length < 4000000) :
  TrAt w9 Z v1 v2 v3∧TrBx (w9.setCell ⟨Z,1,none⟩ v2') B w9.heap.size Z tT v1 v2' v3 (t.mid b) (ts++[x]):=by
 have hzw:=h.box.lt
 have hr2:(⟨v2,tT.tB,6,t.blocks.length,bksCs t.blocks ts⟩:Rw)∈treRs tT v1 v2 v3 t ts:=treRs_swap.mem_iff.2 (by simp)
 have hv:=owns_blk (h.own.own _ hr2)
 simp only at hv
 have nz:some Z≠v2.ownBlock:=fun e=>h.off _ hr2 (by simp only;rw [hv,← e])
 have hba:Below w7.heap.size w7 (w7.alloc o):=(Below.refl _ _).alloc (Nat.le_refl _) o
 have e9:=(h.box.below hba).grown hg nz
 have hs:=hg.size
 rw [World.size_alloc] at hs
 have hO:=treApp_own h.own h.tl (Nat.le_trans h.zB (Nat.le_of_lt h.zT)) h.tw hx hg hloc ho
 have oZ:=treApp_off (w7:=w7) (w9:=w9) (B:=B) h.tl h.zT h.off h.tw hx (owns_blk ho) hv hloc
 refine ⟨e9,e9.set1 v2',?_,by simp [Tre.mid,h.tl],⟨h.wf.base,h.wf.bef,h.wf.blocks.snoc hb hl,h.wf.blen,h.wf.flen⟩,h.zB,e9.lt,by simp [World.setCell],oZ⟩
 exact hO.keep (w':=w9.setCell ⟨Z,1,none⟩ v2') (fun r hr p hp=>Below.heap_setCell _ _ _ _ (by simp;intro e;exact oZ r hr (by rw [hp,e])))
theorem TrBx.putBef {w w9:World} {B T Z:Nat} {tT:TreT} {v1 v2 v3 v3':Value} {t:Tre} {ts:List Value} {o:Obj} {n:Int} (h:TrBx w B T Z tT v1 v2 v3 t ts)
  (hg:(w.alloc o).grownBy w9 v3.ownBlock) (hloc:v3'.ownBlock=v3.ownBlock∨v3'.ownBlock=some (w.heap.size+1))
  (ho:w9.ownsRow B tT.tI 1 v3' (t.bef.length+1) (t.bef.map (Value.int .i64)++[.int .i64 n])) (hn:(Lit.int .i64 n).wf=true) (hl:t.bef.length < 4000000) :
  TrAt w9 Z v1 v2 v3∧TrBx (w9.setCell ⟨Z,2,none⟩ v3') B w9.heap.size Z tT v1 v2 v3' ⟨t.base,t.blocks,t.bef++[n]⟩ ts:=by
 have hzw:=h.box.lt
 have hr3:(⟨v3,tT.tI,1,t.bef.length,t.bef.map (Value.int .i64)⟩:Rw)∈treRs tT v1 v2 v3 t ts:=treRs_swap3.mem_iff.2 (by simp)
 have hv:=owns_blk (h.own.own _ hr3)
 simp only at hv
 have hv':=owns_blk ho
 have nz:some Z≠v3.ownBlock:=fun e=>h.off _ hr3 (by simp only;rw [hv,← e])
 have hba:Below w.heap.size w (w.alloc o):=(Below.refl _ _).alloc (Nat.le_refl _) o
 have e9:=(h.box.below hba).grown hg nz
 have hs:=hg.size
 rw [World.size_alloc] at hs
 have htw:=h.tw
 have hO:OwnR w9 B w9.heap.size (treRs tT v1 v2 v3' ⟨t.base,t.blocks,t.bef++[n]⟩ ts):=by
  have h3:=(h.top.own.perm treRs_swap3).below hba
  have h4:=h3.grow (T':=w9.heap.size+1) (r':=⟨v3',tT.tI,1,(t.bef++[n]).length,(t.bef++[n]).map (Value.int .i64)⟩) (by rw [List.length_append,List.length_singleton,List.map_append];exact ho) hg (by rw [World.size_alloc];exact hloc) (by omega) (.inl (by rw [World.size_alloc];omega))
  exact (h4.perm (treRs_swap3 (tT:=tT) (v1:=v1) (v2:=v2) (v3:=v3') (t:=⟨t.base,t.blocks,t.bef++[n]⟩) (ts:=ts)).symm).top
 have oZ:∀ r∈treRs tT v1 v2 v3' ⟨t.base,t.blocks,t.bef++[n]⟩ ts,blk r.v≠some Z:=by
  intro r hr
  have hr':=treRs_swap3.mem_iff.1 hr
  simp only [List.mem_cons] at hr'
  rcases hr' with rfl | rfl | hr'
  · simp only
    rw [hv']
    rcases hloc with e | e
    · rw [e,← hv];exact h.off _ hr3
    · rw [e];intro e';injection e';omega
  · exact h.off _ (treRs_swap3.mem_iff.2 (by simp))
  · exact h.off _ (treRs_swap3.mem_iff.2 (by simp [hr']))
 refine ⟨e9,e9.set2 v3',?_,h.tl,⟨h.wf.base,fun y hy=>?_,h.wf.blocks,h.wf.blen,by simp;omega⟩,h.zB,e9.lt,by simp [World.setCell],oZ⟩
 · exact hO.keep (w':=w9.setCell ⟨Z,2,none⟩ v3') (fun r hr p hp=>Below.heap_setCell _ _ _ _ (by simp;intro e;exact oZ r hr (by rw [hp,e])))
 · rcases List.mem_append.1 hy with hy | hy
   · exact h.wf.bef y hy
   · simp at hy;subst hy;exact hn
theorem take_succBk (L:List Blk) {k:Nat} (hk:k < L.length):L.take k++[L.getD k noBlk]=L.take (k+1):=by
 rw [List.take_succ_eq_append_getElem hk,List.getD_eq_getElem?_getD,List.getElem?_eq_getElem hk];rfl
end Go.Proofs.YtpnjgmgmakmgeaaGreat
