/- Texts of ours that stand together: TreIx, TreIx2 -/
import Derived.Test.YtpnjgmgmakmgeaaGreatTrM
import Derived.Test.YtpnjgmgmakmgeaaGreatLayP
/- An indexed tree in memory: a box of four cells,its rows,and its index,a map of its own. -/
namespace Go.Proofs.YtpnjgmgmakmgeaaGreat
open Go.RowKit
set_option linter.unusedVariables false
structure TrIx (w:World) (B Z m:Nat) (tT:TreT) (v1 v2 v3:Value) (t:Tre) (ts:List Value):Prop where
 box:IxAt w Z v1 v2 v3 (.map (some m))
 own:OwnR w B w.heap.size (treRs tT v1 v2 v3 t ts)
 map:MapF w m t.blocks.length (idxF t.blocks)
 tl:ts.length=t.blocks.length
 wf:TreWf t
 zB:B≤Z
 mB:B≤m
 zm:Z≠m
 offZ:∀ r∈treRs tT v1 v2 v3 t ts,blk r.v≠some Z
 offM:∀ r∈treRs tT v1 v2 v3 t ts,blk r.v≠some m
theorem TrIx.keep {w w':World} {B Z m:Nat} {tT:TreT} {v1 v2 v3:Value} {t:Tre} {ts:List Value} (h:TrIx w B Z m tT v1 v2 v3 t ts) (hs:w.heap.size≤w'.heap.size) (hk:∀ k,B≤k→k < w.heap.size→w'.heap[k]? = w.heap[k]?):TrIx w' B Z m tT v1 v2 v3 t ts :=
 ⟨h.box.keep (hk Z h.zB h.box.lt),(h.own.keep fun r hr b hb=>by have:=h.own.ge hr hb;exact hk b this.1 this.2.2).mono (Nat.le_refl _) hs,h.map.keep (hk m h.mB h.map.lt),h.tl,h.wf,h.zB,h.mB,h.zm,h.offZ,h.offM⟩
theorem TrIx.below {w w':World} {B Z m:Nat} {tT:TreT} {v1 v2 v3:Value} {t:Tre} {ts:List Value} (h:TrIx w B Z m tT v1 v2 v3 t ts) (hb:Below w.heap.size w w'):TrIx w' B Z m tT v1 v2 v3 t ts :=
 h.keep hb.size (fun k _ hk=>hb.block k hk)
theorem TrIx.mono {w:World} {B B' Z m:Nat} {tT:TreT} {v1 v2 v3:Value} {t:Tre} {ts:List Value} (h:TrIx w B Z m tT v1 v2 v3 t ts) (hB:B'≤B):TrIx w B' Z m tT v1 v2 v3 t ts :=
 ⟨h.box,h.own.mono hB (Nat.le_refl _),h.map,h.tl,h.wf,Nat.le_trans hB h.zB,Nat.le_trans hB h.mB,h.zm,h.offZ,h.offM⟩
theorem TrIx.tre {w:World} {B Z m:Nat} {tT:TreT} {v1 v2 v3:Value} {t:Tre} {ts:List Value} (h:TrIx w B Z m tT v1 v2 v3 t ts):TreOwn w B w.heap.size tT v1 v2 v3 t ts:=⟨h.tl,h.own,h.wf⟩
theorem TrIx.rd {w:World} {B Z m:Nat} {tT:TreT} {v1 v2 v3:Value} {t:Tre} {ts:List Value} (h:TrIx w B Z m tT v1 v2 v3 t ts):TreRd w v1 v2 v3 t:=h.tre.rd
structure TrIxM (w:World) (B Z m:Nat) (tT:TreT) (v1 v2 v3:Value) (t:Tre) (ts:List Value) (L:List Blk):Prop where
 box:IxAt w Z v1 v2 v3 (.map (some m))
 own:OwnR w B w.heap.size (treRs tT v1 v2 v3 t ts)
 map:MapF w m L.length (idxF L)
 tl:ts.length=t.blocks.length
 wf:TreWf t
 zB:B≤Z
 mB:B≤m
 zm:Z≠m
 offZ:∀ r∈treRs tT v1 v2 v3 t ts,blk r.v≠some Z
 offM:∀ r∈treRs tT v1 v2 v3 t ts,blk r.v≠some m
theorem MapF.imp {w:World} {b k:Nat} {f g:Int→Option Int} (h:MapF w b k f) (e:∀ s,g s=f s):MapF w b k g:=by
 have:g=f:=funext e
 rw [this];exact h
theorem TrIx.toM {w w':World} {B Z m:Nat} {tT:TreT} {v1 v2 v3:Value} {t:Tre} {ts:List Value} (h:TrIx w B Z m tT v1 v2 v3 t ts) {b:Blk} (hn:findL t.blocks (blkSumM b) = -1)
  (hm:MapF w' m (t.blocks.length+1) (updF (idxF t.blocks) (blkSumM b) t.blocks.length)) (hg:w.grownBy w' (some m)):TrIxM w' B Z m tT v1 v2 v3 t ts (t.blocks++[b]) :=
 ⟨h.box.grown hg (by simpa using h.zm), (h.own.keep fun r hr b hb => hg.block b (h.own.ge hr hb).2.2 (fun e => h.offM r hr (by rw [hb, ← e]))).mono (Nat.le_refl _) hg.size,
  by rw [List.length_append];exact hm.imp (fun s=>by rw [idxF_snoc hn];rfl),h.tl,h.wf,h.zB,h.mB,h.zm,h.offZ,h.offM⟩
theorem TrIxM.below {w w':World} {B Z m:Nat} {tT:TreT} {v1 v2 v3:Value} {t:Tre} {ts:List Value} {L:List Blk} (h:TrIxM w B Z m tT v1 v2 v3 t ts L) (hb:Below w.heap.size w w'):TrIxM w' B Z m tT v1 v2 v3 t ts L :=
 ⟨h.box.below hb,(h.own.below hb).mono (Nat.le_refl _) hb.size,h.map.below hb,h.tl,h.wf,h.zB,h.mB,h.zm,h.offZ,h.offM⟩
theorem treRs_swap {tT:TreT} {v1 v2 v3:Value} {t:Tre} {ts:List Value}:(treRs tT v1 v2 v3 t ts).Perm (⟨v2,tT.tB,6,t.blocks.length,bksCs t.blocks ts⟩ :: ⟨v1,tT.tE,2,t.base.length,flatE t.base⟩ :: ⟨v3,tT.tI,1,t.bef.length,t.bef.map (Value.int .i64)⟩ :: bksRs tT.tA t.blocks ts):=by
 unfold treRs bksAll
 exact (List.Perm.cons _ (List.Perm.swap _ _ _)).trans (List.Perm.swap _ _ _)
theorem treRs_swap3 {tT:TreT} {v1 v2 v3:Value} {t:Tre} {ts:List Value}:(treRs tT v1 v2 v3 t ts).Perm (⟨v3,tT.tI,1,t.bef.length,t.bef.map (Value.int .i64)⟩ :: ⟨v1,tT.tE,2,t.base.length,flatE t.base⟩ :: bksAll tT.tB tT.tA v2 t.blocks ts):=by
 unfold treRs
 exact List.Perm.swap _ _ _
def Tre.mid (t:Tre) (b:Blk):Tre:=⟨t.base,t.blocks++[b],t.bef⟩
theorem ownR_only {w:World} {B:Nat} {r:Rw} (h:w.ownsRow B r.e r.size r.v r.n r.cs):OwnR w B w.heap.size [r] :=
 (OwnR.nil w B w.heap.size).cons r h (fun b hb=>by rw [owns_blk h] at hb;exact (h.lt b hb).2) (fun x hx=>by cases hx)
theorem putBlock_own {w w7 w9:World} {B:Nat} {tT:TreT} {v1 v2 v3 v2' x:Value} {t:Tre} {ts:List Value} {b:Blk} {o:Obj} (hO:OwnR w B w.heap.size (treRs tT v1 v2 v3 t ts)) (htl:ts.length=t.blocks.length) (hb7:Below w.heap.size w w7)
  (hx:w7.ownsRow w.heap.size tT.tA 4 x b.acts.length (flatA b.acts)) (hg:(w7.alloc o).grownBy w9 v2.ownBlock) (hloc:v2'.ownBlock=v2.ownBlock∨v2'.ownBlock=some (w7.heap.size+1))
  (ho:w9.ownsRow B tT.tB 6 v2' (t.blocks.length+1) (bksCs t.blocks ts++bkCs b x)) (hBw:B≤w.heap.size):OwnR w9 B w9.heap.size (treRs tT v1 v2' v3 (t.mid b) (ts++[x])):=by
 have h1:=(hO.perm treRs_swap).below hb7
 have h2:=h1.append (ownR_only (r:=bkR tT.tA b x) hx) (Nat.le_refl _) hBw hb7.size
 have h3:=h2.below ((Below.refl _ _).alloc (Nat.le_refl _) o)
 rw [List.cons_append] at h3
 have hs:=hg.size
 rw [World.size_alloc] at hs
 have h4:=h3.grow (T':=w9.heap.size+1) (r':=⟨v2',tT.tB,6,(t.mid b).blocks.length,bksCs (t.mid b).blocks (ts++[x])⟩) (by simp only [Tre.mid];rw [bksCs_snoc htl,List.length_append,List.length_singleton];exact ho) hg (by rw [World.size_alloc];exact hloc) (by omega) (.inl (by rw [World.size_alloc];omega))
 refine (h4.perm ?_).top
 refine List.Perm.trans ?_ treRs_swap.symm
 simp only [Tre.mid,List.cons_append]
 rw [bksRs_snoc htl]
theorem putBlock_off {w w7 w9:World} {B:Nat} {tT:TreT} {v1 v2 v3 v2' x:Value} {t:Tre} {ts:List Value} {b:Blk} {Z:Nat} (htl:ts.length=t.blocks.length) (hZ:Z < w.heap.size) (hoff:∀ r∈treRs tT v1 v2 v3 t ts,blk r.v≠some Z)
  (hs7:w.heap.size≤w7.heap.size) (hx:w7.ownsRow w.heap.size tT.tA 4 x b.acts.length (flatA b.acts)) (hv2:blk v2'=v2'.ownBlock) (hv:blk v2=v2.ownBlock) (hloc:v2'.ownBlock=v2.ownBlock∨v2'.ownBlock=some (w7.heap.size+1)) :
  ∀ r∈treRs tT v1 v2' v3 (t.mid b) (ts++[x]),blk r.v≠some Z:=by
 intro r hr
 have hr':=treRs_swap.mem_iff.1 hr
 simp only [Tre.mid,List.mem_cons] at hr'
 rcases hr' with rfl | rfl | rfl | hr'
 · simp only
   rw [hv2]
   rcases hloc with e | e
   · rw [e,← hv];exact hoff ⟨v2,tT.tB,6,t.blocks.length,bksCs t.blocks ts⟩ (treRs_swap.mem_iff.2 (by simp))
   · rw [e];intro e';injection e';omega
 · exact hoff _ (treRs_swap.mem_iff.2 (by simp))
 · exact hoff _ (treRs_swap.mem_iff.2 (by simp))
 · rw [bksRs_snoc htl] at hr'
   rcases List.mem_append.1 hr' with hr' | hr'
   · exact hoff _ (treRs_swap.mem_iff.2 (by simp [hr']))
   · simp only [List.mem_singleton] at hr'
     subst hr'
     simp only [bkR]
     rw [owns_blk hx]
     intro e;have:=(hx.lt _ e).1;omega
theorem TrIxM.putBlock {w w7 w9:World} {B Z m:Nat} {tT:TreT} {v1 v2 v3 v2' x:Value} {t:Tre} {ts:List Value} {b:Blk} {o:Obj} {L:List Blk} (h:TrIxM w B Z m tT v1 v2 v3 t ts L) (hb7:Below w.heap.size w w7)
  (hx:w7.ownsRow w.heap.size tT.tA 4 x b.acts.length (flatA b.acts)) (hg:(w7.alloc o).grownBy w9 v2.ownBlock) (hloc:v2'.ownBlock=v2.ownBlock∨v2'.ownBlock=some (w7.heap.size+1))
  (ho:w9.ownsRow B tT.tB 6 v2' (t.blocks.length+1) (bksCs t.blocks ts++bkCs b x)) (hb:BkWf b) (hl:t.blocks.length < 4000000) :
  IxAt w9 Z v1 v2 v3 (.map (some m))∧TrIxM (w9.setCell ⟨Z,1,none⟩ v2') B Z m tT v1 v2' v3 (t.mid b) (ts++[x]) L:=by
 have hzw:=h.box.lt
 have hmw:=h.map.lt
 have hr2:(⟨v2,tT.tB,6,t.blocks.length,bksCs t.blocks ts⟩:Rw)∈treRs tT v1 v2 v3 t ts:=treRs_swap.mem_iff.2 (by simp)
 have hv:=owns_blk (h.own.own _ hr2)
 simp only at hv
 have nz:some Z≠v2.ownBlock:=fun e=>h.offZ _ hr2 (by simp only;rw [hv,← e])
 have nm:some m≠v2.ownBlock:=fun e=>h.offM _ hr2 (by simp only;rw [hv,← e])
 have hba:Below w.heap.size w (w7.alloc o):=hb7.trans (((Below.refl _ _).alloc (Nat.le_refl _) o).mono hb7.size)
 have e9:=(h.box.below hba).grown hg nz
 have hO:=putBlock_own h.own h.tl hb7 hx hg hloc ho (Nat.le_trans h.zB (Nat.le_of_lt hzw))
 have oZ:=putBlock_off (w9:=w9) (B:=B) h.tl hzw h.offZ hb7.size hx (owns_blk ho) hv hloc
 have oM:=putBlock_off (w9:=w9) (B:=B) h.tl hmw h.offM hb7.size hx (owns_blk ho) hv hloc
 have hm9:MapF w9 m L.length (idxF L):=(h.map.below hba).keep (hg.block m (by have:=hba.size;omega) nm)
 refine ⟨e9,e9.set1 v2',?_,hm9.keep (Below.heap_setCell _ _ _ _ (by simp;exact h.zm.symm)),by simp [Tre.mid,h.tl],⟨h.wf.base,h.wf.bef,h.wf.blocks.snoc hb hl,h.wf.blen,h.wf.flen⟩,h.zB,h.mB,h.zm,oZ,oM⟩
 have:=hO.keep (w':=w9.setCell ⟨Z,1,none⟩ v2') (fun r hr p hp=>Below.heap_setCell _ _ _ _ (by simp;intro e;exact oZ r hr (by rw [hp,e])))
 exact this.mono (Nat.le_refl _) (by simp [World.setCell])
theorem TrIxM.putBef {w w9:World} {B Z m:Nat} {tT:TreT} {v1 v2 v3 v3':Value} {t:Tre} {ts:List Value} {o:Obj} {L:List Blk} {n:Int} (h:TrIxM w B Z m tT v1 v2 v3 t ts L) (hL:L=t.blocks)
  (hg:(w.alloc o).grownBy w9 v3.ownBlock) (hloc:v3'.ownBlock=v3.ownBlock∨v3'.ownBlock=some (w.heap.size+1))
  (ho:w9.ownsRow B tT.tI 1 v3' (t.bef.length+1) (t.bef.map (Value.int .i64)++[.int .i64 n])) (hn:(Lit.int .i64 n).wf=true) (hl:t.bef.length < 4000000) :
  IxAt w9 Z v1 v2 v3 (.map (some m))∧TrIx (w9.setCell ⟨Z,2,none⟩ v3') B Z m tT v1 v2 v3' ⟨t.base,t.blocks,t.bef++[n]⟩ ts:=by
 subst hL
 have hzw:=h.box.lt
 have hmw:=h.map.lt
 have hr3:(⟨v3,tT.tI,1,t.bef.length,t.bef.map (Value.int .i64)⟩:Rw)∈treRs tT v1 v2 v3 t ts:=treRs_swap3.mem_iff.2 (by simp)
 have hv:=owns_blk (h.own.own _ hr3)
 simp only at hv
 have hv':=owns_blk ho
 have nz:some Z≠v3.ownBlock:=fun e=>h.offZ _ hr3 (by simp only;rw [hv,← e])
 have nm:some m≠v3.ownBlock:=fun e=>h.offM _ hr3 (by simp only;rw [hv,← e])
 have hba:Below w.heap.size w (w.alloc o):=(Below.refl _ _).alloc (Nat.le_refl _) o
 have e9:=(h.box.below hba).grown hg nz
 have hs:=hg.size
 rw [World.size_alloc] at hs
 have hO:OwnR w9 B w9.heap.size (treRs tT v1 v2 v3' ⟨t.base,t.blocks,t.bef++[n]⟩ ts):=by
  have h3:=(h.own.perm treRs_swap3).below hba
  have h4:=h3.grow (T':=w9.heap.size+1) (r':=⟨v3',tT.tI,1,(t.bef++[n]).length,(t.bef++[n]).map (Value.int .i64)⟩) (by rw [List.length_append,List.length_singleton,List.map_append];exact ho) hg (by rw [World.size_alloc];exact hloc) (by omega) (.inl (by rw [World.size_alloc];omega))
  exact (h4.perm (treRs_swap3 (tT:=tT) (v1:=v1) (v2:=v2) (v3:=v3') (t:=⟨t.base,t.blocks,t.bef++[n]⟩) (ts:=ts)).symm).top
 have off:∀ Y,Y < w.heap.size→(∀ r∈treRs tT v1 v2 v3 t ts,blk r.v≠some Y)→∀ r∈treRs tT v1 v2 v3' ⟨t.base,t.blocks,t.bef++[n]⟩ ts,blk r.v≠some Y:=by
  intro Y hY hoff r hr
  have hr':=treRs_swap3.mem_iff.1 hr
  simp only [List.mem_cons] at hr'
  rcases hr' with rfl | rfl | hr'
  · simp only
    rw [hv']
    rcases hloc with e | e
    · rw [e,← hv];exact hoff _ hr3
    · rw [e];intro e';injection e';omega
  · exact hoff _ (treRs_swap3.mem_iff.2 (by simp))
  · exact hoff _ (treRs_swap3.mem_iff.2 (by simp [hr']))
 have oZ:=off Z hzw h.offZ
 have oM:=off m hmw h.offM
 have hm9:MapF w9 m t.blocks.length (idxF t.blocks):=(h.map.below hba).keep (hg.block m (by have:=hba.size;omega) nm)
 refine ⟨e9,e9.set2 v3',?_,hm9.keep (Below.heap_setCell _ _ _ _ (by simp;exact h.zm.symm)),h.tl,⟨h.wf.base,fun y hy=>?_,h.wf.blocks,h.wf.blen,by simp;omega⟩,h.zB,h.mB,h.zm,oZ,oM⟩
 · have:=hO.keep (w':=w9.setCell ⟨Z,2,none⟩ v3') (fun r hr p hp=>Below.heap_setCell _ _ _ _ (by simp;intro e;exact oZ r hr (by rw [hp,e])))
   exact this.mono (Nat.le_refl _) (by simp [World.setCell])
 · rcases List.mem_append.1 hy with hy | hy
   · exact h.wf.bef y hy
   · simp at hy;subst hy;exact hn
def PutW (w:World) (B Z m:Nat) (tT:TreT) (v1 v2 v3:Value) (t:Tre) (ts:List Value) (b:Blk) (e:Ending) (w':World):Prop :=
 e = .returned (.bool (putB t b))∧Below B w w'∧w.heap.size≤w'.heap.size∧(putB t b=false→TrIx w' B Z m tT v1 v2 v3 t ts)∧(putB t b=true→∃ v2' v3' ts',TrIx w' B Z m tT v1 v2' v3' (t.add b) ts')
end Go.Proofs.YtpnjgmgmakmgeaaGreat
