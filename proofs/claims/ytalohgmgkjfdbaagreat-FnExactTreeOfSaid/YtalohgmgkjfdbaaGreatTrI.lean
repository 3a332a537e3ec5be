/- Texts of ours that stand together: TreIx, TreIx2 -/
import Derived.Test.YtalohgmgkjfdbaaGreatTrM
import Derived.Test.YtalohgmgkjfdbaaGreatLayP
/- An indexed tree in memory: a box of four cells,its rows,and its index,a map of its own. -/
namespace Go.Proofs.YtalohgmgkjfdbaaGreat
open Go.RowKit
set_option linter.unusedVariables false
structure TrIx (w:World) (B Z m:Nat) (tT:TreT) (v1 v2 v3:Value) (t:Tre) (ts:List Value):Prop where
 box:IxAt w Z v1 v2 v3 (.map (some m))
 own:OwnR w B w.heap.size (treRs tT v1 v2 v3 t ts)
 map:MapF w m t.blocks.length (idxF t.blocks)
 tl:ts.length=t.blocks.length
 wf:TreWf t
 zB:B≤Z
 mB:B≤m
 zm:Z≠m
 offZ:∀ r∈treRs tT v1 v2 v3 t ts,blk r.v≠some Z
 offM:∀ r∈treRs tT v1 v2 v3 t ts,blk r.v≠some m
theorem TrIx.keep {w w':World} {B Z m:Nat} {tT:TreT} {v1 v2 v3:Value} {t:Tre} {ts:List Value} (h:TrIx w B Z m tT v1 v2 v3 t ts) (hs:w.heap.size≤w'.heap.size) (hk:∀ k,B≤k→k < w.heap.size→w'.heap[k]? = w.heap[k]?):TrIx w' B Z m tT v1 v2 v3 t ts :=
 ⟨h.box.keep (hk Z h.zB h.box.lt),(h.own.keep fun r hr b hb=>by have:=h.own.ge hr hb;exact hk b this.1 this.2.2).mono (Nat.le_refl _) hs,h.map.keep (hk m h.mB h.map.lt),h.tl,h.wf,h.zB,h.mB,h.zm,h.offZ,h.offM⟩
theorem TrIx.below {w w':World} {B Z m:Nat} {tT:TreT} {v1 v2 v3:Value} {t:Tre} {ts:List Value} (h:TrIx w B Z m tT v1 v2 v3 t ts) (hb:Below w.heap.size w w'):TrIx w' B Z m tT v1 v2 v3 t ts :=
 h.keep hb.size (fun k _ hk=>hb.block k hk)
theorem TrIx.mono {w:World} {B B' Z m:Nat} {tT:TreT} {v1 v2 v3:Value} {t:Tre} {ts:List Value} (h:TrIx w B Z m tT v1 v2 v3 t ts) (hB:B'≤B):TrIx w B' Z m tT v1 v2 v3 t ts :=
 ⟨h.box,h.own.mono hB (Nat.le_refl _),h.map,h.tl,h.wf,Nat.le_trans hB h.zB,Nat.le_trans hB h.mB,h.zm,h.offZ,h.offM⟩
theorem TrIx.tre {w:World} {B Z m:Nat} {tT:TreT} {v1 v2 v3:Value} {t:Tre} {ts:List Value} (h:TrIx w B Z m tT v1 v2 v3 t ts):TreOwn w B w.heap.size tT v1 v2 v3 t ts:=⟨h.tl,h.own,h.wf⟩
theorem TrIx.rd {w:World} {B Z m:Nat} {tT:TreT} {v1 v2 v3:Value} {t:Tre} {ts:List Value} (h:TrIx w B Z m tT v1 v2 v3 t ts):TreRd w v1 v2 v3 t:=h.tre.rd
structure TrIxM (w:World) (B Z m:Nat) (tT:TreT) (v1 v2 v3:Value) (t:Tre) (ts:List Value) (L:List Blk):Prop where
 box:IxAt w Z v1 v2 v3 (.map (some m))
 own:OwnR w B w.heap.size (treRs tT v1 v2 v3 t ts)
 map:MapF w m L.length (idxF L)
 tl:ts.length=t.blocks.length
 wf:TreWf t
 zB:B≤Z
 mB:B≤m
 zm:Z≠m
 offZ:∀ r∈treRs tT v1 v2 v3 t ts,blk r.v≠some Z
 offM:∀ r∈treRs tT v1 v2 v3 t ts,blk r.v≠some m
theorem MapF.imp {w:World} {b k:Nat} {f g:Int→Option Int} (h:MapF w b k f) (e:∀ s,g s=f s):MapF w b k g:=by
 have:g=f:=funext e
 rw [this];exact h
theorem TrIxM.below {w w':World} {B Z m:Nat} {tT:TreT} {v1 v2 v3:Value} {t:Tre} {ts:List Value} {L:List Blk} (h:TrIxM w B Z m tT v1 v2 v3 t ts L) (hb:Below w.heap.size w w'):TrIxM w' B Z m tT v1 v2 v3 t ts L :=
 ⟨h.box.below hb,(h.own.below hb).mono (Nat.le_refl _) hb.size,h.map.below hb,h.tl,h.wf,h.zB,h.mB,h.zm,h.offZ,h.offM⟩
end Go.Proofs.YtalohgmgkjfdbaaGreat
/- An indexed tree in memory: a block is appended,then its number. No function of the program is named here. -/
namespace Go.Proofs.YtalohgmgkjfdbaaGreat
open Go.RowKit
set_option linter.unusedVariables false
end Go.Proofs.YtalohgmgkjfdbaaGreat
