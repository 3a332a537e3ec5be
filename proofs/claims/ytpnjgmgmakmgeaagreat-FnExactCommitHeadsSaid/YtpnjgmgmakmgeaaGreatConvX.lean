/- Texts of ours that stand together: ConvL, ConvL2, ConvL3, ConvEff, ToEff, ConvFs, ConvFs2, ConvFs3 -/
import Derived.Test.YtpnjgmgmakmgeaaGreatConv
import Derived.Test.YtpnjgmgmakmgeaaGreatLayP
import Derived.Test.YtpnjgmgmakmgeaaGreatEffA
import Derived.Test.YtpnjgmgmakmgeaaGreatSpecX
import Derived.Test.YtpnjgmgmakmgeaaGreatEff
import Derived.StillTailTactics
/- The contracts of the laws' own helpers over layers. -/
namespace Go.Proofs.YtpnjgmgmakmgeaaGreat
open Go.RowKit
set_option linter.unusedVariables false
def Two (v u:Value) (w w':World):Prop:=w.heap.size≤w'.heap.size∧∀ p,p < w.heap.size→v.ownBlock≠some p→u.ownBlock≠some p→w'.heap[p]? = w.heap[p]?
theorem Two.row {v u:Value} {w w':World} {a:Option Addr} {n:Nat} {l:List Ent} (h:Two v u w w') (hr:RowE w a n l) (hv:∀ b o,a=some ⟨b,o,none⟩→v.ownBlock≠some b) (hu:∀ b o,a=some ⟨b,o,none⟩→u.ownBlock≠some b):RowE w' a n l:=by
 obtain ⟨h1,h2,h3,h4⟩:=hr
 refine ⟨h1,h2,fun hl=>?_,h4⟩
 obtain ⟨b,off,he,hc⟩:=h3 hl
 have hlt:b < w.heap.size:=World.block_lt_of_cell? w ⟨b,off+0*2,none⟩ (hc 0 hl).1
 have hb:=h.2 b hlt (hv b off he) (hu b off he)
 exact ⟨b,off,he,fun i hi=>⟨(World.cell?_of_block hb).trans (hc i hi).1,(World.cell?_of_block hb).trans (hc i hi).2⟩⟩
def mk3 (k:Int):Bool:=(k % 3 == 0)
theorem tmod3 {k:Int} (h:0≤k):k.tmod 3=k % 3:=Int.tmod_eq_emod_of_nonneg h
structure TurnQ (Q:Nat→Prop) (w w':World):Prop where
 os:w'.os=w.os
 tape:w'.tape=w.tape
 output:w'.output=w.output
 size:w.heap.size≤w'.heap.size
 block:∀ k,k < w.heap.size→¬ Q k→w'.heap[k]? = w.heap[k]?
theorem TurnQ.refl (Q:Nat→Prop) (w:World):TurnQ Q w w:=⟨rfl,rfl,rfl,Nat.le_refl _,fun _ _ _=>rfl⟩
theorem TurnQ.trans {Q:Nat→Prop} {a b c:World} (h:TurnQ Q a b) (k:TurnQ Q b c):TurnQ Q a c :=
 ⟨k.os.trans h.os,k.tape.trans h.tape,k.output.trans h.output,Nat.le_trans h.size k.size,fun i hi hr=>(k.block i (Nat.lt_of_lt_of_le hi h.size) hr).trans (h.block i hi hr)⟩
theorem TurnQ.ofGrown {Q:Nat→Prop} {w w':World} {row:Option Nat} (hg:w.grownBy w' row) (h:∀ k,row=some k→Q k):TurnQ Q w w' :=
 ⟨hg.os,hg.tape,hg.output,hg.size,fun k hk hr=>hg.block k hk (fun e=>hr (h k e.symm))⟩
theorem TurnQ.setCell {Q:Nat→Prop} {a w:World} (h:TurnQ Q a w) {g:Nat} (hg:Q g) (o:Nat) (v:Value):TurnQ Q a (w.setCell ⟨g,o,none⟩ v) :=
 h.trans (TurnQ.ofGrown (set_grown w g o v) (fun k hk=>by cases hk;exact hg))
def OwnFQ (w:World) (B T:Nat) (Q:Nat→Prop) (eX eE:TypeId) (v:Value) (L:List Eff):Prop :=
 L.length≤4000000∧∃ xs,Own2 w B T eX 3 v L.length (L.flatMap (effC eE)) xs∧∀ x∈v :: xs,∀ p,blk x=some p→Q p
theorem OwnFQ.fs {w:World} {B T:Nat} {Q:Nat→Prop} {eX eE:TypeId} {v:Value} {L:List Eff} (h:OwnFQ w B T Q eX eE v L):OwnFs w B T eX eE v L:=by
 obtain ⟨h0,xs,h1,-⟩:=h;exact ⟨h0,xs,h1⟩
theorem OwnFQ.top {w:World} {B T g n cap:Nat} {Q:Nat→Prop} {eX eE:TypeId} {L:List Eff} (h:OwnFQ w B T Q eX eE (.slice (some ⟨g,0,none⟩) n cap) L):Q g:=by
 obtain ⟨-,xs,-,h2⟩:=h;exact h2 _ List.mem_cons_self g rfl
theorem OwnFQ.keep {w w':World} {B T:Nat} {Q:Nat→Prop} {eX eE:TypeId} {v:Value} {L:List Eff} (h:OwnFQ w B T Q eX eE v L) (hk:∀ p,p < w.heap.size→Q p→w'.heap[p]? = w.heap[p]?):OwnFQ w' B T Q eX eE v L:=by
 obtain ⟨h0,xs,h1,h2⟩:=h
 have hlt:=h1.blk_lt
 obtain ⟨g1,g2,g3,g4,g5⟩:=h1
 refine ⟨h0,xs,⟨owns_keep g1 (fun b hb=>hk b (hlt v List.mem_cons_self b hb).2.2 (h2 v List.mem_cons_self b hb)),g2,g3,fun i c x hc hx=>?_,g5⟩,h2⟩
 have hm:=List.mem_cons_of_mem v (List.mem_of_getElem? hx)
 exact ⟨c.keep (g4 i c x hc hx).1 (fun b hb=>hk b (hlt x hm b hb).2.2 (h2 x hm b hb)),(g4 i c x hc hx).2⟩
end Go.Proofs.YtpnjgmgmakmgeaaGreat
