/- Texts of ours that stand together: OwnR, Frm -/
import Derived.Test.YtpnjgmgmakmgeaaGreatLay
/- What a call owns,told as a list of rows: each slice value with its row's cells,no two over one block. A structure of any depth lies flat in such a list. No function of the program is named here. -/
namespace Go.Proofs.YtpnjgmgmakmgeaaGreat
open Go.RowKit
set_option linter.unusedVariables false
structure Rw where
 v:Value
 e:TypeId
 size:Nat
 n:Nat
 cs:List Value
def Off (a b:Rw):Prop:=∀ p,blk a.v=some p→blk b.v≠some p
structure OwnR (w:World) (B T:Nat) (R:List Rw):Prop where
 own:∀ r∈R,w.ownsRow B r.e r.size r.v r.n r.cs
 lt:∀ r∈R,∀ b,blk r.v=some b→b < T
 apart:R.Pairwise Off
theorem Off.symm {a b:Rw} (h:Off a b):Off b a:=fun p h1 h2=>h p h2 h1
theorem OwnR.nil (w:World) (B T:Nat):OwnR w B T []:=⟨fun _ h=>(by cases h),fun _ h=>(by cases h),List.Pairwise.nil⟩
theorem OwnR.ge {w:World} {B T:Nat} {R:List Rw} (h:OwnR w B T R) {r:Rw} (hr:r∈R) {b:Nat} (hb:blk r.v=some b):B≤b∧b < T∧b < w.heap.size:=by
 have h1:=h.own r hr
 have h2:=hb
 rw [owns_blk h1] at h2
 exact ⟨(h1.lt b h2).1,h.lt r hr b hb,(h1.lt b h2).2⟩
theorem OwnR.keep {w w':World} {B T:Nat} {R:List Rw} (h:OwnR w B T R) (hk:∀ r∈R,∀ b,blk r.v=some b→w'.heap[b]? = w.heap[b]?):OwnR w' B T R :=
 ⟨fun r hr=>owns_keep (h.own r hr) (hk r hr),h.lt,h.apart⟩
theorem OwnR.turn {w w':World} {B T B' T':Nat} {R:List Rw} (h:OwnR w B T R) (ht:Turn B' T' w w') (hd:T≤B'∨T'≤B∨w.heap.size≤B'):OwnR w' B T R :=
 h.keep fun r hr b hb=>by
  have:=h.ge hr hb
  exact ht.block b (by omega) (by omega)
theorem OwnR.below {w w':World} {B T:Nat} {R:List Rw} (h:OwnR w B T R) (hb:Below w.heap.size w w'):OwnR w' B T R :=
 h.turn (Turn.ofBelow w.heap.size w.heap.size hb) (.inr (.inr (Nat.le_refl _)))
theorem OwnR.mono {w:World} {B T B' T':Nat} {R:List Rw} (h:OwnR w B T R) (hB:B'≤B) (hT:T≤T'):OwnR w B' T' R :=
 ⟨fun r hr=>owns_mono (h.own r hr) hB,fun r hr b hb=>Nat.lt_of_lt_of_le (h.lt r hr b hb) hT,h.apart⟩
theorem OwnR.top {w:World} {B T:Nat} {R:List Rw} (h:OwnR w B T R):OwnR w B w.heap.size R :=
 ⟨h.own,fun r hr b hb=>(h.ge hr hb).2.2,h.apart⟩
theorem OwnR.sub {w:World} {B T:Nat} {R R':List Rw} (h:OwnR w B T R) (hs:R'.Sublist R):OwnR w B T R' :=
 ⟨fun r hr=>h.own r (hs.subset hr),fun r hr=>h.lt r (hs.subset hr),h.apart.sublist hs⟩
theorem OwnR.perm {w:World} {B T:Nat} {R R':List Rw} (h:OwnR w B T R) (hp:R.Perm R'):OwnR w B T R' :=
 ⟨fun r hr=>h.own r (hp.mem_iff.2 hr),fun r hr=>h.lt r (hp.mem_iff.2 hr),(hp.pairwise_iff fun hab=>Off.symm hab).1 h.apart⟩
theorem OwnR.cons {w:World} {B T:Nat} {R:List Rw} (h:OwnR w B T R) (r:Rw) (ho:w.ownsRow B r.e r.size r.v r.n r.cs) (hl:∀ b,blk r.v=some b→b < T) (ha:∀ x∈R,Off r x):OwnR w B T (r :: R) :=
 ⟨fun x hx=>(List.mem_cons.1 hx).elim (fun e=>by subst e;exact ho) (h.own x),fun x hx=>(List.mem_cons.1 hx).elim (fun e=>by subst e;exact hl) (h.lt x),List.pairwise_cons.2 ⟨ha,h.apart⟩⟩
theorem OwnR.append {w:World} {B T B' T':Nat} {R R':List Rw} (h:OwnR w B T R) (h2:OwnR w B' T' R') (hB:T≤B') (hBB:B≤B') (hTT:T≤T'):OwnR w B T' (R++R') :=
 ⟨fun r hr => (List.mem_append.1 hr).elim (h.own r) (fun hr => owns_mono (h2.own r hr) hBB),
  fun r hr b hb=>by
   rcases List.mem_append.1 hr with hr | hr
   · exact Nat.lt_of_lt_of_le (h.lt r hr b hb) hTT
   · exact h2.lt r hr b hb,
  List.pairwise_append.2 ⟨h.apart,h2.apart,fun a ha x hx p hp hq=>by
   have:=(h.ge ha hp).2.1
   have:=(h2.ge hx hq).1
   omega⟩⟩
theorem OwnR.head {w:World} {B T:Nat} {R:List Rw} {r:Rw} (h:OwnR w B T (r :: R)):w.ownsRow B r.e r.size r.v r.n r.cs:=h.own r List.mem_cons_self
theorem OwnR.tail {w:World} {B T:Nat} {R:List Rw} {r:Rw} (h:OwnR w B T (r :: R)):OwnR w B T R:=h.sub (List.sublist_cons_self _ _)
theorem OwnR.off {w:World} {B T:Nat} {R:List Rw} {r:Rw} (h:OwnR w B T (r :: R)):∀ x∈R,Off r x:=(List.pairwise_cons.1 h.apart).1
theorem OwnR.grow {w w':World} {B T T':Nat} {R:List Rw} {r r':Rw} (h:OwnR w B T (r :: R)) (ho:w'.ownsRow B r'.e r'.size r'.v r'.n r'.cs) (hg:w.grownBy w' r.v.ownBlock) (hloc:r'.v.ownBlock=r.v.ownBlock∨r'.v.ownBlock=some w.heap.size)
  (hT:T≤T') (hw:w.heap.size < T'∨r'.v.ownBlock=r.v.ownBlock):OwnR w' B T' (r' :: R):=by
 have hb:=owns_blk h.head
 have hb':=owns_blk ho
 have htl:OwnR w' B T' R:=(h.tail.keep fun x hx b hxb=>hg.block b (h.tail.ge hx hxb).2.2 (fun e=>h.off x hx b (by rw [hb];exact e.symm) hxb)).mono (Nat.le_refl _) hT
 refine htl.cons r' ho (fun b hbb=>?_) fun x hx p hp hq=>?_
 · rw [hb'] at hbb
   rcases hloc with e | e
   · rw [e,← hb] at hbb;have:=h.lt r List.mem_cons_self b hbb;omega
   · rcases hw with hw | hw
     · rw [e] at hbb;cases hbb;exact hw
     · rw [hw,← hb] at hbb;have:=h.lt r List.mem_cons_self b hbb;omega
 · rw [hb'] at hp
   rcases hloc with e | e
   · rw [e,← hb] at hp;exact h.off x hx p hp hq
   · rw [e] at hp;cases hp
     have:=(h.tail.ge hx hq).2.2;omega
theorem OwnR.store {w:World} {B T:Nat} {R:List Rw} {e:TypeId} {size n g cap:Nat} {cs:List Value} (h:OwnR w B T (⟨.slice (some ⟨g,0,none⟩) n cap,e,size,n,cs⟩ :: R)) (k:Nat) (y:Value) :
  OwnR (w.setCell ⟨g,k,none⟩ y) B T (⟨.slice (some ⟨g,0,none⟩) n cap,e,size,n,cs.set k y⟩ :: R) :=
 h.grow (r':=⟨.slice (some ⟨g,0,none⟩) n cap,e,size,n,cs.set k y⟩) (h.head.stored k y).1 ⟨rfl,rfl,rfl,by simp [World.setCell],fun q _ hq=>Below.heap_setCell _ _ _ _ (fun e=>hq (by simp [Value.ownBlock,e]))⟩ (.inl rfl) (Nat.le_refl _) (.inr rfl)
theorem OwnR.addNil {w:World} {B T:Nat} {R:List Rw} (h:OwnR w B T R) (r:Rw) (hr:r.v = .slice none 0 0∧r.n=0∧r.cs=[]):OwnR w B T (r :: R):=by
 obtain ⟨v,e,size,n,cs⟩:=r
 obtain ⟨rfl,rfl,rfl⟩:=hr
 exact h.cons _ (World.ownsRow_nil _ _ _ _) (fun b hb=>(by cases hb)) (fun x _ p hp=>(by cases hp))
structure Frm (Q:Nat→Prop) (w w':World):Prop where
 os:w'.os=w.os
 tape:w'.tape=w.tape
 output:w'.output=w.output
 size:w.heap.size≤w'.heap.size
 block:∀ k,k < w.heap.size→¬ Q k→w'.heap[k]? = w.heap[k]?
theorem Frm.refl (Q:Nat→Prop) (w:World):Frm Q w w:=⟨rfl,rfl,rfl,Nat.le_refl _,fun _ _ _=>rfl⟩
theorem Frm.trans {Q Q':Nat→Prop} {a b c:World} (h:Frm Q a b) (k:Frm Q' b c) (hq:∀ i,i < a.heap.size→Q' i→Q i):Frm Q a c :=
 ⟨k.os.trans h.os,k.tape.trans h.tape,k.output.trans h.output,Nat.le_trans h.size k.size,fun i hi hr=>(k.block i (Nat.lt_of_lt_of_le hi h.size) (fun hh=>hr (hq i hi hh))).trans (h.block i hi hr)⟩
theorem Frm.ofGrown {Q:Nat→Prop} {w w':World} {row:Option Nat} (hg:w.grownBy w' row) (h:∀ k,row=some k→Q k):Frm Q w w' :=
 ⟨hg.os,hg.tape,hg.output,hg.size,fun k hk hr=>hg.block k hk (fun e=>hr (h k e.symm))⟩
theorem Frm.ofBelow {Q:Nat→Prop} {w w':World} (hb:Below w.heap.size w w'):Frm Q w w':=⟨hb.os,hb.tape,hb.output,hb.size,fun k hk _=>hb.block k hk⟩
theorem Frm.below {Q:Nat→Prop} {B:Nat} {w w':World} (h:Frm Q w w') (hB:B≤w.heap.size) (hq:∀ k,Q k→B≤k):Below B w w' :=
 ⟨h.os,h.tape,h.output,h.size,fun k hk=>h.block k (Nat.lt_of_lt_of_le hk hB) (fun hh=>by have:=hq k hh;omega)⟩
theorem Frm.setCell {Q:Nat→Prop} {a w:World} (h:Frm Q a w) {g:Nat} (hg:Q g) (o:Nat) (v:Value):Frm Q a (w.setCell ⟨g,o,none⟩ v) :=
 ⟨h.os,h.tape,h.output,Nat.le_trans h.size (by simp [World.setCell]),fun k hk hr=>(Below.heap_setCell w ⟨g,o,none⟩ v k (fun e=>hr (by have e':k=g:=e;rw [e'];exact hg))).trans (h.block k hk hr)⟩
theorem Frm.alloc {Q:Nat→Prop} {a w:World} (h:Frm Q a w) (o:Obj):Frm Q a (w.alloc o) :=
 h.trans (Frm.ofBelow (Q:=Q) ((Below.refl _ _).alloc (Nat.le_refl _) o)) (fun _ _ hh=>hh)
theorem Frm.then {Q:Nat→Prop} {a b c:World} (h:Frm Q a b) (hb:Below b.heap.size b c):Frm Q a c:=h.trans (Frm.ofBelow (Q:=Q) hb) (fun _ _ hh=>hh)
end Go.Proofs.YtpnjgmgmakmgeaaGreat
