/- Texts of ours that stand together: ConvL, ConvL2, ConvL3, ConvEff, ToEff, ConvFs, ConvFs2, ConvFs3 -/
import Derived.Test.YtoiblfjafjoaeabGreatConv
import Derived.Test.YtoiblfjafjoaeabGreatLayP
import Derived.Test.YtoiblfjafjoaeabGreatEffA
import Derived.Test.YtoiblfjafjoaeabGreatSpecX
import Derived.Test.YtoiblfjafjoaeabGreatEff
import Derived.StillTailTactics
/- The contracts of the laws' own helpers over layers. -/
namespace Go.Proofs.YtoiblfjafjoaeabGreat
open Go.RowKit
set_option linter.unusedVariables false
end Go.Proofs.YtoiblfjafjoaeabGreat
/- The contracts of the laws' own helpers over layers: copies,comparisons. -/
namespace Go.Proofs.YtoiblfjafjoaeabGreat
open Go.RowKit
set_option linter.unusedVariables false
end Go.Proofs.YtoiblfjafjoaeabGreat
/- The contracts of the laws' own helpers over layers: marks;sameLayers. -/
namespace Go.Proofs.YtoiblfjafjoaeabGreat
open Go.RowKit
set_option linter.unusedVariables false
end Go.Proofs.YtoiblfjafjoaeabGreat
/- The contracts of the laws' own helpers over effects: sameEffect,eqEffect,szEffect,toEffect,markEffect,heldEffect;hasKey. -/
namespace Go.Proofs.YtoiblfjafjoaeabGreat
open Go.RowKit
set_option linter.unusedVariables false
theorem eqEffect_same (a:Option Addr) (n c:Nat) (b:Option Addr) (m c2:Nat) (a':Option Addr) (c':Nat) (b':Option Addr) (c2':Nat) (x:Eff) (w:World) (h:RowF w a n b m x) (h':RowF w a' n b' m x) :
  Calls Tryz.prog 79 #[.agg #[.bool x.done,.slice a n c,.slice b m c2],.agg #[.bool x.done,.slice a' n c',.slice b' m c2']] w fun e w'=>e = .returned (.bool true)∧Below w.heap.size w w':=by
 obtain ⟨dn,R,W⟩:=x
 have hb0:=((Below.refl w.heap.size w).alloc (Nat.le_refl _) (.cells #[.bool dn,.slice a n c,.slice b m c2] 68)).alloc (by simp) (.cells #[.bool dn,.slice a' n c',.slice b' m c2'] 68)
 have H:=Lib.hid (h.below hb0)
 have H':=Lib.hid (h'.below hb0)
 have HB:=Lib.hid hb0
 have hdd:(dn != dn)=false:=by simp
 clear h h' hb0
 go_enter Tryz.func79,Tryz.ntmps79
 go_wp2_with fail
 refine (eqEntryS_same a a' n c c' R _ H.out.1 H'.out.1).mono ?_;rintro e w1 ⟨rfl,hb1⟩
 have H1:=Lib.hid (H.out.below hb1)
 have H1':=Lib.hid (H'.out.below hb1)
 have c1:w1.cell? ⟨w.heap.size,2,none⟩=some (.slice b m c2):=(hb1.cell (p:=⟨w.heap.size,2,none⟩) (by simp;omega)).trans (by simp [go_sem])
 have c3:w1.cell? ⟨w.heap.size+1,2,none⟩=some (.slice b' m c2'):=(hb1.cell (p:=⟨w.heap.size+1,2,none⟩) (by simp)).trans (by simp [go_sem])
 have HB1:=Lib.hid (HB.out.trans (hb1.mono HB.out.size))
 clear hb1
 go_wp2_with fail
 refine (eqEntryS_same b b' m c2 c2' W _ H1.out.2 H1'.out.2).mono ?_;rintro e w2 ⟨rfl,hb2⟩
 go_wp2
 go_ret
 exact ⟨rfl,HB1.out.trans (hb2.mono HB1.out.size)⟩
theorem szEffect_any (b:Bool) (a:Option Addr) (n c:Nat) (a2:Option Addr) (n2 c2:Nat) (left:Int) (w:World) (h0:0≤left) (h1:left≤1048576) (hn:n≤maxLen) (hn2:n2≤maxLen) :
  Calls Tryz.prog 114 #[.agg #[.bool b,.slice a n c,.slice a2 n2 c2],.int .i64 left] w fun e w'=>e = .returned (.int .i64 (if ((n:Int)+n2)≤left then left - n - n2 else -1))∧Below w.heap.size w w':=by
 have hb0:=(Below.refl w.heap.size w).alloc (Nat.le_refl _) (.cells #[.bool b,.slice a n c,.slice a2 n2 c2] 113)
 have HB:=Lib.hid hb0
 have HN2:=Lib.hid hn2
 clear hb0 hn2
 go_enter Tryz.func114,Tryz.ntmps114
 go_wp2_with fail
 refine (szEntryS_any a n c left _ h0 h1 hn).mono ?_;rintro e w' ⟨rfl,rfl⟩
 by_cases h:(n:Int)≤left
 · rw [if_pos h]
   have hlt:decide (left - (n:Int) < 0)=false:=by simp;omega
   clear hn
   go_wp2_with fail
   refine (szEntryS_any a2 n2 c2 (left - n) _ (by omega) (by omega) HN2.out).mono ?_;rintro e w' ⟨rfl,rfl⟩
   by_cases h2:(n2:Int)≤left - n
   · rw [if_pos h2]
     have hlt2:decide (left - (n:Int) - (n2:Int) < 0)=false:=by simp;omega
     go_wp2
     go_ret
     exact ⟨rfl,HB.out⟩
   · rw [if_neg h2]
     go_wp2
     go_ret
     exact ⟨rfl,HB.out⟩
 · rw [if_neg h]
   clear hn
   go_wp2
   go_ret
   exact ⟨rfl,HB.out⟩
def Two (v u:Value) (w w':World):Prop:=w.heap.size≤w'.heap.size∧∀ p,p < w.heap.size→v.ownBlock≠some p→u.ownBlock≠some p→w'.heap[p]? = w.heap[p]?
theorem Two.row {v u:Value} {w w':World} {a:Option Addr} {n:Nat} {l:List Ent} (h:Two v u w w') (hr:RowE w a n l) (hv:∀ b o,a=some ⟨b,o,none⟩→v.ownBlock≠some b) (hu:∀ b o,a=some ⟨b,o,none⟩→u.ownBlock≠some b):RowE w' a n l:=by
 obtain ⟨h1,h2,h3,h4⟩:=hr
 refine ⟨h1,h2,fun hl=>?_,h4⟩
 obtain ⟨b,off,he,hc⟩:=h3 hl
 have hlt:b < w.heap.size:=World.block_lt_of_cell? w ⟨b,off+0*2,none⟩ (hc 0 hl).1
 have hb:=h.2 b hlt (hv b off he) (hu b off he)
 exact ⟨b,off,he,fun i hi=>⟨(World.cell?_of_block hb).trans (hc i hi).1,(World.cell?_of_block hb).trans (hc i hi).2⟩⟩
end Go.Proofs.YtoiblfjafjoaeabGreat
/- The contract of the laws' helper toEffect: a copy of an effect. -/
namespace Go.Proofs.YtoiblfjafjoaeabGreat
open Go.RowKit
set_option linter.unusedVariables false
set_option maxHeartbeats 1000000 in
theorem toEffect_any (dn:Bool) (a:Option Addr) (n c:Nat) (b:Option Addr) (m c2:Nat) (R W:List Ent) (w:World) (h:RowF w a n b m ⟨dn,R,W⟩) (hn:n≤1048576) (hm:m≤1048576) :
  Calls Tryz.prog 117 #[.agg #[.bool dn,.slice a n c,.slice b m c2]] w (NewF w 109 ⟨dn,R,W⟩):=by
 have hA0:=eAt_new w 113 dn (.slice a n c) (.slice b m c2)
 have hA1:=(hA0.grown (World.grownBy_alloc _ (.cells #[.bool false,.slice none 0 0,.slice none 0 0] 68) none) (by simp)).grown (World.grownBy_alloc _ (.cells #[.bool dn,.slice none 0 0,.slice none 0 0] 68) none) (by simp)
 have hZ1:=(zAt_new (w.alloc (.cells #[.bool dn,.slice a n c,.slice b m c2] 113)) 68).grown (World.grownBy_alloc _ (.cells #[.bool dn,.slice none 0 0,.slice none 0 0] 68) none) (by simp)
 have hE1:=eAt_new ((w.alloc (.cells #[.bool dn,.slice a n c,.slice b m c2] 113)).alloc (.cells #[.bool false,.slice none 0 0,.slice none 0 0] 68)) 68 dn (.slice none 0 0) (.slice none 0 0)
 have hb1:=(((Below.refl w.heap.size w).alloc (Nat.le_refl _) (.cells #[.bool dn,.slice a n c,.slice b m c2] 113)).alloc (by simp) (.cells #[.bool false,.slice none 0 0,.slice none 0 0] 68)).alloc (by simp;omega) (.cells #[.bool dn,.slice none 0 0,.slice none 0 0] 68)
 rw [World.size_alloc] at hZ1
 rw [World.size_alloc,World.size_alloc] at hE1
 go_enter Tryz.func117,Tryz.ntmps117
 go_wp2_with fail
 obtain ⟨w1,hw1⟩:∃ w1,w1=((w.alloc (.cells #[.bool dn,.slice a n c,.slice b m c2] 113)).alloc (.cells #[.bool false,.slice none 0 0,.slice none 0 0] 68)).alloc (.cells #[.bool dn,.slice none 0 0,.slice none 0 0] 68):=⟨_,rfl⟩
 rw [← hw1] at hA1 hZ1 hE1 hb1 ⊢
 clear hw1 hA0
 refine (toEntryS_any a n c R _ (h.1.below hb1) hn).mono ?_;rintro e w2 ⟨v2,rfl,ho2,hwf2,hb2⟩
 obtain ⟨g2,cp2,rfl,hg2,hl2⟩:=ho2.slice
 have hEl:=hE1.2.2
 have hb3:=(hb1.trans (hb2.mono hb1.size)).setCell (p:=⟨w.heap.size+1+1,1,none⟩) (by simp;omega) (.slice (some ⟨g2,0,none⟩) R.length cp2)
 have hE2:=hE1.below hb2
 have hs2:=set_grown w2 (w.heap.size+1+1) 1 (.slice (some ⟨g2,0,none⟩) R.length cp2)
 have hA3:=(hA1.below hb2).grown hs2 (by simp;omega)
 have hZ3:=(hZ1.below hb2 (by omega)).grown hs2 (by simp)
 have hE3:=hE2.set1 (.slice (some ⟨g2,0,none⟩) R.length cp2)
 have o3:=owns_set ho2.1 (show Value.ownBlock (.slice (some ⟨g2,0,none⟩) R.length cp2)≠some (w.heap.size+1+1) from fun e=>by have:=(ho2.1.lt _ e).1;omega) 1 (.slice (some ⟨g2,0,none⟩) R.length cp2)
 have H3:=Lib.hid (h.2.below hb3)
 have HB3:=Lib.hid hb3
 have HA3:=Lib.hid hA3
 have HZ3:=Lib.hid hZ3
 have HE3:=Lib.hid hE3
 have HO3:=Lib.hid o3
 obtain ⟨⟨c0,c1,c3⟩,⟨k0,k1,k2⟩,-⟩:=hE2
 obtain ⟨⟨a0,a1,a2⟩,-⟩:=hA1.below hb2
 clear hA1 hZ1 hE1 hb1 hb2 hb3 hs2 hA3 hZ3 hE3 o3 ho2 h
 go_wp2_with fail
 obtain ⟨w3,hw3⟩:∃ w3,w3=w2.setCell ⟨w.heap.size+1+1,1,none⟩ (.slice (some ⟨g2,0,none⟩) R.length cp2):=⟨_,rfl⟩
 have hs3:w2.heap.size≤w3.heap.size:=by rw [hw3];simp [World.setCell]
 rw [← hw3] at H3 HB3 HA3 HZ3 HE3 HO3 ⊢
 clear hw3 a0 a1 a2 c0 c1 c3 k0 k1 k2
 refine (toEntryS_any b m c2 W _ H3.out hm).mono ?_;rintro e w4 ⟨v4,rfl,ho4,hwf4,hb4⟩
 obtain ⟨g4,cp4,rfl,hg4,hl4⟩:=ho4.slice
 have hE4:=HE3.out.below hb4
 have hZ4:=HZ3.out.below hb4 (by omega)
 have hO4:=owns_below HO3.out hb4
 have hB4:=HB3.out.trans (hb4.mono HB3.out.size)
 have hZE:EAt w4 (w.heap.size+1) false (.slice none 0 0) (.slice none 0 0):=hZ4
 have hs5:=set_grown w4 (w.heap.size+1+1) 2 (.slice (some ⟨g4,0,none⟩) W.length cp4)
 have HE:=Lib.hid ((((hZE.grown hs5 (by simp)).set0 dn).set1 (.slice (some ⟨g2,0,none⟩) R.length cp2)).set2 (.slice (some ⟨g4,0,none⟩) W.length cp4))
 have q2:=owns_set hO4 (show Value.ownBlock (.slice (some ⟨g2,0,none⟩) R.length cp2)≠some (w.heap.size+1+1) from fun e=>by simp [Value.ownBlock] at e;omega) 2 (.slice (some ⟨g4,0,none⟩) W.length cp4)
 have q4:=owns_set ho4.1 (show Value.ownBlock (.slice (some ⟨g4,0,none⟩) W.length cp4)≠some (w.heap.size+1+1) from fun e=>by simp [Value.ownBlock] at e;omega) 2 (.slice (some ⟨g4,0,none⟩) W.length cp4)
 have hF:=ownF_mk (x:=⟨dn,R,W⟩) (owns_mono q2 (show w.heap.size+1+2≤w1.heap.size by omega)) (owns_mono q4 (show w.heap.size+1+2≤w3.heap.size by omega)) hwf2 hwf4 (fun p hp hq=>by simp [Value.ownBlock] at hp hq;omega)
 have HF:=Lib.hid ((ownF_set3 hF (hF.apart (Z:=w.heap.size+1) (by omega)) 0 1 2 (.bool dn) (.slice (some ⟨g2,0,none⟩) R.length cp2) (.slice (some ⟨g4,0,none⟩) W.length cp4)).mono (show w.heap.size≤_ by omega))
 have HB:=Lib.hid (below_set3 (hB4.setCell (p:=⟨w.heap.size+1+1,2,none⟩) (by simp;omega) (.slice (some ⟨g4,0,none⟩) W.length cp4)) (show w.heap.size≤w.heap.size+1 by omega) 0 1 2 (.bool dn) (.slice (some ⟨g2,0,none⟩) R.length cp2) (.slice (some ⟨g4,0,none⟩) W.length cp4))
 obtain ⟨⟨c0,c1,c3⟩,⟨k0,k1,k2⟩,-⟩:=hE4
 obtain ⟨⟨z0,z1,z2⟩,⟨z3,z4,z5⟩,-⟩:=hZ4
 obtain ⟨⟨a0,a1,a2⟩,-⟩:=HA3.out.below hb4
 clear HE3 HZ3 HO3 HB3 HA3 H3 hb4 ho4 hs5 q2 q4 hF hZE hO4 hB4
 go_wp2_with fail
 exact bodyPost_ret (results_eff Tryz.results117 _ (by rfl) HE.out) rfl ⟨_,rfl,HF.out,HB.out⟩
end Go.Proofs.YtoiblfjafjoaeabGreat
/- The contracts of the laws' own helpers over lists of effects: weights,copies,comparisons. -/
namespace Go.Proofs.YtoiblfjafjoaeabGreat
open Go.RowKit
set_option linter.unusedVariables false
theorem toEffect_w (x:Eff) (a:Option Addr) (n c:Nat) (b:Option Addr) (m c2:Nat) (w:World) (h:RowF w a n b m x) (hn:n≤1048576) (hm:m≤1048576) :
  Calls Tryz.prog 117 #[.agg #[.bool x.done,.slice a n c,.slice b m c2]] w (NewF w 109 x):=toEffect_any x.done a n c b m c2 x.rds x.wrs w h hn hm
end Go.Proofs.YtoiblfjafjoaeabGreat
/- The contracts of the laws' own helpers over lists of effects: marks. -/
namespace Go.Proofs.YtoiblfjafjoaeabGreat
open Go.RowKit
set_option linter.unusedVariables false
def mk3 (k:Int):Bool:=(k % 3 == 0)
theorem tmod3 {k:Int} (h:0≤k):k.tmod 3=k % 3:=Int.tmod_eq_emod_of_nonneg h
end Go.Proofs.YtoiblfjafjoaeabGreat
/- The contract of markEffectS,block by block: only the blocks of the effects turn. -/
namespace Go.Proofs.YtoiblfjafjoaeabGreat
open Go.RowKit
set_option linter.unusedVariables false
structure TurnQ (Q:Nat→Prop) (w w':World):Prop where
 os:w'.os=w.os
 tape:w'.tape=w.tape
 output:w'.output=w.output
 size:w.heap.size≤w'.heap.size
 block:∀ k,k < w.heap.size→¬ Q k→w'.heap[k]? = w.heap[k]?
theorem TurnQ.refl (Q:Nat→Prop) (w:World):TurnQ Q w w:=⟨rfl,rfl,rfl,Nat.le_refl _,fun _ _ _=>rfl⟩
theorem TurnQ.trans {Q:Nat→Prop} {a b c:World} (h:TurnQ Q a b) (k:TurnQ Q b c):TurnQ Q a c :=
 ⟨k.os.trans h.os,k.tape.trans h.tape,k.output.trans h.output,Nat.le_trans h.size k.size,fun i hi hr=>(k.block i (Nat.lt_of_lt_of_le hi h.size) hr).trans (h.block i hi hr)⟩
theorem TurnQ.ofGrown {Q:Nat→Prop} {w w':World} {row:Option Nat} (hg:w.grownBy w' row) (h:∀ k,row=some k→Q k):TurnQ Q w w' :=
 ⟨hg.os,hg.tape,hg.output,hg.size,fun k hk hr=>hg.block k hk (fun e=>hr (h k e.symm))⟩
theorem TurnQ.setCell {Q:Nat→Prop} {a w:World} (h:TurnQ Q a w) {g:Nat} (hg:Q g) (o:Nat) (v:Value):TurnQ Q a (w.setCell ⟨g,o,none⟩ v) :=
 h.trans (TurnQ.ofGrown (set_grown w g o v) (fun k hk=>by cases hk;exact hg))
def OwnFQ (w:World) (B T:Nat) (Q:Nat→Prop) (eX eE:TypeId) (v:Value) (L:List Eff):Prop :=
 L.length≤4000000∧∃ xs,Own2 w B T eX 3 v L.length (L.flatMap (effC eE)) xs∧∀ x∈v :: xs,∀ p,blk x=some p→Q p
theorem OwnFQ.fs {w:World} {B T:Nat} {Q:Nat→Prop} {eX eE:TypeId} {v:Value} {L:List Eff} (h:OwnFQ w B T Q eX eE v L):OwnFs w B T eX eE v L:=by
 obtain ⟨h0,xs,h1,-⟩:=h;exact ⟨h0,xs,h1⟩
theorem OwnFQ.top {w:World} {B T g n cap:Nat} {Q:Nat→Prop} {eX eE:TypeId} {L:List Eff} (h:OwnFQ w B T Q eX eE (.slice (some ⟨g,0,none⟩) n cap) L):Q g:=by
 obtain ⟨-,xs,-,h2⟩:=h;exact h2 _ List.mem_cons_self g rfl
theorem OwnFQ.keep {w w':World} {B T:Nat} {Q:Nat→Prop} {eX eE:TypeId} {v:Value} {L:List Eff} (h:OwnFQ w B T Q eX eE v L) (hk:∀ p,p < w.heap.size→Q p→w'.heap[p]? = w.heap[p]?):OwnFQ w' B T Q eX eE v L:=by
 obtain ⟨h0,xs,h1,h2⟩:=h
 have hlt:=h1.blk_lt
 obtain ⟨g1,g2,g3,g4,g5⟩:=h1
 refine ⟨h0,xs,⟨owns_keep g1 (fun b hb=>hk b (hlt v List.mem_cons_self b hb).2.2 (h2 v List.mem_cons_self b hb)),g2,g3,fun i c x hc hx=>?_,g5⟩,h2⟩
 have hm:=List.mem_cons_of_mem v (List.mem_of_getElem? hx)
 exact ⟨c.keep (g4 i c x hc hx).1 (fun b hb=>hk b (hlt x hm b hb).2.2 (h2 x hm b hb)),(g4 i c x hc hx).2⟩
end Go.Proofs.YtoiblfjafjoaeabGreat
