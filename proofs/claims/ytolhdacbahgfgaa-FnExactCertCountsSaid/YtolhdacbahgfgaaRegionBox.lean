/- A region that makes a box of three cells and stores into it. No function of the program is named here. -/
import Derived.Test.YtolhdacbahgfgaaRegJ
import Derived.Test.YtolhdacbahgfgaaRegO
import Derived.Test.YtolhdacbahgfgaaTrM
namespace Go.Proofs.Ytolhdacbahgfgaa
open Go.RowKit
set_option linter.unusedVariables false
structure BxJ (w0:World) (a s d:Nat) (v1 v2 v3:Value) (l:Nat→Bool) (f:Nat→Value) (w:World):Prop where
 bel:Below w0.heap.size w0 w
 dep:l s=true→l a=true
 box:l a=true→∃ b u1 u2 u3,f d = .pointer (some ⟨b,0,none⟩)∧w0.heap.size≤b∧TrAt w b u1 u2 u3∧(l s=true→u1=v1∧u2=v2∧u3=v3)
theorem BxJ.nothing (w0:World) (a s d:Nat) (v1 v2 v3:Value) (f:Nat→Value):BxJ w0 a s d v1 v2 v3 (fun _=>false) f w0.drew :=
 ⟨(Below.refl _ _).drew,fun h=>(by cases h),fun h=>(by cases h)⟩
theorem BxJ.still {w0 w w':World} {a s d:Nat} {v1 v2 v3:Value} {l:Nat→Bool} {f:Nat→Value} (h:BxJ w0 a s d v1 v2 v3 l f w) (i e:Nat) (v:Value) (hb:Below w.heap.size w w') (ha:(a == i)=false) (hs:(s == i)=false) (he:(e == d)=false) :
  BxJ w0 a s d v1 v2 v3 (fun j=>j == i || l j) (fun x=>if some e=some x then v else f x) w':=by
 refine ⟨h.bel.trans (hb.mono h.bel.size),fun hh=>?_,fun hh=>?_⟩
 · simp only [hs,ha,Bool.false_or] at hh ⊢;exact h.dep hh
 · simp only [ha,Bool.false_or] at hh
   obtain ⟨b,u1,u2,u3,e1,e2,e3,e4⟩:=h.box hh
   have hd:¬ (some e=some d):=by simp;intro x;subst x;simp at he
   refine ⟨b,u1,u2,u3,by simp only [if_neg hd];exact e1,e2,e3.below hb,fun hh2=>?_⟩
   simp only [hs,Bool.false_or] at hh2
   exact e4 hh2
theorem BxJ.make {w0 w:World} {a s d:Nat} {v1 v2 v3:Value} {l:Nat→Bool} {f:Nat→Value} (h:BxJ w0 a s d v1 v2 v3 l f w) (hla:l a=false) (u1 u2 u3:Value) (T:TypeId) (has:(s == a)=false) :
  BxJ w0 a s d v1 v2 v3 (fun j=>j == a || l j) (fun x=>if some d=some x then .pointer (some ⟨w.heap.size,0,none⟩) else f x) (w.alloc (.cells #[u1,u2,u3] T)):=by
 have hls:l s=false:=by cases e:l s with | false=>rfl | true=>rw [h.dep e] at hla;cases hla
 refine ⟨h.bel.alloc h.bel.size _,fun hh=>by simp,fun _=>⟨w.heap.size,u1,u2,u3,by simp,h.bel.size,trAt_new w T u1 u2 u3,fun hh=>?_⟩⟩
 simp only [has,Bool.false_or,hls] at hh;cases hh
theorem BxJ.store {w0 w:World} {a s d b:Nat} {v1 v2 v3 u1 u2 u3:Value} {l:Nat→Bool} {f:Nat→Value} (h:BxJ w0 a s d v1 v2 v3 l f w) (hla:l a=true) (he:f d = .pointer (some ⟨b,0,none⟩)) (hb:w0.heap.size≤b) (ht:TrAt w b u1 u2 u3) (hw:Below w0.heap.size w0 (set3b w b v1 v2 v3)) (v:Value) :
  BxJ w0 a s d v1 v2 v3 (fun j=>j == s || l j) (fun x=>if none=some x then v else f x) (set3b w b v1 v2 v3) :=
 ⟨hw,fun _=>by simp [hla],fun _=>⟨b,v1,v2,v3,by simpa using he,hb,ht.set3b v1 v2 v3,fun _=>⟨rfl,rfl,rfl⟩⟩⟩
theorem set3b_below {w0 w:World} {b:Nat} (h:Below w0.heap.size w0 w) (hb:w0.heap.size≤b) (v1 v2 v3:Value):Below w0.heap.size w0 (set3b w b v1 v2 v3) :=
 ((h.setCell (p:=⟨b,0,none⟩) hb v1).setCell (p:=⟨b,1,none⟩) hb v2).setCell (p:=⟨b,2,none⟩) hb v3
end Go.Proofs.Ytolhdacbahgfgaa
