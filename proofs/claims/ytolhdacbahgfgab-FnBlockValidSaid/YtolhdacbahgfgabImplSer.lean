/- The contracts of the program's serial runs: slices.Clone at entries,RunSerial. -/
import Derived.Test.YtolhdacbahgfgabSpecXb
import Derived.Test.YtolhdacbahgfgabSix

import Derived.Test.YtolhdacbahgfgabFive
import Derived.Lib.BufferMore
namespace Go.Proofs.Ytolhdacbahgfgab
open Go.RowKit
set_option linter.unusedVariables false
def FillSF (w:World) (B g m:Nat) (eX eE:TypeId) (v:Value) (T:List Ent) (E:List Eff) (k:Nat):Prop :=
 w.ownsRow B eE 2 v T.length (flatE T)∧WfE T∧∃ xs,Own2 w B w.heap.size eX 3 (.slice (some ⟨g,0,none⟩) m m) m ((fillO E k).flatMap (oeC eE)) xs∧∀ x∈(.slice (some ⟨g,0,none⟩) m m :: xs),∀ p,v.ownBlock=some p→blk x≠some p
theorem FillSF.round {w w':World} {B g m k:Nat} {eX eE:TypeId} {v:Value} {T:List Ent} {E:List Eff} (h:FillF w B g m eX eE E k) (ho:w'.ownsRow w.heap.size eE 2 v T.length (flatE T)) (hw:WfE T) (hb:Below w.heap.size w w') (hB:B≤w.heap.size):FillSF w' B g m eX eE v T E k:=by
 obtain ⟨xs,h1⟩:=h
 refine ⟨owns_mono ho hB,hw,xs,(h1.below hb).mono (Nat.le_refl _) hb.size,fun x hx p hp hq=>?_⟩
 have h2:=(h1.blk_lt x hx p hq).2.1
 have h3:=(ho.lt p hp).1
 omega
theorem FillSF.all {w:World} {B g m:Nat} {eX eE:TypeId} {v:Value} {T:List Ent} {E:List Eff} (h:FillSF w B g m eX eE v T E m) (hm:E.length=m) (hl:m≤4000000):OwnSF w B w.heap.size eX eE v (.slice (some ⟨g,0,none⟩) m m) T E:=by
 subst hm
 obtain ⟨h1,h2,xs,h3,h4⟩:=h
 rw [fillO_all,oeC_all] at h3
 exact ⟨h1,h2,fun p hp=>(h1.lt p hp).2,hl,xs,h3,h4⟩
theorem FillSF.row {w:World} {B g m k:Nat} {eX eE:TypeId} {v:Value} {T:List Ent} {E:List Eff} (h:FillSF w B g m eX eE v T E k) (hl:T.length≤4000000):∃ a c,v = .slice a T.length c∧RowE w a T.length T∧(∀ b o,a=some ⟨b,o,none⟩→b≠g):=by
 obtain ⟨h1,h2,xs,h3,h4⟩:=h
 obtain ⟨a,c,e,r,z⟩:=rowE_of_owns h1 hl h2
 subst e
 refine ⟨a,c,rfl,r,fun b o he hg=>?_⟩
 subst he
 exact h4 _ List.mem_cons_self b rfl (by rw [← hg];rfl)
end Go.Proofs.Ytolhdacbahgfgab
