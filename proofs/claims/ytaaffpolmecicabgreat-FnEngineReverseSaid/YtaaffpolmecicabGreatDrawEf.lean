/- Texts of ours that stand together: DrawEff, DrawEffs -/
import Derived.Test.YtaaffpolmecicabGreatDrawAc
import Derived.Test.YtaaffpolmecicabGreatEffA
import Derived.Test.YtaaffpolmecicabGreatSpecX
import Derived.Deep.RegionLaw
/- The contracts of the draws of effects. -/
namespace Go.Proofs.YtaaffpolmecicabGreat
open Go.RowKit
set_option linter.unusedVariables false
end Go.Proofs.YtaaffpolmecicabGreat
/- The contracts of the draws of effects: l20Effect,DrawApplyEffect,DrawEffectSum. -/
namespace Go.Proofs.YtaaffpolmecicabGreat
open Go.RowKit
set_option linter.unusedVariables false
def DrawF (w:World) (e0:TypeId) (R c:Nat) (e:Ending) (w':World):Prop :=
 ∃ (dn:Bool) (va vb:Value) (X Y:List Ent),e = .returned (.agg #[.bool dn,va,vb])∧w'.ownsRow w.heap.size e0 2 va X.length (flatE X)∧w'.ownsRow w.heap.size e0 2 vb Y.length (flatE Y)∧WfE X∧WfE Y ∧
  X.length≤40∧Y.length≤40∧Rd w' R c∧Upd R w w'∧∀ p,va.ownBlock=some p→vb.ownBlock≠some p
structure EfAt (w0 w:World) (e0:TypeId) (R P Z E:Nat) (dn:Bool) (va vb:Value) (X Y:List Ent):Prop where
 z:ZAt w Z
 ef:EAt w E dn va vb
 rd:Rd w R P
 up:Upd R w0 w
 o1:w.ownsRow w0.heap.size e0 2 va X.length (flatE X)
 o2:w.ownsRow w0.heap.size e0 2 vb Y.length (flatE Y)
 ap:∀ p,va.ownBlock=some p→vb.ownBlock≠some p
 n1:va.ownBlock≠some Z∧va.ownBlock≠some E
 n2:vb.ownBlock≠some Z∧vb.ownBlock≠some E
 wf:WfE X∧WfE Y
 ln:X.length≤40∧Y.length≤40
 od:R < w0.heap.size∧w0.heap.size≤Z∧Z≠E∧w0.heap.size≤E
theorem EfAt.turn {w0 w w':World} {e0:TypeId} {R P P' Z E:Nat} {dn:Bool} {va vb:Value} {X Y:List Ent} (h:EfAt w0 w e0 R P Z E dn va vb X Y) (hr:Rd w' R P') (hu:Upd R w w'):EfAt w0 w' e0 R P' Z E dn va vb X Y :=
 ⟨h.z.grown hu (by have:=h.od;simp;omega),h.ef.grown hu (by have:=h.od;simp;omega),hr,h.up.trans hu,owns_grown h.o1 hu (fun k hk=>by simp at hk;have:=h.od;omega),owns_grown h.o2 hu (fun k hk=>by simp at hk;have:=h.od;omega),h.ap,h.n1,h.n2,h.wf,h.ln,h.od⟩
theorem EfAt.drew {w0 w:World} {e0:TypeId} {R P Z E:Nat} {dn:Bool} {va vb:Value} {X Y:List Ent} (h:EfAt w0 w e0 R P Z E dn va vb X Y):EfAt w0 w.drew e0 R P Z E dn va vb X Y:=h.turn h.rd.drew (Upd.refl R w).drew
theorem EfAt.alloc {w0 w:World} {e0:TypeId} {R P Z E:Nat} {dn:Bool} {va vb:Value} {X Y:List Ent} (h:EfAt w0 w e0 R P Z E dn va vb X Y) (o:Obj):EfAt w0 (w.alloc o) e0 R P Z E dn va vb X Y:=h.turn (h.rd.alloc o) ((Upd.refl R w).alloc o)
theorem upd_in {R:Nat} {w0 w w':World} {row:Option Nat} (h:Upd R w0 w) (hg:w.grownBy w' row) (hr:∀ k,row=some k→w0.heap.size≤k):Upd R w0 w' :=
 ⟨hg.os.trans h.os,hg.tape.trans h.tape,hg.output.trans h.output,Nat.le_trans h.size hg.size,fun k hk hne=>(hg.block k (Nat.lt_of_lt_of_le hk h.size) (fun e=>by have:=hr k e.symm;omega)).trans (h.block k hk hne)⟩
theorem EfAt.fin {w0 w:World} {e0:TypeId} {R P Z E:Nat} {dn:Bool} {va vb:Value} {X Y:List Ent} (h:EfAt w0 w e0 R P Z E dn va vb X Y) (c:Nat) (hc:P≤c) (w':World) (hw:w'=((w.setCell ⟨Z,0,none⟩ (.bool dn)).setCell ⟨Z,1,none⟩ va).setCell ⟨Z,2,none⟩ vb) :
  EAt w' Z dn va vb∧DrawF w0 e0 R c (.returned (.agg #[.bool dn,va,vb])) w':=by
 subst hw
 have hg:=(grownBy_tr (grownBy_tr (set_grown w Z 0 (.bool dn)) (set_grown _ Z 1 va)) (set_grown _ Z 2 vb))
 have hod:=h.od
 have hz:EAt w Z false (.slice none 0 0) (.slice none 0 0):=h.z
 exact ⟨((hz.set0 dn).set1 va).set2 vb,dn,va,vb,X,Y,rfl,owns_set (owns_set (owns_set h.o1 h.n1.1 0 (.bool dn)) h.n1.1 1 va) h.n1.1 2 vb,owns_set (owns_set (owns_set h.o2 h.n2.1 0 (.bool dn)) h.n2.1 1 va) h.n2.1 2 vb,h.wf.1,h.wf.2,h.ln.1,h.ln.2,
  (h.rd.grown hg (fun k hk=>by simp at hk;omega)).mono hc,upd_in h.up hg (fun k hk=>by simp at hk;omega),h.ap⟩
end Go.Proofs.YtaaffpolmecicabGreat
