/- What stage 10's promises ask of engines: plain mathematics. No function of the program is named here. -/
import Derived.Test.YtaaffpolmecicabGreatEngM
namespace Go.Proofs.YtaaffpolmecicabGreat
theorem engB_more {e:Eng} (h:engB e=true) (v:Ver):engB ⟨e.base,e.list,e.vers++[v],e.slots⟩=false:=by
 cases hh:engB ⟨e.base,e.list,e.vers++[v],e.slots⟩ with
 | false=>rfl
 | true =>
  have h1:=((engB_iff _).1 h).vers
  have h2:=((engB_iff _).1 hh).vers
  have h3:e.vers++[v]=e.vers:=h2.trans h1.symm
  have:=congrArg List.length h3
  simp at this
end Go.Proofs.YtaaffpolmecicabGreat
