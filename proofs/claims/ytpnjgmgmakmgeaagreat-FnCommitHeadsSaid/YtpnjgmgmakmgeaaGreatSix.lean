/- Texts of ours that stand together: ViewMem, ViewOps, Runs, ImplRun, ImplApp -/
import Derived.Test.YtpnjgmgmakmgeaaGreatEffA
import Derived.Test.YtpnjgmgmakmgeaaGreatLayP
import Derived.Test.YtpnjgmgmakmgeaaGreatFour
import Derived.Deep.RegionLaw
import Derived.Test.YtpnjgmgmakmgeaaGreatFive
import Derived.BigQuiet
import Derived.Deep.RegionHeld3
/- The view that records,in memory. -/
namespace Go.Proofs.YtpnjgmgmakmgeaaGreat
open Go.RowKit Go.Maps
set_option linter.unusedVariables false
structure View (w:World) (B G D:Nat) (A:List Int) (R:List Ent) (K:Nat) (f:Int→Option Int):Prop where
 out:∃ v m,VCells w G A v m∧w.ownsRow B 142 2 v R.length (flatE R)∧MapF w m K f∧WfE R∧B≤G∧B≤m∧m≠G∧v.ownBlock≠some G∧v.ownBlock≠some m∧(D < w.heap.size∧D≠G∧D≠m∧v.ownBlock≠some D)
theorem View.drewN {w:World} {B G D K:Nat} {A:List Int} {R:List Ent} {f:Int→Option Int} (h:View w B G D A R K f) (n:Nat):View (w.drewN n) B G D A R K f:=⟨h.out⟩
theorem View.drew {w:World} {B G D K:Nat} {A:List Int} {R:List Ent} {f:Int→Option Int} (h:View w B G D A R K f):View w.drew B G D A R K f:=⟨h.out⟩
theorem View.below {w w':World} {B G D K:Nat} {A:List Int} {R:List Ent} {f:Int→Option Int} (h:View w B G D A R K f) (hb:Below w.heap.size w w'):View w' B G D A R K f:=by
 obtain ⟨v,m,h1,h2,h3,h4,h5,h6,h7,h8,h9,h10,h11⟩:=h
 exact ⟨v,m,h1.grown (Below.grownBy hb none) (by simp),owns_below h2 hb,h3.below hb,h4,h5,h6,h7,h8,h9,Nat.lt_of_lt_of_le h10 hb.size,h11⟩
theorem View.lt {w:World} {B G D K:Nat} {A:List Int} {R:List Ent} {f:Int→Option Int} (h:View w B G D A R K f):G < w.heap.size∧B≤G:=by
 obtain ⟨v,m,h1,h2,h3,h4,h5,h6⟩:=h;exact ⟨h1.lt,h5⟩
def NotTo (l:List Ent) (x:Ent) (k:Nat):Prop:=∀ j,j < k→l.getD j (0,0)≠x
theorem NotTo.next {l:List Ent} {x:Ent} {k:Nat} (h:NotTo l x k) (hk:l.getD k (0,0)≠x):NotTo l x (k+1):=by
 intro j hj
 by_cases e:j=k
 · rw [e];exact hk
 · exact h j (by omega)
theorem NotTo.all {l:List Ent} {x:Ent} (h:NotTo l x l.length):x ∉ l:=by
 intro hx
 obtain ⟨j,hj,he⟩:=List.getElem_of_mem hx
 exact h j hj (by rw [List.getD_eq_getElem?_getD,List.getElem?_eq_getElem hj];exact he)
theorem below_cell {B G o:Nat} {w w':World} {v:Value} (hb:Below B w w') (hG:G < B) (hc:w.cell? ⟨G,o,none⟩=some v):w'.cell? ⟨G,o,none⟩=some v:=(hb.cell (p:=⟨G,o,none⟩) hG).trans hc
open Go.RowKit
end Go.Proofs.YtpnjgmgmakmgeaaGreat
