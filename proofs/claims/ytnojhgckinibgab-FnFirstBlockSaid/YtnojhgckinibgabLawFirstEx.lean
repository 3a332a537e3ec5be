/- The walk of the exact law of FirstBlock (gen15/lawfirst.py). -/
import Derived.Test.YtnojhgckinibgabBkI
import Derived.Test.YtnojhgckinibgabSpB
import Derived.Test.YtnojhgckinibgabCvB
namespace Go.Proofs.Ytnojhgckinibgab
open Go.RowKit
set_option linter.unusedVariables false
set_option linter.unusedSimpArgs false
theorem NewBk.none {w w':World} {eA:TypeId} {b:Blk} {e:Ending} (h:NewBk w eA b e w') (hb:b.acts=[]) :
  ∃ a c,e = .returned (.agg #[.int .i64 b.bef,.int .i64 b.hgt,.int .i64 b.view,.slice a 0 c,.int .i64 b.root,.int .i64 b.effs])∧w'.ownsRow w.heap.size eA 4 (.slice a 0 c) 0 (flatA [])∧Below w.heap.size w w':=by
 obtain ⟨v,rfl,ho,-,-,hb'⟩:=h
 rw [hb] at ho
 obtain ⟨a,n,c,rfl⟩:=slice_form ho
 have:n=0:=by
  rcases ho.2 with ⟨h1,_⟩ | ⟨g,cap,cur,h1,_⟩
  · simp only [Value.slice.injEq] at h1;exact h1.2.1
  · simp only [Value.slice.injEq] at h1;exact h1.2.1
 subst this
 exact ⟨a,c,rfl,ho,hb'⟩
theorem rowA_none (w:World) (a:Option Addr):RowA w a 0 []:=⟨rfl,by unfold maxLen;omega,fun h=>absurd h (by omega),fun x hx=>by cases hx⟩
end Go.Proofs.Ytnojhgckinibgab
