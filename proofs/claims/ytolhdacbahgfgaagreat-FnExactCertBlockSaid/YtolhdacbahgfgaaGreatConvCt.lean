/- The laws' helpers over a certificate. -/
import Derived.Test.YtolhdacbahgfgaaGreatCertMath
namespace Go.Proofs.YtolhdacbahgfgaaGreat
open Go.RowKit
set_option linter.unusedVariables false
theorem toCert_any (s v g:Int) (w:World) :
  Calls Tryz.prog 11 #[.agg #[.int .i64 s,.int .i64 v,.int .i64 g]] w (GotCrt ⟨s,v,g⟩ w):=by
 go_enter Tryz.func11,Tryz.ntmps11
 go_wp2
 refine bodyPost_ret (v:=.agg #[.int .i64 s,.int .i64 v,.int .i64 g]) ?_ rfl ⟨rfl,?_⟩
 · simp [results,Tryz.results11,go_sem]
 · first
    | exact (((Below.refl _ _).alloc (Nat.le_refl _) _).alloc (by simp) _).alloc (by simp;omega) _
    | exact ((((((Below.refl _ _).alloc (Nat.le_refl _) _).alloc (by simp) _).setCell (by simp) _).setCell (by simp) _).setCell (by simp) _)
end Go.Proofs.YtolhdacbahgfgaaGreat
