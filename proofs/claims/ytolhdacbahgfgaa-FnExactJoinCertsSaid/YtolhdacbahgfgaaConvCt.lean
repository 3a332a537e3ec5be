/- The laws' helpers over a certificate. -/
import Derived.Test.YtolhdacbahgfgaaCertMath
namespace Go.Proofs.Ytolhdacbahgfgaa
open Go.RowKit
set_option linter.unusedVariables false
theorem toCert_any (s v g:Int) (w:World) :
  Calls Try.prog 20 #[.agg #[.int .i64 s,.int .i64 v,.int .i64 g]] w (GotCrt ⟨s,v,g⟩ w):=by
 go_enter Try.func20,Try.ntmps20
 go_wp2
 refine bodyPost_ret (v:=.agg #[.int .i64 s,.int .i64 v,.int .i64 g]) ?_ rfl ⟨rfl,?_⟩
 · simp [results,Try.results20,go_sem]
 · first
    | exact (((Below.refl _ _).alloc (Nat.le_refl _) _).alloc (by simp) _).alloc (by simp;omega) _
    | exact ((((((Below.refl _ _).alloc (Nat.le_refl _) _).alloc (by simp) _).setCell (by simp) _).setCell (by simp) _).setCell (by simp) _)
theorem eqCert_same (s v g:Int) (w:World) :
  Calls Try.prog 21 #[.agg #[.int .i64 s,.int .i64 v,.int .i64 g],.agg #[.int .i64 s,.int .i64 v,.int .i64 g]] w fun e w'=>e = .returned (.bool true)∧Below w.heap.size w w':=by
 go_enter Try.func21,Try.ntmps21
 go_wp2
 go_ret
 exact ⟨rfl,((Below.refl _ _).alloc (Nat.le_refl _) _).alloc (by simp) _⟩
end Go.Proofs.Ytolhdacbahgfgaa
