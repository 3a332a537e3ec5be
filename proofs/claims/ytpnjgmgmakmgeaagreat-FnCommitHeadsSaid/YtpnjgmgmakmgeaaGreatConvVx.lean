/- Texts of ours that stand together: ConvV, ConvV2 -/
import Derived.Test.YtpnjgmgmakmgeaaGreatVerA
import Derived.Test.YtpnjgmgmakmgeaaGreatActs
import Derived.StillTailTactics
import Derived.Test.YtpnjgmgmakmgeaaGreatConv
import Derived.Test.YtpnjgmgmakmgeaaGreatCore
import Derived.Deep.QuietTactic
import Derived.BigQuiet





/- The contracts of the laws' own helpers over Version: toVersion,eqVersion,szVersionS,toVersionS,eqVersionS,markVersionS,heldVersionS (gen9/structs.py). -/
namespace Go.Proofs.YtpnjgmgmakmgeaaGreat
open Go.RowKit
set_option linter.unusedVariables false
theorem flatV_zeros (n:Nat):flatV (List.replicate n noV)=List.replicate (n*3) (.int .i64 0):=by
 induction n with
 | zero=>rfl
 | succ n ih=>rw [List.replicate_succ,show (n+1)*3=n*3+1+1+1 by omega,List.replicate_succ,List.replicate_succ,List.replicate_succ];simp [flatV_cons,noV] at ih ⊢;exact ih
theorem made_zerosV (n:Nat):(madeCells (Value.agg #[.int .i64 0,.int .i64 0,.int .i64 0]).cells (n*3)).toList=List.replicate (n*3) (.int .i64 0):=by
 unfold madeCells
 apply List.ext_getElem
 · simp [Value.cells]
 · intro i h1 h2
   simp [Value.cells] at h1 ⊢
   rcases (by omega:i % 3=0∨i % 3=1∨i % 3=2) with h | h | h <;> simp [h]
end Go.Proofs.YtpnjgmgmakmgeaaGreat
