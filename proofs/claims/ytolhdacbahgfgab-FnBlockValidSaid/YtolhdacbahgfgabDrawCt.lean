/- The contracts of the model's draws of certificates (gen18/drawcert.py). -/
import Derived.Test.YtolhdacbahgfgabDrT
import Derived.Test.YtolhdacbahgfgabTreHold
import Derived.Test.YtolhdacbahgfgabSpB
import Derived.Test.YtolhdacbahgfgabCertMath
import Derived.Lib.MinMax
namespace Go.Proofs.Ytolhdacbahgfgab
open Go.RowKit
set_option linter.unusedVariables false
set_option linter.unusedSimpArgs false
def WdIx (R m:Nat):Wd R:=⟨fun v _=>∃ k:Nat,v = .int .i64 (k:Int)∧k < m,fun _ _ _ h _=>h⟩
def WdPl (R b off m:Nat):Wd R:=⟨fun v _=>∃ k:Nat,v = .pointer (some ⟨b,off+k*6,none⟩)∧k < m,fun _ _ _ h _=>h⟩
def DrawCt (w:World) (R P c:Nat) (en:Ending) (w':World):Prop :=
 ∃ s v g,en = .returned (.agg #[.int .i64 s,.int .i64 v,.int .i64 g])∧(-1≤s∧s≤1000003)∧(-1≤v∧v≤1001)∧(-1≤g∧g≤16)∧Rd w' R (P+c)∧Upd R w w'
end Go.Proofs.Ytolhdacbahgfgab
