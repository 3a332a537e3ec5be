/-
  No cell of these rows narrows 'for every input' (looked for: loops, veiled, ifaces, maps, wideKeys, modest, calm, conditions, laid).
  DERIVED. THE GIVEN ROWS OF THIS SEAT. 7 by the template 'for every input the law returns true; each argument reads behind the call as it read before'; 0 by the template 'total and deterministic' (their statements: YtoiblfjafjoaeabGreatTotals.lean).
  GIVEN WITH THE SEED: the statements are not yours to turn. If you find one false, say at which input.
  Laid BY PROGRAM, IN A SANDBOX (cutbox-rows.mjs): the forced cells as the released guide's own fill.sh prints them over the translation 1750bc2056540195… (all of the seat's roots in one cut). By AI agents, Wed Nov 11 2026. No macro, syntax, notation, axiom, sorry.
-/
import Derived.Test.YtoiblfjafjoaeabGreatChecked
import GoSem.Claim
import GoSem.ClaimJoined
import GoSem.ClaimMapViews
import Derived.JoinedTies
import Derived.KernelRfl
namespace Go.Proofs.YtoiblfjafjoaeabGreat
/- THE CELL 'sum', in the pinned program and in every row, IS THE sha256 OF THE DUMP (.gsa) THAT YtoiblfjafjoaeabGreatProg.lean LOADS. Nothing in Lean hashes anything: it is a label: what it is worth is what the hold of that sum in a sandbox is worth. -/
noncomputable def Tryz.pinned : Pinned := { name := "ytoiblfjafjoaeabgreat", sum := "1750bc2056540195c06cbb37906cb0d938a42b3d286c9c290e2db9cc8c94b6ca", checked := Tryz.checked }
namespace Rows
def none {H : Type} : Left H := { results := [], args := [] }

/-- 'laws.FnExactEngineValid': WHATEVER THE INPUT: true; the input reads as it did. -/
def fnExactEngineValidSpec : ChangeSpec := { name := "fnExactEngineValid", fn := fun _ => fun
  | [d] => { results := [.lit (.bool true)], args := [d] }
  | _ => none }
def fnExactEngineValidRow : OpenClaim := { program := "ytoiblfjafjoaeabgreat", sum := "1750bc2056540195c06cbb37906cb0d938a42b3d286c9c290e2db9cc8c94b6ca", func := "loop.example/blockexecutor/laws.FnExactEngineValid", spec := "fnExactEngineValid", inPlace := ["slices.overlaps[loop.example/blockexecutor/impl.Version]"], unfollowed := true, recurses := true, apart := false }
def FnExactEngineValidSaid : Prop := fnExactEngineValidRow.holds Tryz.pinned (OpenSpec.ofChange fnExactEngineValidSpec)

/-- ITS FALSE NEIGHBOUR: 'it returns false'. Refute it at one input. -/
def fnExactEngineValidWrong : ChangeSpec := { name := "fnExactEngineValid", fn := fun _ => fun
  | [d] => { results := [.lit (.bool false)], args := [d] }
  | _ => none }
def FnExactEngineValidWrongFalsely : Prop := fnExactEngineValidRow.holds Tryz.pinned (OpenSpec.ofChange fnExactEngineValidWrong)

/-- 'laws.FnExactEngineDone': WHATEVER THE INPUT: true; the input reads as it did. -/
def fnExactEngineDoneSpec : ChangeSpec := { name := "fnExactEngineDone", fn := fun _ => fun
  | [d] => { results := [.lit (.bool true)], args := [d] }
  | _ => none }
def fnExactEngineDoneRow : OpenClaim := { program := "ytoiblfjafjoaeabgreat", sum := "1750bc2056540195c06cbb37906cb0d938a42b3d286c9c290e2db9cc8c94b6ca", func := "loop.example/blockexecutor/laws.FnExactEngineDone", spec := "fnExactEngineDone", inPlace := ["slices.overlaps[loop.example/blockexecutor/impl.Version]"], unfollowed := true, recurses := true, apart := false }
def FnExactEngineDoneSaid : Prop := fnExactEngineDoneRow.holds Tryz.pinned (OpenSpec.ofChange fnExactEngineDoneSpec)

/-- ITS FALSE NEIGHBOUR: 'it returns false'. Refute it at one input. -/
def fnExactEngineDoneWrong : ChangeSpec := { name := "fnExactEngineDone", fn := fun _ => fun
  | [d] => { results := [.lit (.bool false)], args := [d] }
  | _ => none }
def FnExactEngineDoneWrongFalsely : Prop := fnExactEngineDoneRow.holds Tryz.pinned (OpenSpec.ofChange fnExactEngineDoneWrong)

/-- 'laws.FnExactEngineStep': WHATEVER THE INPUT: true; the input reads as it did. -/
def fnExactEngineStepSpec : ChangeSpec := { name := "fnExactEngineStep", fn := fun _ => fun
  | [d1, d2] => { results := [.lit (.bool true)], args := [d1, d2] }
  | _ => none }
def fnExactEngineStepRow : OpenClaim := { program := "ytoiblfjafjoaeabgreat", sum := "1750bc2056540195c06cbb37906cb0d938a42b3d286c9c290e2db9cc8c94b6ca", func := "loop.example/blockexecutor/laws.FnExactEngineStep", spec := "fnExactEngineStep", inPlace := ["slices.overlaps[loop.example/blockexecutor/impl.Version]"], unfollowed := true, recurses := true, apart := false }
def FnExactEngineStepSaid : Prop := fnExactEngineStepRow.holds Tryz.pinned (OpenSpec.ofChange fnExactEngineStepSpec)

/-- ITS FALSE NEIGHBOUR: 'it returns false'. Refute it at one input. -/
def fnExactEngineStepWrong : ChangeSpec := { name := "fnExactEngineStep", fn := fun _ => fun
  | [d1, d2] => { results := [.lit (.bool false)], args := [d1, d2] }
  | _ => none }
def FnExactEngineStepWrongFalsely : Prop := fnExactEngineStepRow.holds Tryz.pinned (OpenSpec.ofChange fnExactEngineStepWrong)

/-- 'laws.FnExactEngineRun': WHATEVER THE INPUT: true; the input reads as it did. -/
def fnExactEngineRunSpec : ChangeSpec := { name := "fnExactEngineRun", fn := fun _ => fun
  | [d1, d2] => { results := [.lit (.bool true)], args := [d1, d2] }
  | _ => none }
def fnExactEngineRunRow : OpenClaim := { program := "ytoiblfjafjoaeabgreat", sum := "1750bc2056540195c06cbb37906cb0d938a42b3d286c9c290e2db9cc8c94b6ca", func := "loop.example/blockexecutor/laws.FnExactEngineRun", spec := "fnExactEngineRun", inPlace := ["slices.overlaps[loop.example/blockexecutor/impl.Version]"], unfollowed := true, recurses := true, apart := false }
def FnExactEngineRunSaid : Prop := fnExactEngineRunRow.holds Tryz.pinned (OpenSpec.ofChange fnExactEngineRunSpec)

/-- ITS FALSE NEIGHBOUR: 'it returns false'. Refute it at one input. -/
def fnExactEngineRunWrong : ChangeSpec := { name := "fnExactEngineRun", fn := fun _ => fun
  | [d1, d2] => { results := [.lit (.bool false)], args := [d1, d2] }
  | _ => none }
def FnExactEngineRunWrongFalsely : Prop := fnExactEngineRunRow.holds Tryz.pinned (OpenSpec.ofChange fnExactEngineRunWrong)

/-- 'laws.FnExactEngineFinish': WHATEVER THE INPUT: true; the input reads as it did. -/
def fnExactEngineFinishSpec : ChangeSpec := { name := "fnExactEngineFinish", fn := fun _ => fun
  | [d] => { results := [.lit (.bool true)], args := [d] }
  | _ => none }
def fnExactEngineFinishRow : OpenClaim := { program := "ytoiblfjafjoaeabgreat", sum := "1750bc2056540195c06cbb37906cb0d938a42b3d286c9c290e2db9cc8c94b6ca", func := "loop.example/blockexecutor/laws.FnExactEngineFinish", spec := "fnExactEngineFinish", inPlace := ["slices.overlaps[loop.example/blockexecutor/impl.Version]"], unfollowed := true, recurses := true, apart := false }
def FnExactEngineFinishSaid : Prop := fnExactEngineFinishRow.holds Tryz.pinned (OpenSpec.ofChange fnExactEngineFinishSpec)

/-- ITS FALSE NEIGHBOUR: 'it returns false'. Refute it at one input. -/
def fnExactEngineFinishWrong : ChangeSpec := { name := "fnExactEngineFinish", fn := fun _ => fun
  | [d] => { results := [.lit (.bool false)], args := [d] }
  | _ => none }
def FnExactEngineFinishWrongFalsely : Prop := fnExactEngineFinishRow.holds Tryz.pinned (OpenSpec.ofChange fnExactEngineFinishWrong)

/-- 'laws.FnExactEngineResult': WHATEVER THE INPUT: true; the input reads as it did. -/
def fnExactEngineResultSpec : ChangeSpec := { name := "fnExactEngineResult", fn := fun _ => fun
  | [d] => { results := [.lit (.bool true)], args := [d] }
  | _ => none }
def fnExactEngineResultRow : OpenClaim := { program := "ytoiblfjafjoaeabgreat", sum := "1750bc2056540195c06cbb37906cb0d938a42b3d286c9c290e2db9cc8c94b6ca", func := "loop.example/blockexecutor/laws.FnExactEngineResult", spec := "fnExactEngineResult", inPlace := ["slices.overlaps[loop.example/blockexecutor/impl.Version]"], unfollowed := true, recurses := true, apart := false }
def FnExactEngineResultSaid : Prop := fnExactEngineResultRow.holds Tryz.pinned (OpenSpec.ofChange fnExactEngineResultSpec)

/-- ITS FALSE NEIGHBOUR: 'it returns false'. Refute it at one input. -/
def fnExactEngineResultWrong : ChangeSpec := { name := "fnExactEngineResult", fn := fun _ => fun
  | [d] => { results := [.lit (.bool false)], args := [d] }
  | _ => none }
def FnExactEngineResultWrongFalsely : Prop := fnExactEngineResultRow.holds Tryz.pinned (OpenSpec.ofChange fnExactEngineResultWrong)

/-- 'laws.FnExactTriesOf': WHATEVER THE INPUT: true; the input reads as it did. -/
def fnExactTriesOfSpec : ChangeSpec := { name := "fnExactTriesOf", fn := fun _ => fun
  | [d] => { results := [.lit (.bool true)], args := [d] }
  | _ => none }
def fnExactTriesOfRow : OpenClaim := { program := "ytoiblfjafjoaeabgreat", sum := "1750bc2056540195c06cbb37906cb0d938a42b3d286c9c290e2db9cc8c94b6ca", func := "loop.example/blockexecutor/laws.FnExactTriesOf", spec := "fnExactTriesOf", inPlace := ["slices.overlaps[loop.example/blockexecutor/impl.Version]"], unfollowed := true, recurses := true, apart := false }
def FnExactTriesOfSaid : Prop := fnExactTriesOfRow.holds Tryz.pinned (OpenSpec.ofChange fnExactTriesOfSpec)

/-- ITS FALSE NEIGHBOUR: 'it returns false'. Refute it at one input. -/
def fnExactTriesOfWrong : ChangeSpec := { name := "fnExactTriesOf", fn := fun _ => fun
  | [d] => { results := [.lit (.bool false)], args := [d] }
  | _ => none }
def FnExactTriesOfWrongFalsely : Prop := fnExactTriesOfRow.holds Tryz.pinned (OpenSpec.ofChange fnExactTriesOfWrong)

/- THE SECOND FORM. 'bulk': how many values and letters a reading holds, each counted each time it is reached (what is shared counts as often as it is met; a slice's spare places count too). A statement '..UptoSaid' is the law's where the arguments, and the package variables that the reading takes, are together of bulk at most 1048576: NARROWER than '..Said'. Prove '..Said' where nothing that the law and all that it calls make is longer than what came in: it says more and counts as full. Else prove '..UptoSaid'. A law counts once. -/
mutual
def uptoBulk {H : Type} : DataW H → Nat
  | .lit (.string bytes) => bytes.length + 1
  | .lit _ => 1
  | .nil => 1
  | .ptr d => uptoBulk d + 1
  | .slice elems spare => uptoBulkAll elems + uptoBulkAll spare + 1
  | .agg parts => uptoBulkAll parts + 1
  | .iface _ d => uptoBulk d + 1
  | .map entries => uptoBulkEntries entries + 1
  | .held _ => 1
def uptoBulkAll {H : Type} : List (DataW H) → Nat
  | [] => 0
  | d :: r => uptoBulk d + uptoBulkAll r
def uptoBulkEntries {H : Type} : List (Lit × DataW H) → Nat
  | [] => 0
  | x :: r => uptoBulkEntry x + uptoBulkEntries r
def uptoBulkEntry {H : Type} : Lit × DataW H → Nat
  | (.string bytes, d) => bytes.length + uptoBulk d + 1
  | (_, d) => uptoBulk d + 1
 end
def uptoSmall : (H : Type) → List (DataW H) → Bool := fun _ ds => decide (uptoBulkAll ds ≤ 1048576)
def OpenSpec.upto (s : _root_.Go.ChangeSpec) : _root_.Go.OpenSpec := { _root_.Go.OpenSpec.ofChange s with cond := some uptoSmall }

/-- 'laws.FnExactEngineValid', WHERE WHAT IT READS IS OF BULK AT MOST 1048576: true; the input reads as it did. -/
def fnExactEngineValidUptoRow : OpenClaim := { program := "ytoiblfjafjoaeabgreat", sum := "1750bc2056540195c06cbb37906cb0d938a42b3d286c9c290e2db9cc8c94b6ca", func := "loop.example/blockexecutor/laws.FnExactEngineValid", spec := "fnExactEngineValid", inPlace := ["slices.overlaps[loop.example/blockexecutor/impl.Version]"], unfollowed := true, recurses := true, apart := false, narrowed := true }
def FnExactEngineValidUptoSaid : Prop := fnExactEngineValidUptoRow.holds Tryz.pinned (OpenSpec.upto fnExactEngineValidSpec)

/-- 'laws.FnExactEngineDone', WHERE WHAT IT READS IS OF BULK AT MOST 1048576: true; the input reads as it did. -/
def fnExactEngineDoneUptoRow : OpenClaim := { program := "ytoiblfjafjoaeabgreat", sum := "1750bc2056540195c06cbb37906cb0d938a42b3d286c9c290e2db9cc8c94b6ca", func := "loop.example/blockexecutor/laws.FnExactEngineDone", spec := "fnExactEngineDone", inPlace := ["slices.overlaps[loop.example/blockexecutor/impl.Version]"], unfollowed := true, recurses := true, apart := false, narrowed := true }
def FnExactEngineDoneUptoSaid : Prop := fnExactEngineDoneUptoRow.holds Tryz.pinned (OpenSpec.upto fnExactEngineDoneSpec)

/-- 'laws.FnExactEngineStep', WHERE WHAT IT READS IS OF BULK AT MOST 1048576: true; the input reads as it did. -/
def fnExactEngineStepUptoRow : OpenClaim := { program := "ytoiblfjafjoaeabgreat", sum := "1750bc2056540195c06cbb37906cb0d938a42b3d286c9c290e2db9cc8c94b6ca", func := "loop.example/blockexecutor/laws.FnExactEngineStep", spec := "fnExactEngineStep", inPlace := ["slices.overlaps[loop.example/blockexecutor/impl.Version]"], unfollowed := true, recurses := true, apart := false, narrowed := true }
def FnExactEngineStepUptoSaid : Prop := fnExactEngineStepUptoRow.holds Tryz.pinned (OpenSpec.upto fnExactEngineStepSpec)

/-- 'laws.FnExactEngineRun', WHERE WHAT IT READS IS OF BULK AT MOST 1048576: true; the input reads as it did. -/
def fnExactEngineRunUptoRow : OpenClaim := { program := "ytoiblfjafjoaeabgreat", sum := "1750bc2056540195c06cbb37906cb0d938a42b3d286c9c290e2db9cc8c94b6ca", func := "loop.example/blockexecutor/laws.FnExactEngineRun", spec := "fnExactEngineRun", inPlace := ["slices.overlaps[loop.example/blockexecutor/impl.Version]"], unfollowed := true, recurses := true, apart := false, narrowed := true }
def FnExactEngineRunUptoSaid : Prop := fnExactEngineRunUptoRow.holds Tryz.pinned (OpenSpec.upto fnExactEngineRunSpec)

/-- 'laws.FnExactEngineFinish', WHERE WHAT IT READS IS OF BULK AT MOST 1048576: true; the input reads as it did. -/
def fnExactEngineFinishUptoRow : OpenClaim := { program := "ytoiblfjafjoaeabgreat", sum := "1750bc2056540195c06cbb37906cb0d938a42b3d286c9c290e2db9cc8c94b6ca", func := "loop.example/blockexecutor/laws.FnExactEngineFinish", spec := "fnExactEngineFinish", inPlace := ["slices.overlaps[loop.example/blockexecutor/impl.Version]"], unfollowed := true, recurses := true, apart := false, narrowed := true }
def FnExactEngineFinishUptoSaid : Prop := fnExactEngineFinishUptoRow.holds Tryz.pinned (OpenSpec.upto fnExactEngineFinishSpec)

/-- 'laws.FnExactEngineResult', WHERE WHAT IT READS IS OF BULK AT MOST 1048576: true; the input reads as it did. -/
def fnExactEngineResultUptoRow : OpenClaim := { program := "ytoiblfjafjoaeabgreat", sum := "1750bc2056540195c06cbb37906cb0d938a42b3d286c9c290e2db9cc8c94b6ca", func := "loop.example/blockexecutor/laws.FnExactEngineResult", spec := "fnExactEngineResult", inPlace := ["slices.overlaps[loop.example/blockexecutor/impl.Version]"], unfollowed := true, recurses := true, apart := false, narrowed := true }
def FnExactEngineResultUptoSaid : Prop := fnExactEngineResultUptoRow.holds Tryz.pinned (OpenSpec.upto fnExactEngineResultSpec)

/-- 'laws.FnExactTriesOf', WHERE WHAT IT READS IS OF BULK AT MOST 1048576: true; the input reads as it did. -/
def fnExactTriesOfUptoRow : OpenClaim := { program := "ytoiblfjafjoaeabgreat", sum := "1750bc2056540195c06cbb37906cb0d938a42b3d286c9c290e2db9cc8c94b6ca", func := "loop.example/blockexecutor/laws.FnExactTriesOf", spec := "fnExactTriesOf", inPlace := ["slices.overlaps[loop.example/blockexecutor/impl.Version]"], unfollowed := true, recurses := true, apart := false, narrowed := true }
def FnExactTriesOfUptoSaid : Prop := fnExactTriesOfUptoRow.holds Tryz.pinned (OpenSpec.upto fnExactTriesOfSpec)

end Rows
end Go.Proofs.YtoiblfjafjoaeabGreat
