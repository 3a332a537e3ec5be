/-
  No cell of these rows narrows 'for every input' (looked for: loops, veiled, ifaces, maps, wideKeys, modest, calm, conditions, laid).
  DERIVED. THE GIVEN ROWS OF THIS SEAT. 11 by the template 'for every input the law returns true; each argument reads behind the call as it read before'; 0 by the template 'total and deterministic' (their statements: YtaaffpolmecicabGreatTotals.lean).
  GIVEN WITH THE SEED: the statements are not yours to turn. If you find one false, say at which input.
  Laid BY PROGRAM, IN A SANDBOX (cutbox-rows.mjs): the forced cells as the released guide's own fill.sh prints them over the translation bb5a96c7e8637bf4… (all of the seat's roots in one cut). By AI agents, Wed Nov 11 2026. No macro, syntax, notation, axiom, sorry.
-/
import Derived.Test.YtaaffpolmecicabGreatChecked
import GoSem.Claim
import GoSem.ClaimJoined
import GoSem.ClaimMapViews
import Derived.JoinedTies
import Derived.KernelRfl
namespace Go.Proofs.YtaaffpolmecicabGreat
/- THE CELL 'sum', in the pinned program and in every row, IS THE sha256 OF THE DUMP (.gsa) THAT YtaaffpolmecicabGreatProg.lean LOADS. Nothing in Lean hashes anything: it is a label: what it is worth is what the hold of that sum in a sandbox is worth. -/
noncomputable def Tryz.pinned : Pinned := { name := "ytaaffpolmecicabgreat", sum := "bb5a96c7e8637bf458af831e847f98f185ec0da9782560a0899b215d7863a0ed", checked := Tryz.checked }
namespace Rows
def none {H : Type} : Left H := { results := [], args := [] }

/-- 'laws.FnSerialVersions': WHATEVER THE INPUT: true; the input reads as it did. -/
def fnSerialVersionsSpec : ChangeSpec := { name := "fnSerialVersions", fn := fun _ => fun
  | [d] => { results := [.lit (.bool true)], args := [d] }
  | _ => none }
def fnSerialVersionsRow : OpenClaim := { program := "ytaaffpolmecicabgreat", sum := "bb5a96c7e8637bf458af831e847f98f185ec0da9782560a0899b215d7863a0ed", func := "loop.example/blockexecutor/laws.FnSerialVersions", spec := "fnSerialVersions", inPlace := ["slices.overlaps[loop.example/blockexecutor/impl.Version]"], unfollowed := true, recurses := true, apart := false }
def FnSerialVersionsSaid : Prop := fnSerialVersionsRow.holds Tryz.pinned (OpenSpec.ofChange fnSerialVersionsSpec)

/-- ITS FALSE NEIGHBOUR: 'it returns false'. Refute it at one input. -/
def fnSerialVersionsWrong : ChangeSpec := { name := "fnSerialVersions", fn := fun _ => fun
  | [d] => { results := [.lit (.bool false)], args := [d] }
  | _ => none }
def FnSerialVersionsWrongFalsely : Prop := fnSerialVersionsRow.holds Tryz.pinned (OpenSpec.ofChange fnSerialVersionsWrong)

/-- 'laws.FnExactEngineResult': WHATEVER THE INPUT: true; the input reads as it did. -/
def fnExactEngineResultSpec : ChangeSpec := { name := "fnExactEngineResult", fn := fun _ => fun
  | [d] => { results := [.lit (.bool true)], args := [d] }
  | _ => none }
def fnExactEngineResultRow : OpenClaim := { program := "ytaaffpolmecicabgreat", sum := "bb5a96c7e8637bf458af831e847f98f185ec0da9782560a0899b215d7863a0ed", func := "loop.example/blockexecutor/laws.FnExactEngineResult", spec := "fnExactEngineResult", inPlace := ["slices.overlaps[loop.example/blockexecutor/impl.Version]"], unfollowed := true, recurses := true, apart := false }
def FnExactEngineResultSaid : Prop := fnExactEngineResultRow.holds Tryz.pinned (OpenSpec.ofChange fnExactEngineResultSpec)

/-- ITS FALSE NEIGHBOUR: 'it returns false'. Refute it at one input. -/
def fnExactEngineResultWrong : ChangeSpec := { name := "fnExactEngineResult", fn := fun _ => fun
  | [d] => { results := [.lit (.bool false)], args := [d] }
  | _ => none }
def FnExactEngineResultWrongFalsely : Prop := fnExactEngineResultRow.holds Tryz.pinned (OpenSpec.ofChange fnExactEngineResultWrong)

/-- 'laws.FnEngineReverse': WHATEVER THE INPUT: true; the input reads as it did. -/
def fnEngineReverseSpec : ChangeSpec := { name := "fnEngineReverse", fn := fun _ => fun
  | [d] => { results := [.lit (.bool true)], args := [d] }
  | _ => none }
def fnEngineReverseRow : OpenClaim := { program := "ytaaffpolmecicabgreat", sum := "bb5a96c7e8637bf458af831e847f98f185ec0da9782560a0899b215d7863a0ed", func := "loop.example/blockexecutor/laws.FnEngineReverse", spec := "fnEngineReverse", inPlace := ["slices.overlaps[loop.example/blockexecutor/impl.Version]"], unfollowed := true, recurses := true, apart := false }
def FnEngineReverseSaid : Prop := fnEngineReverseRow.holds Tryz.pinned (OpenSpec.ofChange fnEngineReverseSpec)

/-- ITS FALSE NEIGHBOUR: 'it returns false'. Refute it at one input. -/
def fnEngineReverseWrong : ChangeSpec := { name := "fnEngineReverse", fn := fun _ => fun
  | [d] => { results := [.lit (.bool false)], args := [d] }
  | _ => none }
def FnEngineReverseWrongFalsely : Prop := fnEngineReverseRow.holds Tryz.pinned (OpenSpec.ofChange fnEngineReverseWrong)

/-- 'laws.FnEngineValid': WHATEVER THE INPUT: true; the input reads as it did. -/
def fnEngineValidSpec : ChangeSpec := { name := "fnEngineValid", fn := fun _ => fun
  | [d] => { results := [.lit (.bool true)], args := [d] }
  | _ => none }
def fnEngineValidRow : OpenClaim := { program := "ytaaffpolmecicabgreat", sum := "bb5a96c7e8637bf458af831e847f98f185ec0da9782560a0899b215d7863a0ed", func := "loop.example/blockexecutor/laws.FnEngineValid", spec := "fnEngineValid", inPlace := ["slices.overlaps[loop.example/blockexecutor/impl.Version]"], unfollowed := true, recurses := true, apart := false }
def FnEngineValidSaid : Prop := fnEngineValidRow.holds Tryz.pinned (OpenSpec.ofChange fnEngineValidSpec)

/-- ITS FALSE NEIGHBOUR: 'it returns false'. Refute it at one input. -/
def fnEngineValidWrong : ChangeSpec := { name := "fnEngineValid", fn := fun _ => fun
  | [d] => { results := [.lit (.bool false)], args := [d] }
  | _ => none }
def FnEngineValidWrongFalsely : Prop := fnEngineValidRow.holds Tryz.pinned (OpenSpec.ofChange fnEngineValidWrong)

/-- 'laws.FnEngineDone': WHATEVER THE INPUT: true; the input reads as it did. -/
def fnEngineDoneSpec : ChangeSpec := { name := "fnEngineDone", fn := fun _ => fun
  | [d] => { results := [.lit (.bool true)], args := [d] }
  | _ => none }
def fnEngineDoneRow : OpenClaim := { program := "ytaaffpolmecicabgreat", sum := "bb5a96c7e8637bf458af831e847f98f185ec0da9782560a0899b215d7863a0ed", func := "loop.example/blockexecutor/laws.FnEngineDone", spec := "fnEngineDone", inPlace := ["slices.overlaps[loop.example/blockexecutor/impl.Version]"], unfollowed := true, recurses := true, apart := false }
def FnEngineDoneSaid : Prop := fnEngineDoneRow.holds Tryz.pinned (OpenSpec.ofChange fnEngineDoneSpec)

/-- ITS FALSE NEIGHBOUR: 'it returns false'. Refute it at one input. -/
def fnEngineDoneWrong : ChangeSpec := { name := "fnEngineDone", fn := fun _ => fun
  | [d] => { results := [.lit (.bool false)], args := [d] }
  | _ => none }
def FnEngineDoneWrongFalsely : Prop := fnEngineDoneRow.holds Tryz.pinned (OpenSpec.ofChange fnEngineDoneWrong)

/-- 'laws.FnEngineStep': WHATEVER THE INPUT: true; the input reads as it did. -/
def fnEngineStepSpec : ChangeSpec := { name := "fnEngineStep", fn := fun _ => fun
  | [d] => { results := [.lit (.bool true)], args := [d] }
  | _ => none }
def fnEngineStepRow : OpenClaim := { program := "ytaaffpolmecicabgreat", sum := "bb5a96c7e8637bf458af831e847f98f185ec0da9782560a0899b215d7863a0ed", func := "loop.example/blockexecutor/laws.FnEngineStep", spec := "fnEngineStep", inPlace := ["slices.overlaps[loop.example/blockexecutor/impl.Version]"], unfollowed := true, recurses := true, apart := false }
def FnEngineStepSaid : Prop := fnEngineStepRow.holds Tryz.pinned (OpenSpec.ofChange fnEngineStepSpec)

/-- ITS FALSE NEIGHBOUR: 'it returns false'. Refute it at one input. -/
def fnEngineStepWrong : ChangeSpec := { name := "fnEngineStep", fn := fun _ => fun
  | [d] => { results := [.lit (.bool false)], args := [d] }
  | _ => none }
def FnEngineStepWrongFalsely : Prop := fnEngineStepRow.holds Tryz.pinned (OpenSpec.ofChange fnEngineStepWrong)

/-- 'laws.FnEngineRun': WHATEVER THE INPUT: true; the input reads as it did. -/
def fnEngineRunSpec : ChangeSpec := { name := "fnEngineRun", fn := fun _ => fun
  | [d] => { results := [.lit (.bool true)], args := [d] }
  | _ => none }
def fnEngineRunRow : OpenClaim := { program := "ytaaffpolmecicabgreat", sum := "bb5a96c7e8637bf458af831e847f98f185ec0da9782560a0899b215d7863a0ed", func := "loop.example/blockexecutor/laws.FnEngineRun", spec := "fnEngineRun", inPlace := ["slices.overlaps[loop.example/blockexecutor/impl.Version]"], unfollowed := true, recurses := true, apart := false }
def FnEngineRunSaid : Prop := fnEngineRunRow.holds Tryz.pinned (OpenSpec.ofChange fnEngineRunSpec)

/-- ITS FALSE NEIGHBOUR: 'it returns false'. Refute it at one input. -/
def fnEngineRunWrong : ChangeSpec := { name := "fnEngineRun", fn := fun _ => fun
  | [d] => { results := [.lit (.bool false)], args := [d] }
  | _ => none }
def FnEngineRunWrongFalsely : Prop := fnEngineRunRow.holds Tryz.pinned (OpenSpec.ofChange fnEngineRunWrong)

/-- 'laws.FnEngineFinish': WHATEVER THE INPUT: true; the input reads as it did. -/
def fnEngineFinishSpec : ChangeSpec := { name := "fnEngineFinish", fn := fun _ => fun
  | [d] => { results := [.lit (.bool true)], args := [d] }
  | _ => none }
def fnEngineFinishRow : OpenClaim := { program := "ytaaffpolmecicabgreat", sum := "bb5a96c7e8637bf458af831e847f98f185ec0da9782560a0899b215d7863a0ed", func := "loop.example/blockexecutor/laws.FnEngineFinish", spec := "fnEngineFinish", inPlace := ["slices.overlaps[loop.example/blockexecutor/impl.Version]"], unfollowed := true, recurses := true, apart := false }
def FnEngineFinishSaid : Prop := fnEngineFinishRow.holds Tryz.pinned (OpenSpec.ofChange fnEngineFinishSpec)

/-- ITS FALSE NEIGHBOUR: 'it returns false'. Refute it at one input. -/
def fnEngineFinishWrong : ChangeSpec := { name := "fnEngineFinish", fn := fun _ => fun
  | [d] => { results := [.lit (.bool false)], args := [d] }
  | _ => none }
def FnEngineFinishWrongFalsely : Prop := fnEngineFinishRow.holds Tryz.pinned (OpenSpec.ofChange fnEngineFinishWrong)

/-- 'laws.FnEngineResult': WHATEVER THE INPUT: true; the input reads as it did. -/
def fnEngineResultSpec : ChangeSpec := { name := "fnEngineResult", fn := fun _ => fun
  | [d] => { results := [.lit (.bool true)], args := [d] }
  | _ => none }
def fnEngineResultRow : OpenClaim := { program := "ytaaffpolmecicabgreat", sum := "bb5a96c7e8637bf458af831e847f98f185ec0da9782560a0899b215d7863a0ed", func := "loop.example/blockexecutor/laws.FnEngineResult", spec := "fnEngineResult", inPlace := ["slices.overlaps[loop.example/blockexecutor/impl.Version]"], unfollowed := true, recurses := true, apart := false }
def FnEngineResultSaid : Prop := fnEngineResultRow.holds Tryz.pinned (OpenSpec.ofChange fnEngineResultSpec)

/-- ITS FALSE NEIGHBOUR: 'it returns false'. Refute it at one input. -/
def fnEngineResultWrong : ChangeSpec := { name := "fnEngineResult", fn := fun _ => fun
  | [d] => { results := [.lit (.bool false)], args := [d] }
  | _ => none }
def FnEngineResultWrongFalsely : Prop := fnEngineResultRow.holds Tryz.pinned (OpenSpec.ofChange fnEngineResultWrong)

/-- 'laws.FnTriesOf': WHATEVER THE INPUT: true; the input reads as it did. -/
def fnTriesOfSpec : ChangeSpec := { name := "fnTriesOf", fn := fun _ => fun
  | [d] => { results := [.lit (.bool true)], args := [d] }
  | _ => none }
def fnTriesOfRow : OpenClaim := { program := "ytaaffpolmecicabgreat", sum := "bb5a96c7e8637bf458af831e847f98f185ec0da9782560a0899b215d7863a0ed", func := "loop.example/blockexecutor/laws.FnTriesOf", spec := "fnTriesOf", inPlace := ["slices.overlaps[loop.example/blockexecutor/impl.Version]"], unfollowed := true, recurses := true, apart := false }
def FnTriesOfSaid : Prop := fnTriesOfRow.holds Tryz.pinned (OpenSpec.ofChange fnTriesOfSpec)

/-- ITS FALSE NEIGHBOUR: 'it returns false'. Refute it at one input. -/
def fnTriesOfWrong : ChangeSpec := { name := "fnTriesOf", fn := fun _ => fun
  | [d] => { results := [.lit (.bool false)], args := [d] }
  | _ => none }
def FnTriesOfWrongFalsely : Prop := fnTriesOfRow.holds Tryz.pinned (OpenSpec.ofChange fnTriesOfWrong)

/-- 'laws.FnEngineAgain': WHATEVER THE INPUT: true; the input reads as it did. -/
def fnEngineAgainSpec : ChangeSpec := { name := "fnEngineAgain", fn := fun _ => fun
  | [d] => { results := [.lit (.bool true)], args := [d] }
  | _ => none }
def fnEngineAgainRow : OpenClaim := { program := "ytaaffpolmecicabgreat", sum := "bb5a96c7e8637bf458af831e847f98f185ec0da9782560a0899b215d7863a0ed", func := "loop.example/blockexecutor/laws.FnEngineAgain", spec := "fnEngineAgain", inPlace := ["slices.overlaps[loop.example/blockexecutor/impl.Version]"], unfollowed := true, recurses := true, apart := false }
def FnEngineAgainSaid : Prop := fnEngineAgainRow.holds Tryz.pinned (OpenSpec.ofChange fnEngineAgainSpec)

/-- ITS FALSE NEIGHBOUR: 'it returns false'. Refute it at one input. -/
def fnEngineAgainWrong : ChangeSpec := { name := "fnEngineAgain", fn := fun _ => fun
  | [d] => { results := [.lit (.bool false)], args := [d] }
  | _ => none }
def FnEngineAgainWrongFalsely : Prop := fnEngineAgainRow.holds Tryz.pinned (OpenSpec.ofChange fnEngineAgainWrong)

/- THE SECOND FORM. 'bulk': how many values and letters a reading holds, each counted each time it is reached (what is shared counts as often as it is met; a slice's spare places count too). A statement '..UptoSaid' is the law's where the arguments, and the package variables that the reading takes, are together of bulk at most 1048576: NARROWER than '..Said'. Prove '..Said' where nothing that the law and all that it calls make is longer than what came in: it says more and counts as full. Else prove '..UptoSaid'. A law counts once. -/
mutual
def uptoBulk {H : Type} : DataW H → Nat
  | .lit (.string bytes) => bytes.length + 1
  | .lit _ => 1
  | .nil => 1
  | .ptr d => uptoBulk d + 1
  | .slice elems spare => uptoBulkAll elems + uptoBulkAll spare + 1
  | .agg parts => uptoBulkAll parts + 1
  | .iface _ d => uptoBulk d + 1
  | .map entries => uptoBulkEntries entries + 1
  | .held _ => 1
def uptoBulkAll {H : Type} : List (DataW H) → Nat
  | [] => 0
  | d :: r => uptoBulk d + uptoBulkAll r
def uptoBulkEntries {H : Type} : List (Lit × DataW H) → Nat
  | [] => 0
  | x :: r => uptoBulkEntry x + uptoBulkEntries r
def uptoBulkEntry {H : Type} : Lit × DataW H → Nat
  | (.string bytes, d) => bytes.length + uptoBulk d + 1
  | (_, d) => uptoBulk d + 1
 end
def uptoSmall : (H : Type) → List (DataW H) → Bool := fun _ ds => decide (uptoBulkAll ds ≤ 1048576)
def OpenSpec.upto (s : _root_.Go.ChangeSpec) : _root_.Go.OpenSpec := { _root_.Go.OpenSpec.ofChange s with cond := some uptoSmall }

/-- 'laws.FnSerialVersions', WHERE WHAT IT READS IS OF BULK AT MOST 1048576: true; the input reads as it did. -/
def fnSerialVersionsUptoRow : OpenClaim := { program := "ytaaffpolmecicabgreat", sum := "bb5a96c7e8637bf458af831e847f98f185ec0da9782560a0899b215d7863a0ed", func := "loop.example/blockexecutor/laws.FnSerialVersions", spec := "fnSerialVersions", inPlace := ["slices.overlaps[loop.example/blockexecutor/impl.Version]"], unfollowed := true, recurses := true, apart := false, narrowed := true }
def FnSerialVersionsUptoSaid : Prop := fnSerialVersionsUptoRow.holds Tryz.pinned (OpenSpec.upto fnSerialVersionsSpec)

/-- 'laws.FnExactEngineResult', WHERE WHAT IT READS IS OF BULK AT MOST 1048576: true; the input reads as it did. -/
def fnExactEngineResultUptoRow : OpenClaim := { program := "ytaaffpolmecicabgreat", sum := "bb5a96c7e8637bf458af831e847f98f185ec0da9782560a0899b215d7863a0ed", func := "loop.example/blockexecutor/laws.FnExactEngineResult", spec := "fnExactEngineResult", inPlace := ["slices.overlaps[loop.example/blockexecutor/impl.Version]"], unfollowed := true, recurses := true, apart := false, narrowed := true }
def FnExactEngineResultUptoSaid : Prop := fnExactEngineResultUptoRow.holds Tryz.pinned (OpenSpec.upto fnExactEngineResultSpec)

/-- 'laws.FnEngineReverse', WHERE WHAT IT READS IS OF BULK AT MOST 1048576: true; the input reads as it did. -/
def fnEngineReverseUptoRow : OpenClaim := { program := "ytaaffpolmecicabgreat", sum := "bb5a96c7e8637bf458af831e847f98f185ec0da9782560a0899b215d7863a0ed", func := "loop.example/blockexecutor/laws.FnEngineReverse", spec := "fnEngineReverse", inPlace := ["slices.overlaps[loop.example/blockexecutor/impl.Version]"], unfollowed := true, recurses := true, apart := false, narrowed := true }
def FnEngineReverseUptoSaid : Prop := fnEngineReverseUptoRow.holds Tryz.pinned (OpenSpec.upto fnEngineReverseSpec)

/-- 'laws.FnEngineValid', WHERE WHAT IT READS IS OF BULK AT MOST 1048576: true; the input reads as it did. -/
def fnEngineValidUptoRow : OpenClaim := { program := "ytaaffpolmecicabgreat", sum := "bb5a96c7e8637bf458af831e847f98f185ec0da9782560a0899b215d7863a0ed", func := "loop.example/blockexecutor/laws.FnEngineValid", spec := "fnEngineValid", inPlace := ["slices.overlaps[loop.example/blockexecutor/impl.Version]"], unfollowed := true, recurses := true, apart := false, narrowed := true }
def FnEngineValidUptoSaid : Prop := fnEngineValidUptoRow.holds Tryz.pinned (OpenSpec.upto fnEngineValidSpec)

/-- 'laws.FnEngineDone', WHERE WHAT IT READS IS OF BULK AT MOST 1048576: true; the input reads as it did. -/
def fnEngineDoneUptoRow : OpenClaim := { program := "ytaaffpolmecicabgreat", sum := "bb5a96c7e8637bf458af831e847f98f185ec0da9782560a0899b215d7863a0ed", func := "loop.example/blockexecutor/laws.FnEngineDone", spec := "fnEngineDone", inPlace := ["slices.overlaps[loop.example/blockexecutor/impl.Version]"], unfollowed := true, recurses := true, apart := false, narrowed := true }
def FnEngineDoneUptoSaid : Prop := fnEngineDoneUptoRow.holds Tryz.pinned (OpenSpec.upto fnEngineDoneSpec)

/-- 'laws.FnEngineStep', WHERE WHAT IT READS IS OF BULK AT MOST 1048576: true; the input reads as it did. -/
def fnEngineStepUptoRow : OpenClaim := { program := "ytaaffpolmecicabgreat", sum := "bb5a96c7e8637bf458af831e847f98f185ec0da9782560a0899b215d7863a0ed", func := "loop.example/blockexecutor/laws.FnEngineStep", spec := "fnEngineStep", inPlace := ["slices.overlaps[loop.example/blockexecutor/impl.Version]"], unfollowed := true, recurses := true, apart := false, narrowed := true }
def FnEngineStepUptoSaid : Prop := fnEngineStepUptoRow.holds Tryz.pinned (OpenSpec.upto fnEngineStepSpec)

/-- 'laws.FnEngineRun', WHERE WHAT IT READS IS OF BULK AT MOST 1048576: true; the input reads as it did. -/
def fnEngineRunUptoRow : OpenClaim := { program := "ytaaffpolmecicabgreat", sum := "bb5a96c7e8637bf458af831e847f98f185ec0da9782560a0899b215d7863a0ed", func := "loop.example/blockexecutor/laws.FnEngineRun", spec := "fnEngineRun", inPlace := ["slices.overlaps[loop.example/blockexecutor/impl.Version]"], unfollowed := true, recurses := true, apart := false, narrowed := true }
def FnEngineRunUptoSaid : Prop := fnEngineRunUptoRow.holds Tryz.pinned (OpenSpec.upto fnEngineRunSpec)

/-- 'laws.FnEngineFinish', WHERE WHAT IT READS IS OF BULK AT MOST 1048576: true; the input reads as it did. -/
def fnEngineFinishUptoRow : OpenClaim := { program := "ytaaffpolmecicabgreat", sum := "bb5a96c7e8637bf458af831e847f98f185ec0da9782560a0899b215d7863a0ed", func := "loop.example/blockexecutor/laws.FnEngineFinish", spec := "fnEngineFinish", inPlace := ["slices.overlaps[loop.example/blockexecutor/impl.Version]"], unfollowed := true, recurses := true, apart := false, narrowed := true }
def FnEngineFinishUptoSaid : Prop := fnEngineFinishUptoRow.holds Tryz.pinned (OpenSpec.upto fnEngineFinishSpec)

/-- 'laws.FnEngineResult', WHERE WHAT IT READS IS OF BULK AT MOST 1048576: true; the input reads as it did. -/
def fnEngineResultUptoRow : OpenClaim := { program := "ytaaffpolmecicabgreat", sum := "bb5a96c7e8637bf458af831e847f98f185ec0da9782560a0899b215d7863a0ed", func := "loop.example/blockexecutor/laws.FnEngineResult", spec := "fnEngineResult", inPlace := ["slices.overlaps[loop.example/blockexecutor/impl.Version]"], unfollowed := true, recurses := true, apart := false, narrowed := true }
def FnEngineResultUptoSaid : Prop := fnEngineResultUptoRow.holds Tryz.pinned (OpenSpec.upto fnEngineResultSpec)

/-- 'laws.FnTriesOf', WHERE WHAT IT READS IS OF BULK AT MOST 1048576: true; the input reads as it did. -/
def fnTriesOfUptoRow : OpenClaim := { program := "ytaaffpolmecicabgreat", sum := "bb5a96c7e8637bf458af831e847f98f185ec0da9782560a0899b215d7863a0ed", func := "loop.example/blockexecutor/laws.FnTriesOf", spec := "fnTriesOf", inPlace := ["slices.overlaps[loop.example/blockexecutor/impl.Version]"], unfollowed := true, recurses := true, apart := false, narrowed := true }
def FnTriesOfUptoSaid : Prop := fnTriesOfUptoRow.holds Tryz.pinned (OpenSpec.upto fnTriesOfSpec)

/-- 'laws.FnEngineAgain', WHERE WHAT IT READS IS OF BULK AT MOST 1048576: true; the input reads as it did. -/
def fnEngineAgainUptoRow : OpenClaim := { program := "ytaaffpolmecicabgreat", sum := "bb5a96c7e8637bf458af831e847f98f185ec0da9782560a0899b215d7863a0ed", func := "loop.example/blockexecutor/laws.FnEngineAgain", spec := "fnEngineAgain", inPlace := ["slices.overlaps[loop.example/blockexecutor/impl.Version]"], unfollowed := true, recurses := true, apart := false, narrowed := true }
def FnEngineAgainUptoSaid : Prop := fnEngineAgainUptoRow.holds Tryz.pinned (OpenSpec.upto fnEngineAgainSpec)

end Rows
end Go.Proofs.YtaaffpolmecicabGreat
