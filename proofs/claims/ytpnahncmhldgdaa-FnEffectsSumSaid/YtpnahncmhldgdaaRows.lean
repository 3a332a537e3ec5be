/-
  No cell of these rows narrows 'for every input' (looked for: loops, veiled, ifaces, maps, wideKeys, modest, calm, conditions, laid).
  DERIVED. THE GIVEN ROWS OF THIS SEAT. 8 by the template 'for every input the law returns true; each argument reads behind the call as it read before'; 0 by the template 'total and deterministic' (their statements: YtpnahncmhldgdaaTotals.lean).
  GIVEN WITH THE SEED: the statements are not yours to turn. If you find one false, say at which input.
  Laid BY PROGRAM, IN A SANDBOX (cutbox-rows.mjs): the forced cells as the released guide's own fill.sh prints them over the translation e1ffdc34920fe697… (all of the seat's roots in one cut). By AI agents, Wed Nov 11 2026. No macro, syntax, notation, axiom, sorry.
-/
import Derived.Test.YtpnahncmhldgdaaChecked
import GoSem.Claim
import GoSem.ClaimJoined
import GoSem.ClaimMapViews
import Derived.JoinedTies
import Derived.KernelRfl
namespace Go.Proofs.Ytpnahncmhldgdaa
/- THE CELL 'sum', in the pinned program and in every row, IS THE sha256 OF THE DUMP (.gsa) THAT YtpnahncmhldgdaaProg.lean LOADS. Nothing in Lean hashes anything: it is a label: what it is worth is what the hold of that sum in a sandbox is worth. -/
noncomputable def Try.pinned : Pinned := { name := "ytpnahncmhldgdaa", sum := "e1ffdc34920fe697ba6ddbb199ae09b97de4e7d807bd705e04be7cde46e1d754", checked := Try.checked }
namespace Rows
def none {H : Type} : Left H := { results := [], args := [] }

/-- 'laws.FnRunSerial': WHATEVER THE INPUT: true; the input reads as it did. -/
def fnRunSerialSpec : ChangeSpec := { name := "fnRunSerial", fn := fun _ => fun
  | [d] => { results := [.lit (.bool true)], args := [d] }
  | _ => none }
def fnRunSerialRow : OpenClaim := { program := "ytpnahncmhldgdaa", sum := "e1ffdc34920fe697ba6ddbb199ae09b97de4e7d807bd705e04be7cde46e1d754", func := "loop.example/blockexecutor/laws.FnRunSerial", spec := "fnRunSerial", unfollowed := true, recurses := true, apart := false }
def FnRunSerialSaid : Prop := fnRunSerialRow.holds Try.pinned (OpenSpec.ofChange fnRunSerialSpec)

/-- ITS FALSE NEIGHBOUR: 'it returns false'. Refute it at one input. -/
def fnRunSerialWrong : ChangeSpec := { name := "fnRunSerial", fn := fun _ => fun
  | [d] => { results := [.lit (.bool false)], args := [d] }
  | _ => none }
def FnRunSerialWrongFalsely : Prop := fnRunSerialRow.holds Try.pinned (OpenSpec.ofChange fnRunSerialWrong)

/-- 'laws.FnDoneCount': WHATEVER THE INPUT: true; the input reads as it did. -/
def fnDoneCountSpec : ChangeSpec := { name := "fnDoneCount", fn := fun _ => fun
  | [d] => { results := [.lit (.bool true)], args := [d] }
  | _ => none }
def fnDoneCountRow : OpenClaim := { program := "ytpnahncmhldgdaa", sum := "e1ffdc34920fe697ba6ddbb199ae09b97de4e7d807bd705e04be7cde46e1d754", func := "loop.example/blockexecutor/laws.FnDoneCount", spec := "fnDoneCount", apart := false }
def FnDoneCountSaid : Prop := fnDoneCountRow.holds Try.pinned (OpenSpec.ofChange fnDoneCountSpec)

/-- ITS FALSE NEIGHBOUR: 'it returns false'. Refute it at one input. -/
def fnDoneCountWrong : ChangeSpec := { name := "fnDoneCount", fn := fun _ => fun
  | [d] => { results := [.lit (.bool false)], args := [d] }
  | _ => none }
def FnDoneCountWrongFalsely : Prop := fnDoneCountRow.holds Try.pinned (OpenSpec.ofChange fnDoneCountWrong)

/-- 'laws.FnEffectsSum': WHATEVER THE INPUT: true; the input reads as it did. -/
def fnEffectsSumSpec : ChangeSpec := { name := "fnEffectsSum", fn := fun _ => fun
  | [d] => { results := [.lit (.bool true)], args := [d] }
  | _ => none }
def fnEffectsSumRow : OpenClaim := { program := "ytpnahncmhldgdaa", sum := "e1ffdc34920fe697ba6ddbb199ae09b97de4e7d807bd705e04be7cde46e1d754", func := "loop.example/blockexecutor/laws.FnEffectsSum", spec := "fnEffectsSum", unfollowed := true, recurses := true, apart := false }
def FnEffectsSumSaid : Prop := fnEffectsSumRow.holds Try.pinned (OpenSpec.ofChange fnEffectsSumSpec)

/-- ITS FALSE NEIGHBOUR: 'it returns false'. Refute it at one input. -/
def fnEffectsSumWrong : ChangeSpec := { name := "fnEffectsSum", fn := fun _ => fun
  | [d] => { results := [.lit (.bool false)], args := [d] }
  | _ => none }
def FnEffectsSumWrongFalsely : Prop := fnEffectsSumRow.holds Try.pinned (OpenSpec.ofChange fnEffectsSumWrong)

/-- 'laws.FnSwapTwice': WHATEVER THE INPUT: true; the input reads as it did. -/
def fnSwapTwiceSpec : ChangeSpec := { name := "fnSwapTwice", fn := fun _ => fun
  | [d] => { results := [.lit (.bool true)], args := [d] }
  | _ => none }
def fnSwapTwiceRow : OpenClaim := { program := "ytpnahncmhldgdaa", sum := "e1ffdc34920fe697ba6ddbb199ae09b97de4e7d807bd705e04be7cde46e1d754", func := "loop.example/blockexecutor/laws.FnSwapTwice", spec := "fnSwapTwice", unfollowed := true, recurses := true, apart := false }
def FnSwapTwiceSaid : Prop := fnSwapTwiceRow.holds Try.pinned (OpenSpec.ofChange fnSwapTwiceSpec)

/-- ITS FALSE NEIGHBOUR: 'it returns false'. Refute it at one input. -/
def fnSwapTwiceWrong : ChangeSpec := { name := "fnSwapTwice", fn := fun _ => fun
  | [d] => { results := [.lit (.bool false)], args := [d] }
  | _ => none }
def FnSwapTwiceWrongFalsely : Prop := fnSwapTwiceRow.holds Try.pinned (OpenSpec.ofChange fnSwapTwiceWrong)

/-- 'laws.FnMoveBack': WHATEVER THE INPUT: true; the input reads as it did. -/
def fnMoveBackSpec : ChangeSpec := { name := "fnMoveBack", fn := fun _ => fun
  | [d] => { results := [.lit (.bool true)], args := [d] }
  | _ => none }
def fnMoveBackRow : OpenClaim := { program := "ytpnahncmhldgdaa", sum := "e1ffdc34920fe697ba6ddbb199ae09b97de4e7d807bd705e04be7cde46e1d754", func := "loop.example/blockexecutor/laws.FnMoveBack", spec := "fnMoveBack", unfollowed := true, recurses := true, apart := false }
def FnMoveBackSaid : Prop := fnMoveBackRow.holds Try.pinned (OpenSpec.ofChange fnMoveBackSpec)

/-- ITS FALSE NEIGHBOUR: 'it returns false'. Refute it at one input. -/
def fnMoveBackWrong : ChangeSpec := { name := "fnMoveBack", fn := fun _ => fun
  | [d] => { results := [.lit (.bool false)], args := [d] }
  | _ => none }
def FnMoveBackWrongFalsely : Prop := fnMoveBackRow.holds Try.pinned (OpenSpec.ofChange fnMoveBackWrong)

/-- 'laws.FnExactRunSerial': WHATEVER THE INPUT: true; the input reads as it did. -/
def fnExactRunSerialSpec : ChangeSpec := { name := "fnExactRunSerial", fn := fun _ => fun
  | [d1, d2] => { results := [.lit (.bool true)], args := [d1, d2] }
  | _ => none }
def fnExactRunSerialRow : OpenClaim := { program := "ytpnahncmhldgdaa", sum := "e1ffdc34920fe697ba6ddbb199ae09b97de4e7d807bd705e04be7cde46e1d754", func := "loop.example/blockexecutor/laws.FnExactRunSerial", spec := "fnExactRunSerial", unfollowed := true, recurses := true, apart := false }
def FnExactRunSerialSaid : Prop := fnExactRunSerialRow.holds Try.pinned (OpenSpec.ofChange fnExactRunSerialSpec)

/-- ITS FALSE NEIGHBOUR: 'it returns false'. Refute it at one input. -/
def fnExactRunSerialWrong : ChangeSpec := { name := "fnExactRunSerial", fn := fun _ => fun
  | [d1, d2] => { results := [.lit (.bool false)], args := [d1, d2] }
  | _ => none }
def FnExactRunSerialWrongFalsely : Prop := fnExactRunSerialRow.holds Try.pinned (OpenSpec.ofChange fnExactRunSerialWrong)

/-- 'laws.FnExactDoneCount': WHATEVER THE INPUT: true; the input reads as it did. -/
def fnExactDoneCountSpec : ChangeSpec := { name := "fnExactDoneCount", fn := fun _ => fun
  | [d] => { results := [.lit (.bool true)], args := [d] }
  | _ => none }
def fnExactDoneCountRow : OpenClaim := { program := "ytpnahncmhldgdaa", sum := "e1ffdc34920fe697ba6ddbb199ae09b97de4e7d807bd705e04be7cde46e1d754", func := "loop.example/blockexecutor/laws.FnExactDoneCount", spec := "fnExactDoneCount", apart := false }
def FnExactDoneCountSaid : Prop := fnExactDoneCountRow.holds Try.pinned (OpenSpec.ofChange fnExactDoneCountSpec)

/-- ITS FALSE NEIGHBOUR: 'it returns false'. Refute it at one input. -/
def fnExactDoneCountWrong : ChangeSpec := { name := "fnExactDoneCount", fn := fun _ => fun
  | [d] => { results := [.lit (.bool false)], args := [d] }
  | _ => none }
def FnExactDoneCountWrongFalsely : Prop := fnExactDoneCountRow.holds Try.pinned (OpenSpec.ofChange fnExactDoneCountWrong)

/-- 'laws.FnExactEffectsSum': WHATEVER THE INPUT: true; the input reads as it did. -/
def fnExactEffectsSumSpec : ChangeSpec := { name := "fnExactEffectsSum", fn := fun _ => fun
  | [d] => { results := [.lit (.bool true)], args := [d] }
  | _ => none }
def fnExactEffectsSumRow : OpenClaim := { program := "ytpnahncmhldgdaa", sum := "e1ffdc34920fe697ba6ddbb199ae09b97de4e7d807bd705e04be7cde46e1d754", func := "loop.example/blockexecutor/laws.FnExactEffectsSum", spec := "fnExactEffectsSum", apart := false }
def FnExactEffectsSumSaid : Prop := fnExactEffectsSumRow.holds Try.pinned (OpenSpec.ofChange fnExactEffectsSumSpec)

/-- ITS FALSE NEIGHBOUR: 'it returns false'. Refute it at one input. -/
def fnExactEffectsSumWrong : ChangeSpec := { name := "fnExactEffectsSum", fn := fun _ => fun
  | [d] => { results := [.lit (.bool false)], args := [d] }
  | _ => none }
def FnExactEffectsSumWrongFalsely : Prop := fnExactEffectsSumRow.holds Try.pinned (OpenSpec.ofChange fnExactEffectsSumWrong)

/- THE SECOND FORM. 'bulk': how many values and letters a reading holds, each counted each time it is reached (what is shared counts as often as it is met; a slice's spare places count too). A statement '..UptoSaid' is the law's where the arguments, and the package variables that the reading takes, are together of bulk at most 1048576: NARROWER than '..Said'. Prove '..Said' where nothing that the law and all that it calls make is longer than what came in: it says more and counts as full. Else prove '..UptoSaid'. A law counts once. -/
mutual
def uptoBulk {H : Type} : DataW H → Nat
  | .lit (.string bytes) => bytes.length + 1
  | .lit _ => 1
  | .nil => 1
  | .ptr d => uptoBulk d + 1
  | .slice elems spare => uptoBulkAll elems + uptoBulkAll spare + 1
  | .agg parts => uptoBulkAll parts + 1
  | .iface _ d => uptoBulk d + 1
  | .map entries => uptoBulkEntries entries + 1
  | .held _ => 1
def uptoBulkAll {H : Type} : List (DataW H) → Nat
  | [] => 0
  | d :: r => uptoBulk d + uptoBulkAll r
def uptoBulkEntries {H : Type} : List (Lit × DataW H) → Nat
  | [] => 0
  | x :: r => uptoBulkEntry x + uptoBulkEntries r
def uptoBulkEntry {H : Type} : Lit × DataW H → Nat
  | (.string bytes, d) => bytes.length + uptoBulk d + 1
  | (_, d) => uptoBulk d + 1
 end
def uptoSmall : (H : Type) → List (DataW H) → Bool := fun _ ds => decide (uptoBulkAll ds ≤ 1048576)
def OpenSpec.upto (s : _root_.Go.ChangeSpec) : _root_.Go.OpenSpec := { _root_.Go.OpenSpec.ofChange s with cond := some uptoSmall }

/-- 'laws.FnRunSerial', WHERE WHAT IT READS IS OF BULK AT MOST 1048576: true; the input reads as it did. -/
def fnRunSerialUptoRow : OpenClaim := { program := "ytpnahncmhldgdaa", sum := "e1ffdc34920fe697ba6ddbb199ae09b97de4e7d807bd705e04be7cde46e1d754", func := "loop.example/blockexecutor/laws.FnRunSerial", spec := "fnRunSerial", unfollowed := true, recurses := true, apart := false, narrowed := true }
def FnRunSerialUptoSaid : Prop := fnRunSerialUptoRow.holds Try.pinned (OpenSpec.upto fnRunSerialSpec)

/-- 'laws.FnDoneCount', WHERE WHAT IT READS IS OF BULK AT MOST 1048576: true; the input reads as it did. -/
def fnDoneCountUptoRow : OpenClaim := { program := "ytpnahncmhldgdaa", sum := "e1ffdc34920fe697ba6ddbb199ae09b97de4e7d807bd705e04be7cde46e1d754", func := "loop.example/blockexecutor/laws.FnDoneCount", spec := "fnDoneCount", apart := false, narrowed := true }
def FnDoneCountUptoSaid : Prop := fnDoneCountUptoRow.holds Try.pinned (OpenSpec.upto fnDoneCountSpec)

/-- 'laws.FnEffectsSum', WHERE WHAT IT READS IS OF BULK AT MOST 1048576: true; the input reads as it did. -/
def fnEffectsSumUptoRow : OpenClaim := { program := "ytpnahncmhldgdaa", sum := "e1ffdc34920fe697ba6ddbb199ae09b97de4e7d807bd705e04be7cde46e1d754", func := "loop.example/blockexecutor/laws.FnEffectsSum", spec := "fnEffectsSum", unfollowed := true, recurses := true, apart := false, narrowed := true }
def FnEffectsSumUptoSaid : Prop := fnEffectsSumUptoRow.holds Try.pinned (OpenSpec.upto fnEffectsSumSpec)

/-- 'laws.FnSwapTwice', WHERE WHAT IT READS IS OF BULK AT MOST 1048576: true; the input reads as it did. -/
def fnSwapTwiceUptoRow : OpenClaim := { program := "ytpnahncmhldgdaa", sum := "e1ffdc34920fe697ba6ddbb199ae09b97de4e7d807bd705e04be7cde46e1d754", func := "loop.example/blockexecutor/laws.FnSwapTwice", spec := "fnSwapTwice", unfollowed := true, recurses := true, apart := false, narrowed := true }
def FnSwapTwiceUptoSaid : Prop := fnSwapTwiceUptoRow.holds Try.pinned (OpenSpec.upto fnSwapTwiceSpec)

/-- 'laws.FnMoveBack', WHERE WHAT IT READS IS OF BULK AT MOST 1048576: true; the input reads as it did. -/
def fnMoveBackUptoRow : OpenClaim := { program := "ytpnahncmhldgdaa", sum := "e1ffdc34920fe697ba6ddbb199ae09b97de4e7d807bd705e04be7cde46e1d754", func := "loop.example/blockexecutor/laws.FnMoveBack", spec := "fnMoveBack", unfollowed := true, recurses := true, apart := false, narrowed := true }
def FnMoveBackUptoSaid : Prop := fnMoveBackUptoRow.holds Try.pinned (OpenSpec.upto fnMoveBackSpec)

/-- 'laws.FnExactRunSerial', WHERE WHAT IT READS IS OF BULK AT MOST 1048576: true; the input reads as it did. -/
def fnExactRunSerialUptoRow : OpenClaim := { program := "ytpnahncmhldgdaa", sum := "e1ffdc34920fe697ba6ddbb199ae09b97de4e7d807bd705e04be7cde46e1d754", func := "loop.example/blockexecutor/laws.FnExactRunSerial", spec := "fnExactRunSerial", unfollowed := true, recurses := true, apart := false, narrowed := true }
def FnExactRunSerialUptoSaid : Prop := fnExactRunSerialUptoRow.holds Try.pinned (OpenSpec.upto fnExactRunSerialSpec)

/-- 'laws.FnExactDoneCount', WHERE WHAT IT READS IS OF BULK AT MOST 1048576: true; the input reads as it did. -/
def fnExactDoneCountUptoRow : OpenClaim := { program := "ytpnahncmhldgdaa", sum := "e1ffdc34920fe697ba6ddbb199ae09b97de4e7d807bd705e04be7cde46e1d754", func := "loop.example/blockexecutor/laws.FnExactDoneCount", spec := "fnExactDoneCount", apart := false, narrowed := true }
def FnExactDoneCountUptoSaid : Prop := fnExactDoneCountUptoRow.holds Try.pinned (OpenSpec.upto fnExactDoneCountSpec)

/-- 'laws.FnExactEffectsSum', WHERE WHAT IT READS IS OF BULK AT MOST 1048576: true; the input reads as it did. -/
def fnExactEffectsSumUptoRow : OpenClaim := { program := "ytpnahncmhldgdaa", sum := "e1ffdc34920fe697ba6ddbb199ae09b97de4e7d807bd705e04be7cde46e1d754", func := "loop.example/blockexecutor/laws.FnExactEffectsSum", spec := "fnExactEffectsSum", apart := false, narrowed := true }
def FnExactEffectsSumUptoSaid : Prop := fnExactEffectsSumUptoRow.holds Try.pinned (OpenSpec.upto fnExactEffectsSumSpec)

end Rows
end Go.Proofs.Ytpnahncmhldgdaa
