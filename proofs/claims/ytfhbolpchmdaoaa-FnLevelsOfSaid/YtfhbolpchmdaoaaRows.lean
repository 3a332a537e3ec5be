/-
  No cell of these rows narrows 'for every input' (looked for: loops, veiled, ifaces, maps, wideKeys, modest, calm, conditions, laid).
  DERIVED. THE GIVEN ROWS OF THIS SEAT. 11 by the template 'for every input the law returns true; each argument reads behind the call as it read before'; 0 by the template 'total and deterministic' (their statements: YtfhbolpchmdaoaaTotals.lean).
  GIVEN WITH THE SEED: the statements are not yours to turn. If you find one false, say at which input.
  Laid BY PROGRAM, IN A SANDBOX (cutbox-rows.mjs): the forced cells as the released guide's own fill.sh prints them over the translation 98a7bd242e1f8c53… (all of the seat's roots in one cut). By AI agents, Wed Nov 11 2026. No macro, syntax, notation, axiom, sorry.
-/
import Derived.Test.YtfhbolpchmdaoaaChecked
import GoSem.Claim
import GoSem.ClaimJoined
import GoSem.ClaimMapViews
import Derived.JoinedTies
import Derived.KernelRfl
namespace Go.Proofs.Ytfhbolpchmdaoaa
/- THE CELL 'sum', in the pinned program and in every row, IS THE sha256 OF THE DUMP (.gsa) THAT YtfhbolpchmdaoaaProg.lean LOADS. Nothing in Lean hashes anything: it is a label: what it is worth is what the hold of that sum in a sandbox is worth. -/
noncomputable def Try.pinned : Pinned := { name := "ytfhbolpchmdaoaa", sum := "98a7bd242e1f8c53d06d5a9a03ee78974ebb52d4ed28881db6e3e7c92082984f", checked := Try.checked }
namespace Rows
def none {H : Type} : Left H := { results := [], args := [] }

/-- 'laws.FnConflict': WHATEVER THE INPUT: true; the input reads as it did. -/
def fnConflictSpec : ChangeSpec := { name := "fnConflict", fn := fun _ => fun
  | [d] => { results := [.lit (.bool true)], args := [d] }
  | _ => none }
def fnConflictRow : OpenClaim := { program := "ytfhbolpchmdaoaa", sum := "98a7bd242e1f8c53d06d5a9a03ee78974ebb52d4ed28881db6e3e7c92082984f", func := "loop.example/blockexecutor/laws.FnConflict", spec := "fnConflict", unfollowed := true, recurses := true, apart := false }
def FnConflictSaid : Prop := fnConflictRow.holds Try.pinned (OpenSpec.ofChange fnConflictSpec)

/-- ITS FALSE NEIGHBOUR: 'it returns false'. Refute it at one input. -/
def fnConflictWrong : ChangeSpec := { name := "fnConflict", fn := fun _ => fun
  | [d] => { results := [.lit (.bool false)], args := [d] }
  | _ => none }
def FnConflictWrongFalsely : Prop := fnConflictRow.holds Try.pinned (OpenSpec.ofChange fnConflictWrong)

/-- 'laws.FnLevelsOf': WHATEVER THE INPUT: true; the input reads as it did. -/
def fnLevelsOfSpec : ChangeSpec := { name := "fnLevelsOf", fn := fun _ => fun
  | [d] => { results := [.lit (.bool true)], args := [d] }
  | _ => none }
def fnLevelsOfRow : OpenClaim := { program := "ytfhbolpchmdaoaa", sum := "98a7bd242e1f8c53d06d5a9a03ee78974ebb52d4ed28881db6e3e7c92082984f", func := "loop.example/blockexecutor/laws.FnLevelsOf", spec := "fnLevelsOf", unfollowed := true, recurses := true, apart := false }
def FnLevelsOfSaid : Prop := fnLevelsOfRow.holds Try.pinned (OpenSpec.ofChange fnLevelsOfSpec)

/-- ITS FALSE NEIGHBOUR: 'it returns false'. Refute it at one input. -/
def fnLevelsOfWrong : ChangeSpec := { name := "fnLevelsOf", fn := fun _ => fun
  | [d] => { results := [.lit (.bool false)], args := [d] }
  | _ => none }
def FnLevelsOfWrongFalsely : Prop := fnLevelsOfRow.holds Try.pinned (OpenSpec.ofChange fnLevelsOfWrong)

/-- 'laws.FnOrderFits': WHATEVER THE INPUT: true; the input reads as it did. -/
def fnOrderFitsSpec : ChangeSpec := { name := "fnOrderFits", fn := fun _ => fun
  | [d] => { results := [.lit (.bool true)], args := [d] }
  | _ => none }
def fnOrderFitsRow : OpenClaim := { program := "ytfhbolpchmdaoaa", sum := "98a7bd242e1f8c53d06d5a9a03ee78974ebb52d4ed28881db6e3e7c92082984f", func := "loop.example/blockexecutor/laws.FnOrderFits", spec := "fnOrderFits", unfollowed := true, recurses := true, apart := false }
def FnOrderFitsSaid : Prop := fnOrderFitsRow.holds Try.pinned (OpenSpec.ofChange fnOrderFitsSpec)

/-- ITS FALSE NEIGHBOUR: 'it returns false'. Refute it at one input. -/
def fnOrderFitsWrong : ChangeSpec := { name := "fnOrderFits", fn := fun _ => fun
  | [d] => { results := [.lit (.bool false)], args := [d] }
  | _ => none }
def FnOrderFitsWrongFalsely : Prop := fnOrderFitsRow.holds Try.pinned (OpenSpec.ofChange fnOrderFitsWrong)

/-- 'laws.FnRunOrder': WHATEVER THE INPUT: true; the input reads as it did. -/
def fnRunOrderSpec : ChangeSpec := { name := "fnRunOrder", fn := fun _ => fun
  | [d] => { results := [.lit (.bool true)], args := [d] }
  | _ => none }
def fnRunOrderRow : OpenClaim := { program := "ytfhbolpchmdaoaa", sum := "98a7bd242e1f8c53d06d5a9a03ee78974ebb52d4ed28881db6e3e7c92082984f", func := "loop.example/blockexecutor/laws.FnRunOrder", spec := "fnRunOrder", unfollowed := true, recurses := true, apart := false }
def FnRunOrderSaid : Prop := fnRunOrderRow.holds Try.pinned (OpenSpec.ofChange fnRunOrderSpec)

/-- ITS FALSE NEIGHBOUR: 'it returns false'. Refute it at one input. -/
def fnRunOrderWrong : ChangeSpec := { name := "fnRunOrder", fn := fun _ => fun
  | [d] => { results := [.lit (.bool false)], args := [d] }
  | _ => none }
def FnRunOrderWrongFalsely : Prop := fnRunOrderRow.holds Try.pinned (OpenSpec.ofChange fnRunOrderWrong)

/-- 'laws.FnLevelOrder': WHATEVER THE INPUT: true; the input reads as it did. -/
def fnLevelOrderSpec : ChangeSpec := { name := "fnLevelOrder", fn := fun _ => fun
  | [d] => { results := [.lit (.bool true)], args := [d] }
  | _ => none }
def fnLevelOrderRow : OpenClaim := { program := "ytfhbolpchmdaoaa", sum := "98a7bd242e1f8c53d06d5a9a03ee78974ebb52d4ed28881db6e3e7c92082984f", func := "loop.example/blockexecutor/laws.FnLevelOrder", spec := "fnLevelOrder", unfollowed := true, recurses := true, apart := false }
def FnLevelOrderSaid : Prop := fnLevelOrderRow.holds Try.pinned (OpenSpec.ofChange fnLevelOrderSpec)

/-- ITS FALSE NEIGHBOUR: 'it returns false'. Refute it at one input. -/
def fnLevelOrderWrong : ChangeSpec := { name := "fnLevelOrder", fn := fun _ => fun
  | [d] => { results := [.lit (.bool false)], args := [d] }
  | _ => none }
def FnLevelOrderWrongFalsely : Prop := fnLevelOrderRow.holds Try.pinned (OpenSpec.ofChange fnLevelOrderWrong)

/-- 'laws.FnConflictSelf': WHATEVER THE INPUT: true; the input reads as it did. -/
def fnConflictSelfSpec : ChangeSpec := { name := "fnConflictSelf", fn := fun _ => fun
  | [d] => { results := [.lit (.bool true)], args := [d] }
  | _ => none }
def fnConflictSelfRow : OpenClaim := { program := "ytfhbolpchmdaoaa", sum := "98a7bd242e1f8c53d06d5a9a03ee78974ebb52d4ed28881db6e3e7c92082984f", func := "loop.example/blockexecutor/laws.FnConflictSelf", spec := "fnConflictSelf", unfollowed := true, recurses := true, apart := false }
def FnConflictSelfSaid : Prop := fnConflictSelfRow.holds Try.pinned (OpenSpec.ofChange fnConflictSelfSpec)

/-- ITS FALSE NEIGHBOUR: 'it returns false'. Refute it at one input. -/
def fnConflictSelfWrong : ChangeSpec := { name := "fnConflictSelf", fn := fun _ => fun
  | [d] => { results := [.lit (.bool false)], args := [d] }
  | _ => none }
def FnConflictSelfWrongFalsely : Prop := fnConflictSelfRow.holds Try.pinned (OpenSpec.ofChange fnConflictSelfWrong)

/-- 'laws.FnExactConflict': WHATEVER THE INPUT: true; the input reads as it did. -/
def fnExactConflictSpec : ChangeSpec := { name := "fnExactConflict", fn := fun _ => fun
  | [d1, d2] => { results := [.lit (.bool true)], args := [d1, d2] }
  | _ => none }
def fnExactConflictRow : OpenClaim := { program := "ytfhbolpchmdaoaa", sum := "98a7bd242e1f8c53d06d5a9a03ee78974ebb52d4ed28881db6e3e7c92082984f", func := "loop.example/blockexecutor/laws.FnExactConflict", spec := "fnExactConflict", unfollowed := true, recurses := true, apart := false }
def FnExactConflictSaid : Prop := fnExactConflictRow.holds Try.pinned (OpenSpec.ofChange fnExactConflictSpec)

/-- ITS FALSE NEIGHBOUR: 'it returns false'. Refute it at one input. -/
def fnExactConflictWrong : ChangeSpec := { name := "fnExactConflict", fn := fun _ => fun
  | [d1, d2] => { results := [.lit (.bool false)], args := [d1, d2] }
  | _ => none }
def FnExactConflictWrongFalsely : Prop := fnExactConflictRow.holds Try.pinned (OpenSpec.ofChange fnExactConflictWrong)

/-- 'laws.FnExactLevelsOf': WHATEVER THE INPUT: true; the input reads as it did. -/
def fnExactLevelsOfSpec : ChangeSpec := { name := "fnExactLevelsOf", fn := fun _ => fun
  | [d] => { results := [.lit (.bool true)], args := [d] }
  | _ => none }
def fnExactLevelsOfRow : OpenClaim := { program := "ytfhbolpchmdaoaa", sum := "98a7bd242e1f8c53d06d5a9a03ee78974ebb52d4ed28881db6e3e7c92082984f", func := "loop.example/blockexecutor/laws.FnExactLevelsOf", spec := "fnExactLevelsOf", unfollowed := true, recurses := true, apart := false }
def FnExactLevelsOfSaid : Prop := fnExactLevelsOfRow.holds Try.pinned (OpenSpec.ofChange fnExactLevelsOfSpec)

/-- ITS FALSE NEIGHBOUR: 'it returns false'. Refute it at one input. -/
def fnExactLevelsOfWrong : ChangeSpec := { name := "fnExactLevelsOf", fn := fun _ => fun
  | [d] => { results := [.lit (.bool false)], args := [d] }
  | _ => none }
def FnExactLevelsOfWrongFalsely : Prop := fnExactLevelsOfRow.holds Try.pinned (OpenSpec.ofChange fnExactLevelsOfWrong)

/-- 'laws.FnExactOrderFits': WHATEVER THE INPUT: true; the input reads as it did. -/
def fnExactOrderFitsSpec : ChangeSpec := { name := "fnExactOrderFits", fn := fun _ => fun
  | [d1, d2] => { results := [.lit (.bool true)], args := [d1, d2] }
  | _ => none }
def fnExactOrderFitsRow : OpenClaim := { program := "ytfhbolpchmdaoaa", sum := "98a7bd242e1f8c53d06d5a9a03ee78974ebb52d4ed28881db6e3e7c92082984f", func := "loop.example/blockexecutor/laws.FnExactOrderFits", spec := "fnExactOrderFits", unfollowed := true, recurses := true, apart := false }
def FnExactOrderFitsSaid : Prop := fnExactOrderFitsRow.holds Try.pinned (OpenSpec.ofChange fnExactOrderFitsSpec)

/-- ITS FALSE NEIGHBOUR: 'it returns false'. Refute it at one input. -/
def fnExactOrderFitsWrong : ChangeSpec := { name := "fnExactOrderFits", fn := fun _ => fun
  | [d1, d2] => { results := [.lit (.bool false)], args := [d1, d2] }
  | _ => none }
def FnExactOrderFitsWrongFalsely : Prop := fnExactOrderFitsRow.holds Try.pinned (OpenSpec.ofChange fnExactOrderFitsWrong)

/-- 'laws.FnExactRunOrder': WHATEVER THE INPUT: true; the input reads as it did. -/
def fnExactRunOrderSpec : ChangeSpec := { name := "fnExactRunOrder", fn := fun _ => fun
  | [d1, d2, d3] => { results := [.lit (.bool true)], args := [d1, d2, d3] }
  | _ => none }
def fnExactRunOrderRow : OpenClaim := { program := "ytfhbolpchmdaoaa", sum := "98a7bd242e1f8c53d06d5a9a03ee78974ebb52d4ed28881db6e3e7c92082984f", func := "loop.example/blockexecutor/laws.FnExactRunOrder", spec := "fnExactRunOrder", unfollowed := true, recurses := true, apart := false }
def FnExactRunOrderSaid : Prop := fnExactRunOrderRow.holds Try.pinned (OpenSpec.ofChange fnExactRunOrderSpec)

/-- ITS FALSE NEIGHBOUR: 'it returns false'. Refute it at one input. -/
def fnExactRunOrderWrong : ChangeSpec := { name := "fnExactRunOrder", fn := fun _ => fun
  | [d1, d2, d3] => { results := [.lit (.bool false)], args := [d1, d2, d3] }
  | _ => none }
def FnExactRunOrderWrongFalsely : Prop := fnExactRunOrderRow.holds Try.pinned (OpenSpec.ofChange fnExactRunOrderWrong)

/-- 'laws.FnExactLevelOrder': WHATEVER THE INPUT: true; the input reads as it did. -/
def fnExactLevelOrderSpec : ChangeSpec := { name := "fnExactLevelOrder", fn := fun _ => fun
  | [d] => { results := [.lit (.bool true)], args := [d] }
  | _ => none }
def fnExactLevelOrderRow : OpenClaim := { program := "ytfhbolpchmdaoaa", sum := "98a7bd242e1f8c53d06d5a9a03ee78974ebb52d4ed28881db6e3e7c92082984f", func := "loop.example/blockexecutor/laws.FnExactLevelOrder", spec := "fnExactLevelOrder", unfollowed := true, recurses := true, apart := false }
def FnExactLevelOrderSaid : Prop := fnExactLevelOrderRow.holds Try.pinned (OpenSpec.ofChange fnExactLevelOrderSpec)

/-- ITS FALSE NEIGHBOUR: 'it returns false'. Refute it at one input. -/
def fnExactLevelOrderWrong : ChangeSpec := { name := "fnExactLevelOrder", fn := fun _ => fun
  | [d] => { results := [.lit (.bool false)], args := [d] }
  | _ => none }
def FnExactLevelOrderWrongFalsely : Prop := fnExactLevelOrderRow.holds Try.pinned (OpenSpec.ofChange fnExactLevelOrderWrong)

/- THE SECOND FORM. 'bulk': how many values and letters a reading holds, each counted each time it is reached (what is shared counts as often as it is met; a slice's spare places count too). A statement '..UptoSaid' is the law's where the arguments, and the package variables that the reading takes, are together of bulk at most 1048576: NARROWER than '..Said'. Prove '..Said' where nothing that the law and all that it calls make is longer than what came in: it says more and counts as full. Else prove '..UptoSaid'. A law counts once. -/
mutual
def uptoBulk {H : Type} : DataW H → Nat
  | .lit (.string bytes) => bytes.length + 1
  | .lit _ => 1
  | .nil => 1
  | .ptr d => uptoBulk d + 1
  | .slice elems spare => uptoBulkAll elems + uptoBulkAll spare + 1
  | .agg parts => uptoBulkAll parts + 1
  | .iface _ d => uptoBulk d + 1
  | .map entries => uptoBulkEntries entries + 1
  | .held _ => 1
def uptoBulkAll {H : Type} : List (DataW H) → Nat
  | [] => 0
  | d :: r => uptoBulk d + uptoBulkAll r
def uptoBulkEntries {H : Type} : List (Lit × DataW H) → Nat
  | [] => 0
  | x :: r => uptoBulkEntry x + uptoBulkEntries r
def uptoBulkEntry {H : Type} : Lit × DataW H → Nat
  | (.string bytes, d) => bytes.length + uptoBulk d + 1
  | (_, d) => uptoBulk d + 1
 end
def uptoSmall : (H : Type) → List (DataW H) → Bool := fun _ ds => decide (uptoBulkAll ds ≤ 1048576)
def OpenSpec.upto (s : _root_.Go.ChangeSpec) : _root_.Go.OpenSpec := { _root_.Go.OpenSpec.ofChange s with cond := some uptoSmall }

/-- 'laws.FnConflict', WHERE WHAT IT READS IS OF BULK AT MOST 1048576: true; the input reads as it did. -/
def fnConflictUptoRow : OpenClaim := { program := "ytfhbolpchmdaoaa", sum := "98a7bd242e1f8c53d06d5a9a03ee78974ebb52d4ed28881db6e3e7c92082984f", func := "loop.example/blockexecutor/laws.FnConflict", spec := "fnConflict", unfollowed := true, recurses := true, apart := false, narrowed := true }
def FnConflictUptoSaid : Prop := fnConflictUptoRow.holds Try.pinned (OpenSpec.upto fnConflictSpec)

/-- 'laws.FnLevelsOf', WHERE WHAT IT READS IS OF BULK AT MOST 1048576: true; the input reads as it did. -/
def fnLevelsOfUptoRow : OpenClaim := { program := "ytfhbolpchmdaoaa", sum := "98a7bd242e1f8c53d06d5a9a03ee78974ebb52d4ed28881db6e3e7c92082984f", func := "loop.example/blockexecutor/laws.FnLevelsOf", spec := "fnLevelsOf", unfollowed := true, recurses := true, apart := false, narrowed := true }
def FnLevelsOfUptoSaid : Prop := fnLevelsOfUptoRow.holds Try.pinned (OpenSpec.upto fnLevelsOfSpec)

/-- 'laws.FnOrderFits', WHERE WHAT IT READS IS OF BULK AT MOST 1048576: true; the input reads as it did. -/
def fnOrderFitsUptoRow : OpenClaim := { program := "ytfhbolpchmdaoaa", sum := "98a7bd242e1f8c53d06d5a9a03ee78974ebb52d4ed28881db6e3e7c92082984f", func := "loop.example/blockexecutor/laws.FnOrderFits", spec := "fnOrderFits", unfollowed := true, recurses := true, apart := false, narrowed := true }
def FnOrderFitsUptoSaid : Prop := fnOrderFitsUptoRow.holds Try.pinned (OpenSpec.upto fnOrderFitsSpec)

/-- 'laws.FnRunOrder', WHERE WHAT IT READS IS OF BULK AT MOST 1048576: true; the input reads as it did. -/
def fnRunOrderUptoRow : OpenClaim := { program := "ytfhbolpchmdaoaa", sum := "98a7bd242e1f8c53d06d5a9a03ee78974ebb52d4ed28881db6e3e7c92082984f", func := "loop.example/blockexecutor/laws.FnRunOrder", spec := "fnRunOrder", unfollowed := true, recurses := true, apart := false, narrowed := true }
def FnRunOrderUptoSaid : Prop := fnRunOrderUptoRow.holds Try.pinned (OpenSpec.upto fnRunOrderSpec)

/-- 'laws.FnLevelOrder', WHERE WHAT IT READS IS OF BULK AT MOST 1048576: true; the input reads as it did. -/
def fnLevelOrderUptoRow : OpenClaim := { program := "ytfhbolpchmdaoaa", sum := "98a7bd242e1f8c53d06d5a9a03ee78974ebb52d4ed28881db6e3e7c92082984f", func := "loop.example/blockexecutor/laws.FnLevelOrder", spec := "fnLevelOrder", unfollowed := true, recurses := true, apart := false, narrowed := true }
def FnLevelOrderUptoSaid : Prop := fnLevelOrderUptoRow.holds Try.pinned (OpenSpec.upto fnLevelOrderSpec)

/-- 'laws.FnConflictSelf', WHERE WHAT IT READS IS OF BULK AT MOST 1048576: true; the input reads as it did. -/
def fnConflictSelfUptoRow : OpenClaim := { program := "ytfhbolpchmdaoaa", sum := "98a7bd242e1f8c53d06d5a9a03ee78974ebb52d4ed28881db6e3e7c92082984f", func := "loop.example/blockexecutor/laws.FnConflictSelf", spec := "fnConflictSelf", unfollowed := true, recurses := true, apart := false, narrowed := true }
def FnConflictSelfUptoSaid : Prop := fnConflictSelfUptoRow.holds Try.pinned (OpenSpec.upto fnConflictSelfSpec)

/-- 'laws.FnExactConflict', WHERE WHAT IT READS IS OF BULK AT MOST 1048576: true; the input reads as it did. -/
def fnExactConflictUptoRow : OpenClaim := { program := "ytfhbolpchmdaoaa", sum := "98a7bd242e1f8c53d06d5a9a03ee78974ebb52d4ed28881db6e3e7c92082984f", func := "loop.example/blockexecutor/laws.FnExactConflict", spec := "fnExactConflict", unfollowed := true, recurses := true, apart := false, narrowed := true }
def FnExactConflictUptoSaid : Prop := fnExactConflictUptoRow.holds Try.pinned (OpenSpec.upto fnExactConflictSpec)

/-- 'laws.FnExactLevelsOf', WHERE WHAT IT READS IS OF BULK AT MOST 1048576: true; the input reads as it did. -/
def fnExactLevelsOfUptoRow : OpenClaim := { program := "ytfhbolpchmdaoaa", sum := "98a7bd242e1f8c53d06d5a9a03ee78974ebb52d4ed28881db6e3e7c92082984f", func := "loop.example/blockexecutor/laws.FnExactLevelsOf", spec := "fnExactLevelsOf", unfollowed := true, recurses := true, apart := false, narrowed := true }
def FnExactLevelsOfUptoSaid : Prop := fnExactLevelsOfUptoRow.holds Try.pinned (OpenSpec.upto fnExactLevelsOfSpec)

/-- 'laws.FnExactOrderFits', WHERE WHAT IT READS IS OF BULK AT MOST 1048576: true; the input reads as it did. -/
def fnExactOrderFitsUptoRow : OpenClaim := { program := "ytfhbolpchmdaoaa", sum := "98a7bd242e1f8c53d06d5a9a03ee78974ebb52d4ed28881db6e3e7c92082984f", func := "loop.example/blockexecutor/laws.FnExactOrderFits", spec := "fnExactOrderFits", unfollowed := true, recurses := true, apart := false, narrowed := true }
def FnExactOrderFitsUptoSaid : Prop := fnExactOrderFitsUptoRow.holds Try.pinned (OpenSpec.upto fnExactOrderFitsSpec)

/-- 'laws.FnExactRunOrder', WHERE WHAT IT READS IS OF BULK AT MOST 1048576: true; the input reads as it did. -/
def fnExactRunOrderUptoRow : OpenClaim := { program := "ytfhbolpchmdaoaa", sum := "98a7bd242e1f8c53d06d5a9a03ee78974ebb52d4ed28881db6e3e7c92082984f", func := "loop.example/blockexecutor/laws.FnExactRunOrder", spec := "fnExactRunOrder", unfollowed := true, recurses := true, apart := false, narrowed := true }
def FnExactRunOrderUptoSaid : Prop := fnExactRunOrderUptoRow.holds Try.pinned (OpenSpec.upto fnExactRunOrderSpec)

/-- 'laws.FnExactLevelOrder', WHERE WHAT IT READS IS OF BULK AT MOST 1048576: true; the input reads as it did. -/
def fnExactLevelOrderUptoRow : OpenClaim := { program := "ytfhbolpchmdaoaa", sum := "98a7bd242e1f8c53d06d5a9a03ee78974ebb52d4ed28881db6e3e7c92082984f", func := "loop.example/blockexecutor/laws.FnExactLevelOrder", spec := "fnExactLevelOrder", unfollowed := true, recurses := true, apart := false, narrowed := true }
def FnExactLevelOrderUptoSaid : Prop := fnExactLevelOrderUptoRow.holds Try.pinned (OpenSpec.upto fnExactLevelOrderSpec)

end Rows
end Go.Proofs.Ytfhbolpchmdaoaa
