/-
  No cell of these rows narrows 'for every input' (looked for: loops, veiled, ifaces, maps, wideKeys, modest, calm, conditions, laid).
  DERIVED. THE GIVEN ROWS OF THIS SEAT. 8 by the template 'for every input the law returns true; each argument reads behind the call as it read before'; 0 by the template 'total and deterministic' (their statements: YtaaffpolmecicaaTotals.lean).
  GIVEN WITH THE SEED: the statements are not yours to turn. If you find one false, say at which input.
  Laid BY PROGRAM, IN A SANDBOX (cutbox-rows.mjs): the forced cells as the released guide's own fill.sh prints them over the translation 928fec6d96b67d3d… (all of the seat's roots in one cut). By AI agents, Wed Nov 11 2026. No macro, syntax, notation, axiom, sorry.
-/
import Derived.Test.YtaaffpolmecicaaChecked
import GoSem.Claim
import GoSem.ClaimJoined
import GoSem.ClaimMapViews
import Derived.JoinedTies
import Derived.KernelRfl
namespace Go.Proofs.Ytaaffpolmecicaa
/- THE CELL 'sum', in the pinned program and in every row, IS THE sha256 OF THE DUMP (.gsa) THAT YtaaffpolmecicaaProg.lean LOADS. Nothing in Lean hashes anything: it is a label: what it is worth is what the hold of that sum in a sandbox is worth. -/
noncomputable def Try.pinned : Pinned := { name := "ytaaffpolmecicaa", sum := "928fec6d96b67d3d9d594798fb197a208fe9a127f48788a0e804525bd217f561", checked := Try.checked }
namespace Rows
def none {H : Type} : Left H := { results := [], args := [] }

/-- 'laws.FnExactBlockValid': WHATEVER THE INPUT: true; the input reads as it did. -/
def fnExactBlockValidSpec : ChangeSpec := { name := "fnExactBlockValid", fn := fun _ => fun
  | [d] => { results := [.lit (.bool true)], args := [d] }
  | _ => none }
def fnExactBlockValidRow : OpenClaim := { program := "ytaaffpolmecicaa", sum := "928fec6d96b67d3d9d594798fb197a208fe9a127f48788a0e804525bd217f561", func := "loop.example/blockexecutor/laws.FnExactBlockValid", spec := "fnExactBlockValid", unfollowed := true, recurses := true, apart := false }
def FnExactBlockValidSaid : Prop := fnExactBlockValidRow.holds Try.pinned (OpenSpec.ofChange fnExactBlockValidSpec)

/-- ITS FALSE NEIGHBOUR: 'it returns false'. Refute it at one input. -/
def fnExactBlockValidWrong : ChangeSpec := { name := "fnExactBlockValid", fn := fun _ => fun
  | [d] => { results := [.lit (.bool false)], args := [d] }
  | _ => none }
def FnExactBlockValidWrongFalsely : Prop := fnExactBlockValidRow.holds Try.pinned (OpenSpec.ofChange fnExactBlockValidWrong)

/-- 'laws.FnExactBlockSum': WHATEVER THE INPUT: true; the input reads as it did. -/
def fnExactBlockSumSpec : ChangeSpec := { name := "fnExactBlockSum", fn := fun _ => fun
  | [d] => { results := [.lit (.bool true)], args := [d] }
  | _ => none }
def fnExactBlockSumRow : OpenClaim := { program := "ytaaffpolmecicaa", sum := "928fec6d96b67d3d9d594798fb197a208fe9a127f48788a0e804525bd217f561", func := "loop.example/blockexecutor/laws.FnExactBlockSum", spec := "fnExactBlockSum", unfollowed := true, recurses := true, apart := false }
def FnExactBlockSumSaid : Prop := fnExactBlockSumRow.holds Try.pinned (OpenSpec.ofChange fnExactBlockSumSpec)

/-- ITS FALSE NEIGHBOUR: 'it returns false'. Refute it at one input. -/
def fnExactBlockSumWrong : ChangeSpec := { name := "fnExactBlockSum", fn := fun _ => fun
  | [d] => { results := [.lit (.bool false)], args := [d] }
  | _ => none }
def FnExactBlockSumWrongFalsely : Prop := fnExactBlockSumRow.holds Try.pinned (OpenSpec.ofChange fnExactBlockSumWrong)

/-- 'laws.FnExactFirstBlock': WHATEVER THE INPUT: true; the input reads as it did. -/
def fnExactFirstBlockSpec : ChangeSpec := { name := "fnExactFirstBlock", fn := fun _ => fun
  | [d] => { results := [.lit (.bool true)], args := [d] }
  | _ => none }
def fnExactFirstBlockRow : OpenClaim := { program := "ytaaffpolmecicaa", sum := "928fec6d96b67d3d9d594798fb197a208fe9a127f48788a0e804525bd217f561", func := "loop.example/blockexecutor/laws.FnExactFirstBlock", spec := "fnExactFirstBlock", unfollowed := true, recurses := true, apart := false }
def FnExactFirstBlockSaid : Prop := fnExactFirstBlockRow.holds Try.pinned (OpenSpec.ofChange fnExactFirstBlockSpec)

/-- ITS FALSE NEIGHBOUR: 'it returns false'. Refute it at one input. -/
def fnExactFirstBlockWrong : ChangeSpec := { name := "fnExactFirstBlock", fn := fun _ => fun
  | [d] => { results := [.lit (.bool false)], args := [d] }
  | _ => none }
def FnExactFirstBlockWrongFalsely : Prop := fnExactFirstBlockRow.holds Try.pinned (OpenSpec.ofChange fnExactFirstBlockWrong)

/-- 'laws.FnBlockValid': WHATEVER THE INPUT: true; the input reads as it did. -/
def fnBlockValidSpec : ChangeSpec := { name := "fnBlockValid", fn := fun _ => fun
  | [d] => { results := [.lit (.bool true)], args := [d] }
  | _ => none }
def fnBlockValidRow : OpenClaim := { program := "ytaaffpolmecicaa", sum := "928fec6d96b67d3d9d594798fb197a208fe9a127f48788a0e804525bd217f561", func := "loop.example/blockexecutor/laws.FnBlockValid", spec := "fnBlockValid", unfollowed := true, recurses := true, apart := false }
def FnBlockValidSaid : Prop := fnBlockValidRow.holds Try.pinned (OpenSpec.ofChange fnBlockValidSpec)

/-- ITS FALSE NEIGHBOUR: 'it returns false'. Refute it at one input. -/
def fnBlockValidWrong : ChangeSpec := { name := "fnBlockValid", fn := fun _ => fun
  | [d] => { results := [.lit (.bool false)], args := [d] }
  | _ => none }
def FnBlockValidWrongFalsely : Prop := fnBlockValidRow.holds Try.pinned (OpenSpec.ofChange fnBlockValidWrong)

/-- 'laws.FnBlockSum': WHATEVER THE INPUT: true; the input reads as it did. -/
def fnBlockSumSpec : ChangeSpec := { name := "fnBlockSum", fn := fun _ => fun
  | [d] => { results := [.lit (.bool true)], args := [d] }
  | _ => none }
def fnBlockSumRow : OpenClaim := { program := "ytaaffpolmecicaa", sum := "928fec6d96b67d3d9d594798fb197a208fe9a127f48788a0e804525bd217f561", func := "loop.example/blockexecutor/laws.FnBlockSum", spec := "fnBlockSum", unfollowed := true, recurses := true, apart := false }
def FnBlockSumSaid : Prop := fnBlockSumRow.holds Try.pinned (OpenSpec.ofChange fnBlockSumSpec)

/-- ITS FALSE NEIGHBOUR: 'it returns false'. Refute it at one input. -/
def fnBlockSumWrong : ChangeSpec := { name := "fnBlockSum", fn := fun _ => fun
  | [d] => { results := [.lit (.bool false)], args := [d] }
  | _ => none }
def FnBlockSumWrongFalsely : Prop := fnBlockSumRow.holds Try.pinned (OpenSpec.ofChange fnBlockSumWrong)

/-- 'laws.FnFirstBlock': WHATEVER THE INPUT: true; the input reads as it did. -/
def fnFirstBlockSpec : ChangeSpec := { name := "fnFirstBlock", fn := fun _ => fun
  | [d] => { results := [.lit (.bool true)], args := [d] }
  | _ => none }
def fnFirstBlockRow : OpenClaim := { program := "ytaaffpolmecicaa", sum := "928fec6d96b67d3d9d594798fb197a208fe9a127f48788a0e804525bd217f561", func := "loop.example/blockexecutor/laws.FnFirstBlock", spec := "fnFirstBlock", unfollowed := true, recurses := true, apart := false }
def FnFirstBlockSaid : Prop := fnFirstBlockRow.holds Try.pinned (OpenSpec.ofChange fnFirstBlockSpec)

/-- ITS FALSE NEIGHBOUR: 'it returns false'. Refute it at one input. -/
def fnFirstBlockWrong : ChangeSpec := { name := "fnFirstBlock", fn := fun _ => fun
  | [d] => { results := [.lit (.bool false)], args := [d] }
  | _ => none }
def FnFirstBlockWrongFalsely : Prop := fnFirstBlockRow.holds Try.pinned (OpenSpec.ofChange fnFirstBlockWrong)

/-- 'laws.FnPutVersions': WHATEVER THE INPUT: true; the input reads as it did. -/
def fnPutVersionsSpec : ChangeSpec := { name := "fnPutVersions", fn := fun _ => fun
  | [d] => { results := [.lit (.bool true)], args := [d] }
  | _ => none }
def fnPutVersionsRow : OpenClaim := { program := "ytaaffpolmecicaa", sum := "928fec6d96b67d3d9d594798fb197a208fe9a127f48788a0e804525bd217f561", func := "loop.example/blockexecutor/laws.FnPutVersions", spec := "fnPutVersions", inPlace := ["slices.overlaps[loop.example/blockexecutor/impl.Version]"], unfollowed := true, recurses := true, apart := false }
def FnPutVersionsSaid : Prop := fnPutVersionsRow.holds Try.pinned (OpenSpec.ofChange fnPutVersionsSpec)

/-- ITS FALSE NEIGHBOUR: 'it returns false'. Refute it at one input. -/
def fnPutVersionsWrong : ChangeSpec := { name := "fnPutVersions", fn := fun _ => fun
  | [d] => { results := [.lit (.bool false)], args := [d] }
  | _ => none }
def FnPutVersionsWrongFalsely : Prop := fnPutVersionsRow.holds Try.pinned (OpenSpec.ofChange fnPutVersionsWrong)

/-- 'laws.FnExactPutVersions': WHATEVER THE INPUT: true; the input reads as it did. -/
def fnExactPutVersionsSpec : ChangeSpec := { name := "fnExactPutVersions", fn := fun _ => fun
  | [d1, d2, d3] => { results := [.lit (.bool true)], args := [d1, d2, d3] }
  | _ => none }
def fnExactPutVersionsRow : OpenClaim := { program := "ytaaffpolmecicaa", sum := "928fec6d96b67d3d9d594798fb197a208fe9a127f48788a0e804525bd217f561", func := "loop.example/blockexecutor/laws.FnExactPutVersions", spec := "fnExactPutVersions", inPlace := ["slices.overlaps[loop.example/blockexecutor/impl.Version]"], unfollowed := true, recurses := true, apart := false }
def FnExactPutVersionsSaid : Prop := fnExactPutVersionsRow.holds Try.pinned (OpenSpec.ofChange fnExactPutVersionsSpec)

/-- ITS FALSE NEIGHBOUR: 'it returns false'. Refute it at one input. -/
def fnExactPutVersionsWrong : ChangeSpec := { name := "fnExactPutVersions", fn := fun _ => fun
  | [d1, d2, d3] => { results := [.lit (.bool false)], args := [d1, d2, d3] }
  | _ => none }
def FnExactPutVersionsWrongFalsely : Prop := fnExactPutVersionsRow.holds Try.pinned (OpenSpec.ofChange fnExactPutVersionsWrong)

/- THE SECOND FORM. 'bulk': how many values and letters a reading holds, each counted each time it is reached (what is shared counts as often as it is met; a slice's spare places count too). A statement '..UptoSaid' is the law's where the arguments, and the package variables that the reading takes, are together of bulk at most 1048576: NARROWER than '..Said'. Prove '..Said' where nothing that the law and all that it calls make is longer than what came in: it says more and counts as full. Else prove '..UptoSaid'. A law counts once. -/
mutual
def uptoBulk {H : Type} : DataW H → Nat
  | .lit (.string bytes) => bytes.length + 1
  | .lit _ => 1
  | .nil => 1
  | .ptr d => uptoBulk d + 1
  | .slice elems spare => uptoBulkAll elems + uptoBulkAll spare + 1
  | .agg parts => uptoBulkAll parts + 1
  | .iface _ d => uptoBulk d + 1
  | .map entries => uptoBulkEntries entries + 1
  | .held _ => 1
def uptoBulkAll {H : Type} : List (DataW H) → Nat
  | [] => 0
  | d :: r => uptoBulk d + uptoBulkAll r
def uptoBulkEntries {H : Type} : List (Lit × DataW H) → Nat
  | [] => 0
  | x :: r => uptoBulkEntry x + uptoBulkEntries r
def uptoBulkEntry {H : Type} : Lit × DataW H → Nat
  | (.string bytes, d) => bytes.length + uptoBulk d + 1
  | (_, d) => uptoBulk d + 1
 end
def uptoSmall : (H : Type) → List (DataW H) → Bool := fun _ ds => decide (uptoBulkAll ds ≤ 1048576)
def OpenSpec.upto (s : _root_.Go.ChangeSpec) : _root_.Go.OpenSpec := { _root_.Go.OpenSpec.ofChange s with cond := some uptoSmall }

/-- 'laws.FnExactBlockValid', WHERE WHAT IT READS IS OF BULK AT MOST 1048576: true; the input reads as it did. -/
def fnExactBlockValidUptoRow : OpenClaim := { program := "ytaaffpolmecicaa", sum := "928fec6d96b67d3d9d594798fb197a208fe9a127f48788a0e804525bd217f561", func := "loop.example/blockexecutor/laws.FnExactBlockValid", spec := "fnExactBlockValid", unfollowed := true, recurses := true, apart := false, narrowed := true }
def FnExactBlockValidUptoSaid : Prop := fnExactBlockValidUptoRow.holds Try.pinned (OpenSpec.upto fnExactBlockValidSpec)

/-- 'laws.FnExactBlockSum', WHERE WHAT IT READS IS OF BULK AT MOST 1048576: true; the input reads as it did. -/
def fnExactBlockSumUptoRow : OpenClaim := { program := "ytaaffpolmecicaa", sum := "928fec6d96b67d3d9d594798fb197a208fe9a127f48788a0e804525bd217f561", func := "loop.example/blockexecutor/laws.FnExactBlockSum", spec := "fnExactBlockSum", unfollowed := true, recurses := true, apart := false, narrowed := true }
def FnExactBlockSumUptoSaid : Prop := fnExactBlockSumUptoRow.holds Try.pinned (OpenSpec.upto fnExactBlockSumSpec)

/-- 'laws.FnExactFirstBlock', WHERE WHAT IT READS IS OF BULK AT MOST 1048576: true; the input reads as it did. -/
def fnExactFirstBlockUptoRow : OpenClaim := { program := "ytaaffpolmecicaa", sum := "928fec6d96b67d3d9d594798fb197a208fe9a127f48788a0e804525bd217f561", func := "loop.example/blockexecutor/laws.FnExactFirstBlock", spec := "fnExactFirstBlock", unfollowed := true, recurses := true, apart := false, narrowed := true }
def FnExactFirstBlockUptoSaid : Prop := fnExactFirstBlockUptoRow.holds Try.pinned (OpenSpec.upto fnExactFirstBlockSpec)

/-- 'laws.FnBlockValid', WHERE WHAT IT READS IS OF BULK AT MOST 1048576: true; the input reads as it did. -/
def fnBlockValidUptoRow : OpenClaim := { program := "ytaaffpolmecicaa", sum := "928fec6d96b67d3d9d594798fb197a208fe9a127f48788a0e804525bd217f561", func := "loop.example/blockexecutor/laws.FnBlockValid", spec := "fnBlockValid", unfollowed := true, recurses := true, apart := false, narrowed := true }
def FnBlockValidUptoSaid : Prop := fnBlockValidUptoRow.holds Try.pinned (OpenSpec.upto fnBlockValidSpec)

/-- 'laws.FnBlockSum', WHERE WHAT IT READS IS OF BULK AT MOST 1048576: true; the input reads as it did. -/
def fnBlockSumUptoRow : OpenClaim := { program := "ytaaffpolmecicaa", sum := "928fec6d96b67d3d9d594798fb197a208fe9a127f48788a0e804525bd217f561", func := "loop.example/blockexecutor/laws.FnBlockSum", spec := "fnBlockSum", unfollowed := true, recurses := true, apart := false, narrowed := true }
def FnBlockSumUptoSaid : Prop := fnBlockSumUptoRow.holds Try.pinned (OpenSpec.upto fnBlockSumSpec)

/-- 'laws.FnFirstBlock', WHERE WHAT IT READS IS OF BULK AT MOST 1048576: true; the input reads as it did. -/
def fnFirstBlockUptoRow : OpenClaim := { program := "ytaaffpolmecicaa", sum := "928fec6d96b67d3d9d594798fb197a208fe9a127f48788a0e804525bd217f561", func := "loop.example/blockexecutor/laws.FnFirstBlock", spec := "fnFirstBlock", unfollowed := true, recurses := true, apart := false, narrowed := true }
def FnFirstBlockUptoSaid : Prop := fnFirstBlockUptoRow.holds Try.pinned (OpenSpec.upto fnFirstBlockSpec)

/-- 'laws.FnPutVersions', WHERE WHAT IT READS IS OF BULK AT MOST 1048576: true; the input reads as it did. -/
def fnPutVersionsUptoRow : OpenClaim := { program := "ytaaffpolmecicaa", sum := "928fec6d96b67d3d9d594798fb197a208fe9a127f48788a0e804525bd217f561", func := "loop.example/blockexecutor/laws.FnPutVersions", spec := "fnPutVersions", inPlace := ["slices.overlaps[loop.example/blockexecutor/impl.Version]"], unfollowed := true, recurses := true, apart := false, narrowed := true }
def FnPutVersionsUptoSaid : Prop := fnPutVersionsUptoRow.holds Try.pinned (OpenSpec.upto fnPutVersionsSpec)

/-- 'laws.FnExactPutVersions', WHERE WHAT IT READS IS OF BULK AT MOST 1048576: true; the input reads as it did. -/
def fnExactPutVersionsUptoRow : OpenClaim := { program := "ytaaffpolmecicaa", sum := "928fec6d96b67d3d9d594798fb197a208fe9a127f48788a0e804525bd217f561", func := "loop.example/blockexecutor/laws.FnExactPutVersions", spec := "fnExactPutVersions", inPlace := ["slices.overlaps[loop.example/blockexecutor/impl.Version]"], unfollowed := true, recurses := true, apart := false, narrowed := true }
def FnExactPutVersionsUptoSaid : Prop := fnExactPutVersionsUptoRow.holds Try.pinned (OpenSpec.upto fnExactPutVersionsSpec)

end Rows
end Go.Proofs.Ytaaffpolmecicaa
