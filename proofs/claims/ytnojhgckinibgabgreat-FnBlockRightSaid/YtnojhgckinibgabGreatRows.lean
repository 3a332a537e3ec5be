/-
  No cell of these rows narrows 'for every input' (looked for: loops, veiled, ifaces, maps, wideKeys, modest, calm, conditions, laid).
  DERIVED. THE GIVEN ROWS OF THIS SEAT. 12 by the template 'for every input the law returns true; each argument reads behind the call as it read before'; 0 by the template 'total and deterministic' (their statements: YtnojhgckinibgabGreatTotals.lean).
  GIVEN WITH THE SEED: the statements are not yours to turn. If you find one false, say at which input.
  Laid BY PROGRAM, IN A SANDBOX (cutbox-rows.mjs): the forced cells as the released guide's own fill.sh prints them over the translation a6f4b5157335e90b… (all of the seat's roots in one cut). By AI agents, Wed Nov 11 2026. No macro, syntax, notation, axiom, sorry.
-/
import Derived.Test.YtnojhgckinibgabGreatChecked
import GoSem.Claim
import GoSem.ClaimJoined
import GoSem.ClaimMapViews
import Derived.JoinedTies
import Derived.KernelRfl
namespace Go.Proofs.YtnojhgckinibgabGreat
/- THE CELL 'sum', in the pinned program and in every row, IS THE sha256 OF THE DUMP (.gsa) THAT YtnojhgckinibgabGreatProg.lean LOADS. Nothing in Lean hashes anything: it is a label: what it is worth is what the hold of that sum in a sandbox is worth. -/
noncomputable def Tryz.pinned : Pinned := { name := "ytnojhgckinibgabgreat", sum := "a6f4b5157335e90baf58e3b5b9de28998fc6e1d4b3f5ed987207772717d8f5b4", checked := Tryz.checked }
namespace Rows
def none {H : Type} : Left H := { results := [], args := [] }

/-- 'laws.FnExactPutBlock': WHATEVER THE INPUT: true; the input reads as it did. -/
def fnExactPutBlockSpec : ChangeSpec := { name := "fnExactPutBlock", fn := fun _ => fun
  | [d1, d2] => { results := [.lit (.bool true)], args := [d1, d2] }
  | _ => none }
def fnExactPutBlockRow : OpenClaim := { program := "ytnojhgckinibgabgreat", sum := "a6f4b5157335e90baf58e3b5b9de28998fc6e1d4b3f5ed987207772717d8f5b4", func := "loop.example/blockexecutor/laws.FnExactPutBlock", spec := "fnExactPutBlock", unfollowed := true, recurses := true, apart := false }
def FnExactPutBlockSaid : Prop := fnExactPutBlockRow.holds Tryz.pinned (OpenSpec.ofChange fnExactPutBlockSpec)

/-- ITS FALSE NEIGHBOUR: 'it returns false'. Refute it at one input. -/
def fnExactPutBlockWrong : ChangeSpec := { name := "fnExactPutBlock", fn := fun _ => fun
  | [d1, d2] => { results := [.lit (.bool false)], args := [d1, d2] }
  | _ => none }
def FnExactPutBlockWrongFalsely : Prop := fnExactPutBlockRow.holds Tryz.pinned (OpenSpec.ofChange fnExactPutBlockWrong)

/-- 'laws.FnExactStoreOf': WHATEVER THE INPUT: true; the input reads as it did. -/
def fnExactStoreOfSpec : ChangeSpec := { name := "fnExactStoreOf", fn := fun _ => fun
  | [d1, d2] => { results := [.lit (.bool true)], args := [d1, d2] }
  | _ => none }
def fnExactStoreOfRow : OpenClaim := { program := "ytnojhgckinibgabgreat", sum := "a6f4b5157335e90baf58e3b5b9de28998fc6e1d4b3f5ed987207772717d8f5b4", func := "loop.example/blockexecutor/laws.FnExactStoreOf", spec := "fnExactStoreOf", unfollowed := true, recurses := true, apart := false }
def FnExactStoreOfSaid : Prop := fnExactStoreOfRow.holds Tryz.pinned (OpenSpec.ofChange fnExactStoreOfSpec)

/-- ITS FALSE NEIGHBOUR: 'it returns false'. Refute it at one input. -/
def fnExactStoreOfWrong : ChangeSpec := { name := "fnExactStoreOf", fn := fun _ => fun
  | [d1, d2] => { results := [.lit (.bool false)], args := [d1, d2] }
  | _ => none }
def FnExactStoreOfWrongFalsely : Prop := fnExactStoreOfRow.holds Tryz.pinned (OpenSpec.ofChange fnExactStoreOfWrong)

/-- 'laws.FnExactGrowTree': WHATEVER THE INPUT: true; the input reads as it did. -/
def fnExactGrowTreeSpec : ChangeSpec := { name := "fnExactGrowTree", fn := fun _ => fun
  | [d1, d2, d3, d4] => { results := [.lit (.bool true)], args := [d1, d2, d3, d4] }
  | _ => none }
def fnExactGrowTreeRow : OpenClaim := { program := "ytnojhgckinibgabgreat", sum := "a6f4b5157335e90baf58e3b5b9de28998fc6e1d4b3f5ed987207772717d8f5b4", func := "loop.example/blockexecutor/laws.FnExactGrowTree", spec := "fnExactGrowTree", unfollowed := true, recurses := true, apart := false }
def FnExactGrowTreeSaid : Prop := fnExactGrowTreeRow.holds Tryz.pinned (OpenSpec.ofChange fnExactGrowTreeSpec)

/-- ITS FALSE NEIGHBOUR: 'it returns false'. Refute it at one input. -/
def fnExactGrowTreeWrong : ChangeSpec := { name := "fnExactGrowTree", fn := fun _ => fun
  | [d1, d2, d3, d4] => { results := [.lit (.bool false)], args := [d1, d2, d3, d4] }
  | _ => none }
def FnExactGrowTreeWrongFalsely : Prop := fnExactGrowTreeRow.holds Tryz.pinned (OpenSpec.ofChange fnExactGrowTreeWrong)

/-- 'laws.FnExactBranchLayers': WHATEVER THE INPUT: true; the input reads as it did. -/
def fnExactBranchLayersSpec : ChangeSpec := { name := "fnExactBranchLayers", fn := fun _ => fun
  | [d] => { results := [.lit (.bool true)], args := [d] }
  | _ => none }
def fnExactBranchLayersRow : OpenClaim := { program := "ytnojhgckinibgabgreat", sum := "a6f4b5157335e90baf58e3b5b9de28998fc6e1d4b3f5ed987207772717d8f5b4", func := "loop.example/blockexecutor/laws.FnExactBranchLayers", spec := "fnExactBranchLayers", unfollowed := true, recurses := true, apart := false }
def FnExactBranchLayersSaid : Prop := fnExactBranchLayersRow.holds Tryz.pinned (OpenSpec.ofChange fnExactBranchLayersSpec)

/-- ITS FALSE NEIGHBOUR: 'it returns false'. Refute it at one input. -/
def fnExactBranchLayersWrong : ChangeSpec := { name := "fnExactBranchLayers", fn := fun _ => fun
  | [d] => { results := [.lit (.bool false)], args := [d] }
  | _ => none }
def FnExactBranchLayersWrongFalsely : Prop := fnExactBranchLayersRow.holds Tryz.pinned (OpenSpec.ofChange fnExactBranchLayersWrong)

/-- 'laws.FnExactRightBlocks': WHATEVER THE INPUT: true; the input reads as it did. -/
def fnExactRightBlocksSpec : ChangeSpec := { name := "fnExactRightBlocks", fn := fun _ => fun
  | [d] => { results := [.lit (.bool true)], args := [d] }
  | _ => none }
def fnExactRightBlocksRow : OpenClaim := { program := "ytnojhgckinibgabgreat", sum := "a6f4b5157335e90baf58e3b5b9de28998fc6e1d4b3f5ed987207772717d8f5b4", func := "loop.example/blockexecutor/laws.FnExactRightBlocks", spec := "fnExactRightBlocks", unfollowed := true, recurses := true, apart := false }
def FnExactRightBlocksSaid : Prop := fnExactRightBlocksRow.holds Tryz.pinned (OpenSpec.ofChange fnExactRightBlocksSpec)

/-- ITS FALSE NEIGHBOUR: 'it returns false'. Refute it at one input. -/
def fnExactRightBlocksWrong : ChangeSpec := { name := "fnExactRightBlocks", fn := fun _ => fun
  | [d] => { results := [.lit (.bool false)], args := [d] }
  | _ => none }
def FnExactRightBlocksWrongFalsely : Prop := fnExactRightBlocksRow.holds Tryz.pinned (OpenSpec.ofChange fnExactRightBlocksWrong)

/-- 'laws.FnExactBlockRight': WHATEVER THE INPUT: true; the input reads as it did. -/
def fnExactBlockRightSpec : ChangeSpec := { name := "fnExactBlockRight", fn := fun _ => fun
  | [d1, d2] => { results := [.lit (.bool true)], args := [d1, d2] }
  | _ => none }
def fnExactBlockRightRow : OpenClaim := { program := "ytnojhgckinibgabgreat", sum := "a6f4b5157335e90baf58e3b5b9de28998fc6e1d4b3f5ed987207772717d8f5b4", func := "loop.example/blockexecutor/laws.FnExactBlockRight", spec := "fnExactBlockRight", unfollowed := true, recurses := true, apart := false }
def FnExactBlockRightSaid : Prop := fnExactBlockRightRow.holds Tryz.pinned (OpenSpec.ofChange fnExactBlockRightSpec)

/-- ITS FALSE NEIGHBOUR: 'it returns false'. Refute it at one input. -/
def fnExactBlockRightWrong : ChangeSpec := { name := "fnExactBlockRight", fn := fun _ => fun
  | [d1, d2] => { results := [.lit (.bool false)], args := [d1, d2] }
  | _ => none }
def FnExactBlockRightWrongFalsely : Prop := fnExactBlockRightRow.holds Tryz.pinned (OpenSpec.ofChange fnExactBlockRightWrong)

/-- 'laws.FnBlockRight': WHATEVER THE INPUT: true; the input reads as it did. -/
def fnBlockRightSpec : ChangeSpec := { name := "fnBlockRight", fn := fun _ => fun
  | [d] => { results := [.lit (.bool true)], args := [d] }
  | _ => none }
def fnBlockRightRow : OpenClaim := { program := "ytnojhgckinibgabgreat", sum := "a6f4b5157335e90baf58e3b5b9de28998fc6e1d4b3f5ed987207772717d8f5b4", func := "loop.example/blockexecutor/laws.FnBlockRight", spec := "fnBlockRight", unfollowed := true, recurses := true, apart := false }
def FnBlockRightSaid : Prop := fnBlockRightRow.holds Tryz.pinned (OpenSpec.ofChange fnBlockRightSpec)

/-- ITS FALSE NEIGHBOUR: 'it returns false'. Refute it at one input. -/
def fnBlockRightWrong : ChangeSpec := { name := "fnBlockRight", fn := fun _ => fun
  | [d] => { results := [.lit (.bool false)], args := [d] }
  | _ => none }
def FnBlockRightWrongFalsely : Prop := fnBlockRightRow.holds Tryz.pinned (OpenSpec.ofChange fnBlockRightWrong)

/-- 'laws.FnEngineStep': WHATEVER THE INPUT: true; the input reads as it did. -/
def fnEngineStepSpec : ChangeSpec := { name := "fnEngineStep", fn := fun _ => fun
  | [d] => { results := [.lit (.bool true)], args := [d] }
  | _ => none }
def fnEngineStepRow : OpenClaim := { program := "ytnojhgckinibgabgreat", sum := "a6f4b5157335e90baf58e3b5b9de28998fc6e1d4b3f5ed987207772717d8f5b4", func := "loop.example/blockexecutor/laws.FnEngineStep", spec := "fnEngineStep", inPlace := ["slices.overlaps[loop.example/blockexecutor/impl.Version]"], unfollowed := true, recurses := true, apart := false }
def FnEngineStepSaid : Prop := fnEngineStepRow.holds Tryz.pinned (OpenSpec.ofChange fnEngineStepSpec)

/-- ITS FALSE NEIGHBOUR: 'it returns false'. Refute it at one input. -/
def fnEngineStepWrong : ChangeSpec := { name := "fnEngineStep", fn := fun _ => fun
  | [d] => { results := [.lit (.bool false)], args := [d] }
  | _ => none }
def FnEngineStepWrongFalsely : Prop := fnEngineStepRow.holds Tryz.pinned (OpenSpec.ofChange fnEngineStepWrong)

/-- 'laws.FnEngineRun': WHATEVER THE INPUT: true; the input reads as it did. -/
def fnEngineRunSpec : ChangeSpec := { name := "fnEngineRun", fn := fun _ => fun
  | [d] => { results := [.lit (.bool true)], args := [d] }
  | _ => none }
def fnEngineRunRow : OpenClaim := { program := "ytnojhgckinibgabgreat", sum := "a6f4b5157335e90baf58e3b5b9de28998fc6e1d4b3f5ed987207772717d8f5b4", func := "loop.example/blockexecutor/laws.FnEngineRun", spec := "fnEngineRun", inPlace := ["slices.overlaps[loop.example/blockexecutor/impl.Version]"], unfollowed := true, recurses := true, apart := false }
def FnEngineRunSaid : Prop := fnEngineRunRow.holds Tryz.pinned (OpenSpec.ofChange fnEngineRunSpec)

/-- ITS FALSE NEIGHBOUR: 'it returns false'. Refute it at one input. -/
def fnEngineRunWrong : ChangeSpec := { name := "fnEngineRun", fn := fun _ => fun
  | [d] => { results := [.lit (.bool false)], args := [d] }
  | _ => none }
def FnEngineRunWrongFalsely : Prop := fnEngineRunRow.holds Tryz.pinned (OpenSpec.ofChange fnEngineRunWrong)

/-- 'laws.FnEngineFinish': WHATEVER THE INPUT: true; the input reads as it did. -/
def fnEngineFinishSpec : ChangeSpec := { name := "fnEngineFinish", fn := fun _ => fun
  | [d] => { results := [.lit (.bool true)], args := [d] }
  | _ => none }
def fnEngineFinishRow : OpenClaim := { program := "ytnojhgckinibgabgreat", sum := "a6f4b5157335e90baf58e3b5b9de28998fc6e1d4b3f5ed987207772717d8f5b4", func := "loop.example/blockexecutor/laws.FnEngineFinish", spec := "fnEngineFinish", inPlace := ["slices.overlaps[loop.example/blockexecutor/impl.Version]"], unfollowed := true, recurses := true, apart := false }
def FnEngineFinishSaid : Prop := fnEngineFinishRow.holds Tryz.pinned (OpenSpec.ofChange fnEngineFinishSpec)

/-- ITS FALSE NEIGHBOUR: 'it returns false'. Refute it at one input. -/
def fnEngineFinishWrong : ChangeSpec := { name := "fnEngineFinish", fn := fun _ => fun
  | [d] => { results := [.lit (.bool false)], args := [d] }
  | _ => none }
def FnEngineFinishWrongFalsely : Prop := fnEngineFinishRow.holds Tryz.pinned (OpenSpec.ofChange fnEngineFinishWrong)

/-- 'laws.FnEngineResult': WHATEVER THE INPUT: true; the input reads as it did. -/
def fnEngineResultSpec : ChangeSpec := { name := "fnEngineResult", fn := fun _ => fun
  | [d] => { results := [.lit (.bool true)], args := [d] }
  | _ => none }
def fnEngineResultRow : OpenClaim := { program := "ytnojhgckinibgabgreat", sum := "a6f4b5157335e90baf58e3b5b9de28998fc6e1d4b3f5ed987207772717d8f5b4", func := "loop.example/blockexecutor/laws.FnEngineResult", spec := "fnEngineResult", inPlace := ["slices.overlaps[loop.example/blockexecutor/impl.Version]"], unfollowed := true, recurses := true, apart := false }
def FnEngineResultSaid : Prop := fnEngineResultRow.holds Tryz.pinned (OpenSpec.ofChange fnEngineResultSpec)

/-- ITS FALSE NEIGHBOUR: 'it returns false'. Refute it at one input. -/
def fnEngineResultWrong : ChangeSpec := { name := "fnEngineResult", fn := fun _ => fun
  | [d] => { results := [.lit (.bool false)], args := [d] }
  | _ => none }
def FnEngineResultWrongFalsely : Prop := fnEngineResultRow.holds Tryz.pinned (OpenSpec.ofChange fnEngineResultWrong)

/-- 'laws.FnExactEngineResult': WHATEVER THE INPUT: true; the input reads as it did. -/
def fnExactEngineResultSpec : ChangeSpec := { name := "fnExactEngineResult", fn := fun _ => fun
  | [d] => { results := [.lit (.bool true)], args := [d] }
  | _ => none }
def fnExactEngineResultRow : OpenClaim := { program := "ytnojhgckinibgabgreat", sum := "a6f4b5157335e90baf58e3b5b9de28998fc6e1d4b3f5ed987207772717d8f5b4", func := "loop.example/blockexecutor/laws.FnExactEngineResult", spec := "fnExactEngineResult", inPlace := ["slices.overlaps[loop.example/blockexecutor/impl.Version]"], unfollowed := true, recurses := true, apart := false }
def FnExactEngineResultSaid : Prop := fnExactEngineResultRow.holds Tryz.pinned (OpenSpec.ofChange fnExactEngineResultSpec)

/-- ITS FALSE NEIGHBOUR: 'it returns false'. Refute it at one input. -/
def fnExactEngineResultWrong : ChangeSpec := { name := "fnExactEngineResult", fn := fun _ => fun
  | [d] => { results := [.lit (.bool false)], args := [d] }
  | _ => none }
def FnExactEngineResultWrongFalsely : Prop := fnExactEngineResultRow.holds Tryz.pinned (OpenSpec.ofChange fnExactEngineResultWrong)

/- THE SECOND FORM. 'bulk': how many values and letters a reading holds, each counted each time it is reached (what is shared counts as often as it is met; a slice's spare places count too). A statement '..UptoSaid' is the law's where the arguments, and the package variables that the reading takes, are together of bulk at most 1048576: NARROWER than '..Said'. Prove '..Said' where nothing that the law and all that it calls make is longer than what came in: it says more and counts as full. Else prove '..UptoSaid'. A law counts once. -/
mutual
def uptoBulk {H : Type} : DataW H → Nat
  | .lit (.string bytes) => bytes.length + 1
  | .lit _ => 1
  | .nil => 1
  | .ptr d => uptoBulk d + 1
  | .slice elems spare => uptoBulkAll elems + uptoBulkAll spare + 1
  | .agg parts => uptoBulkAll parts + 1
  | .iface _ d => uptoBulk d + 1
  | .map entries => uptoBulkEntries entries + 1
  | .held _ => 1
def uptoBulkAll {H : Type} : List (DataW H) → Nat
  | [] => 0
  | d :: r => uptoBulk d + uptoBulkAll r
def uptoBulkEntries {H : Type} : List (Lit × DataW H) → Nat
  | [] => 0
  | x :: r => uptoBulkEntry x + uptoBulkEntries r
def uptoBulkEntry {H : Type} : Lit × DataW H → Nat
  | (.string bytes, d) => bytes.length + uptoBulk d + 1
  | (_, d) => uptoBulk d + 1
 end
def uptoSmall : (H : Type) → List (DataW H) → Bool := fun _ ds => decide (uptoBulkAll ds ≤ 1048576)
def OpenSpec.upto (s : _root_.Go.ChangeSpec) : _root_.Go.OpenSpec := { _root_.Go.OpenSpec.ofChange s with cond := some uptoSmall }

/-- 'laws.FnExactPutBlock', WHERE WHAT IT READS IS OF BULK AT MOST 1048576: true; the input reads as it did. -/
def fnExactPutBlockUptoRow : OpenClaim := { program := "ytnojhgckinibgabgreat", sum := "a6f4b5157335e90baf58e3b5b9de28998fc6e1d4b3f5ed987207772717d8f5b4", func := "loop.example/blockexecutor/laws.FnExactPutBlock", spec := "fnExactPutBlock", unfollowed := true, recurses := true, apart := false, narrowed := true }
def FnExactPutBlockUptoSaid : Prop := fnExactPutBlockUptoRow.holds Tryz.pinned (OpenSpec.upto fnExactPutBlockSpec)

/-- 'laws.FnExactStoreOf', WHERE WHAT IT READS IS OF BULK AT MOST 1048576: true; the input reads as it did. -/
def fnExactStoreOfUptoRow : OpenClaim := { program := "ytnojhgckinibgabgreat", sum := "a6f4b5157335e90baf58e3b5b9de28998fc6e1d4b3f5ed987207772717d8f5b4", func := "loop.example/blockexecutor/laws.FnExactStoreOf", spec := "fnExactStoreOf", unfollowed := true, recurses := true, apart := false, narrowed := true }
def FnExactStoreOfUptoSaid : Prop := fnExactStoreOfUptoRow.holds Tryz.pinned (OpenSpec.upto fnExactStoreOfSpec)

/-- 'laws.FnExactGrowTree', WHERE WHAT IT READS IS OF BULK AT MOST 1048576: true; the input reads as it did. -/
def fnExactGrowTreeUptoRow : OpenClaim := { program := "ytnojhgckinibgabgreat", sum := "a6f4b5157335e90baf58e3b5b9de28998fc6e1d4b3f5ed987207772717d8f5b4", func := "loop.example/blockexecutor/laws.FnExactGrowTree", spec := "fnExactGrowTree", unfollowed := true, recurses := true, apart := false, narrowed := true }
def FnExactGrowTreeUptoSaid : Prop := fnExactGrowTreeUptoRow.holds Tryz.pinned (OpenSpec.upto fnExactGrowTreeSpec)

/-- 'laws.FnExactBranchLayers', WHERE WHAT IT READS IS OF BULK AT MOST 1048576: true; the input reads as it did. -/
def fnExactBranchLayersUptoRow : OpenClaim := { program := "ytnojhgckinibgabgreat", sum := "a6f4b5157335e90baf58e3b5b9de28998fc6e1d4b3f5ed987207772717d8f5b4", func := "loop.example/blockexecutor/laws.FnExactBranchLayers", spec := "fnExactBranchLayers", unfollowed := true, recurses := true, apart := false, narrowed := true }
def FnExactBranchLayersUptoSaid : Prop := fnExactBranchLayersUptoRow.holds Tryz.pinned (OpenSpec.upto fnExactBranchLayersSpec)

/-- 'laws.FnExactRightBlocks', WHERE WHAT IT READS IS OF BULK AT MOST 1048576: true; the input reads as it did. -/
def fnExactRightBlocksUptoRow : OpenClaim := { program := "ytnojhgckinibgabgreat", sum := "a6f4b5157335e90baf58e3b5b9de28998fc6e1d4b3f5ed987207772717d8f5b4", func := "loop.example/blockexecutor/laws.FnExactRightBlocks", spec := "fnExactRightBlocks", unfollowed := true, recurses := true, apart := false, narrowed := true }
def FnExactRightBlocksUptoSaid : Prop := fnExactRightBlocksUptoRow.holds Tryz.pinned (OpenSpec.upto fnExactRightBlocksSpec)

/-- 'laws.FnExactBlockRight', WHERE WHAT IT READS IS OF BULK AT MOST 1048576: true; the input reads as it did. -/
def fnExactBlockRightUptoRow : OpenClaim := { program := "ytnojhgckinibgabgreat", sum := "a6f4b5157335e90baf58e3b5b9de28998fc6e1d4b3f5ed987207772717d8f5b4", func := "loop.example/blockexecutor/laws.FnExactBlockRight", spec := "fnExactBlockRight", unfollowed := true, recurses := true, apart := false, narrowed := true }
def FnExactBlockRightUptoSaid : Prop := fnExactBlockRightUptoRow.holds Tryz.pinned (OpenSpec.upto fnExactBlockRightSpec)

/-- 'laws.FnBlockRight', WHERE WHAT IT READS IS OF BULK AT MOST 1048576: true; the input reads as it did. -/
def fnBlockRightUptoRow : OpenClaim := { program := "ytnojhgckinibgabgreat", sum := "a6f4b5157335e90baf58e3b5b9de28998fc6e1d4b3f5ed987207772717d8f5b4", func := "loop.example/blockexecutor/laws.FnBlockRight", spec := "fnBlockRight", unfollowed := true, recurses := true, apart := false, narrowed := true }
def FnBlockRightUptoSaid : Prop := fnBlockRightUptoRow.holds Tryz.pinned (OpenSpec.upto fnBlockRightSpec)

/-- 'laws.FnEngineStep', WHERE WHAT IT READS IS OF BULK AT MOST 1048576: true; the input reads as it did. -/
def fnEngineStepUptoRow : OpenClaim := { program := "ytnojhgckinibgabgreat", sum := "a6f4b5157335e90baf58e3b5b9de28998fc6e1d4b3f5ed987207772717d8f5b4", func := "loop.example/blockexecutor/laws.FnEngineStep", spec := "fnEngineStep", inPlace := ["slices.overlaps[loop.example/blockexecutor/impl.Version]"], unfollowed := true, recurses := true, apart := false, narrowed := true }
def FnEngineStepUptoSaid : Prop := fnEngineStepUptoRow.holds Tryz.pinned (OpenSpec.upto fnEngineStepSpec)

/-- 'laws.FnEngineRun', WHERE WHAT IT READS IS OF BULK AT MOST 1048576: true; the input reads as it did. -/
def fnEngineRunUptoRow : OpenClaim := { program := "ytnojhgckinibgabgreat", sum := "a6f4b5157335e90baf58e3b5b9de28998fc6e1d4b3f5ed987207772717d8f5b4", func := "loop.example/blockexecutor/laws.FnEngineRun", spec := "fnEngineRun", inPlace := ["slices.overlaps[loop.example/blockexecutor/impl.Version]"], unfollowed := true, recurses := true, apart := false, narrowed := true }
def FnEngineRunUptoSaid : Prop := fnEngineRunUptoRow.holds Tryz.pinned (OpenSpec.upto fnEngineRunSpec)

/-- 'laws.FnEngineFinish', WHERE WHAT IT READS IS OF BULK AT MOST 1048576: true; the input reads as it did. -/
def fnEngineFinishUptoRow : OpenClaim := { program := "ytnojhgckinibgabgreat", sum := "a6f4b5157335e90baf58e3b5b9de28998fc6e1d4b3f5ed987207772717d8f5b4", func := "loop.example/blockexecutor/laws.FnEngineFinish", spec := "fnEngineFinish", inPlace := ["slices.overlaps[loop.example/blockexecutor/impl.Version]"], unfollowed := true, recurses := true, apart := false, narrowed := true }
def FnEngineFinishUptoSaid : Prop := fnEngineFinishUptoRow.holds Tryz.pinned (OpenSpec.upto fnEngineFinishSpec)

/-- 'laws.FnEngineResult', WHERE WHAT IT READS IS OF BULK AT MOST 1048576: true; the input reads as it did. -/
def fnEngineResultUptoRow : OpenClaim := { program := "ytnojhgckinibgabgreat", sum := "a6f4b5157335e90baf58e3b5b9de28998fc6e1d4b3f5ed987207772717d8f5b4", func := "loop.example/blockexecutor/laws.FnEngineResult", spec := "fnEngineResult", inPlace := ["slices.overlaps[loop.example/blockexecutor/impl.Version]"], unfollowed := true, recurses := true, apart := false, narrowed := true }
def FnEngineResultUptoSaid : Prop := fnEngineResultUptoRow.holds Tryz.pinned (OpenSpec.upto fnEngineResultSpec)

/-- 'laws.FnExactEngineResult', WHERE WHAT IT READS IS OF BULK AT MOST 1048576: true; the input reads as it did. -/
def fnExactEngineResultUptoRow : OpenClaim := { program := "ytnojhgckinibgabgreat", sum := "a6f4b5157335e90baf58e3b5b9de28998fc6e1d4b3f5ed987207772717d8f5b4", func := "loop.example/blockexecutor/laws.FnExactEngineResult", spec := "fnExactEngineResult", inPlace := ["slices.overlaps[loop.example/blockexecutor/impl.Version]"], unfollowed := true, recurses := true, apart := false, narrowed := true }
def FnExactEngineResultUptoSaid : Prop := fnExactEngineResultUptoRow.holds Tryz.pinned (OpenSpec.upto fnExactEngineResultSpec)

end Rows
end Go.Proofs.YtnojhgckinibgabGreat
