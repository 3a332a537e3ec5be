/-
  No cell of these rows narrows 'for every input' (looked for: loops, veiled, ifaces, maps, wideKeys, modest, calm, conditions, laid).
  DERIVED. THE GIVEN ROWS OF THIS SEAT. 12 by the template 'for every input the law returns true; each argument reads behind the call as it read before'; 0 by the template 'total and deterministic' (their statements: YtnojhgckinibgaaGreatTotals.lean).
  GIVEN WITH THE SEED: the statements are not yours to turn. If you find one false, say at which input.
  Laid BY PROGRAM, IN A SANDBOX (cutbox-rows.mjs): the forced cells as the released guide's own fill.sh prints them over the translation 63f4b50dc03bd704… (all of the seat's roots in one cut). By AI agents, Wed Nov 11 2026. No macro, syntax, notation, axiom, sorry.
-/
import Derived.Test.YtnojhgckinibgaaGreatChecked
import GoSem.Claim
import GoSem.ClaimJoined
import GoSem.ClaimMapViews
import Derived.JoinedTies
import Derived.KernelRfl
namespace Go.Proofs.YtnojhgckinibgaaGreat
/- THE CELL 'sum', in the pinned program and in every row, IS THE sha256 OF THE DUMP (.gsa) THAT YtnojhgckinibgaaGreatProg.lean LOADS. Nothing in Lean hashes anything: it is a label: what it is worth is what the hold of that sum in a sandbox is worth. -/
noncomputable def Tryz.pinned : Pinned := { name := "ytnojhgckinibgaagreat", sum := "63f4b50dc03bd704c8a74492b438477188a2b1e796b49ec57d2fe67de2035867", checked := Tryz.checked }
namespace Rows
def none {H : Type} : Left H := { results := [], args := [] }

/-- 'laws.FnBlockTreeValid': WHATEVER THE INPUT: true; the input reads as it did. -/
def fnBlockTreeValidSpec : ChangeSpec := { name := "fnBlockTreeValid", fn := fun _ => fun
  | [d] => { results := [.lit (.bool true)], args := [d] }
  | _ => none }
def fnBlockTreeValidRow : OpenClaim := { program := "ytnojhgckinibgaagreat", sum := "63f4b50dc03bd704c8a74492b438477188a2b1e796b49ec57d2fe67de2035867", func := "loop.example/blockexecutor/laws.FnBlockTreeValid", spec := "fnBlockTreeValid", unfollowed := true, recurses := true, apart := false }
def FnBlockTreeValidSaid : Prop := fnBlockTreeValidRow.holds Tryz.pinned (OpenSpec.ofChange fnBlockTreeValidSpec)

/-- ITS FALSE NEIGHBOUR: 'it returns false'. Refute it at one input. -/
def fnBlockTreeValidWrong : ChangeSpec := { name := "fnBlockTreeValid", fn := fun _ => fun
  | [d] => { results := [.lit (.bool false)], args := [d] }
  | _ => none }
def FnBlockTreeValidWrongFalsely : Prop := fnBlockTreeValidRow.holds Tryz.pinned (OpenSpec.ofChange fnBlockTreeValidWrong)

/-- 'laws.FnFindBlock': WHATEVER THE INPUT: true; the input reads as it did. -/
def fnFindBlockSpec : ChangeSpec := { name := "fnFindBlock", fn := fun _ => fun
  | [d] => { results := [.lit (.bool true)], args := [d] }
  | _ => none }
def fnFindBlockRow : OpenClaim := { program := "ytnojhgckinibgaagreat", sum := "63f4b50dc03bd704c8a74492b438477188a2b1e796b49ec57d2fe67de2035867", func := "loop.example/blockexecutor/laws.FnFindBlock", spec := "fnFindBlock", unfollowed := true, recurses := true, apart := false }
def FnFindBlockSaid : Prop := fnFindBlockRow.holds Tryz.pinned (OpenSpec.ofChange fnFindBlockSpec)

/-- ITS FALSE NEIGHBOUR: 'it returns false'. Refute it at one input. -/
def fnFindBlockWrong : ChangeSpec := { name := "fnFindBlock", fn := fun _ => fun
  | [d] => { results := [.lit (.bool false)], args := [d] }
  | _ => none }
def FnFindBlockWrongFalsely : Prop := fnFindBlockRow.holds Tryz.pinned (OpenSpec.ofChange fnFindBlockWrong)

/-- 'laws.FnPutBlock': WHATEVER THE INPUT: true; the input reads as it did. -/
def fnPutBlockSpec : ChangeSpec := { name := "fnPutBlock", fn := fun _ => fun
  | [d] => { results := [.lit (.bool true)], args := [d] }
  | _ => none }
def fnPutBlockRow : OpenClaim := { program := "ytnojhgckinibgaagreat", sum := "63f4b50dc03bd704c8a74492b438477188a2b1e796b49ec57d2fe67de2035867", func := "loop.example/blockexecutor/laws.FnPutBlock", spec := "fnPutBlock", unfollowed := true, recurses := true, apart := false }
def FnPutBlockSaid : Prop := fnPutBlockRow.holds Tryz.pinned (OpenSpec.ofChange fnPutBlockSpec)

/-- ITS FALSE NEIGHBOUR: 'it returns false'. Refute it at one input. -/
def fnPutBlockWrong : ChangeSpec := { name := "fnPutBlock", fn := fun _ => fun
  | [d] => { results := [.lit (.bool false)], args := [d] }
  | _ => none }
def FnPutBlockWrongFalsely : Prop := fnPutBlockRow.holds Tryz.pinned (OpenSpec.ofChange fnPutBlockWrong)

/-- 'laws.FnPathTo': WHATEVER THE INPUT: true; the input reads as it did. -/
def fnPathToSpec : ChangeSpec := { name := "fnPathTo", fn := fun _ => fun
  | [d] => { results := [.lit (.bool true)], args := [d] }
  | _ => none }
def fnPathToRow : OpenClaim := { program := "ytnojhgckinibgaagreat", sum := "63f4b50dc03bd704c8a74492b438477188a2b1e796b49ec57d2fe67de2035867", func := "loop.example/blockexecutor/laws.FnPathTo", spec := "fnPathTo", unfollowed := true, recurses := true, apart := false }
def FnPathToSaid : Prop := fnPathToRow.holds Tryz.pinned (OpenSpec.ofChange fnPathToSpec)

/-- ITS FALSE NEIGHBOUR: 'it returns false'. Refute it at one input. -/
def fnPathToWrong : ChangeSpec := { name := "fnPathTo", fn := fun _ => fun
  | [d] => { results := [.lit (.bool false)], args := [d] }
  | _ => none }
def FnPathToWrongFalsely : Prop := fnPathToRow.holds Tryz.pinned (OpenSpec.ofChange fnPathToWrong)

/-- 'laws.FnIsBefore': WHATEVER THE INPUT: true; the input reads as it did. -/
def fnIsBeforeSpec : ChangeSpec := { name := "fnIsBefore", fn := fun _ => fun
  | [d] => { results := [.lit (.bool true)], args := [d] }
  | _ => none }
def fnIsBeforeRow : OpenClaim := { program := "ytnojhgckinibgaagreat", sum := "63f4b50dc03bd704c8a74492b438477188a2b1e796b49ec57d2fe67de2035867", func := "loop.example/blockexecutor/laws.FnIsBefore", spec := "fnIsBefore", unfollowed := true, recurses := true, apart := false }
def FnIsBeforeSaid : Prop := fnIsBeforeRow.holds Tryz.pinned (OpenSpec.ofChange fnIsBeforeSpec)

/-- ITS FALSE NEIGHBOUR: 'it returns false'. Refute it at one input. -/
def fnIsBeforeWrong : ChangeSpec := { name := "fnIsBefore", fn := fun _ => fun
  | [d] => { results := [.lit (.bool false)], args := [d] }
  | _ => none }
def FnIsBeforeWrongFalsely : Prop := fnIsBeforeRow.holds Tryz.pinned (OpenSpec.ofChange fnIsBeforeWrong)

/-- 'laws.FnTreeOf': WHATEVER THE INPUT: true; the input reads as it did. -/
def fnTreeOfSpec : ChangeSpec := { name := "fnTreeOf", fn := fun _ => fun
  | [d] => { results := [.lit (.bool true)], args := [d] }
  | _ => none }
def fnTreeOfRow : OpenClaim := { program := "ytnojhgckinibgaagreat", sum := "63f4b50dc03bd704c8a74492b438477188a2b1e796b49ec57d2fe67de2035867", func := "loop.example/blockexecutor/laws.FnTreeOf", spec := "fnTreeOf", unfollowed := true, recurses := true, apart := false }
def FnTreeOfSaid : Prop := fnTreeOfRow.holds Tryz.pinned (OpenSpec.ofChange fnTreeOfSpec)

/-- ITS FALSE NEIGHBOUR: 'it returns false'. Refute it at one input. -/
def fnTreeOfWrong : ChangeSpec := { name := "fnTreeOf", fn := fun _ => fun
  | [d] => { results := [.lit (.bool false)], args := [d] }
  | _ => none }
def FnTreeOfWrongFalsely : Prop := fnTreeOfRow.holds Tryz.pinned (OpenSpec.ofChange fnTreeOfWrong)

/-- 'laws.FnStoreOf': WHATEVER THE INPUT: true; the input reads as it did. -/
def fnStoreOfSpec : ChangeSpec := { name := "fnStoreOf", fn := fun _ => fun
  | [d] => { results := [.lit (.bool true)], args := [d] }
  | _ => none }
def fnStoreOfRow : OpenClaim := { program := "ytnojhgckinibgaagreat", sum := "63f4b50dc03bd704c8a74492b438477188a2b1e796b49ec57d2fe67de2035867", func := "loop.example/blockexecutor/laws.FnStoreOf", spec := "fnStoreOf", unfollowed := true, recurses := true, apart := false }
def FnStoreOfSaid : Prop := fnStoreOfRow.holds Tryz.pinned (OpenSpec.ofChange fnStoreOfSpec)

/-- ITS FALSE NEIGHBOUR: 'it returns false'. Refute it at one input. -/
def fnStoreOfWrong : ChangeSpec := { name := "fnStoreOf", fn := fun _ => fun
  | [d] => { results := [.lit (.bool false)], args := [d] }
  | _ => none }
def FnStoreOfWrongFalsely : Prop := fnStoreOfRow.holds Tryz.pinned (OpenSpec.ofChange fnStoreOfWrong)

/-- 'laws.FnBranchLayers': WHATEVER THE INPUT: true; the input reads as it did. -/
def fnBranchLayersSpec : ChangeSpec := { name := "fnBranchLayers", fn := fun _ => fun
  | [d] => { results := [.lit (.bool true)], args := [d] }
  | _ => none }
def fnBranchLayersRow : OpenClaim := { program := "ytnojhgckinibgaagreat", sum := "63f4b50dc03bd704c8a74492b438477188a2b1e796b49ec57d2fe67de2035867", func := "loop.example/blockexecutor/laws.FnBranchLayers", spec := "fnBranchLayers", unfollowed := true, recurses := true, apart := false }
def FnBranchLayersSaid : Prop := fnBranchLayersRow.holds Tryz.pinned (OpenSpec.ofChange fnBranchLayersSpec)

/-- ITS FALSE NEIGHBOUR: 'it returns false'. Refute it at one input. -/
def fnBranchLayersWrong : ChangeSpec := { name := "fnBranchLayers", fn := fun _ => fun
  | [d] => { results := [.lit (.bool false)], args := [d] }
  | _ => none }
def FnBranchLayersWrongFalsely : Prop := fnBranchLayersRow.holds Tryz.pinned (OpenSpec.ofChange fnBranchLayersWrong)

/-- 'laws.FnRightBlocks': WHATEVER THE INPUT: true; the input reads as it did. -/
def fnRightBlocksSpec : ChangeSpec := { name := "fnRightBlocks", fn := fun _ => fun
  | [d] => { results := [.lit (.bool true)], args := [d] }
  | _ => none }
def fnRightBlocksRow : OpenClaim := { program := "ytnojhgckinibgaagreat", sum := "63f4b50dc03bd704c8a74492b438477188a2b1e796b49ec57d2fe67de2035867", func := "loop.example/blockexecutor/laws.FnRightBlocks", spec := "fnRightBlocks", unfollowed := true, recurses := true, apart := false }
def FnRightBlocksSaid : Prop := fnRightBlocksRow.holds Tryz.pinned (OpenSpec.ofChange fnRightBlocksSpec)

/-- ITS FALSE NEIGHBOUR: 'it returns false'. Refute it at one input. -/
def fnRightBlocksWrong : ChangeSpec := { name := "fnRightBlocks", fn := fun _ => fun
  | [d] => { results := [.lit (.bool false)], args := [d] }
  | _ => none }
def FnRightBlocksWrongFalsely : Prop := fnRightBlocksRow.holds Tryz.pinned (OpenSpec.ofChange fnRightBlocksWrong)

/-- 'laws.FnGrowTree': WHATEVER THE INPUT: true; the input reads as it did. -/
def fnGrowTreeSpec : ChangeSpec := { name := "fnGrowTree", fn := fun _ => fun
  | [d] => { results := [.lit (.bool true)], args := [d] }
  | _ => none }
def fnGrowTreeRow : OpenClaim := { program := "ytnojhgckinibgaagreat", sum := "63f4b50dc03bd704c8a74492b438477188a2b1e796b49ec57d2fe67de2035867", func := "loop.example/blockexecutor/laws.FnGrowTree", spec := "fnGrowTree", unfollowed := true, recurses := true, apart := false }
def FnGrowTreeSaid : Prop := fnGrowTreeRow.holds Tryz.pinned (OpenSpec.ofChange fnGrowTreeSpec)

/-- ITS FALSE NEIGHBOUR: 'it returns false'. Refute it at one input. -/
def fnGrowTreeWrong : ChangeSpec := { name := "fnGrowTree", fn := fun _ => fun
  | [d] => { results := [.lit (.bool false)], args := [d] }
  | _ => none }
def FnGrowTreeWrongFalsely : Prop := fnGrowTreeRow.holds Tryz.pinned (OpenSpec.ofChange fnGrowTreeWrong)

/-- 'laws.FnBlockChain': WHATEVER THE INPUT: true; the input reads as it did. -/
def fnBlockChainSpec : ChangeSpec := { name := "fnBlockChain", fn := fun _ => fun
  | [d] => { results := [.lit (.bool true)], args := [d] }
  | _ => none }
def fnBlockChainRow : OpenClaim := { program := "ytnojhgckinibgaagreat", sum := "63f4b50dc03bd704c8a74492b438477188a2b1e796b49ec57d2fe67de2035867", func := "loop.example/blockexecutor/laws.FnBlockChain", spec := "fnBlockChain", unfollowed := true, recurses := true, apart := false }
def FnBlockChainSaid : Prop := fnBlockChainRow.holds Tryz.pinned (OpenSpec.ofChange fnBlockChainSpec)

/-- ITS FALSE NEIGHBOUR: 'it returns false'. Refute it at one input. -/
def fnBlockChainWrong : ChangeSpec := { name := "fnBlockChain", fn := fun _ => fun
  | [d] => { results := [.lit (.bool false)], args := [d] }
  | _ => none }
def FnBlockChainWrongFalsely : Prop := fnBlockChainRow.holds Tryz.pinned (OpenSpec.ofChange fnBlockChainWrong)

/-- 'laws.FnNextBlock': WHATEVER THE INPUT: true; the input reads as it did. -/
def fnNextBlockSpec : ChangeSpec := { name := "fnNextBlock", fn := fun _ => fun
  | [d] => { results := [.lit (.bool true)], args := [d] }
  | _ => none }
def fnNextBlockRow : OpenClaim := { program := "ytnojhgckinibgaagreat", sum := "63f4b50dc03bd704c8a74492b438477188a2b1e796b49ec57d2fe67de2035867", func := "loop.example/blockexecutor/laws.FnNextBlock", spec := "fnNextBlock", unfollowed := true, recurses := true, apart := false }
def FnNextBlockSaid : Prop := fnNextBlockRow.holds Tryz.pinned (OpenSpec.ofChange fnNextBlockSpec)

/-- ITS FALSE NEIGHBOUR: 'it returns false'. Refute it at one input. -/
def fnNextBlockWrong : ChangeSpec := { name := "fnNextBlock", fn := fun _ => fun
  | [d] => { results := [.lit (.bool false)], args := [d] }
  | _ => none }
def FnNextBlockWrongFalsely : Prop := fnNextBlockRow.holds Tryz.pinned (OpenSpec.ofChange fnNextBlockWrong)

/- THE SECOND FORM. 'bulk': how many values and letters a reading holds, each counted each time it is reached (what is shared counts as often as it is met; a slice's spare places count too). A statement '..UptoSaid' is the law's where the arguments, and the package variables that the reading takes, are together of bulk at most 1048576: NARROWER than '..Said'. Prove '..Said' where nothing that the law and all that it calls make is longer than what came in: it says more and counts as full. Else prove '..UptoSaid'. A law counts once. -/
mutual
def uptoBulk {H : Type} : DataW H → Nat
  | .lit (.string bytes) => bytes.length + 1
  | .lit _ => 1
  | .nil => 1
  | .ptr d => uptoBulk d + 1
  | .slice elems spare => uptoBulkAll elems + uptoBulkAll spare + 1
  | .agg parts => uptoBulkAll parts + 1
  | .iface _ d => uptoBulk d + 1
  | .map entries => uptoBulkEntries entries + 1
  | .held _ => 1
def uptoBulkAll {H : Type} : List (DataW H) → Nat
  | [] => 0
  | d :: r => uptoBulk d + uptoBulkAll r
def uptoBulkEntries {H : Type} : List (Lit × DataW H) → Nat
  | [] => 0
  | x :: r => uptoBulkEntry x + uptoBulkEntries r
def uptoBulkEntry {H : Type} : Lit × DataW H → Nat
  | (.string bytes, d) => bytes.length + uptoBulk d + 1
  | (_, d) => uptoBulk d + 1
 end
def uptoSmall : (H : Type) → List (DataW H) → Bool := fun _ ds => decide (uptoBulkAll ds ≤ 1048576)
def OpenSpec.upto (s : _root_.Go.ChangeSpec) : _root_.Go.OpenSpec := { _root_.Go.OpenSpec.ofChange s with cond := some uptoSmall }

/-- 'laws.FnBlockTreeValid', WHERE WHAT IT READS IS OF BULK AT MOST 1048576: true; the input reads as it did. -/
def fnBlockTreeValidUptoRow : OpenClaim := { program := "ytnojhgckinibgaagreat", sum := "63f4b50dc03bd704c8a74492b438477188a2b1e796b49ec57d2fe67de2035867", func := "loop.example/blockexecutor/laws.FnBlockTreeValid", spec := "fnBlockTreeValid", unfollowed := true, recurses := true, apart := false, narrowed := true }
def FnBlockTreeValidUptoSaid : Prop := fnBlockTreeValidUptoRow.holds Tryz.pinned (OpenSpec.upto fnBlockTreeValidSpec)

/-- 'laws.FnFindBlock', WHERE WHAT IT READS IS OF BULK AT MOST 1048576: true; the input reads as it did. -/
def fnFindBlockUptoRow : OpenClaim := { program := "ytnojhgckinibgaagreat", sum := "63f4b50dc03bd704c8a74492b438477188a2b1e796b49ec57d2fe67de2035867", func := "loop.example/blockexecutor/laws.FnFindBlock", spec := "fnFindBlock", unfollowed := true, recurses := true, apart := false, narrowed := true }
def FnFindBlockUptoSaid : Prop := fnFindBlockUptoRow.holds Tryz.pinned (OpenSpec.upto fnFindBlockSpec)

/-- 'laws.FnPutBlock', WHERE WHAT IT READS IS OF BULK AT MOST 1048576: true; the input reads as it did. -/
def fnPutBlockUptoRow : OpenClaim := { program := "ytnojhgckinibgaagreat", sum := "63f4b50dc03bd704c8a74492b438477188a2b1e796b49ec57d2fe67de2035867", func := "loop.example/blockexecutor/laws.FnPutBlock", spec := "fnPutBlock", unfollowed := true, recurses := true, apart := false, narrowed := true }
def FnPutBlockUptoSaid : Prop := fnPutBlockUptoRow.holds Tryz.pinned (OpenSpec.upto fnPutBlockSpec)

/-- 'laws.FnPathTo', WHERE WHAT IT READS IS OF BULK AT MOST 1048576: true; the input reads as it did. -/
def fnPathToUptoRow : OpenClaim := { program := "ytnojhgckinibgaagreat", sum := "63f4b50dc03bd704c8a74492b438477188a2b1e796b49ec57d2fe67de2035867", func := "loop.example/blockexecutor/laws.FnPathTo", spec := "fnPathTo", unfollowed := true, recurses := true, apart := false, narrowed := true }
def FnPathToUptoSaid : Prop := fnPathToUptoRow.holds Tryz.pinned (OpenSpec.upto fnPathToSpec)

/-- 'laws.FnIsBefore', WHERE WHAT IT READS IS OF BULK AT MOST 1048576: true; the input reads as it did. -/
def fnIsBeforeUptoRow : OpenClaim := { program := "ytnojhgckinibgaagreat", sum := "63f4b50dc03bd704c8a74492b438477188a2b1e796b49ec57d2fe67de2035867", func := "loop.example/blockexecutor/laws.FnIsBefore", spec := "fnIsBefore", unfollowed := true, recurses := true, apart := false, narrowed := true }
def FnIsBeforeUptoSaid : Prop := fnIsBeforeUptoRow.holds Tryz.pinned (OpenSpec.upto fnIsBeforeSpec)

/-- 'laws.FnTreeOf', WHERE WHAT IT READS IS OF BULK AT MOST 1048576: true; the input reads as it did. -/
def fnTreeOfUptoRow : OpenClaim := { program := "ytnojhgckinibgaagreat", sum := "63f4b50dc03bd704c8a74492b438477188a2b1e796b49ec57d2fe67de2035867", func := "loop.example/blockexecutor/laws.FnTreeOf", spec := "fnTreeOf", unfollowed := true, recurses := true, apart := false, narrowed := true }
def FnTreeOfUptoSaid : Prop := fnTreeOfUptoRow.holds Tryz.pinned (OpenSpec.upto fnTreeOfSpec)

/-- 'laws.FnStoreOf', WHERE WHAT IT READS IS OF BULK AT MOST 1048576: true; the input reads as it did. -/
def fnStoreOfUptoRow : OpenClaim := { program := "ytnojhgckinibgaagreat", sum := "63f4b50dc03bd704c8a74492b438477188a2b1e796b49ec57d2fe67de2035867", func := "loop.example/blockexecutor/laws.FnStoreOf", spec := "fnStoreOf", unfollowed := true, recurses := true, apart := false, narrowed := true }
def FnStoreOfUptoSaid : Prop := fnStoreOfUptoRow.holds Tryz.pinned (OpenSpec.upto fnStoreOfSpec)

/-- 'laws.FnBranchLayers', WHERE WHAT IT READS IS OF BULK AT MOST 1048576: true; the input reads as it did. -/
def fnBranchLayersUptoRow : OpenClaim := { program := "ytnojhgckinibgaagreat", sum := "63f4b50dc03bd704c8a74492b438477188a2b1e796b49ec57d2fe67de2035867", func := "loop.example/blockexecutor/laws.FnBranchLayers", spec := "fnBranchLayers", unfollowed := true, recurses := true, apart := false, narrowed := true }
def FnBranchLayersUptoSaid : Prop := fnBranchLayersUptoRow.holds Tryz.pinned (OpenSpec.upto fnBranchLayersSpec)

/-- 'laws.FnRightBlocks', WHERE WHAT IT READS IS OF BULK AT MOST 1048576: true; the input reads as it did. -/
def fnRightBlocksUptoRow : OpenClaim := { program := "ytnojhgckinibgaagreat", sum := "63f4b50dc03bd704c8a74492b438477188a2b1e796b49ec57d2fe67de2035867", func := "loop.example/blockexecutor/laws.FnRightBlocks", spec := "fnRightBlocks", unfollowed := true, recurses := true, apart := false, narrowed := true }
def FnRightBlocksUptoSaid : Prop := fnRightBlocksUptoRow.holds Tryz.pinned (OpenSpec.upto fnRightBlocksSpec)

/-- 'laws.FnGrowTree', WHERE WHAT IT READS IS OF BULK AT MOST 1048576: true; the input reads as it did. -/
def fnGrowTreeUptoRow : OpenClaim := { program := "ytnojhgckinibgaagreat", sum := "63f4b50dc03bd704c8a74492b438477188a2b1e796b49ec57d2fe67de2035867", func := "loop.example/blockexecutor/laws.FnGrowTree", spec := "fnGrowTree", unfollowed := true, recurses := true, apart := false, narrowed := true }
def FnGrowTreeUptoSaid : Prop := fnGrowTreeUptoRow.holds Tryz.pinned (OpenSpec.upto fnGrowTreeSpec)

/-- 'laws.FnBlockChain', WHERE WHAT IT READS IS OF BULK AT MOST 1048576: true; the input reads as it did. -/
def fnBlockChainUptoRow : OpenClaim := { program := "ytnojhgckinibgaagreat", sum := "63f4b50dc03bd704c8a74492b438477188a2b1e796b49ec57d2fe67de2035867", func := "loop.example/blockexecutor/laws.FnBlockChain", spec := "fnBlockChain", unfollowed := true, recurses := true, apart := false, narrowed := true }
def FnBlockChainUptoSaid : Prop := fnBlockChainUptoRow.holds Tryz.pinned (OpenSpec.upto fnBlockChainSpec)

/-- 'laws.FnNextBlock', WHERE WHAT IT READS IS OF BULK AT MOST 1048576: true; the input reads as it did. -/
def fnNextBlockUptoRow : OpenClaim := { program := "ytnojhgckinibgaagreat", sum := "63f4b50dc03bd704c8a74492b438477188a2b1e796b49ec57d2fe67de2035867", func := "loop.example/blockexecutor/laws.FnNextBlock", spec := "fnNextBlock", unfollowed := true, recurses := true, apart := false, narrowed := true }
def FnNextBlockUptoSaid : Prop := fnNextBlockUptoRow.holds Tryz.pinned (OpenSpec.upto fnNextBlockSpec)

end Rows
end Go.Proofs.YtnojhgckinibgaaGreat
