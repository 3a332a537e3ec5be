/-
  No cell of these rows narrows 'for every input' (looked for: loops, veiled, ifaces, maps, wideKeys, modest, calm, conditions, laid).
  DERIVED. THE GIVEN ROWS OF THIS SEAT. 12 by the template 'for every input the law returns true; each argument reads behind the call as it read before'; 0 by the template 'total and deterministic' (their statements: YtpnjgmgmakmgeaaGreatTotals.lean).
  GIVEN WITH THE SEED: the statements are not yours to turn. If you find one false, say at which input.
  Laid BY PROGRAM, IN A SANDBOX (cutbox-rows.mjs): the forced cells as the released guide's own fill.sh prints them over the translation 41239c5506428251… (all of the seat's roots in one cut). By AI agents, Wed Nov 11 2026. No macro, syntax, notation, axiom, sorry.
-/
import Derived.Test.YtpnjgmgmakmgeaaGreatChecked
import GoSem.Claim
import GoSem.ClaimJoined
import GoSem.ClaimMapViews
import Derived.JoinedTies
import Derived.KernelRfl
namespace Go.Proofs.YtpnjgmgmakmgeaaGreat
/- THE CELL 'sum', in the pinned program and in every row, IS THE sha256 OF THE DUMP (.gsa) THAT YtpnjgmgmakmgeaaGreatProg.lean LOADS. Nothing in Lean hashes anything: it is a label: what it is worth is what the hold of that sum in a sandbox is worth. -/
noncomputable def Tryz.pinned : Pinned := { name := "ytpnjgmgmakmgeaagreat", sum := "41239c550642825184ecc8a6f69bd47b2536b66c4ddb31d9403df2d7ea0415d3", checked := Tryz.checked }
namespace Rows
def none {H : Type} : Left H := { results := [], args := [] }

/-- 'laws.FnCertBlock': WHATEVER THE INPUT: true; the input reads as it did. -/
def fnCertBlockSpec : ChangeSpec := { name := "fnCertBlock", fn := fun _ => fun
  | [d] => { results := [.lit (.bool true)], args := [d] }
  | _ => none }
def fnCertBlockRow : OpenClaim := { program := "ytpnjgmgmakmgeaagreat", sum := "41239c550642825184ecc8a6f69bd47b2536b66c4ddb31d9403df2d7ea0415d3", func := "loop.example/blockexecutor/laws.FnCertBlock", spec := "fnCertBlock", unfollowed := true, recurses := true, apart := false }
def FnCertBlockSaid : Prop := fnCertBlockRow.holds Tryz.pinned (OpenSpec.ofChange fnCertBlockSpec)

/-- ITS FALSE NEIGHBOUR: 'it returns false'. Refute it at one input. -/
def fnCertBlockWrong : ChangeSpec := { name := "fnCertBlock", fn := fun _ => fun
  | [d] => { results := [.lit (.bool false)], args := [d] }
  | _ => none }
def FnCertBlockWrongFalsely : Prop := fnCertBlockRow.holds Tryz.pinned (OpenSpec.ofChange fnCertBlockWrong)

/-- 'laws.FnIsBefore': WHATEVER THE INPUT: true; the input reads as it did. -/
def fnIsBeforeSpec : ChangeSpec := { name := "fnIsBefore", fn := fun _ => fun
  | [d] => { results := [.lit (.bool true)], args := [d] }
  | _ => none }
def fnIsBeforeRow : OpenClaim := { program := "ytpnjgmgmakmgeaagreat", sum := "41239c550642825184ecc8a6f69bd47b2536b66c4ddb31d9403df2d7ea0415d3", func := "loop.example/blockexecutor/laws.FnIsBefore", spec := "fnIsBefore", unfollowed := true, recurses := true, apart := false }
def FnIsBeforeSaid : Prop := fnIsBeforeRow.holds Tryz.pinned (OpenSpec.ofChange fnIsBeforeSpec)

/-- ITS FALSE NEIGHBOUR: 'it returns false'. Refute it at one input. -/
def fnIsBeforeWrong : ChangeSpec := { name := "fnIsBefore", fn := fun _ => fun
  | [d] => { results := [.lit (.bool false)], args := [d] }
  | _ => none }
def FnIsBeforeWrongFalsely : Prop := fnIsBeforeRow.holds Tryz.pinned (OpenSpec.ofChange fnIsBeforeWrong)

/-- 'laws.FnFindBlock': WHATEVER THE INPUT: true; the input reads as it did. -/
def fnFindBlockSpec : ChangeSpec := { name := "fnFindBlock", fn := fun _ => fun
  | [d] => { results := [.lit (.bool true)], args := [d] }
  | _ => none }
def fnFindBlockRow : OpenClaim := { program := "ytpnjgmgmakmgeaagreat", sum := "41239c550642825184ecc8a6f69bd47b2536b66c4ddb31d9403df2d7ea0415d3", func := "loop.example/blockexecutor/laws.FnFindBlock", spec := "fnFindBlock", unfollowed := true, recurses := true, apart := false }
def FnFindBlockSaid : Prop := fnFindBlockRow.holds Tryz.pinned (OpenSpec.ofChange fnFindBlockSpec)

/-- ITS FALSE NEIGHBOUR: 'it returns false'. Refute it at one input. -/
def fnFindBlockWrong : ChangeSpec := { name := "fnFindBlock", fn := fun _ => fun
  | [d] => { results := [.lit (.bool false)], args := [d] }
  | _ => none }
def FnFindBlockWrongFalsely : Prop := fnFindBlockRow.holds Tryz.pinned (OpenSpec.ofChange fnFindBlockWrong)

/-- 'laws.FnPutBlock': WHATEVER THE INPUT: true; the input reads as it did. -/
def fnPutBlockSpec : ChangeSpec := { name := "fnPutBlock", fn := fun _ => fun
  | [d] => { results := [.lit (.bool true)], args := [d] }
  | _ => none }
def fnPutBlockRow : OpenClaim := { program := "ytpnjgmgmakmgeaagreat", sum := "41239c550642825184ecc8a6f69bd47b2536b66c4ddb31d9403df2d7ea0415d3", func := "loop.example/blockexecutor/laws.FnPutBlock", spec := "fnPutBlock", unfollowed := true, recurses := true, apart := false }
def FnPutBlockSaid : Prop := fnPutBlockRow.holds Tryz.pinned (OpenSpec.ofChange fnPutBlockSpec)

/-- ITS FALSE NEIGHBOUR: 'it returns false'. Refute it at one input. -/
def fnPutBlockWrong : ChangeSpec := { name := "fnPutBlock", fn := fun _ => fun
  | [d] => { results := [.lit (.bool false)], args := [d] }
  | _ => none }
def FnPutBlockWrongFalsely : Prop := fnPutBlockRow.holds Tryz.pinned (OpenSpec.ofChange fnPutBlockWrong)

/-- 'laws.FnExactPutBlock': WHATEVER THE INPUT: true; the input reads as it did. -/
def fnExactPutBlockSpec : ChangeSpec := { name := "fnExactPutBlock", fn := fun _ => fun
  | [d1, d2] => { results := [.lit (.bool true)], args := [d1, d2] }
  | _ => none }
def fnExactPutBlockRow : OpenClaim := { program := "ytpnjgmgmakmgeaagreat", sum := "41239c550642825184ecc8a6f69bd47b2536b66c4ddb31d9403df2d7ea0415d3", func := "loop.example/blockexecutor/laws.FnExactPutBlock", spec := "fnExactPutBlock", unfollowed := true, recurses := true, apart := false }
def FnExactPutBlockSaid : Prop := fnExactPutBlockRow.holds Tryz.pinned (OpenSpec.ofChange fnExactPutBlockSpec)

/-- ITS FALSE NEIGHBOUR: 'it returns false'. Refute it at one input. -/
def fnExactPutBlockWrong : ChangeSpec := { name := "fnExactPutBlock", fn := fun _ => fun
  | [d1, d2] => { results := [.lit (.bool false)], args := [d1, d2] }
  | _ => none }
def FnExactPutBlockWrongFalsely : Prop := fnExactPutBlockRow.holds Tryz.pinned (OpenSpec.ofChange fnExactPutBlockWrong)

/-- 'laws.FnExactCertifiedBlocks': WHATEVER THE INPUT: true; the input reads as it did. -/
def fnExactCertifiedBlocksSpec : ChangeSpec := { name := "fnExactCertifiedBlocks", fn := fun _ => fun
  | [d1, d2] => { results := [.lit (.bool true)], args := [d1, d2] }
  | _ => none }
def fnExactCertifiedBlocksRow : OpenClaim := { program := "ytpnjgmgmakmgeaagreat", sum := "41239c550642825184ecc8a6f69bd47b2536b66c4ddb31d9403df2d7ea0415d3", func := "loop.example/blockexecutor/laws.FnExactCertifiedBlocks", spec := "fnExactCertifiedBlocks", unfollowed := true, recurses := true, apart := false }
def FnExactCertifiedBlocksSaid : Prop := fnExactCertifiedBlocksRow.holds Tryz.pinned (OpenSpec.ofChange fnExactCertifiedBlocksSpec)

/-- ITS FALSE NEIGHBOUR: 'it returns false'. Refute it at one input. -/
def fnExactCertifiedBlocksWrong : ChangeSpec := { name := "fnExactCertifiedBlocks", fn := fun _ => fun
  | [d1, d2] => { results := [.lit (.bool false)], args := [d1, d2] }
  | _ => none }
def FnExactCertifiedBlocksWrongFalsely : Prop := fnExactCertifiedBlocksRow.holds Tryz.pinned (OpenSpec.ofChange fnExactCertifiedBlocksWrong)

/-- 'laws.FnCertifiedBlocks': WHATEVER THE INPUT: true; the input reads as it did. -/
def fnCertifiedBlocksSpec : ChangeSpec := { name := "fnCertifiedBlocks", fn := fun _ => fun
  | [d] => { results := [.lit (.bool true)], args := [d] }
  | _ => none }
def fnCertifiedBlocksRow : OpenClaim := { program := "ytpnjgmgmakmgeaagreat", sum := "41239c550642825184ecc8a6f69bd47b2536b66c4ddb31d9403df2d7ea0415d3", func := "loop.example/blockexecutor/laws.FnCertifiedBlocks", spec := "fnCertifiedBlocks", unfollowed := true, recurses := true, apart := false }
def FnCertifiedBlocksSaid : Prop := fnCertifiedBlocksRow.holds Tryz.pinned (OpenSpec.ofChange fnCertifiedBlocksSpec)

/-- ITS FALSE NEIGHBOUR: 'it returns false'. Refute it at one input. -/
def fnCertifiedBlocksWrong : ChangeSpec := { name := "fnCertifiedBlocks", fn := fun _ => fun
  | [d] => { results := [.lit (.bool false)], args := [d] }
  | _ => none }
def FnCertifiedBlocksWrongFalsely : Prop := fnCertifiedBlocksRow.holds Tryz.pinned (OpenSpec.ofChange fnCertifiedBlocksWrong)

/-- 'laws.FnExactCommitHeads': WHATEVER THE INPUT: true; the input reads as it did. -/
def fnExactCommitHeadsSpec : ChangeSpec := { name := "fnExactCommitHeads", fn := fun _ => fun
  | [d1, d2] => { results := [.lit (.bool true)], args := [d1, d2] }
  | _ => none }
def fnExactCommitHeadsRow : OpenClaim := { program := "ytpnjgmgmakmgeaagreat", sum := "41239c550642825184ecc8a6f69bd47b2536b66c4ddb31d9403df2d7ea0415d3", func := "loop.example/blockexecutor/laws.FnExactCommitHeads", spec := "fnExactCommitHeads", unfollowed := true, recurses := true, apart := false }
def FnExactCommitHeadsSaid : Prop := fnExactCommitHeadsRow.holds Tryz.pinned (OpenSpec.ofChange fnExactCommitHeadsSpec)

/-- ITS FALSE NEIGHBOUR: 'it returns false'. Refute it at one input. -/
def fnExactCommitHeadsWrong : ChangeSpec := { name := "fnExactCommitHeads", fn := fun _ => fun
  | [d1, d2] => { results := [.lit (.bool false)], args := [d1, d2] }
  | _ => none }
def FnExactCommitHeadsWrongFalsely : Prop := fnExactCommitHeadsRow.holds Tryz.pinned (OpenSpec.ofChange fnExactCommitHeadsWrong)

/-- 'laws.FnExactCommittedTo': WHATEVER THE INPUT: true; the input reads as it did. -/
def fnExactCommittedToSpec : ChangeSpec := { name := "fnExactCommittedTo", fn := fun _ => fun
  | [d1, d2] => { results := [.lit (.bool true)], args := [d1, d2] }
  | _ => none }
def fnExactCommittedToRow : OpenClaim := { program := "ytpnjgmgmakmgeaagreat", sum := "41239c550642825184ecc8a6f69bd47b2536b66c4ddb31d9403df2d7ea0415d3", func := "loop.example/blockexecutor/laws.FnExactCommittedTo", spec := "fnExactCommittedTo", unfollowed := true, recurses := true, apart := false }
def FnExactCommittedToSaid : Prop := fnExactCommittedToRow.holds Tryz.pinned (OpenSpec.ofChange fnExactCommittedToSpec)

/-- ITS FALSE NEIGHBOUR: 'it returns false'. Refute it at one input. -/
def fnExactCommittedToWrong : ChangeSpec := { name := "fnExactCommittedTo", fn := fun _ => fun
  | [d1, d2] => { results := [.lit (.bool false)], args := [d1, d2] }
  | _ => none }
def FnExactCommittedToWrongFalsely : Prop := fnExactCommittedToRow.holds Tryz.pinned (OpenSpec.ofChange fnExactCommittedToWrong)

/-- 'laws.FnExactCommitsAgree': WHATEVER THE INPUT: true; the input reads as it did. -/
def fnExactCommitsAgreeSpec : ChangeSpec := { name := "fnExactCommitsAgree", fn := fun _ => fun
  | [d1, d2] => { results := [.lit (.bool true)], args := [d1, d2] }
  | _ => none }
def fnExactCommitsAgreeRow : OpenClaim := { program := "ytpnjgmgmakmgeaagreat", sum := "41239c550642825184ecc8a6f69bd47b2536b66c4ddb31d9403df2d7ea0415d3", func := "loop.example/blockexecutor/laws.FnExactCommitsAgree", spec := "fnExactCommitsAgree", unfollowed := true, recurses := true, apart := false }
def FnExactCommitsAgreeSaid : Prop := fnExactCommitsAgreeRow.holds Tryz.pinned (OpenSpec.ofChange fnExactCommitsAgreeSpec)

/-- ITS FALSE NEIGHBOUR: 'it returns false'. Refute it at one input. -/
def fnExactCommitsAgreeWrong : ChangeSpec := { name := "fnExactCommitsAgree", fn := fun _ => fun
  | [d1, d2] => { results := [.lit (.bool false)], args := [d1, d2] }
  | _ => none }
def FnExactCommitsAgreeWrongFalsely : Prop := fnExactCommitsAgreeRow.holds Tryz.pinned (OpenSpec.ofChange fnExactCommitsAgreeWrong)

/-- 'laws.FnCommitHeads': WHATEVER THE INPUT: true; the input reads as it did. -/
def fnCommitHeadsSpec : ChangeSpec := { name := "fnCommitHeads", fn := fun _ => fun
  | [d] => { results := [.lit (.bool true)], args := [d] }
  | _ => none }
def fnCommitHeadsRow : OpenClaim := { program := "ytpnjgmgmakmgeaagreat", sum := "41239c550642825184ecc8a6f69bd47b2536b66c4ddb31d9403df2d7ea0415d3", func := "loop.example/blockexecutor/laws.FnCommitHeads", spec := "fnCommitHeads", unfollowed := true, recurses := true, apart := false }
def FnCommitHeadsSaid : Prop := fnCommitHeadsRow.holds Tryz.pinned (OpenSpec.ofChange fnCommitHeadsSpec)

/-- ITS FALSE NEIGHBOUR: 'it returns false'. Refute it at one input. -/
def fnCommitHeadsWrong : ChangeSpec := { name := "fnCommitHeads", fn := fun _ => fun
  | [d] => { results := [.lit (.bool false)], args := [d] }
  | _ => none }
def FnCommitHeadsWrongFalsely : Prop := fnCommitHeadsRow.holds Tryz.pinned (OpenSpec.ofChange fnCommitHeadsWrong)

/-- 'laws.FnCommittedTo': WHATEVER THE INPUT: true; the input reads as it did. -/
def fnCommittedToSpec : ChangeSpec := { name := "fnCommittedTo", fn := fun _ => fun
  | [d] => { results := [.lit (.bool true)], args := [d] }
  | _ => none }
def fnCommittedToRow : OpenClaim := { program := "ytpnjgmgmakmgeaagreat", sum := "41239c550642825184ecc8a6f69bd47b2536b66c4ddb31d9403df2d7ea0415d3", func := "loop.example/blockexecutor/laws.FnCommittedTo", spec := "fnCommittedTo", unfollowed := true, recurses := true, apart := false }
def FnCommittedToSaid : Prop := fnCommittedToRow.holds Tryz.pinned (OpenSpec.ofChange fnCommittedToSpec)

/-- ITS FALSE NEIGHBOUR: 'it returns false'. Refute it at one input. -/
def fnCommittedToWrong : ChangeSpec := { name := "fnCommittedTo", fn := fun _ => fun
  | [d] => { results := [.lit (.bool false)], args := [d] }
  | _ => none }
def FnCommittedToWrongFalsely : Prop := fnCommittedToRow.holds Tryz.pinned (OpenSpec.ofChange fnCommittedToWrong)

/- THE SECOND FORM. 'bulk': how many values and letters a reading holds, each counted each time it is reached (what is shared counts as often as it is met; a slice's spare places count too). A statement '..UptoSaid' is the law's where the arguments, and the package variables that the reading takes, are together of bulk at most 1048576: NARROWER than '..Said'. Prove '..Said' where nothing that the law and all that it calls make is longer than what came in: it says more and counts as full. Else prove '..UptoSaid'. A law counts once. -/
mutual
def uptoBulk {H : Type} : DataW H → Nat
  | .lit (.string bytes) => bytes.length + 1
  | .lit _ => 1
  | .nil => 1
  | .ptr d => uptoBulk d + 1
  | .slice elems spare => uptoBulkAll elems + uptoBulkAll spare + 1
  | .agg parts => uptoBulkAll parts + 1
  | .iface _ d => uptoBulk d + 1
  | .map entries => uptoBulkEntries entries + 1
  | .held _ => 1
def uptoBulkAll {H : Type} : List (DataW H) → Nat
  | [] => 0
  | d :: r => uptoBulk d + uptoBulkAll r
def uptoBulkEntries {H : Type} : List (Lit × DataW H) → Nat
  | [] => 0
  | x :: r => uptoBulkEntry x + uptoBulkEntries r
def uptoBulkEntry {H : Type} : Lit × DataW H → Nat
  | (.string bytes, d) => bytes.length + uptoBulk d + 1
  | (_, d) => uptoBulk d + 1
 end
def uptoSmall : (H : Type) → List (DataW H) → Bool := fun _ ds => decide (uptoBulkAll ds ≤ 1048576)
def OpenSpec.upto (s : _root_.Go.ChangeSpec) : _root_.Go.OpenSpec := { _root_.Go.OpenSpec.ofChange s with cond := some uptoSmall }

/-- 'laws.FnCertBlock', WHERE WHAT IT READS IS OF BULK AT MOST 1048576: true; the input reads as it did. -/
def fnCertBlockUptoRow : OpenClaim := { program := "ytpnjgmgmakmgeaagreat", sum := "41239c550642825184ecc8a6f69bd47b2536b66c4ddb31d9403df2d7ea0415d3", func := "loop.example/blockexecutor/laws.FnCertBlock", spec := "fnCertBlock", unfollowed := true, recurses := true, apart := false, narrowed := true }
def FnCertBlockUptoSaid : Prop := fnCertBlockUptoRow.holds Tryz.pinned (OpenSpec.upto fnCertBlockSpec)

/-- 'laws.FnIsBefore', WHERE WHAT IT READS IS OF BULK AT MOST 1048576: true; the input reads as it did. -/
def fnIsBeforeUptoRow : OpenClaim := { program := "ytpnjgmgmakmgeaagreat", sum := "41239c550642825184ecc8a6f69bd47b2536b66c4ddb31d9403df2d7ea0415d3", func := "loop.example/blockexecutor/laws.FnIsBefore", spec := "fnIsBefore", unfollowed := true, recurses := true, apart := false, narrowed := true }
def FnIsBeforeUptoSaid : Prop := fnIsBeforeUptoRow.holds Tryz.pinned (OpenSpec.upto fnIsBeforeSpec)

/-- 'laws.FnFindBlock', WHERE WHAT IT READS IS OF BULK AT MOST 1048576: true; the input reads as it did. -/
def fnFindBlockUptoRow : OpenClaim := { program := "ytpnjgmgmakmgeaagreat", sum := "41239c550642825184ecc8a6f69bd47b2536b66c4ddb31d9403df2d7ea0415d3", func := "loop.example/blockexecutor/laws.FnFindBlock", spec := "fnFindBlock", unfollowed := true, recurses := true, apart := false, narrowed := true }
def FnFindBlockUptoSaid : Prop := fnFindBlockUptoRow.holds Tryz.pinned (OpenSpec.upto fnFindBlockSpec)

/-- 'laws.FnPutBlock', WHERE WHAT IT READS IS OF BULK AT MOST 1048576: true; the input reads as it did. -/
def fnPutBlockUptoRow : OpenClaim := { program := "ytpnjgmgmakmgeaagreat", sum := "41239c550642825184ecc8a6f69bd47b2536b66c4ddb31d9403df2d7ea0415d3", func := "loop.example/blockexecutor/laws.FnPutBlock", spec := "fnPutBlock", unfollowed := true, recurses := true, apart := false, narrowed := true }
def FnPutBlockUptoSaid : Prop := fnPutBlockUptoRow.holds Tryz.pinned (OpenSpec.upto fnPutBlockSpec)

/-- 'laws.FnExactPutBlock', WHERE WHAT IT READS IS OF BULK AT MOST 1048576: true; the input reads as it did. -/
def fnExactPutBlockUptoRow : OpenClaim := { program := "ytpnjgmgmakmgeaagreat", sum := "41239c550642825184ecc8a6f69bd47b2536b66c4ddb31d9403df2d7ea0415d3", func := "loop.example/blockexecutor/laws.FnExactPutBlock", spec := "fnExactPutBlock", unfollowed := true, recurses := true, apart := false, narrowed := true }
def FnExactPutBlockUptoSaid : Prop := fnExactPutBlockUptoRow.holds Tryz.pinned (OpenSpec.upto fnExactPutBlockSpec)

/-- 'laws.FnExactCertifiedBlocks', WHERE WHAT IT READS IS OF BULK AT MOST 1048576: true; the input reads as it did. -/
def fnExactCertifiedBlocksUptoRow : OpenClaim := { program := "ytpnjgmgmakmgeaagreat", sum := "41239c550642825184ecc8a6f69bd47b2536b66c4ddb31d9403df2d7ea0415d3", func := "loop.example/blockexecutor/laws.FnExactCertifiedBlocks", spec := "fnExactCertifiedBlocks", unfollowed := true, recurses := true, apart := false, narrowed := true }
def FnExactCertifiedBlocksUptoSaid : Prop := fnExactCertifiedBlocksUptoRow.holds Tryz.pinned (OpenSpec.upto fnExactCertifiedBlocksSpec)

/-- 'laws.FnCertifiedBlocks', WHERE WHAT IT READS IS OF BULK AT MOST 1048576: true; the input reads as it did. -/
def fnCertifiedBlocksUptoRow : OpenClaim := { program := "ytpnjgmgmakmgeaagreat", sum := "41239c550642825184ecc8a6f69bd47b2536b66c4ddb31d9403df2d7ea0415d3", func := "loop.example/blockexecutor/laws.FnCertifiedBlocks", spec := "fnCertifiedBlocks", unfollowed := true, recurses := true, apart := false, narrowed := true }
def FnCertifiedBlocksUptoSaid : Prop := fnCertifiedBlocksUptoRow.holds Tryz.pinned (OpenSpec.upto fnCertifiedBlocksSpec)

/-- 'laws.FnExactCommitHeads', WHERE WHAT IT READS IS OF BULK AT MOST 1048576: true; the input reads as it did. -/
def fnExactCommitHeadsUptoRow : OpenClaim := { program := "ytpnjgmgmakmgeaagreat", sum := "41239c550642825184ecc8a6f69bd47b2536b66c4ddb31d9403df2d7ea0415d3", func := "loop.example/blockexecutor/laws.FnExactCommitHeads", spec := "fnExactCommitHeads", unfollowed := true, recurses := true, apart := false, narrowed := true }
def FnExactCommitHeadsUptoSaid : Prop := fnExactCommitHeadsUptoRow.holds Tryz.pinned (OpenSpec.upto fnExactCommitHeadsSpec)

/-- 'laws.FnExactCommittedTo', WHERE WHAT IT READS IS OF BULK AT MOST 1048576: true; the input reads as it did. -/
def fnExactCommittedToUptoRow : OpenClaim := { program := "ytpnjgmgmakmgeaagreat", sum := "41239c550642825184ecc8a6f69bd47b2536b66c4ddb31d9403df2d7ea0415d3", func := "loop.example/blockexecutor/laws.FnExactCommittedTo", spec := "fnExactCommittedTo", unfollowed := true, recurses := true, apart := false, narrowed := true }
def FnExactCommittedToUptoSaid : Prop := fnExactCommittedToUptoRow.holds Tryz.pinned (OpenSpec.upto fnExactCommittedToSpec)

/-- 'laws.FnExactCommitsAgree', WHERE WHAT IT READS IS OF BULK AT MOST 1048576: true; the input reads as it did. -/
def fnExactCommitsAgreeUptoRow : OpenClaim := { program := "ytpnjgmgmakmgeaagreat", sum := "41239c550642825184ecc8a6f69bd47b2536b66c4ddb31d9403df2d7ea0415d3", func := "loop.example/blockexecutor/laws.FnExactCommitsAgree", spec := "fnExactCommitsAgree", unfollowed := true, recurses := true, apart := false, narrowed := true }
def FnExactCommitsAgreeUptoSaid : Prop := fnExactCommitsAgreeUptoRow.holds Tryz.pinned (OpenSpec.upto fnExactCommitsAgreeSpec)

/-- 'laws.FnCommitHeads', WHERE WHAT IT READS IS OF BULK AT MOST 1048576: true; the input reads as it did. -/
def fnCommitHeadsUptoRow : OpenClaim := { program := "ytpnjgmgmakmgeaagreat", sum := "41239c550642825184ecc8a6f69bd47b2536b66c4ddb31d9403df2d7ea0415d3", func := "loop.example/blockexecutor/laws.FnCommitHeads", spec := "fnCommitHeads", unfollowed := true, recurses := true, apart := false, narrowed := true }
def FnCommitHeadsUptoSaid : Prop := fnCommitHeadsUptoRow.holds Tryz.pinned (OpenSpec.upto fnCommitHeadsSpec)

/-- 'laws.FnCommittedTo', WHERE WHAT IT READS IS OF BULK AT MOST 1048576: true; the input reads as it did. -/
def fnCommittedToUptoRow : OpenClaim := { program := "ytpnjgmgmakmgeaagreat", sum := "41239c550642825184ecc8a6f69bd47b2536b66c4ddb31d9403df2d7ea0415d3", func := "loop.example/blockexecutor/laws.FnCommittedTo", spec := "fnCommittedTo", unfollowed := true, recurses := true, apart := false, narrowed := true }
def FnCommittedToUptoSaid : Prop := fnCommittedToUptoRow.holds Tryz.pinned (OpenSpec.upto fnCommittedToSpec)

end Rows
end Go.Proofs.YtpnjgmgmakmgeaaGreat
