/-
  No cell of these rows narrows 'for every input' (looked for: loops, veiled, ifaces, maps, wideKeys, modest, calm, conditions, laid).
  DERIVED. THE GIVEN ROWS OF THIS SEAT. 5 by the template 'for every input the law returns true; each argument reads behind the call as it read before'; 0 by the template 'total and deterministic' (their statements: YtolhdacbahgfgaaGreatTotals.lean).
  GIVEN WITH THE SEED: the statements are not yours to turn. If you find one false, say at which input.
  Laid BY PROGRAM, IN A SANDBOX (cutbox-rows.mjs): the forced cells as the released guide's own fill.sh prints them over the translation 19f5fdc37389f64d… (all of the seat's roots in one cut). By AI agents, Wed Nov 11 2026. No macro, syntax, notation, axiom, sorry.
-/
import Derived.Test.YtolhdacbahgfgaaGreatChecked
import GoSem.Claim
import GoSem.ClaimJoined
import GoSem.ClaimMapViews
import Derived.JoinedTies
import Derived.KernelRfl
namespace Go.Proofs.YtolhdacbahgfgaaGreat
/- THE CELL 'sum', in the pinned program and in every row, IS THE sha256 OF THE DUMP (.gsa) THAT YtolhdacbahgfgaaGreatProg.lean LOADS. Nothing in Lean hashes anything: it is a label: what it is worth is what the hold of that sum in a sandbox is worth. -/
noncomputable def Tryz.pinned : Pinned := { name := "ytolhdacbahgfgaagreat", sum := "19f5fdc37389f64de3952af3f2aa0575e7b554683d6aa5897de6bb3b526550d6", checked := Tryz.checked }
namespace Rows
def none {H : Type} : Left H := { results := [], args := [] }

/-- 'laws.FnExactCertBlock': WHATEVER THE INPUT: true; the input reads as it did. -/
def fnExactCertBlockSpec : ChangeSpec := { name := "fnExactCertBlock", fn := fun _ => fun
  | [d1, d2] => { results := [.lit (.bool true)], args := [d1, d2] }
  | _ => none }
def fnExactCertBlockRow : OpenClaim := { program := "ytolhdacbahgfgaagreat", sum := "19f5fdc37389f64de3952af3f2aa0575e7b554683d6aa5897de6bb3b526550d6", func := "loop.example/blockexecutor/laws.FnExactCertBlock", spec := "fnExactCertBlock", unfollowed := true, recurses := true, apart := false }
def FnExactCertBlockSaid : Prop := fnExactCertBlockRow.holds Tryz.pinned (OpenSpec.ofChange fnExactCertBlockSpec)

/-- ITS FALSE NEIGHBOUR: 'it returns false'. Refute it at one input. -/
def fnExactCertBlockWrong : ChangeSpec := { name := "fnExactCertBlock", fn := fun _ => fun
  | [d1, d2] => { results := [.lit (.bool false)], args := [d1, d2] }
  | _ => none }
def FnExactCertBlockWrongFalsely : Prop := fnExactCertBlockRow.holds Tryz.pinned (OpenSpec.ofChange fnExactCertBlockWrong)

/-- 'laws.FnExactCertifiedBlocks': WHATEVER THE INPUT: true; the input reads as it did. -/
def fnExactCertifiedBlocksSpec : ChangeSpec := { name := "fnExactCertifiedBlocks", fn := fun _ => fun
  | [d1, d2] => { results := [.lit (.bool true)], args := [d1, d2] }
  | _ => none }
def fnExactCertifiedBlocksRow : OpenClaim := { program := "ytolhdacbahgfgaagreat", sum := "19f5fdc37389f64de3952af3f2aa0575e7b554683d6aa5897de6bb3b526550d6", func := "loop.example/blockexecutor/laws.FnExactCertifiedBlocks", spec := "fnExactCertifiedBlocks", unfollowed := true, recurses := true, apart := false }
def FnExactCertifiedBlocksSaid : Prop := fnExactCertifiedBlocksRow.holds Tryz.pinned (OpenSpec.ofChange fnExactCertifiedBlocksSpec)

/-- ITS FALSE NEIGHBOUR: 'it returns false'. Refute it at one input. -/
def fnExactCertifiedBlocksWrong : ChangeSpec := { name := "fnExactCertifiedBlocks", fn := fun _ => fun
  | [d1, d2] => { results := [.lit (.bool false)], args := [d1, d2] }
  | _ => none }
def FnExactCertifiedBlocksWrongFalsely : Prop := fnExactCertifiedBlocksRow.holds Tryz.pinned (OpenSpec.ofChange fnExactCertifiedBlocksWrong)

/-- 'laws.FnCertBlock': WHATEVER THE INPUT: true; the input reads as it did. -/
def fnCertBlockSpec : ChangeSpec := { name := "fnCertBlock", fn := fun _ => fun
  | [d] => { results := [.lit (.bool true)], args := [d] }
  | _ => none }
def fnCertBlockRow : OpenClaim := { program := "ytolhdacbahgfgaagreat", sum := "19f5fdc37389f64de3952af3f2aa0575e7b554683d6aa5897de6bb3b526550d6", func := "loop.example/blockexecutor/laws.FnCertBlock", spec := "fnCertBlock", unfollowed := true, recurses := true, apart := false }
def FnCertBlockSaid : Prop := fnCertBlockRow.holds Tryz.pinned (OpenSpec.ofChange fnCertBlockSpec)

/-- ITS FALSE NEIGHBOUR: 'it returns false'. Refute it at one input. -/
def fnCertBlockWrong : ChangeSpec := { name := "fnCertBlock", fn := fun _ => fun
  | [d] => { results := [.lit (.bool false)], args := [d] }
  | _ => none }
def FnCertBlockWrongFalsely : Prop := fnCertBlockRow.holds Tryz.pinned (OpenSpec.ofChange fnCertBlockWrong)

/-- 'laws.FnCertifiedBlocks': WHATEVER THE INPUT: true; the input reads as it did. -/
def fnCertifiedBlocksSpec : ChangeSpec := { name := "fnCertifiedBlocks", fn := fun _ => fun
  | [d] => { results := [.lit (.bool true)], args := [d] }
  | _ => none }
def fnCertifiedBlocksRow : OpenClaim := { program := "ytolhdacbahgfgaagreat", sum := "19f5fdc37389f64de3952af3f2aa0575e7b554683d6aa5897de6bb3b526550d6", func := "loop.example/blockexecutor/laws.FnCertifiedBlocks", spec := "fnCertifiedBlocks", unfollowed := true, recurses := true, apart := false }
def FnCertifiedBlocksSaid : Prop := fnCertifiedBlocksRow.holds Tryz.pinned (OpenSpec.ofChange fnCertifiedBlocksSpec)

/-- ITS FALSE NEIGHBOUR: 'it returns false'. Refute it at one input. -/
def fnCertifiedBlocksWrong : ChangeSpec := { name := "fnCertifiedBlocks", fn := fun _ => fun
  | [d] => { results := [.lit (.bool false)], args := [d] }
  | _ => none }
def FnCertifiedBlocksWrongFalsely : Prop := fnCertifiedBlocksRow.holds Tryz.pinned (OpenSpec.ofChange fnCertifiedBlocksWrong)

/-- 'laws.FnPathTo': WHATEVER THE INPUT: true; the input reads as it did. -/
def fnPathToSpec : ChangeSpec := { name := "fnPathTo", fn := fun _ => fun
  | [d] => { results := [.lit (.bool true)], args := [d] }
  | _ => none }
def fnPathToRow : OpenClaim := { program := "ytolhdacbahgfgaagreat", sum := "19f5fdc37389f64de3952af3f2aa0575e7b554683d6aa5897de6bb3b526550d6", func := "loop.example/blockexecutor/laws.FnPathTo", spec := "fnPathTo", unfollowed := true, recurses := true, apart := false }
def FnPathToSaid : Prop := fnPathToRow.holds Tryz.pinned (OpenSpec.ofChange fnPathToSpec)

/-- ITS FALSE NEIGHBOUR: 'it returns false'. Refute it at one input. -/
def fnPathToWrong : ChangeSpec := { name := "fnPathTo", fn := fun _ => fun
  | [d] => { results := [.lit (.bool false)], args := [d] }
  | _ => none }
def FnPathToWrongFalsely : Prop := fnPathToRow.holds Tryz.pinned (OpenSpec.ofChange fnPathToWrong)

/- THE SECOND FORM. 'bulk': how many values and letters a reading holds, each counted each time it is reached (what is shared counts as often as it is met; a slice's spare places count too). A statement '..UptoSaid' is the law's where the arguments, and the package variables that the reading takes, are together of bulk at most 1048576: NARROWER than '..Said'. Prove '..Said' where nothing that the law and all that it calls make is longer than what came in: it says more and counts as full. Else prove '..UptoSaid'. A law counts once. -/
mutual
def uptoBulk {H : Type} : DataW H → Nat
  | .lit (.string bytes) => bytes.length + 1
  | .lit _ => 1
  | .nil => 1
  | .ptr d => uptoBulk d + 1
  | .slice elems spare => uptoBulkAll elems + uptoBulkAll spare + 1
  | .agg parts => uptoBulkAll parts + 1
  | .iface _ d => uptoBulk d + 1
  | .map entries => uptoBulkEntries entries + 1
  | .held _ => 1
def uptoBulkAll {H : Type} : List (DataW H) → Nat
  | [] => 0
  | d :: r => uptoBulk d + uptoBulkAll r
def uptoBulkEntries {H : Type} : List (Lit × DataW H) → Nat
  | [] => 0
  | x :: r => uptoBulkEntry x + uptoBulkEntries r
def uptoBulkEntry {H : Type} : Lit × DataW H → Nat
  | (.string bytes, d) => bytes.length + uptoBulk d + 1
  | (_, d) => uptoBulk d + 1
 end
def uptoSmall : (H : Type) → List (DataW H) → Bool := fun _ ds => decide (uptoBulkAll ds ≤ 1048576)
def OpenSpec.upto (s : _root_.Go.ChangeSpec) : _root_.Go.OpenSpec := { _root_.Go.OpenSpec.ofChange s with cond := some uptoSmall }

/-- 'laws.FnExactCertBlock', WHERE WHAT IT READS IS OF BULK AT MOST 1048576: true; the input reads as it did. -/
def fnExactCertBlockUptoRow : OpenClaim := { program := "ytolhdacbahgfgaagreat", sum := "19f5fdc37389f64de3952af3f2aa0575e7b554683d6aa5897de6bb3b526550d6", func := "loop.example/blockexecutor/laws.FnExactCertBlock", spec := "fnExactCertBlock", unfollowed := true, recurses := true, apart := false, narrowed := true }
def FnExactCertBlockUptoSaid : Prop := fnExactCertBlockUptoRow.holds Tryz.pinned (OpenSpec.upto fnExactCertBlockSpec)

/-- 'laws.FnExactCertifiedBlocks', WHERE WHAT IT READS IS OF BULK AT MOST 1048576: true; the input reads as it did. -/
def fnExactCertifiedBlocksUptoRow : OpenClaim := { program := "ytolhdacbahgfgaagreat", sum := "19f5fdc37389f64de3952af3f2aa0575e7b554683d6aa5897de6bb3b526550d6", func := "loop.example/blockexecutor/laws.FnExactCertifiedBlocks", spec := "fnExactCertifiedBlocks", unfollowed := true, recurses := true, apart := false, narrowed := true }
def FnExactCertifiedBlocksUptoSaid : Prop := fnExactCertifiedBlocksUptoRow.holds Tryz.pinned (OpenSpec.upto fnExactCertifiedBlocksSpec)

/-- 'laws.FnCertBlock', WHERE WHAT IT READS IS OF BULK AT MOST 1048576: true; the input reads as it did. -/
def fnCertBlockUptoRow : OpenClaim := { program := "ytolhdacbahgfgaagreat", sum := "19f5fdc37389f64de3952af3f2aa0575e7b554683d6aa5897de6bb3b526550d6", func := "loop.example/blockexecutor/laws.FnCertBlock", spec := "fnCertBlock", unfollowed := true, recurses := true, apart := false, narrowed := true }
def FnCertBlockUptoSaid : Prop := fnCertBlockUptoRow.holds Tryz.pinned (OpenSpec.upto fnCertBlockSpec)

/-- 'laws.FnCertifiedBlocks', WHERE WHAT IT READS IS OF BULK AT MOST 1048576: true; the input reads as it did. -/
def fnCertifiedBlocksUptoRow : OpenClaim := { program := "ytolhdacbahgfgaagreat", sum := "19f5fdc37389f64de3952af3f2aa0575e7b554683d6aa5897de6bb3b526550d6", func := "loop.example/blockexecutor/laws.FnCertifiedBlocks", spec := "fnCertifiedBlocks", unfollowed := true, recurses := true, apart := false, narrowed := true }
def FnCertifiedBlocksUptoSaid : Prop := fnCertifiedBlocksUptoRow.holds Tryz.pinned (OpenSpec.upto fnCertifiedBlocksSpec)

/-- 'laws.FnPathTo', WHERE WHAT IT READS IS OF BULK AT MOST 1048576: true; the input reads as it did. -/
def fnPathToUptoRow : OpenClaim := { program := "ytolhdacbahgfgaagreat", sum := "19f5fdc37389f64de3952af3f2aa0575e7b554683d6aa5897de6bb3b526550d6", func := "loop.example/blockexecutor/laws.FnPathTo", spec := "fnPathTo", unfollowed := true, recurses := true, apart := false, narrowed := true }
def FnPathToUptoSaid : Prop := fnPathToUptoRow.holds Tryz.pinned (OpenSpec.upto fnPathToSpec)

end Rows
end Go.Proofs.YtolhdacbahgfgaaGreat
