/-
  No cell of these rows narrows 'for every input' (looked for: loops, veiled, ifaces, maps, wideKeys, modest, calm, conditions, laid).
  DERIVED. THE GIVEN ROWS OF THIS SEAT. 4 by the template 'for every input the law returns true; each argument reads behind the call as it read before'; 0 by the template 'total and deterministic' (their statements: YtaaffpolmecicaaGreatTotals.lean).
  GIVEN WITH THE SEED: the statements are not yours to turn. If you find one false, say at which input.
  Laid BY PROGRAM, IN A SANDBOX (cutbox-rows.mjs): the forced cells as the released guide's own fill.sh prints them over the translation fa91eb8c5e0c27a9… (all of the seat's roots in one cut). By AI agents, Wed Nov 11 2026. No macro, syntax, notation, axiom, sorry.
-/
import Derived.Test.YtaaffpolmecicaaGreatChecked
import GoSem.Claim
import GoSem.ClaimJoined
import GoSem.ClaimMapViews
import Derived.JoinedTies
import Derived.KernelRfl
namespace Go.Proofs.YtaaffpolmecicaaGreat
/- THE CELL 'sum', in the pinned program and in every row, IS THE sha256 OF THE DUMP (.gsa) THAT YtaaffpolmecicaaGreatProg.lean LOADS. Nothing in Lean hashes anything: it is a label: what it is worth is what the hold of that sum in a sandbox is worth. -/
noncomputable def Tryz.pinned : Pinned := { name := "ytaaffpolmecicaagreat", sum := "fa91eb8c5e0c27a955f2bf171f7fd8bd6d2c32aaf804308444f8ad21f213bba9", checked := Tryz.checked }
namespace Rows
def none {H : Type} : Left H := { results := [], args := [] }

/-- 'laws.FnExactNextBlock': WHATEVER THE INPUT: true; the input reads as it did. -/
def fnExactNextBlockSpec : ChangeSpec := { name := "fnExactNextBlock", fn := fun _ => fun
  | [d1, d2, d3, d4] => { results := [.lit (.bool true)], args := [d1, d2, d3, d4] }
  | _ => none }
def fnExactNextBlockRow : OpenClaim := { program := "ytaaffpolmecicaagreat", sum := "fa91eb8c5e0c27a955f2bf171f7fd8bd6d2c32aaf804308444f8ad21f213bba9", func := "loop.example/blockexecutor/laws.FnExactNextBlock", spec := "fnExactNextBlock", unfollowed := true, recurses := true, apart := false }
def FnExactNextBlockSaid : Prop := fnExactNextBlockRow.holds Tryz.pinned (OpenSpec.ofChange fnExactNextBlockSpec)

/-- ITS FALSE NEIGHBOUR: 'it returns false'. Refute it at one input. -/
def fnExactNextBlockWrong : ChangeSpec := { name := "fnExactNextBlock", fn := fun _ => fun
  | [d1, d2, d3, d4] => { results := [.lit (.bool false)], args := [d1, d2, d3, d4] }
  | _ => none }
def FnExactNextBlockWrongFalsely : Prop := fnExactNextBlockRow.holds Tryz.pinned (OpenSpec.ofChange fnExactNextBlockWrong)

/-- 'laws.FnExactBlockRight': WHATEVER THE INPUT: true; the input reads as it did. -/
def fnExactBlockRightSpec : ChangeSpec := { name := "fnExactBlockRight", fn := fun _ => fun
  | [d1, d2] => { results := [.lit (.bool true)], args := [d1, d2] }
  | _ => none }
def fnExactBlockRightRow : OpenClaim := { program := "ytaaffpolmecicaagreat", sum := "fa91eb8c5e0c27a955f2bf171f7fd8bd6d2c32aaf804308444f8ad21f213bba9", func := "loop.example/blockexecutor/laws.FnExactBlockRight", spec := "fnExactBlockRight", unfollowed := true, recurses := true, apart := false }
def FnExactBlockRightSaid : Prop := fnExactBlockRightRow.holds Tryz.pinned (OpenSpec.ofChange fnExactBlockRightSpec)

/-- ITS FALSE NEIGHBOUR: 'it returns false'. Refute it at one input. -/
def fnExactBlockRightWrong : ChangeSpec := { name := "fnExactBlockRight", fn := fun _ => fun
  | [d1, d2] => { results := [.lit (.bool false)], args := [d1, d2] }
  | _ => none }
def FnExactBlockRightWrongFalsely : Prop := fnExactBlockRightRow.holds Tryz.pinned (OpenSpec.ofChange fnExactBlockRightWrong)

/-- 'laws.FnNextBlock': WHATEVER THE INPUT: true; the input reads as it did. -/
def fnNextBlockSpec : ChangeSpec := { name := "fnNextBlock", fn := fun _ => fun
  | [d] => { results := [.lit (.bool true)], args := [d] }
  | _ => none }
def fnNextBlockRow : OpenClaim := { program := "ytaaffpolmecicaagreat", sum := "fa91eb8c5e0c27a955f2bf171f7fd8bd6d2c32aaf804308444f8ad21f213bba9", func := "loop.example/blockexecutor/laws.FnNextBlock", spec := "fnNextBlock", unfollowed := true, recurses := true, apart := false }
def FnNextBlockSaid : Prop := fnNextBlockRow.holds Tryz.pinned (OpenSpec.ofChange fnNextBlockSpec)

/-- ITS FALSE NEIGHBOUR: 'it returns false'. Refute it at one input. -/
def fnNextBlockWrong : ChangeSpec := { name := "fnNextBlock", fn := fun _ => fun
  | [d] => { results := [.lit (.bool false)], args := [d] }
  | _ => none }
def FnNextBlockWrongFalsely : Prop := fnNextBlockRow.holds Tryz.pinned (OpenSpec.ofChange fnNextBlockWrong)

/-- 'laws.FnBlockRight': WHATEVER THE INPUT: true; the input reads as it did. -/
def fnBlockRightSpec : ChangeSpec := { name := "fnBlockRight", fn := fun _ => fun
  | [d] => { results := [.lit (.bool true)], args := [d] }
  | _ => none }
def fnBlockRightRow : OpenClaim := { program := "ytaaffpolmecicaagreat", sum := "fa91eb8c5e0c27a955f2bf171f7fd8bd6d2c32aaf804308444f8ad21f213bba9", func := "loop.example/blockexecutor/laws.FnBlockRight", spec := "fnBlockRight", unfollowed := true, recurses := true, apart := false }
def FnBlockRightSaid : Prop := fnBlockRightRow.holds Tryz.pinned (OpenSpec.ofChange fnBlockRightSpec)

/-- ITS FALSE NEIGHBOUR: 'it returns false'. Refute it at one input. -/
def fnBlockRightWrong : ChangeSpec := { name := "fnBlockRight", fn := fun _ => fun
  | [d] => { results := [.lit (.bool false)], args := [d] }
  | _ => none }
def FnBlockRightWrongFalsely : Prop := fnBlockRightRow.holds Tryz.pinned (OpenSpec.ofChange fnBlockRightWrong)

/- THE SECOND FORM. 'bulk': how many values and letters a reading holds, each counted each time it is reached (what is shared counts as often as it is met; a slice's spare places count too). A statement '..UptoSaid' is the law's where the arguments, and the package variables that the reading takes, are together of bulk at most 1048576: NARROWER than '..Said'. Prove '..Said' where nothing that the law and all that it calls make is longer than what came in: it says more and counts as full. Else prove '..UptoSaid'. A law counts once. -/
mutual
def uptoBulk {H : Type} : DataW H → Nat
  | .lit (.string bytes) => bytes.length + 1
  | .lit _ => 1
  | .nil => 1
  | .ptr d => uptoBulk d + 1
  | .slice elems spare => uptoBulkAll elems + uptoBulkAll spare + 1
  | .agg parts => uptoBulkAll parts + 1
  | .iface _ d => uptoBulk d + 1
  | .map entries => uptoBulkEntries entries + 1
  | .held _ => 1
def uptoBulkAll {H : Type} : List (DataW H) → Nat
  | [] => 0
  | d :: r => uptoBulk d + uptoBulkAll r
def uptoBulkEntries {H : Type} : List (Lit × DataW H) → Nat
  | [] => 0
  | x :: r => uptoBulkEntry x + uptoBulkEntries r
def uptoBulkEntry {H : Type} : Lit × DataW H → Nat
  | (.string bytes, d) => bytes.length + uptoBulk d + 1
  | (_, d) => uptoBulk d + 1
 end
def uptoSmall : (H : Type) → List (DataW H) → Bool := fun _ ds => decide (uptoBulkAll ds ≤ 1048576)
def OpenSpec.upto (s : _root_.Go.ChangeSpec) : _root_.Go.OpenSpec := { _root_.Go.OpenSpec.ofChange s with cond := some uptoSmall }

/-- 'laws.FnExactNextBlock', WHERE WHAT IT READS IS OF BULK AT MOST 1048576: true; the input reads as it did. -/
def fnExactNextBlockUptoRow : OpenClaim := { program := "ytaaffpolmecicaagreat", sum := "fa91eb8c5e0c27a955f2bf171f7fd8bd6d2c32aaf804308444f8ad21f213bba9", func := "loop.example/blockexecutor/laws.FnExactNextBlock", spec := "fnExactNextBlock", unfollowed := true, recurses := true, apart := false, narrowed := true }
def FnExactNextBlockUptoSaid : Prop := fnExactNextBlockUptoRow.holds Tryz.pinned (OpenSpec.upto fnExactNextBlockSpec)

/-- 'laws.FnExactBlockRight', WHERE WHAT IT READS IS OF BULK AT MOST 1048576: true; the input reads as it did. -/
def fnExactBlockRightUptoRow : OpenClaim := { program := "ytaaffpolmecicaagreat", sum := "fa91eb8c5e0c27a955f2bf171f7fd8bd6d2c32aaf804308444f8ad21f213bba9", func := "loop.example/blockexecutor/laws.FnExactBlockRight", spec := "fnExactBlockRight", unfollowed := true, recurses := true, apart := false, narrowed := true }
def FnExactBlockRightUptoSaid : Prop := fnExactBlockRightUptoRow.holds Tryz.pinned (OpenSpec.upto fnExactBlockRightSpec)

/-- 'laws.FnNextBlock', WHERE WHAT IT READS IS OF BULK AT MOST 1048576: true; the input reads as it did. -/
def fnNextBlockUptoRow : OpenClaim := { program := "ytaaffpolmecicaagreat", sum := "fa91eb8c5e0c27a955f2bf171f7fd8bd6d2c32aaf804308444f8ad21f213bba9", func := "loop.example/blockexecutor/laws.FnNextBlock", spec := "fnNextBlock", unfollowed := true, recurses := true, apart := false, narrowed := true }
def FnNextBlockUptoSaid : Prop := fnNextBlockUptoRow.holds Tryz.pinned (OpenSpec.upto fnNextBlockSpec)

/-- 'laws.FnBlockRight', WHERE WHAT IT READS IS OF BULK AT MOST 1048576: true; the input reads as it did. -/
def fnBlockRightUptoRow : OpenClaim := { program := "ytaaffpolmecicaagreat", sum := "fa91eb8c5e0c27a955f2bf171f7fd8bd6d2c32aaf804308444f8ad21f213bba9", func := "loop.example/blockexecutor/laws.FnBlockRight", spec := "fnBlockRight", unfollowed := true, recurses := true, apart := false, narrowed := true }
def FnBlockRightUptoSaid : Prop := fnBlockRightUptoRow.holds Tryz.pinned (OpenSpec.upto fnBlockRightSpec)

end Rows
end Go.Proofs.YtaaffpolmecicaaGreat
