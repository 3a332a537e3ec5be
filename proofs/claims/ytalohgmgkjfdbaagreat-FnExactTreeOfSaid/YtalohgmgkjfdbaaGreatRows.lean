/-
  No cell of these rows narrows 'for every input' (looked for: loops, veiled, ifaces, maps, wideKeys, modest, calm, conditions, laid).
  DERIVED. THE GIVEN ROWS OF THIS SEAT. 12 by the template 'for every input the law returns true; each argument reads behind the call as it read before'; 0 by the template 'total and deterministic' (their statements: YtalohgmgkjfdbaaGreatTotals.lean).
  GIVEN WITH THE SEED: the statements are not yours to turn. If you find one false, say at which input.
  Laid BY PROGRAM, IN A SANDBOX (cutbox-rows.mjs): the forced cells as the released guide's own fill.sh prints them over the translation c743deb1e1a4541c… (all of the seat's roots in one cut). By AI agents, Wed Nov 11 2026. No macro, syntax, notation, axiom, sorry.
-/
import Derived.Test.YtalohgmgkjfdbaaGreatChecked
import GoSem.Claim
import GoSem.ClaimJoined
import GoSem.ClaimMapViews
import Derived.JoinedTies
import Derived.KernelRfl
namespace Go.Proofs.YtalohgmgkjfdbaaGreat
/- THE CELL 'sum', in the pinned program and in every row, IS THE sha256 OF THE DUMP (.gsa) THAT YtalohgmgkjfdbaaGreatProg.lean LOADS. Nothing in Lean hashes anything: it is a label: what it is worth is what the hold of that sum in a sandbox is worth. -/
noncomputable def Tryz.pinned : Pinned := { name := "ytalohgmgkjfdbaagreat", sum := "c743deb1e1a4541c4b32b475079f8e88767076af2df3980fdeb1ed89c418ec30", checked := Tryz.checked }
namespace Rows
def none {H : Type} : Left H := { results := [], args := [] }

/-- 'laws.FnExactTreeOf': WHATEVER THE INPUT: true; the input reads as it did. -/
def fnExactTreeOfSpec : ChangeSpec := { name := "fnExactTreeOf", fn := fun _ => fun
  | [d] => { results := [.lit (.bool true)], args := [d] }
  | _ => none }
def fnExactTreeOfRow : OpenClaim := { program := "ytalohgmgkjfdbaagreat", sum := "c743deb1e1a4541c4b32b475079f8e88767076af2df3980fdeb1ed89c418ec30", func := "loop.example/blockexecutor/laws.FnExactTreeOf", spec := "fnExactTreeOf", unfollowed := true, recurses := true, apart := false }
def FnExactTreeOfSaid : Prop := fnExactTreeOfRow.holds Tryz.pinned (OpenSpec.ofChange fnExactTreeOfSpec)

/-- ITS FALSE NEIGHBOUR: 'it returns false'. Refute it at one input. -/
def fnExactTreeOfWrong : ChangeSpec := { name := "fnExactTreeOf", fn := fun _ => fun
  | [d] => { results := [.lit (.bool false)], args := [d] }
  | _ => none }
def FnExactTreeOfWrongFalsely : Prop := fnExactTreeOfRow.holds Tryz.pinned (OpenSpec.ofChange fnExactTreeOfWrong)

/-- 'laws.FnExactBlockTreeValid': WHATEVER THE INPUT: true; the input reads as it did. -/
def fnExactBlockTreeValidSpec : ChangeSpec := { name := "fnExactBlockTreeValid", fn := fun _ => fun
  | [d] => { results := [.lit (.bool true)], args := [d] }
  | _ => none }
def fnExactBlockTreeValidRow : OpenClaim := { program := "ytalohgmgkjfdbaagreat", sum := "c743deb1e1a4541c4b32b475079f8e88767076af2df3980fdeb1ed89c418ec30", func := "loop.example/blockexecutor/laws.FnExactBlockTreeValid", spec := "fnExactBlockTreeValid", unfollowed := true, recurses := true, apart := false }
def FnExactBlockTreeValidSaid : Prop := fnExactBlockTreeValidRow.holds Tryz.pinned (OpenSpec.ofChange fnExactBlockTreeValidSpec)

/-- ITS FALSE NEIGHBOUR: 'it returns false'. Refute it at one input. -/
def fnExactBlockTreeValidWrong : ChangeSpec := { name := "fnExactBlockTreeValid", fn := fun _ => fun
  | [d] => { results := [.lit (.bool false)], args := [d] }
  | _ => none }
def FnExactBlockTreeValidWrongFalsely : Prop := fnExactBlockTreeValidRow.holds Tryz.pinned (OpenSpec.ofChange fnExactBlockTreeValidWrong)

/-- 'laws.FnExactFindBlock': WHATEVER THE INPUT: true; the input reads as it did. -/
def fnExactFindBlockSpec : ChangeSpec := { name := "fnExactFindBlock", fn := fun _ => fun
  | [d1, d2] => { results := [.lit (.bool true)], args := [d1, d2] }
  | _ => none }
def fnExactFindBlockRow : OpenClaim := { program := "ytalohgmgkjfdbaagreat", sum := "c743deb1e1a4541c4b32b475079f8e88767076af2df3980fdeb1ed89c418ec30", func := "loop.example/blockexecutor/laws.FnExactFindBlock", spec := "fnExactFindBlock", unfollowed := true, recurses := true, apart := false }
def FnExactFindBlockSaid : Prop := fnExactFindBlockRow.holds Tryz.pinned (OpenSpec.ofChange fnExactFindBlockSpec)

/-- ITS FALSE NEIGHBOUR: 'it returns false'. Refute it at one input. -/
def fnExactFindBlockWrong : ChangeSpec := { name := "fnExactFindBlock", fn := fun _ => fun
  | [d1, d2] => { results := [.lit (.bool false)], args := [d1, d2] }
  | _ => none }
def FnExactFindBlockWrongFalsely : Prop := fnExactFindBlockRow.holds Tryz.pinned (OpenSpec.ofChange fnExactFindBlockWrong)

/-- 'laws.FnExactPutBlock': WHATEVER THE INPUT: true; the input reads as it did. -/
def fnExactPutBlockSpec : ChangeSpec := { name := "fnExactPutBlock", fn := fun _ => fun
  | [d1, d2] => { results := [.lit (.bool true)], args := [d1, d2] }
  | _ => none }
def fnExactPutBlockRow : OpenClaim := { program := "ytalohgmgkjfdbaagreat", sum := "c743deb1e1a4541c4b32b475079f8e88767076af2df3980fdeb1ed89c418ec30", func := "loop.example/blockexecutor/laws.FnExactPutBlock", spec := "fnExactPutBlock", unfollowed := true, recurses := true, apart := false }
def FnExactPutBlockSaid : Prop := fnExactPutBlockRow.holds Tryz.pinned (OpenSpec.ofChange fnExactPutBlockSpec)

/-- ITS FALSE NEIGHBOUR: 'it returns false'. Refute it at one input. -/
def fnExactPutBlockWrong : ChangeSpec := { name := "fnExactPutBlock", fn := fun _ => fun
  | [d1, d2] => { results := [.lit (.bool false)], args := [d1, d2] }
  | _ => none }
def FnExactPutBlockWrongFalsely : Prop := fnExactPutBlockRow.holds Tryz.pinned (OpenSpec.ofChange fnExactPutBlockWrong)

/-- 'laws.FnExactPathTo': WHATEVER THE INPUT: true; the input reads as it did. -/
def fnExactPathToSpec : ChangeSpec := { name := "fnExactPathTo", fn := fun _ => fun
  | [d1, d2] => { results := [.lit (.bool true)], args := [d1, d2] }
  | _ => none }
def fnExactPathToRow : OpenClaim := { program := "ytalohgmgkjfdbaagreat", sum := "c743deb1e1a4541c4b32b475079f8e88767076af2df3980fdeb1ed89c418ec30", func := "loop.example/blockexecutor/laws.FnExactPathTo", spec := "fnExactPathTo", unfollowed := true, recurses := true, apart := false }
def FnExactPathToSaid : Prop := fnExactPathToRow.holds Tryz.pinned (OpenSpec.ofChange fnExactPathToSpec)

/-- ITS FALSE NEIGHBOUR: 'it returns false'. Refute it at one input. -/
def fnExactPathToWrong : ChangeSpec := { name := "fnExactPathTo", fn := fun _ => fun
  | [d1, d2] => { results := [.lit (.bool false)], args := [d1, d2] }
  | _ => none }
def FnExactPathToWrongFalsely : Prop := fnExactPathToRow.holds Tryz.pinned (OpenSpec.ofChange fnExactPathToWrong)

/-- 'laws.FnExactIsBefore': WHATEVER THE INPUT: true; the input reads as it did. -/
def fnExactIsBeforeSpec : ChangeSpec := { name := "fnExactIsBefore", fn := fun _ => fun
  | [d1, d2, d3] => { results := [.lit (.bool true)], args := [d1, d2, d3] }
  | _ => none }
def fnExactIsBeforeRow : OpenClaim := { program := "ytalohgmgkjfdbaagreat", sum := "c743deb1e1a4541c4b32b475079f8e88767076af2df3980fdeb1ed89c418ec30", func := "loop.example/blockexecutor/laws.FnExactIsBefore", spec := "fnExactIsBefore", unfollowed := true, recurses := true, apart := false }
def FnExactIsBeforeSaid : Prop := fnExactIsBeforeRow.holds Tryz.pinned (OpenSpec.ofChange fnExactIsBeforeSpec)

/-- ITS FALSE NEIGHBOUR: 'it returns false'. Refute it at one input. -/
def fnExactIsBeforeWrong : ChangeSpec := { name := "fnExactIsBefore", fn := fun _ => fun
  | [d1, d2, d3] => { results := [.lit (.bool false)], args := [d1, d2, d3] }
  | _ => none }
def FnExactIsBeforeWrongFalsely : Prop := fnExactIsBeforeRow.holds Tryz.pinned (OpenSpec.ofChange fnExactIsBeforeWrong)

/-- 'laws.FnExactStoreOf': WHATEVER THE INPUT: true; the input reads as it did. -/
def fnExactStoreOfSpec : ChangeSpec := { name := "fnExactStoreOf", fn := fun _ => fun
  | [d1, d2] => { results := [.lit (.bool true)], args := [d1, d2] }
  | _ => none }
def fnExactStoreOfRow : OpenClaim := { program := "ytalohgmgkjfdbaagreat", sum := "c743deb1e1a4541c4b32b475079f8e88767076af2df3980fdeb1ed89c418ec30", func := "loop.example/blockexecutor/laws.FnExactStoreOf", spec := "fnExactStoreOf", unfollowed := true, recurses := true, apart := false }
def FnExactStoreOfSaid : Prop := fnExactStoreOfRow.holds Tryz.pinned (OpenSpec.ofChange fnExactStoreOfSpec)

/-- ITS FALSE NEIGHBOUR: 'it returns false'. Refute it at one input. -/
def fnExactStoreOfWrong : ChangeSpec := { name := "fnExactStoreOf", fn := fun _ => fun
  | [d1, d2] => { results := [.lit (.bool false)], args := [d1, d2] }
  | _ => none }
def FnExactStoreOfWrongFalsely : Prop := fnExactStoreOfRow.holds Tryz.pinned (OpenSpec.ofChange fnExactStoreOfWrong)

/-- 'laws.FnExactGrowTree': WHATEVER THE INPUT: true; the input reads as it did. -/
def fnExactGrowTreeSpec : ChangeSpec := { name := "fnExactGrowTree", fn := fun _ => fun
  | [d1, d2, d3, d4] => { results := [.lit (.bool true)], args := [d1, d2, d3, d4] }
  | _ => none }
def fnExactGrowTreeRow : OpenClaim := { program := "ytalohgmgkjfdbaagreat", sum := "c743deb1e1a4541c4b32b475079f8e88767076af2df3980fdeb1ed89c418ec30", func := "loop.example/blockexecutor/laws.FnExactGrowTree", spec := "fnExactGrowTree", unfollowed := true, recurses := true, apart := false }
def FnExactGrowTreeSaid : Prop := fnExactGrowTreeRow.holds Tryz.pinned (OpenSpec.ofChange fnExactGrowTreeSpec)

/-- ITS FALSE NEIGHBOUR: 'it returns false'. Refute it at one input. -/
def fnExactGrowTreeWrong : ChangeSpec := { name := "fnExactGrowTree", fn := fun _ => fun
  | [d1, d2, d3, d4] => { results := [.lit (.bool false)], args := [d1, d2, d3, d4] }
  | _ => none }
def FnExactGrowTreeWrongFalsely : Prop := fnExactGrowTreeRow.holds Tryz.pinned (OpenSpec.ofChange fnExactGrowTreeWrong)

/-- 'laws.FnBlockTreeValid': WHATEVER THE INPUT: true; the input reads as it did. -/
def fnBlockTreeValidSpec : ChangeSpec := { name := "fnBlockTreeValid", fn := fun _ => fun
  | [d] => { results := [.lit (.bool true)], args := [d] }
  | _ => none }
def fnBlockTreeValidRow : OpenClaim := { program := "ytalohgmgkjfdbaagreat", sum := "c743deb1e1a4541c4b32b475079f8e88767076af2df3980fdeb1ed89c418ec30", func := "loop.example/blockexecutor/laws.FnBlockTreeValid", spec := "fnBlockTreeValid", unfollowed := true, recurses := true, apart := false }
def FnBlockTreeValidSaid : Prop := fnBlockTreeValidRow.holds Tryz.pinned (OpenSpec.ofChange fnBlockTreeValidSpec)

/-- ITS FALSE NEIGHBOUR: 'it returns false'. Refute it at one input. -/
def fnBlockTreeValidWrong : ChangeSpec := { name := "fnBlockTreeValid", fn := fun _ => fun
  | [d] => { results := [.lit (.bool false)], args := [d] }
  | _ => none }
def FnBlockTreeValidWrongFalsely : Prop := fnBlockTreeValidRow.holds Tryz.pinned (OpenSpec.ofChange fnBlockTreeValidWrong)

/-- 'laws.FnFindBlock': WHATEVER THE INPUT: true; the input reads as it did. -/
def fnFindBlockSpec : ChangeSpec := { name := "fnFindBlock", fn := fun _ => fun
  | [d] => { results := [.lit (.bool true)], args := [d] }
  | _ => none }
def fnFindBlockRow : OpenClaim := { program := "ytalohgmgkjfdbaagreat", sum := "c743deb1e1a4541c4b32b475079f8e88767076af2df3980fdeb1ed89c418ec30", func := "loop.example/blockexecutor/laws.FnFindBlock", spec := "fnFindBlock", unfollowed := true, recurses := true, apart := false }
def FnFindBlockSaid : Prop := fnFindBlockRow.holds Tryz.pinned (OpenSpec.ofChange fnFindBlockSpec)

/-- ITS FALSE NEIGHBOUR: 'it returns false'. Refute it at one input. -/
def fnFindBlockWrong : ChangeSpec := { name := "fnFindBlock", fn := fun _ => fun
  | [d] => { results := [.lit (.bool false)], args := [d] }
  | _ => none }
def FnFindBlockWrongFalsely : Prop := fnFindBlockRow.holds Tryz.pinned (OpenSpec.ofChange fnFindBlockWrong)

/-- 'laws.FnPathTo': WHATEVER THE INPUT: true; the input reads as it did. -/
def fnPathToSpec : ChangeSpec := { name := "fnPathTo", fn := fun _ => fun
  | [d] => { results := [.lit (.bool true)], args := [d] }
  | _ => none }
def fnPathToRow : OpenClaim := { program := "ytalohgmgkjfdbaagreat", sum := "c743deb1e1a4541c4b32b475079f8e88767076af2df3980fdeb1ed89c418ec30", func := "loop.example/blockexecutor/laws.FnPathTo", spec := "fnPathTo", unfollowed := true, recurses := true, apart := false }
def FnPathToSaid : Prop := fnPathToRow.holds Tryz.pinned (OpenSpec.ofChange fnPathToSpec)

/-- ITS FALSE NEIGHBOUR: 'it returns false'. Refute it at one input. -/
def fnPathToWrong : ChangeSpec := { name := "fnPathTo", fn := fun _ => fun
  | [d] => { results := [.lit (.bool false)], args := [d] }
  | _ => none }
def FnPathToWrongFalsely : Prop := fnPathToRow.holds Tryz.pinned (OpenSpec.ofChange fnPathToWrong)

/-- 'laws.FnIsBefore': WHATEVER THE INPUT: true; the input reads as it did. -/
def fnIsBeforeSpec : ChangeSpec := { name := "fnIsBefore", fn := fun _ => fun
  | [d] => { results := [.lit (.bool true)], args := [d] }
  | _ => none }
def fnIsBeforeRow : OpenClaim := { program := "ytalohgmgkjfdbaagreat", sum := "c743deb1e1a4541c4b32b475079f8e88767076af2df3980fdeb1ed89c418ec30", func := "loop.example/blockexecutor/laws.FnIsBefore", spec := "fnIsBefore", unfollowed := true, recurses := true, apart := false }
def FnIsBeforeSaid : Prop := fnIsBeforeRow.holds Tryz.pinned (OpenSpec.ofChange fnIsBeforeSpec)

/-- ITS FALSE NEIGHBOUR: 'it returns false'. Refute it at one input. -/
def fnIsBeforeWrong : ChangeSpec := { name := "fnIsBefore", fn := fun _ => fun
  | [d] => { results := [.lit (.bool false)], args := [d] }
  | _ => none }
def FnIsBeforeWrongFalsely : Prop := fnIsBeforeRow.holds Tryz.pinned (OpenSpec.ofChange fnIsBeforeWrong)

/- THE SECOND FORM. 'bulk': how many values and letters a reading holds, each counted each time it is reached (what is shared counts as often as it is met; a slice's spare places count too). A statement '..UptoSaid' is the law's where the arguments, and the package variables that the reading takes, are together of bulk at most 1048576: NARROWER than '..Said'. Prove '..Said' where nothing that the law and all that it calls make is longer than what came in: it says more and counts as full. Else prove '..UptoSaid'. A law counts once. -/
mutual
def uptoBulk {H : Type} : DataW H → Nat
  | .lit (.string bytes) => bytes.length + 1
  | .lit _ => 1
  | .nil => 1
  | .ptr d => uptoBulk d + 1
  | .slice elems spare => uptoBulkAll elems + uptoBulkAll spare + 1
  | .agg parts => uptoBulkAll parts + 1
  | .iface _ d => uptoBulk d + 1
  | .map entries => uptoBulkEntries entries + 1
  | .held _ => 1
def uptoBulkAll {H : Type} : List (DataW H) → Nat
  | [] => 0
  | d :: r => uptoBulk d + uptoBulkAll r
def uptoBulkEntries {H : Type} : List (Lit × DataW H) → Nat
  | [] => 0
  | x :: r => uptoBulkEntry x + uptoBulkEntries r
def uptoBulkEntry {H : Type} : Lit × DataW H → Nat
  | (.string bytes, d) => bytes.length + uptoBulk d + 1
  | (_, d) => uptoBulk d + 1
 end
def uptoSmall : (H : Type) → List (DataW H) → Bool := fun _ ds => decide (uptoBulkAll ds ≤ 1048576)
def OpenSpec.upto (s : _root_.Go.ChangeSpec) : _root_.Go.OpenSpec := { _root_.Go.OpenSpec.ofChange s with cond := some uptoSmall }

/-- 'laws.FnExactTreeOf', WHERE WHAT IT READS IS OF BULK AT MOST 1048576: true; the input reads as it did. -/
def fnExactTreeOfUptoRow : OpenClaim := { program := "ytalohgmgkjfdbaagreat", sum := "c743deb1e1a4541c4b32b475079f8e88767076af2df3980fdeb1ed89c418ec30", func := "loop.example/blockexecutor/laws.FnExactTreeOf", spec := "fnExactTreeOf", unfollowed := true, recurses := true, apart := false, narrowed := true }
def FnExactTreeOfUptoSaid : Prop := fnExactTreeOfUptoRow.holds Tryz.pinned (OpenSpec.upto fnExactTreeOfSpec)

/-- 'laws.FnExactBlockTreeValid', WHERE WHAT IT READS IS OF BULK AT MOST 1048576: true; the input reads as it did. -/
def fnExactBlockTreeValidUptoRow : OpenClaim := { program := "ytalohgmgkjfdbaagreat", sum := "c743deb1e1a4541c4b32b475079f8e88767076af2df3980fdeb1ed89c418ec30", func := "loop.example/blockexecutor/laws.FnExactBlockTreeValid", spec := "fnExactBlockTreeValid", unfollowed := true, recurses := true, apart := false, narrowed := true }
def FnExactBlockTreeValidUptoSaid : Prop := fnExactBlockTreeValidUptoRow.holds Tryz.pinned (OpenSpec.upto fnExactBlockTreeValidSpec)

/-- 'laws.FnExactFindBlock', WHERE WHAT IT READS IS OF BULK AT MOST 1048576: true; the input reads as it did. -/
def fnExactFindBlockUptoRow : OpenClaim := { program := "ytalohgmgkjfdbaagreat", sum := "c743deb1e1a4541c4b32b475079f8e88767076af2df3980fdeb1ed89c418ec30", func := "loop.example/blockexecutor/laws.FnExactFindBlock", spec := "fnExactFindBlock", unfollowed := true, recurses := true, apart := false, narrowed := true }
def FnExactFindBlockUptoSaid : Prop := fnExactFindBlockUptoRow.holds Tryz.pinned (OpenSpec.upto fnExactFindBlockSpec)

/-- 'laws.FnExactPutBlock', WHERE WHAT IT READS IS OF BULK AT MOST 1048576: true; the input reads as it did. -/
def fnExactPutBlockUptoRow : OpenClaim := { program := "ytalohgmgkjfdbaagreat", sum := "c743deb1e1a4541c4b32b475079f8e88767076af2df3980fdeb1ed89c418ec30", func := "loop.example/blockexecutor/laws.FnExactPutBlock", spec := "fnExactPutBlock", unfollowed := true, recurses := true, apart := false, narrowed := true }
def FnExactPutBlockUptoSaid : Prop := fnExactPutBlockUptoRow.holds Tryz.pinned (OpenSpec.upto fnExactPutBlockSpec)

/-- 'laws.FnExactPathTo', WHERE WHAT IT READS IS OF BULK AT MOST 1048576: true; the input reads as it did. -/
def fnExactPathToUptoRow : OpenClaim := { program := "ytalohgmgkjfdbaagreat", sum := "c743deb1e1a4541c4b32b475079f8e88767076af2df3980fdeb1ed89c418ec30", func := "loop.example/blockexecutor/laws.FnExactPathTo", spec := "fnExactPathTo", unfollowed := true, recurses := true, apart := false, narrowed := true }
def FnExactPathToUptoSaid : Prop := fnExactPathToUptoRow.holds Tryz.pinned (OpenSpec.upto fnExactPathToSpec)

/-- 'laws.FnExactIsBefore', WHERE WHAT IT READS IS OF BULK AT MOST 1048576: true; the input reads as it did. -/
def fnExactIsBeforeUptoRow : OpenClaim := { program := "ytalohgmgkjfdbaagreat", sum := "c743deb1e1a4541c4b32b475079f8e88767076af2df3980fdeb1ed89c418ec30", func := "loop.example/blockexecutor/laws.FnExactIsBefore", spec := "fnExactIsBefore", unfollowed := true, recurses := true, apart := false, narrowed := true }
def FnExactIsBeforeUptoSaid : Prop := fnExactIsBeforeUptoRow.holds Tryz.pinned (OpenSpec.upto fnExactIsBeforeSpec)

/-- 'laws.FnExactStoreOf', WHERE WHAT IT READS IS OF BULK AT MOST 1048576: true; the input reads as it did. -/
def fnExactStoreOfUptoRow : OpenClaim := { program := "ytalohgmgkjfdbaagreat", sum := "c743deb1e1a4541c4b32b475079f8e88767076af2df3980fdeb1ed89c418ec30", func := "loop.example/blockexecutor/laws.FnExactStoreOf", spec := "fnExactStoreOf", unfollowed := true, recurses := true, apart := false, narrowed := true }
def FnExactStoreOfUptoSaid : Prop := fnExactStoreOfUptoRow.holds Tryz.pinned (OpenSpec.upto fnExactStoreOfSpec)

/-- 'laws.FnExactGrowTree', WHERE WHAT IT READS IS OF BULK AT MOST 1048576: true; the input reads as it did. -/
def fnExactGrowTreeUptoRow : OpenClaim := { program := "ytalohgmgkjfdbaagreat", sum := "c743deb1e1a4541c4b32b475079f8e88767076af2df3980fdeb1ed89c418ec30", func := "loop.example/blockexecutor/laws.FnExactGrowTree", spec := "fnExactGrowTree", unfollowed := true, recurses := true, apart := false, narrowed := true }
def FnExactGrowTreeUptoSaid : Prop := fnExactGrowTreeUptoRow.holds Tryz.pinned (OpenSpec.upto fnExactGrowTreeSpec)

/-- 'laws.FnBlockTreeValid', WHERE WHAT IT READS IS OF BULK AT MOST 1048576: true; the input reads as it did. -/
def fnBlockTreeValidUptoRow : OpenClaim := { program := "ytalohgmgkjfdbaagreat", sum := "c743deb1e1a4541c4b32b475079f8e88767076af2df3980fdeb1ed89c418ec30", func := "loop.example/blockexecutor/laws.FnBlockTreeValid", spec := "fnBlockTreeValid", unfollowed := true, recurses := true, apart := false, narrowed := true }
def FnBlockTreeValidUptoSaid : Prop := fnBlockTreeValidUptoRow.holds Tryz.pinned (OpenSpec.upto fnBlockTreeValidSpec)

/-- 'laws.FnFindBlock', WHERE WHAT IT READS IS OF BULK AT MOST 1048576: true; the input reads as it did. -/
def fnFindBlockUptoRow : OpenClaim := { program := "ytalohgmgkjfdbaagreat", sum := "c743deb1e1a4541c4b32b475079f8e88767076af2df3980fdeb1ed89c418ec30", func := "loop.example/blockexecutor/laws.FnFindBlock", spec := "fnFindBlock", unfollowed := true, recurses := true, apart := false, narrowed := true }
def FnFindBlockUptoSaid : Prop := fnFindBlockUptoRow.holds Tryz.pinned (OpenSpec.upto fnFindBlockSpec)

/-- 'laws.FnPathTo', WHERE WHAT IT READS IS OF BULK AT MOST 1048576: true; the input reads as it did. -/
def fnPathToUptoRow : OpenClaim := { program := "ytalohgmgkjfdbaagreat", sum := "c743deb1e1a4541c4b32b475079f8e88767076af2df3980fdeb1ed89c418ec30", func := "loop.example/blockexecutor/laws.FnPathTo", spec := "fnPathTo", unfollowed := true, recurses := true, apart := false, narrowed := true }
def FnPathToUptoSaid : Prop := fnPathToUptoRow.holds Tryz.pinned (OpenSpec.upto fnPathToSpec)

/-- 'laws.FnIsBefore', WHERE WHAT IT READS IS OF BULK AT MOST 1048576: true; the input reads as it did. -/
def fnIsBeforeUptoRow : OpenClaim := { program := "ytalohgmgkjfdbaagreat", sum := "c743deb1e1a4541c4b32b475079f8e88767076af2df3980fdeb1ed89c418ec30", func := "loop.example/blockexecutor/laws.FnIsBefore", spec := "fnIsBefore", unfollowed := true, recurses := true, apart := false, narrowed := true }
def FnIsBeforeUptoSaid : Prop := fnIsBeforeUptoRow.holds Tryz.pinned (OpenSpec.upto fnIsBeforeSpec)

end Rows
end Go.Proofs.YtalohgmgkjfdbaaGreat
