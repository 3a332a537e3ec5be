/-
  No cell of these rows narrows 'for every input' (looked for: loops, veiled, ifaces, maps, wideKeys, modest, calm, conditions, laid).
  DERIVED. THE GIVEN ROWS OF THIS SEAT. 6 by the template 'for every input the law returns true; each argument reads behind the call as it read before'; 0 by the template 'total and deterministic' (their statements: YtpjknhfcfhmmnaaTotals.lean).
  GIVEN WITH THE SEED: the statements are not yours to turn. If you find one false, say at which input.
  Laid BY PROGRAM, IN A SANDBOX (cutbox-rows.mjs): the forced cells as the released guide's own fill.sh prints them over the translation 8f27ab7018dc78bd… (all of the seat's roots in one cut). By AI agents, Wed Nov 11 2026. No macro, syntax, notation, axiom, sorry.
-/
import Derived.Test.YtpjknhfcfhmmnaaChecked
import GoSem.Claim
import GoSem.ClaimJoined
import GoSem.ClaimMapViews
import Derived.JoinedTies
import Derived.KernelRfl
namespace Go.Proofs.Ytpjknhfcfhmmnaa
/- THE CELL 'sum', in the pinned program and in every row, IS THE sha256 OF THE DUMP (.gsa) THAT YtpjknhfcfhmmnaaProg.lean LOADS. Nothing in Lean hashes anything: it is a label: what it is worth is what the hold of that sum in a sandbox is worth. -/
noncomputable def Try.pinned : Pinned := { name := "ytpjknhfcfhmmnaa", sum := "8f27ab7018dc78bd16045a97500dd8d948210249abe7d170d3a03f7b9bfa83c8", checked := Try.checked }
namespace Rows
def none {H : Type} : Left H := { results := [], args := [] }

/-- 'laws.FnActionValid': WHATEVER THE INPUT: true; the input reads as it did. -/
def fnActionValidSpec : ChangeSpec := { name := "fnActionValid", fn := fun _ => fun
  | [d] => { results := [.lit (.bool true)], args := [d] }
  | _ => none }
def fnActionValidRow : OpenClaim := { program := "ytpjknhfcfhmmnaa", sum := "8f27ab7018dc78bd16045a97500dd8d948210249abe7d170d3a03f7b9bfa83c8", func := "loop.example/blockexecutor/laws.FnActionValid", spec := "fnActionValid", unfollowed := true, recurses := true, apart := false }
def FnActionValidSaid : Prop := fnActionValidRow.holds Try.pinned (OpenSpec.ofChange fnActionValidSpec)

/-- ITS FALSE NEIGHBOUR: 'it returns false'. Refute it at one input. -/
def fnActionValidWrong : ChangeSpec := { name := "fnActionValid", fn := fun _ => fun
  | [d] => { results := [.lit (.bool false)], args := [d] }
  | _ => none }
def FnActionValidWrongFalsely : Prop := fnActionValidRow.holds Try.pinned (OpenSpec.ofChange fnActionValidWrong)

/-- 'laws.FnActionsValid': WHATEVER THE INPUT: true; the input reads as it did. -/
def fnActionsValidSpec : ChangeSpec := { name := "fnActionsValid", fn := fun _ => fun
  | [d] => { results := [.lit (.bool true)], args := [d] }
  | _ => none }
def fnActionsValidRow : OpenClaim := { program := "ytpjknhfcfhmmnaa", sum := "8f27ab7018dc78bd16045a97500dd8d948210249abe7d170d3a03f7b9bfa83c8", func := "loop.example/blockexecutor/laws.FnActionsValid", spec := "fnActionsValid", unfollowed := true, recurses := true, apart := false }
def FnActionsValidSaid : Prop := fnActionsValidRow.holds Try.pinned (OpenSpec.ofChange fnActionsValidSpec)

/-- ITS FALSE NEIGHBOUR: 'it returns false'. Refute it at one input. -/
def fnActionsValidWrong : ChangeSpec := { name := "fnActionsValid", fn := fun _ => fun
  | [d] => { results := [.lit (.bool false)], args := [d] }
  | _ => none }
def FnActionsValidWrongFalsely : Prop := fnActionsValidRow.holds Try.pinned (OpenSpec.ofChange fnActionsValidWrong)

/-- 'laws.FnExactActionValid': WHATEVER THE INPUT: true; the input reads as it did. -/
def fnExactActionValidSpec : ChangeSpec := { name := "fnExactActionValid", fn := fun _ => fun
  | [d] => { results := [.lit (.bool true)], args := [d] }
  | _ => none }
def fnExactActionValidRow : OpenClaim := { program := "ytpjknhfcfhmmnaa", sum := "8f27ab7018dc78bd16045a97500dd8d948210249abe7d170d3a03f7b9bfa83c8", func := "loop.example/blockexecutor/laws.FnExactActionValid", spec := "fnExactActionValid", unfollowed := true, recurses := true, apart := false }
def FnExactActionValidSaid : Prop := fnExactActionValidRow.holds Try.pinned (OpenSpec.ofChange fnExactActionValidSpec)

/-- ITS FALSE NEIGHBOUR: 'it returns false'. Refute it at one input. -/
def fnExactActionValidWrong : ChangeSpec := { name := "fnExactActionValid", fn := fun _ => fun
  | [d] => { results := [.lit (.bool false)], args := [d] }
  | _ => none }
def FnExactActionValidWrongFalsely : Prop := fnExactActionValidRow.holds Try.pinned (OpenSpec.ofChange fnExactActionValidWrong)

/-- 'laws.FnExactActionsValid': WHATEVER THE INPUT: true; the input reads as it did. -/
def fnExactActionsValidSpec : ChangeSpec := { name := "fnExactActionsValid", fn := fun _ => fun
  | [d] => { results := [.lit (.bool true)], args := [d] }
  | _ => none }
def fnExactActionsValidRow : OpenClaim := { program := "ytpjknhfcfhmmnaa", sum := "8f27ab7018dc78bd16045a97500dd8d948210249abe7d170d3a03f7b9bfa83c8", func := "loop.example/blockexecutor/laws.FnExactActionsValid", spec := "fnExactActionsValid", unfollowed := true, recurses := true, apart := false }
def FnExactActionsValidSaid : Prop := fnExactActionsValidRow.holds Try.pinned (OpenSpec.ofChange fnExactActionsValidSpec)

/-- ITS FALSE NEIGHBOUR: 'it returns false'. Refute it at one input. -/
def fnExactActionsValidWrong : ChangeSpec := { name := "fnExactActionsValid", fn := fun _ => fun
  | [d] => { results := [.lit (.bool false)], args := [d] }
  | _ => none }
def FnExactActionsValidWrongFalsely : Prop := fnExactActionsValidRow.holds Try.pinned (OpenSpec.ofChange fnExactActionsValidWrong)

/-- 'laws.FnExactActionReads': WHATEVER THE INPUT: true; the input reads as it did. -/
def fnExactActionReadsSpec : ChangeSpec := { name := "fnExactActionReads", fn := fun _ => fun
  | [d] => { results := [.lit (.bool true)], args := [d] }
  | _ => none }
def fnExactActionReadsRow : OpenClaim := { program := "ytpjknhfcfhmmnaa", sum := "8f27ab7018dc78bd16045a97500dd8d948210249abe7d170d3a03f7b9bfa83c8", func := "loop.example/blockexecutor/laws.FnExactActionReads", spec := "fnExactActionReads", unfollowed := true, recurses := true, apart := false }
def FnExactActionReadsSaid : Prop := fnExactActionReadsRow.holds Try.pinned (OpenSpec.ofChange fnExactActionReadsSpec)

/-- ITS FALSE NEIGHBOUR: 'it returns false'. Refute it at one input. -/
def fnExactActionReadsWrong : ChangeSpec := { name := "fnExactActionReads", fn := fun _ => fun
  | [d] => { results := [.lit (.bool false)], args := [d] }
  | _ => none }
def FnExactActionReadsWrongFalsely : Prop := fnExactActionReadsRow.holds Try.pinned (OpenSpec.ofChange fnExactActionReadsWrong)

/-- 'laws.FnExactActionWrites': WHATEVER THE INPUT: true; the input reads as it did. -/
def fnExactActionWritesSpec : ChangeSpec := { name := "fnExactActionWrites", fn := fun _ => fun
  | [d] => { results := [.lit (.bool true)], args := [d] }
  | _ => none }
def fnExactActionWritesRow : OpenClaim := { program := "ytpjknhfcfhmmnaa", sum := "8f27ab7018dc78bd16045a97500dd8d948210249abe7d170d3a03f7b9bfa83c8", func := "loop.example/blockexecutor/laws.FnExactActionWrites", spec := "fnExactActionWrites", unfollowed := true, recurses := true, apart := false }
def FnExactActionWritesSaid : Prop := fnExactActionWritesRow.holds Try.pinned (OpenSpec.ofChange fnExactActionWritesSpec)

/-- ITS FALSE NEIGHBOUR: 'it returns false'. Refute it at one input. -/
def fnExactActionWritesWrong : ChangeSpec := { name := "fnExactActionWrites", fn := fun _ => fun
  | [d] => { results := [.lit (.bool false)], args := [d] }
  | _ => none }
def FnExactActionWritesWrongFalsely : Prop := fnExactActionWritesRow.holds Try.pinned (OpenSpec.ofChange fnExactActionWritesWrong)

/- THE SECOND FORM. 'bulk': how many values and letters a reading holds, each counted each time it is reached (what is shared counts as often as it is met; a slice's spare places count too). A statement '..UptoSaid' is the law's where the arguments, and the package variables that the reading takes, are together of bulk at most 1048576: NARROWER than '..Said'. Prove '..Said' where nothing that the law and all that it calls make is longer than what came in: it says more and counts as full. Else prove '..UptoSaid'. A law counts once. -/
mutual
def uptoBulk {H : Type} : DataW H → Nat
  | .lit (.string bytes) => bytes.length + 1
  | .lit _ => 1
  | .nil => 1
  | .ptr d => uptoBulk d + 1
  | .slice elems spare => uptoBulkAll elems + uptoBulkAll spare + 1
  | .agg parts => uptoBulkAll parts + 1
  | .iface _ d => uptoBulk d + 1
  | .map entries => uptoBulkEntries entries + 1
  | .held _ => 1
def uptoBulkAll {H : Type} : List (DataW H) → Nat
  | [] => 0
  | d :: r => uptoBulk d + uptoBulkAll r
def uptoBulkEntries {H : Type} : List (Lit × DataW H) → Nat
  | [] => 0
  | x :: r => uptoBulkEntry x + uptoBulkEntries r
def uptoBulkEntry {H : Type} : Lit × DataW H → Nat
  | (.string bytes, d) => bytes.length + uptoBulk d + 1
  | (_, d) => uptoBulk d + 1
 end
def uptoSmall : (H : Type) → List (DataW H) → Bool := fun _ ds => decide (uptoBulkAll ds ≤ 1048576)
def OpenSpec.upto (s : _root_.Go.ChangeSpec) : _root_.Go.OpenSpec := { _root_.Go.OpenSpec.ofChange s with cond := some uptoSmall }

/-- 'laws.FnActionValid', WHERE WHAT IT READS IS OF BULK AT MOST 1048576: true; the input reads as it did. -/
def fnActionValidUptoRow : OpenClaim := { program := "ytpjknhfcfhmmnaa", sum := "8f27ab7018dc78bd16045a97500dd8d948210249abe7d170d3a03f7b9bfa83c8", func := "loop.example/blockexecutor/laws.FnActionValid", spec := "fnActionValid", unfollowed := true, recurses := true, apart := false, narrowed := true }
def FnActionValidUptoSaid : Prop := fnActionValidUptoRow.holds Try.pinned (OpenSpec.upto fnActionValidSpec)

/-- 'laws.FnActionsValid', WHERE WHAT IT READS IS OF BULK AT MOST 1048576: true; the input reads as it did. -/
def fnActionsValidUptoRow : OpenClaim := { program := "ytpjknhfcfhmmnaa", sum := "8f27ab7018dc78bd16045a97500dd8d948210249abe7d170d3a03f7b9bfa83c8", func := "loop.example/blockexecutor/laws.FnActionsValid", spec := "fnActionsValid", unfollowed := true, recurses := true, apart := false, narrowed := true }
def FnActionsValidUptoSaid : Prop := fnActionsValidUptoRow.holds Try.pinned (OpenSpec.upto fnActionsValidSpec)

/-- 'laws.FnExactActionValid', WHERE WHAT IT READS IS OF BULK AT MOST 1048576: true; the input reads as it did. -/
def fnExactActionValidUptoRow : OpenClaim := { program := "ytpjknhfcfhmmnaa", sum := "8f27ab7018dc78bd16045a97500dd8d948210249abe7d170d3a03f7b9bfa83c8", func := "loop.example/blockexecutor/laws.FnExactActionValid", spec := "fnExactActionValid", unfollowed := true, recurses := true, apart := false, narrowed := true }
def FnExactActionValidUptoSaid : Prop := fnExactActionValidUptoRow.holds Try.pinned (OpenSpec.upto fnExactActionValidSpec)

/-- 'laws.FnExactActionsValid', WHERE WHAT IT READS IS OF BULK AT MOST 1048576: true; the input reads as it did. -/
def fnExactActionsValidUptoRow : OpenClaim := { program := "ytpjknhfcfhmmnaa", sum := "8f27ab7018dc78bd16045a97500dd8d948210249abe7d170d3a03f7b9bfa83c8", func := "loop.example/blockexecutor/laws.FnExactActionsValid", spec := "fnExactActionsValid", unfollowed := true, recurses := true, apart := false, narrowed := true }
def FnExactActionsValidUptoSaid : Prop := fnExactActionsValidUptoRow.holds Try.pinned (OpenSpec.upto fnExactActionsValidSpec)

/-- 'laws.FnExactActionReads', WHERE WHAT IT READS IS OF BULK AT MOST 1048576: true; the input reads as it did. -/
def fnExactActionReadsUptoRow : OpenClaim := { program := "ytpjknhfcfhmmnaa", sum := "8f27ab7018dc78bd16045a97500dd8d948210249abe7d170d3a03f7b9bfa83c8", func := "loop.example/blockexecutor/laws.FnExactActionReads", spec := "fnExactActionReads", unfollowed := true, recurses := true, apart := false, narrowed := true }
def FnExactActionReadsUptoSaid : Prop := fnExactActionReadsUptoRow.holds Try.pinned (OpenSpec.upto fnExactActionReadsSpec)

/-- 'laws.FnExactActionWrites', WHERE WHAT IT READS IS OF BULK AT MOST 1048576: true; the input reads as it did. -/
def fnExactActionWritesUptoRow : OpenClaim := { program := "ytpjknhfcfhmmnaa", sum := "8f27ab7018dc78bd16045a97500dd8d948210249abe7d170d3a03f7b9bfa83c8", func := "loop.example/blockexecutor/laws.FnExactActionWrites", spec := "fnExactActionWrites", unfollowed := true, recurses := true, apart := false, narrowed := true }
def FnExactActionWritesUptoSaid : Prop := fnExactActionWritesUptoRow.holds Try.pinned (OpenSpec.upto fnExactActionWritesSpec)

end Rows
end Go.Proofs.Ytpjknhfcfhmmnaa
