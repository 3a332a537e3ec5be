/-
  No cell of these rows narrows 'for every input' (looked for: loops, veiled, ifaces, maps, wideKeys, modest, calm, conditions, laid).
  DERIVED. THE GIVEN ROWS OF THIS SEAT. 10 by the template 'for every input the law returns true; each argument reads behind the call as it read before'; 0 by the template 'total and deterministic' (their statements: YtcaombogffmopaaTotals.lean).
  GIVEN WITH THE SEED: the statements are not yours to turn. If you find one false, say at which input.
  Laid BY PROGRAM, IN A SANDBOX (cutbox-rows.mjs): the forced cells as the released guide's own fill.sh prints them over the translation 92d4d897b5004c39… (all of the seat's roots in one cut). By AI agents, Wed Nov 11 2026. No macro, syntax, notation, axiom, sorry.
-/
import Derived.Test.YtcaombogffmopaaChecked
import GoSem.Claim
import GoSem.ClaimJoined
import GoSem.ClaimMapViews
import Derived.JoinedTies
import Derived.KernelRfl
namespace Go.Proofs.Ytcaombogffmopaa
/- THE CELL 'sum', in the pinned program and in every row, IS THE sha256 OF THE DUMP (.gsa) THAT YtcaombogffmopaaProg.lean LOADS. Nothing in Lean hashes anything: it is a label: what it is worth is what the hold of that sum in a sandbox is worth. -/
noncomputable def Try.pinned : Pinned := { name := "ytcaombogffmopaa", sum := "92d4d897b5004c39cd1dc284907110072ffe2e1389a3a05336094247437a5b1d", checked := Try.checked }
namespace Rows
def none {H : Type} : Left H := { results := [], args := [] }

/-- 'laws.FnLayersValid': WHATEVER THE INPUT: true; the input reads as it did. -/
def fnLayersValidSpec : ChangeSpec := { name := "fnLayersValid", fn := fun _ => fun
  | [d] => { results := [.lit (.bool true)], args := [d] }
  | _ => none }
def fnLayersValidRow : OpenClaim := { program := "ytcaombogffmopaa", sum := "92d4d897b5004c39cd1dc284907110072ffe2e1389a3a05336094247437a5b1d", func := "loop.example/blockexecutor/laws.FnLayersValid", spec := "fnLayersValid", apart := false }
def FnLayersValidSaid : Prop := fnLayersValidRow.holds Try.pinned (OpenSpec.ofChange fnLayersValidSpec)

/-- ITS FALSE NEIGHBOUR: 'it returns false'. Refute it at one input. -/
def fnLayersValidWrong : ChangeSpec := { name := "fnLayersValid", fn := fun _ => fun
  | [d] => { results := [.lit (.bool false)], args := [d] }
  | _ => none }
def FnLayersValidWrongFalsely : Prop := fnLayersValidRow.holds Try.pinned (OpenSpec.ofChange fnLayersValidWrong)

/-- 'laws.FnLayerRead': WHATEVER THE INPUT: true; the input reads as it did. -/
def fnLayerReadSpec : ChangeSpec := { name := "fnLayerRead", fn := fun _ => fun
  | [d] => { results := [.lit (.bool true)], args := [d] }
  | _ => none }
def fnLayerReadRow : OpenClaim := { program := "ytcaombogffmopaa", sum := "92d4d897b5004c39cd1dc284907110072ffe2e1389a3a05336094247437a5b1d", func := "loop.example/blockexecutor/laws.FnLayerRead", spec := "fnLayerRead", apart := false }
def FnLayerReadSaid : Prop := fnLayerReadRow.holds Try.pinned (OpenSpec.ofChange fnLayerReadSpec)

/-- ITS FALSE NEIGHBOUR: 'it returns false'. Refute it at one input. -/
def fnLayerReadWrong : ChangeSpec := { name := "fnLayerRead", fn := fun _ => fun
  | [d] => { results := [.lit (.bool false)], args := [d] }
  | _ => none }
def FnLayerReadWrongFalsely : Prop := fnLayerReadRow.holds Try.pinned (OpenSpec.ofChange fnLayerReadWrong)

/-- 'laws.FnForkLayer': WHATEVER THE INPUT: true; the input reads as it did. -/
def fnForkLayerSpec : ChangeSpec := { name := "fnForkLayer", fn := fun _ => fun
  | [d] => { results := [.lit (.bool true)], args := [d] }
  | _ => none }
def fnForkLayerRow : OpenClaim := { program := "ytcaombogffmopaa", sum := "92d4d897b5004c39cd1dc284907110072ffe2e1389a3a05336094247437a5b1d", func := "loop.example/blockexecutor/laws.FnForkLayer", spec := "fnForkLayer", apart := false }
def FnForkLayerSaid : Prop := fnForkLayerRow.holds Try.pinned (OpenSpec.ofChange fnForkLayerSpec)

/-- ITS FALSE NEIGHBOUR: 'it returns false'. Refute it at one input. -/
def fnForkLayerWrong : ChangeSpec := { name := "fnForkLayer", fn := fun _ => fun
  | [d] => { results := [.lit (.bool false)], args := [d] }
  | _ => none }
def FnForkLayerWrongFalsely : Prop := fnForkLayerRow.holds Try.pinned (OpenSpec.ofChange fnForkLayerWrong)

/-- 'laws.FnLayerWrite': WHATEVER THE INPUT: true; the input reads as it did. -/
def fnLayerWriteSpec : ChangeSpec := { name := "fnLayerWrite", fn := fun _ => fun
  | [d] => { results := [.lit (.bool true)], args := [d] }
  | _ => none }
def fnLayerWriteRow : OpenClaim := { program := "ytcaombogffmopaa", sum := "92d4d897b5004c39cd1dc284907110072ffe2e1389a3a05336094247437a5b1d", func := "loop.example/blockexecutor/laws.FnLayerWrite", spec := "fnLayerWrite", apart := false }
def FnLayerWriteSaid : Prop := fnLayerWriteRow.holds Try.pinned (OpenSpec.ofChange fnLayerWriteSpec)

/-- ITS FALSE NEIGHBOUR: 'it returns false'. Refute it at one input. -/
def fnLayerWriteWrong : ChangeSpec := { name := "fnLayerWrite", fn := fun _ => fun
  | [d] => { results := [.lit (.bool false)], args := [d] }
  | _ => none }
def FnLayerWriteWrongFalsely : Prop := fnLayerWriteRow.holds Try.pinned (OpenSpec.ofChange fnLayerWriteWrong)

/-- 'laws.FnLayerStore': WHATEVER THE INPUT: true; the input reads as it did. -/
def fnLayerStoreSpec : ChangeSpec := { name := "fnLayerStore", fn := fun _ => fun
  | [d] => { results := [.lit (.bool true)], args := [d] }
  | _ => none }
def fnLayerStoreRow : OpenClaim := { program := "ytcaombogffmopaa", sum := "92d4d897b5004c39cd1dc284907110072ffe2e1389a3a05336094247437a5b1d", func := "loop.example/blockexecutor/laws.FnLayerStore", spec := "fnLayerStore", apart := false }
def FnLayerStoreSaid : Prop := fnLayerStoreRow.holds Try.pinned (OpenSpec.ofChange fnLayerStoreSpec)

/-- ITS FALSE NEIGHBOUR: 'it returns false'. Refute it at one input. -/
def fnLayerStoreWrong : ChangeSpec := { name := "fnLayerStore", fn := fun _ => fun
  | [d] => { results := [.lit (.bool false)], args := [d] }
  | _ => none }
def FnLayerStoreWrongFalsely : Prop := fnLayerStoreRow.holds Try.pinned (OpenSpec.ofChange fnLayerStoreWrong)

/-- 'laws.FnExactLayersValid': WHATEVER THE INPUT: true; the input reads as it did. -/
def fnExactLayersValidSpec : ChangeSpec := { name := "fnExactLayersValid", fn := fun _ => fun
  | [d] => { results := [.lit (.bool true)], args := [d] }
  | _ => none }
def fnExactLayersValidRow : OpenClaim := { program := "ytcaombogffmopaa", sum := "92d4d897b5004c39cd1dc284907110072ffe2e1389a3a05336094247437a5b1d", func := "loop.example/blockexecutor/laws.FnExactLayersValid", spec := "fnExactLayersValid", apart := false }
def FnExactLayersValidSaid : Prop := fnExactLayersValidRow.holds Try.pinned (OpenSpec.ofChange fnExactLayersValidSpec)

/-- ITS FALSE NEIGHBOUR: 'it returns false'. Refute it at one input. -/
def fnExactLayersValidWrong : ChangeSpec := { name := "fnExactLayersValid", fn := fun _ => fun
  | [d] => { results := [.lit (.bool false)], args := [d] }
  | _ => none }
def FnExactLayersValidWrongFalsely : Prop := fnExactLayersValidRow.holds Try.pinned (OpenSpec.ofChange fnExactLayersValidWrong)

/-- 'laws.FnExactLayerRead': WHATEVER THE INPUT: true; the input reads as it did. -/
def fnExactLayerReadSpec : ChangeSpec := { name := "fnExactLayerRead", fn := fun _ => fun
  | [d1, d2, d3, d4] => { results := [.lit (.bool true)], args := [d1, d2, d3, d4] }
  | _ => none }
def fnExactLayerReadRow : OpenClaim := { program := "ytcaombogffmopaa", sum := "92d4d897b5004c39cd1dc284907110072ffe2e1389a3a05336094247437a5b1d", func := "loop.example/blockexecutor/laws.FnExactLayerRead", spec := "fnExactLayerRead", apart := false }
def FnExactLayerReadSaid : Prop := fnExactLayerReadRow.holds Try.pinned (OpenSpec.ofChange fnExactLayerReadSpec)

/-- ITS FALSE NEIGHBOUR: 'it returns false'. Refute it at one input. -/
def fnExactLayerReadWrong : ChangeSpec := { name := "fnExactLayerRead", fn := fun _ => fun
  | [d1, d2, d3, d4] => { results := [.lit (.bool false)], args := [d1, d2, d3, d4] }
  | _ => none }
def FnExactLayerReadWrongFalsely : Prop := fnExactLayerReadRow.holds Try.pinned (OpenSpec.ofChange fnExactLayerReadWrong)

/-- 'laws.FnExactForkLayer': WHATEVER THE INPUT: true; the input reads as it did. -/
def fnExactForkLayerSpec : ChangeSpec := { name := "fnExactForkLayer", fn := fun _ => fun
  | [d1, d2] => { results := [.lit (.bool true)], args := [d1, d2] }
  | _ => none }
def fnExactForkLayerRow : OpenClaim := { program := "ytcaombogffmopaa", sum := "92d4d897b5004c39cd1dc284907110072ffe2e1389a3a05336094247437a5b1d", func := "loop.example/blockexecutor/laws.FnExactForkLayer", spec := "fnExactForkLayer", apart := false }
def FnExactForkLayerSaid : Prop := fnExactForkLayerRow.holds Try.pinned (OpenSpec.ofChange fnExactForkLayerSpec)

/-- ITS FALSE NEIGHBOUR: 'it returns false'. Refute it at one input. -/
def fnExactForkLayerWrong : ChangeSpec := { name := "fnExactForkLayer", fn := fun _ => fun
  | [d1, d2] => { results := [.lit (.bool false)], args := [d1, d2] }
  | _ => none }
def FnExactForkLayerWrongFalsely : Prop := fnExactForkLayerRow.holds Try.pinned (OpenSpec.ofChange fnExactForkLayerWrong)

/-- 'laws.FnExactLayerWrite': WHATEVER THE INPUT: true; the input reads as it did. -/
def fnExactLayerWriteSpec : ChangeSpec := { name := "fnExactLayerWrite", fn := fun _ => fun
  | [d1, d2, d3, d4] => { results := [.lit (.bool true)], args := [d1, d2, d3, d4] }
  | _ => none }
def fnExactLayerWriteRow : OpenClaim := { program := "ytcaombogffmopaa", sum := "92d4d897b5004c39cd1dc284907110072ffe2e1389a3a05336094247437a5b1d", func := "loop.example/blockexecutor/laws.FnExactLayerWrite", spec := "fnExactLayerWrite", apart := false }
def FnExactLayerWriteSaid : Prop := fnExactLayerWriteRow.holds Try.pinned (OpenSpec.ofChange fnExactLayerWriteSpec)

/-- ITS FALSE NEIGHBOUR: 'it returns false'. Refute it at one input. -/
def fnExactLayerWriteWrong : ChangeSpec := { name := "fnExactLayerWrite", fn := fun _ => fun
  | [d1, d2, d3, d4] => { results := [.lit (.bool false)], args := [d1, d2, d3, d4] }
  | _ => none }
def FnExactLayerWriteWrongFalsely : Prop := fnExactLayerWriteRow.holds Try.pinned (OpenSpec.ofChange fnExactLayerWriteWrong)

/-- 'laws.FnExactLayerStore': WHATEVER THE INPUT: true; the input reads as it did. -/
def fnExactLayerStoreSpec : ChangeSpec := { name := "fnExactLayerStore", fn := fun _ => fun
  | [d1, d2, d3] => { results := [.lit (.bool true)], args := [d1, d2, d3] }
  | _ => none }
def fnExactLayerStoreRow : OpenClaim := { program := "ytcaombogffmopaa", sum := "92d4d897b5004c39cd1dc284907110072ffe2e1389a3a05336094247437a5b1d", func := "loop.example/blockexecutor/laws.FnExactLayerStore", spec := "fnExactLayerStore", apart := false }
def FnExactLayerStoreSaid : Prop := fnExactLayerStoreRow.holds Try.pinned (OpenSpec.ofChange fnExactLayerStoreSpec)

/-- ITS FALSE NEIGHBOUR: 'it returns false'. Refute it at one input. -/
def fnExactLayerStoreWrong : ChangeSpec := { name := "fnExactLayerStore", fn := fun _ => fun
  | [d1, d2, d3] => { results := [.lit (.bool false)], args := [d1, d2, d3] }
  | _ => none }
def FnExactLayerStoreWrongFalsely : Prop := fnExactLayerStoreRow.holds Try.pinned (OpenSpec.ofChange fnExactLayerStoreWrong)

/- THE SECOND FORM. 'bulk': how many values and letters a reading holds, each counted each time it is reached (what is shared counts as often as it is met; a slice's spare places count too). A statement '..UptoSaid' is the law's where the arguments, and the package variables that the reading takes, are together of bulk at most 1048576: NARROWER than '..Said'. Prove '..Said' where nothing that the law and all that it calls make is longer than what came in: it says more and counts as full. Else prove '..UptoSaid'. A law counts once. -/
mutual
def uptoBulk {H : Type} : DataW H → Nat
  | .lit (.string bytes) => bytes.length + 1
  | .lit _ => 1
  | .nil => 1
  | .ptr d => uptoBulk d + 1
  | .slice elems spare => uptoBulkAll elems + uptoBulkAll spare + 1
  | .agg parts => uptoBulkAll parts + 1
  | .iface _ d => uptoBulk d + 1
  | .map entries => uptoBulkEntries entries + 1
  | .held _ => 1
def uptoBulkAll {H : Type} : List (DataW H) → Nat
  | [] => 0
  | d :: r => uptoBulk d + uptoBulkAll r
def uptoBulkEntries {H : Type} : List (Lit × DataW H) → Nat
  | [] => 0
  | x :: r => uptoBulkEntry x + uptoBulkEntries r
def uptoBulkEntry {H : Type} : Lit × DataW H → Nat
  | (.string bytes, d) => bytes.length + uptoBulk d + 1
  | (_, d) => uptoBulk d + 1
 end
def uptoSmall : (H : Type) → List (DataW H) → Bool := fun _ ds => decide (uptoBulkAll ds ≤ 1048576)
def OpenSpec.upto (s : _root_.Go.ChangeSpec) : _root_.Go.OpenSpec := { _root_.Go.OpenSpec.ofChange s with cond := some uptoSmall }

/-- 'laws.FnLayersValid', WHERE WHAT IT READS IS OF BULK AT MOST 1048576: true; the input reads as it did. -/
def fnLayersValidUptoRow : OpenClaim := { program := "ytcaombogffmopaa", sum := "92d4d897b5004c39cd1dc284907110072ffe2e1389a3a05336094247437a5b1d", func := "loop.example/blockexecutor/laws.FnLayersValid", spec := "fnLayersValid", apart := false, narrowed := true }
def FnLayersValidUptoSaid : Prop := fnLayersValidUptoRow.holds Try.pinned (OpenSpec.upto fnLayersValidSpec)

/-- 'laws.FnLayerRead', WHERE WHAT IT READS IS OF BULK AT MOST 1048576: true; the input reads as it did. -/
def fnLayerReadUptoRow : OpenClaim := { program := "ytcaombogffmopaa", sum := "92d4d897b5004c39cd1dc284907110072ffe2e1389a3a05336094247437a5b1d", func := "loop.example/blockexecutor/laws.FnLayerRead", spec := "fnLayerRead", apart := false, narrowed := true }
def FnLayerReadUptoSaid : Prop := fnLayerReadUptoRow.holds Try.pinned (OpenSpec.upto fnLayerReadSpec)

/-- 'laws.FnForkLayer', WHERE WHAT IT READS IS OF BULK AT MOST 1048576: true; the input reads as it did. -/
def fnForkLayerUptoRow : OpenClaim := { program := "ytcaombogffmopaa", sum := "92d4d897b5004c39cd1dc284907110072ffe2e1389a3a05336094247437a5b1d", func := "loop.example/blockexecutor/laws.FnForkLayer", spec := "fnForkLayer", apart := false, narrowed := true }
def FnForkLayerUptoSaid : Prop := fnForkLayerUptoRow.holds Try.pinned (OpenSpec.upto fnForkLayerSpec)

/-- 'laws.FnLayerWrite', WHERE WHAT IT READS IS OF BULK AT MOST 1048576: true; the input reads as it did. -/
def fnLayerWriteUptoRow : OpenClaim := { program := "ytcaombogffmopaa", sum := "92d4d897b5004c39cd1dc284907110072ffe2e1389a3a05336094247437a5b1d", func := "loop.example/blockexecutor/laws.FnLayerWrite", spec := "fnLayerWrite", apart := false, narrowed := true }
def FnLayerWriteUptoSaid : Prop := fnLayerWriteUptoRow.holds Try.pinned (OpenSpec.upto fnLayerWriteSpec)

/-- 'laws.FnLayerStore', WHERE WHAT IT READS IS OF BULK AT MOST 1048576: true; the input reads as it did. -/
def fnLayerStoreUptoRow : OpenClaim := { program := "ytcaombogffmopaa", sum := "92d4d897b5004c39cd1dc284907110072ffe2e1389a3a05336094247437a5b1d", func := "loop.example/blockexecutor/laws.FnLayerStore", spec := "fnLayerStore", apart := false, narrowed := true }
def FnLayerStoreUptoSaid : Prop := fnLayerStoreUptoRow.holds Try.pinned (OpenSpec.upto fnLayerStoreSpec)

/-- 'laws.FnExactLayersValid', WHERE WHAT IT READS IS OF BULK AT MOST 1048576: true; the input reads as it did. -/
def fnExactLayersValidUptoRow : OpenClaim := { program := "ytcaombogffmopaa", sum := "92d4d897b5004c39cd1dc284907110072ffe2e1389a3a05336094247437a5b1d", func := "loop.example/blockexecutor/laws.FnExactLayersValid", spec := "fnExactLayersValid", apart := false, narrowed := true }
def FnExactLayersValidUptoSaid : Prop := fnExactLayersValidUptoRow.holds Try.pinned (OpenSpec.upto fnExactLayersValidSpec)

/-- 'laws.FnExactLayerRead', WHERE WHAT IT READS IS OF BULK AT MOST 1048576: true; the input reads as it did. -/
def fnExactLayerReadUptoRow : OpenClaim := { program := "ytcaombogffmopaa", sum := "92d4d897b5004c39cd1dc284907110072ffe2e1389a3a05336094247437a5b1d", func := "loop.example/blockexecutor/laws.FnExactLayerRead", spec := "fnExactLayerRead", apart := false, narrowed := true }
def FnExactLayerReadUptoSaid : Prop := fnExactLayerReadUptoRow.holds Try.pinned (OpenSpec.upto fnExactLayerReadSpec)

/-- 'laws.FnExactForkLayer', WHERE WHAT IT READS IS OF BULK AT MOST 1048576: true; the input reads as it did. -/
def fnExactForkLayerUptoRow : OpenClaim := { program := "ytcaombogffmopaa", sum := "92d4d897b5004c39cd1dc284907110072ffe2e1389a3a05336094247437a5b1d", func := "loop.example/blockexecutor/laws.FnExactForkLayer", spec := "fnExactForkLayer", apart := false, narrowed := true }
def FnExactForkLayerUptoSaid : Prop := fnExactForkLayerUptoRow.holds Try.pinned (OpenSpec.upto fnExactForkLayerSpec)

/-- 'laws.FnExactLayerWrite', WHERE WHAT IT READS IS OF BULK AT MOST 1048576: true; the input reads as it did. -/
def fnExactLayerWriteUptoRow : OpenClaim := { program := "ytcaombogffmopaa", sum := "92d4d897b5004c39cd1dc284907110072ffe2e1389a3a05336094247437a5b1d", func := "loop.example/blockexecutor/laws.FnExactLayerWrite", spec := "fnExactLayerWrite", apart := false, narrowed := true }
def FnExactLayerWriteUptoSaid : Prop := fnExactLayerWriteUptoRow.holds Try.pinned (OpenSpec.upto fnExactLayerWriteSpec)

/-- 'laws.FnExactLayerStore', WHERE WHAT IT READS IS OF BULK AT MOST 1048576: true; the input reads as it did. -/
def fnExactLayerStoreUptoRow : OpenClaim := { program := "ytcaombogffmopaa", sum := "92d4d897b5004c39cd1dc284907110072ffe2e1389a3a05336094247437a5b1d", func := "loop.example/blockexecutor/laws.FnExactLayerStore", spec := "fnExactLayerStore", apart := false, narrowed := true }
def FnExactLayerStoreUptoSaid : Prop := fnExactLayerStoreUptoRow.holds Try.pinned (OpenSpec.upto fnExactLayerStoreSpec)

end Rows
end Go.Proofs.Ytcaombogffmopaa
