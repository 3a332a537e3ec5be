/-
  No cell of these rows narrows 'for every input' (looked for: loops, veiled, ifaces, maps, wideKeys, modest, calm, conditions, laid).
  DERIVED. THE GIVEN ROWS OF THIS SEAT. 9 by the template 'for every input the law returns true; each argument reads behind the call as it read before'; 0 by the template 'total and deterministic' (their statements: YtakbkomgmajnfaaTotals.lean).
  GIVEN WITH THE SEED: the statements are not yours to turn. If you find one false, say at which input.
  Laid BY PROGRAM, IN A SANDBOX (cutbox-rows.mjs): the forced cells as the released guide's own fill.sh prints them over the translation 34bb91acbc41dbff… (all of the seat's roots in one cut). By AI agents, Wed Nov 11 2026. No macro, syntax, notation, axiom, sorry.
-/
import Derived.Test.YtakbkomgmajnfaaChecked
import GoSem.Claim
import GoSem.ClaimJoined
import GoSem.ClaimMapViews
import Derived.JoinedTies
import Derived.KernelRfl
namespace Go.Proofs.Ytakbkomgmajnfaa
/- THE CELL 'sum', in the pinned program and in every row, IS THE sha256 OF THE DUMP (.gsa) THAT YtakbkomgmajnfaaProg.lean LOADS. Nothing in Lean hashes anything: it is a label: what it is worth is what the hold of that sum in a sandbox is worth. -/
noncomputable def Try.pinned : Pinned := { name := "ytakbkomgmajnfaa", sum := "34bb91acbc41dbffb92c2259005e45f14c02defcfcfb06cfa8b42a98fb87fac1", checked := Try.checked }
namespace Rows
def none {H : Type} : Left H := { results := [], args := [] }

/-- 'laws.FnActionReads': WHATEVER THE INPUT: true; the input reads as it did. -/
def fnActionReadsSpec : ChangeSpec := { name := "fnActionReads", fn := fun _ => fun
  | [d] => { results := [.lit (.bool true)], args := [d] }
  | _ => none }
def fnActionReadsRow : OpenClaim := { program := "ytakbkomgmajnfaa", sum := "34bb91acbc41dbffb92c2259005e45f14c02defcfcfb06cfa8b42a98fb87fac1", func := "loop.example/blockexecutor/laws.FnActionReads", spec := "fnActionReads", unfollowed := true, recurses := true, apart := false }
def FnActionReadsSaid : Prop := fnActionReadsRow.holds Try.pinned (OpenSpec.ofChange fnActionReadsSpec)

/-- ITS FALSE NEIGHBOUR: 'it returns false'. Refute it at one input. -/
def fnActionReadsWrong : ChangeSpec := { name := "fnActionReads", fn := fun _ => fun
  | [d] => { results := [.lit (.bool false)], args := [d] }
  | _ => none }
def FnActionReadsWrongFalsely : Prop := fnActionReadsRow.holds Try.pinned (OpenSpec.ofChange fnActionReadsWrong)

/-- 'laws.FnActionWrites': WHATEVER THE INPUT: true; the input reads as it did. -/
def fnActionWritesSpec : ChangeSpec := { name := "fnActionWrites", fn := fun _ => fun
  | [d] => { results := [.lit (.bool true)], args := [d] }
  | _ => none }
def fnActionWritesRow : OpenClaim := { program := "ytakbkomgmajnfaa", sum := "34bb91acbc41dbffb92c2259005e45f14c02defcfcfb06cfa8b42a98fb87fac1", func := "loop.example/blockexecutor/laws.FnActionWrites", spec := "fnActionWrites", unfollowed := true, recurses := true, apart := false }
def FnActionWritesSaid : Prop := fnActionWritesRow.holds Try.pinned (OpenSpec.ofChange fnActionWritesSpec)

/-- ITS FALSE NEIGHBOUR: 'it returns false'. Refute it at one input. -/
def fnActionWritesWrong : ChangeSpec := { name := "fnActionWrites", fn := fun _ => fun
  | [d] => { results := [.lit (.bool false)], args := [d] }
  | _ => none }
def FnActionWritesWrongFalsely : Prop := fnActionWritesRow.holds Try.pinned (OpenSpec.ofChange fnActionWritesWrong)

/-- 'laws.FnRunAction': WHATEVER THE INPUT: true; the input reads as it did. -/
def fnRunActionSpec : ChangeSpec := { name := "fnRunAction", fn := fun _ => fun
  | [d] => { results := [.lit (.bool true)], args := [d] }
  | _ => none }
def fnRunActionRow : OpenClaim := { program := "ytakbkomgmajnfaa", sum := "34bb91acbc41dbffb92c2259005e45f14c02defcfcfb06cfa8b42a98fb87fac1", func := "loop.example/blockexecutor/laws.FnRunAction", spec := "fnRunAction", unfollowed := true, recurses := true, apart := false }
def FnRunActionSaid : Prop := fnRunActionRow.holds Try.pinned (OpenSpec.ofChange fnRunActionSpec)

/-- ITS FALSE NEIGHBOUR: 'it returns false'. Refute it at one input. -/
def fnRunActionWrong : ChangeSpec := { name := "fnRunAction", fn := fun _ => fun
  | [d] => { results := [.lit (.bool false)], args := [d] }
  | _ => none }
def FnRunActionWrongFalsely : Prop := fnRunActionRow.holds Try.pinned (OpenSpec.ofChange fnRunActionWrong)

/-- 'laws.FnApplyEffect': WHATEVER THE INPUT: true; the input reads as it did. -/
def fnApplyEffectSpec : ChangeSpec := { name := "fnApplyEffect", fn := fun _ => fun
  | [d] => { results := [.lit (.bool true)], args := [d] }
  | _ => none }
def fnApplyEffectRow : OpenClaim := { program := "ytakbkomgmajnfaa", sum := "34bb91acbc41dbffb92c2259005e45f14c02defcfcfb06cfa8b42a98fb87fac1", func := "loop.example/blockexecutor/laws.FnApplyEffect", spec := "fnApplyEffect", apart := false }
def FnApplyEffectSaid : Prop := fnApplyEffectRow.holds Try.pinned (OpenSpec.ofChange fnApplyEffectSpec)

/-- ITS FALSE NEIGHBOUR: 'it returns false'. Refute it at one input. -/
def fnApplyEffectWrong : ChangeSpec := { name := "fnApplyEffect", fn := fun _ => fun
  | [d] => { results := [.lit (.bool false)], args := [d] }
  | _ => none }
def FnApplyEffectWrongFalsely : Prop := fnApplyEffectRow.holds Try.pinned (OpenSpec.ofChange fnApplyEffectWrong)

/-- 'laws.FnEffectSum': WHATEVER THE INPUT: true; the input reads as it did. -/
def fnEffectSumSpec : ChangeSpec := { name := "fnEffectSum", fn := fun _ => fun
  | [d] => { results := [.lit (.bool true)], args := [d] }
  | _ => none }
def fnEffectSumRow : OpenClaim := { program := "ytakbkomgmajnfaa", sum := "34bb91acbc41dbffb92c2259005e45f14c02defcfcfb06cfa8b42a98fb87fac1", func := "loop.example/blockexecutor/laws.FnEffectSum", spec := "fnEffectSum", apart := false }
def FnEffectSumSaid : Prop := fnEffectSumRow.holds Try.pinned (OpenSpec.ofChange fnEffectSumSpec)

/-- ITS FALSE NEIGHBOUR: 'it returns false'. Refute it at one input. -/
def fnEffectSumWrong : ChangeSpec := { name := "fnEffectSum", fn := fun _ => fun
  | [d] => { results := [.lit (.bool false)], args := [d] }
  | _ => none }
def FnEffectSumWrongFalsely : Prop := fnEffectSumRow.holds Try.pinned (OpenSpec.ofChange fnEffectSumWrong)

/-- 'laws.FnLayerEffect': WHATEVER THE INPUT: true; the input reads as it did. -/
def fnLayerEffectSpec : ChangeSpec := { name := "fnLayerEffect", fn := fun _ => fun
  | [d] => { results := [.lit (.bool true)], args := [d] }
  | _ => none }
def fnLayerEffectRow : OpenClaim := { program := "ytakbkomgmajnfaa", sum := "34bb91acbc41dbffb92c2259005e45f14c02defcfcfb06cfa8b42a98fb87fac1", func := "loop.example/blockexecutor/laws.FnLayerEffect", spec := "fnLayerEffect", unfollowed := true, recurses := true, apart := false }
def FnLayerEffectSaid : Prop := fnLayerEffectRow.holds Try.pinned (OpenSpec.ofChange fnLayerEffectSpec)

/-- ITS FALSE NEIGHBOUR: 'it returns false'. Refute it at one input. -/
def fnLayerEffectWrong : ChangeSpec := { name := "fnLayerEffect", fn := fun _ => fun
  | [d] => { results := [.lit (.bool false)], args := [d] }
  | _ => none }
def FnLayerEffectWrongFalsely : Prop := fnLayerEffectRow.holds Try.pinned (OpenSpec.ofChange fnLayerEffectWrong)

/-- 'laws.FnExactRunAction': WHATEVER THE INPUT: true; the input reads as it did. -/
def fnExactRunActionSpec : ChangeSpec := { name := "fnExactRunAction", fn := fun _ => fun
  | [d1, d2] => { results := [.lit (.bool true)], args := [d1, d2] }
  | _ => none }
def fnExactRunActionRow : OpenClaim := { program := "ytakbkomgmajnfaa", sum := "34bb91acbc41dbffb92c2259005e45f14c02defcfcfb06cfa8b42a98fb87fac1", func := "loop.example/blockexecutor/laws.FnExactRunAction", spec := "fnExactRunAction", unfollowed := true, recurses := true, apart := false }
def FnExactRunActionSaid : Prop := fnExactRunActionRow.holds Try.pinned (OpenSpec.ofChange fnExactRunActionSpec)

/-- ITS FALSE NEIGHBOUR: 'it returns false'. Refute it at one input. -/
def fnExactRunActionWrong : ChangeSpec := { name := "fnExactRunAction", fn := fun _ => fun
  | [d1, d2] => { results := [.lit (.bool false)], args := [d1, d2] }
  | _ => none }
def FnExactRunActionWrongFalsely : Prop := fnExactRunActionRow.holds Try.pinned (OpenSpec.ofChange fnExactRunActionWrong)

/-- 'laws.FnExactApplyEffect': WHATEVER THE INPUT: true; the input reads as it did. -/
def fnExactApplyEffectSpec : ChangeSpec := { name := "fnExactApplyEffect", fn := fun _ => fun
  | [d1, d2] => { results := [.lit (.bool true)], args := [d1, d2] }
  | _ => none }
def fnExactApplyEffectRow : OpenClaim := { program := "ytakbkomgmajnfaa", sum := "34bb91acbc41dbffb92c2259005e45f14c02defcfcfb06cfa8b42a98fb87fac1", func := "loop.example/blockexecutor/laws.FnExactApplyEffect", spec := "fnExactApplyEffect", apart := false }
def FnExactApplyEffectSaid : Prop := fnExactApplyEffectRow.holds Try.pinned (OpenSpec.ofChange fnExactApplyEffectSpec)

/-- ITS FALSE NEIGHBOUR: 'it returns false'. Refute it at one input. -/
def fnExactApplyEffectWrong : ChangeSpec := { name := "fnExactApplyEffect", fn := fun _ => fun
  | [d1, d2] => { results := [.lit (.bool false)], args := [d1, d2] }
  | _ => none }
def FnExactApplyEffectWrongFalsely : Prop := fnExactApplyEffectRow.holds Try.pinned (OpenSpec.ofChange fnExactApplyEffectWrong)

/-- 'laws.FnExactEffectSum': WHATEVER THE INPUT: true; the input reads as it did. -/
def fnExactEffectSumSpec : ChangeSpec := { name := "fnExactEffectSum", fn := fun _ => fun
  | [d] => { results := [.lit (.bool true)], args := [d] }
  | _ => none }
def fnExactEffectSumRow : OpenClaim := { program := "ytakbkomgmajnfaa", sum := "34bb91acbc41dbffb92c2259005e45f14c02defcfcfb06cfa8b42a98fb87fac1", func := "loop.example/blockexecutor/laws.FnExactEffectSum", spec := "fnExactEffectSum", apart := false }
def FnExactEffectSumSaid : Prop := fnExactEffectSumRow.holds Try.pinned (OpenSpec.ofChange fnExactEffectSumSpec)

/-- ITS FALSE NEIGHBOUR: 'it returns false'. Refute it at one input. -/
def fnExactEffectSumWrong : ChangeSpec := { name := "fnExactEffectSum", fn := fun _ => fun
  | [d] => { results := [.lit (.bool false)], args := [d] }
  | _ => none }
def FnExactEffectSumWrongFalsely : Prop := fnExactEffectSumRow.holds Try.pinned (OpenSpec.ofChange fnExactEffectSumWrong)

/- THE SECOND FORM. 'bulk': how many values and letters a reading holds, each counted each time it is reached (what is shared counts as often as it is met; a slice's spare places count too). A statement '..UptoSaid' is the law's where the arguments, and the package variables that the reading takes, are together of bulk at most 1048576: NARROWER than '..Said'. Prove '..Said' where nothing that the law and all that it calls make is longer than what came in: it says more and counts as full. Else prove '..UptoSaid'. A law counts once. -/
mutual
def uptoBulk {H : Type} : DataW H → Nat
  | .lit (.string bytes) => bytes.length + 1
  | .lit _ => 1
  | .nil => 1
  | .ptr d => uptoBulk d + 1
  | .slice elems spare => uptoBulkAll elems + uptoBulkAll spare + 1
  | .agg parts => uptoBulkAll parts + 1
  | .iface _ d => uptoBulk d + 1
  | .map entries => uptoBulkEntries entries + 1
  | .held _ => 1
def uptoBulkAll {H : Type} : List (DataW H) → Nat
  | [] => 0
  | d :: r => uptoBulk d + uptoBulkAll r
def uptoBulkEntries {H : Type} : List (Lit × DataW H) → Nat
  | [] => 0
  | x :: r => uptoBulkEntry x + uptoBulkEntries r
def uptoBulkEntry {H : Type} : Lit × DataW H → Nat
  | (.string bytes, d) => bytes.length + uptoBulk d + 1
  | (_, d) => uptoBulk d + 1
 end
def uptoSmall : (H : Type) → List (DataW H) → Bool := fun _ ds => decide (uptoBulkAll ds ≤ 1048576)
def OpenSpec.upto (s : _root_.Go.ChangeSpec) : _root_.Go.OpenSpec := { _root_.Go.OpenSpec.ofChange s with cond := some uptoSmall }

/-- 'laws.FnActionReads', WHERE WHAT IT READS IS OF BULK AT MOST 1048576: true; the input reads as it did. -/
def fnActionReadsUptoRow : OpenClaim := { program := "ytakbkomgmajnfaa", sum := "34bb91acbc41dbffb92c2259005e45f14c02defcfcfb06cfa8b42a98fb87fac1", func := "loop.example/blockexecutor/laws.FnActionReads", spec := "fnActionReads", unfollowed := true, recurses := true, apart := false, narrowed := true }
def FnActionReadsUptoSaid : Prop := fnActionReadsUptoRow.holds Try.pinned (OpenSpec.upto fnActionReadsSpec)

/-- 'laws.FnActionWrites', WHERE WHAT IT READS IS OF BULK AT MOST 1048576: true; the input reads as it did. -/
def fnActionWritesUptoRow : OpenClaim := { program := "ytakbkomgmajnfaa", sum := "34bb91acbc41dbffb92c2259005e45f14c02defcfcfb06cfa8b42a98fb87fac1", func := "loop.example/blockexecutor/laws.FnActionWrites", spec := "fnActionWrites", unfollowed := true, recurses := true, apart := false, narrowed := true }
def FnActionWritesUptoSaid : Prop := fnActionWritesUptoRow.holds Try.pinned (OpenSpec.upto fnActionWritesSpec)

/-- 'laws.FnRunAction', WHERE WHAT IT READS IS OF BULK AT MOST 1048576: true; the input reads as it did. -/
def fnRunActionUptoRow : OpenClaim := { program := "ytakbkomgmajnfaa", sum := "34bb91acbc41dbffb92c2259005e45f14c02defcfcfb06cfa8b42a98fb87fac1", func := "loop.example/blockexecutor/laws.FnRunAction", spec := "fnRunAction", unfollowed := true, recurses := true, apart := false, narrowed := true }
def FnRunActionUptoSaid : Prop := fnRunActionUptoRow.holds Try.pinned (OpenSpec.upto fnRunActionSpec)

/-- 'laws.FnApplyEffect', WHERE WHAT IT READS IS OF BULK AT MOST 1048576: true; the input reads as it did. -/
def fnApplyEffectUptoRow : OpenClaim := { program := "ytakbkomgmajnfaa", sum := "34bb91acbc41dbffb92c2259005e45f14c02defcfcfb06cfa8b42a98fb87fac1", func := "loop.example/blockexecutor/laws.FnApplyEffect", spec := "fnApplyEffect", apart := false, narrowed := true }
def FnApplyEffectUptoSaid : Prop := fnApplyEffectUptoRow.holds Try.pinned (OpenSpec.upto fnApplyEffectSpec)

/-- 'laws.FnEffectSum', WHERE WHAT IT READS IS OF BULK AT MOST 1048576: true; the input reads as it did. -/
def fnEffectSumUptoRow : OpenClaim := { program := "ytakbkomgmajnfaa", sum := "34bb91acbc41dbffb92c2259005e45f14c02defcfcfb06cfa8b42a98fb87fac1", func := "loop.example/blockexecutor/laws.FnEffectSum", spec := "fnEffectSum", apart := false, narrowed := true }
def FnEffectSumUptoSaid : Prop := fnEffectSumUptoRow.holds Try.pinned (OpenSpec.upto fnEffectSumSpec)

/-- 'laws.FnLayerEffect', WHERE WHAT IT READS IS OF BULK AT MOST 1048576: true; the input reads as it did. -/
def fnLayerEffectUptoRow : OpenClaim := { program := "ytakbkomgmajnfaa", sum := "34bb91acbc41dbffb92c2259005e45f14c02defcfcfb06cfa8b42a98fb87fac1", func := "loop.example/blockexecutor/laws.FnLayerEffect", spec := "fnLayerEffect", unfollowed := true, recurses := true, apart := false, narrowed := true }
def FnLayerEffectUptoSaid : Prop := fnLayerEffectUptoRow.holds Try.pinned (OpenSpec.upto fnLayerEffectSpec)

/-- 'laws.FnExactRunAction', WHERE WHAT IT READS IS OF BULK AT MOST 1048576: true; the input reads as it did. -/
def fnExactRunActionUptoRow : OpenClaim := { program := "ytakbkomgmajnfaa", sum := "34bb91acbc41dbffb92c2259005e45f14c02defcfcfb06cfa8b42a98fb87fac1", func := "loop.example/blockexecutor/laws.FnExactRunAction", spec := "fnExactRunAction", unfollowed := true, recurses := true, apart := false, narrowed := true }
def FnExactRunActionUptoSaid : Prop := fnExactRunActionUptoRow.holds Try.pinned (OpenSpec.upto fnExactRunActionSpec)

/-- 'laws.FnExactApplyEffect', WHERE WHAT IT READS IS OF BULK AT MOST 1048576: true; the input reads as it did. -/
def fnExactApplyEffectUptoRow : OpenClaim := { program := "ytakbkomgmajnfaa", sum := "34bb91acbc41dbffb92c2259005e45f14c02defcfcfb06cfa8b42a98fb87fac1", func := "loop.example/blockexecutor/laws.FnExactApplyEffect", spec := "fnExactApplyEffect", apart := false, narrowed := true }
def FnExactApplyEffectUptoSaid : Prop := fnExactApplyEffectUptoRow.holds Try.pinned (OpenSpec.upto fnExactApplyEffectSpec)

/-- 'laws.FnExactEffectSum', WHERE WHAT IT READS IS OF BULK AT MOST 1048576: true; the input reads as it did. -/
def fnExactEffectSumUptoRow : OpenClaim := { program := "ytakbkomgmajnfaa", sum := "34bb91acbc41dbffb92c2259005e45f14c02defcfcfb06cfa8b42a98fb87fac1", func := "loop.example/blockexecutor/laws.FnExactEffectSum", spec := "fnExactEffectSum", apart := false, narrowed := true }
def FnExactEffectSumUptoSaid : Prop := fnExactEffectSumUptoRow.holds Try.pinned (OpenSpec.upto fnExactEffectSumSpec)

end Rows
end Go.Proofs.Ytakbkomgmajnfaa
