/-
  No cell of these rows narrows 'for every input' (looked for: loops, veiled, ifaces, maps, wideKeys, modest, calm, conditions, laid).
  DERIVED. THE GIVEN ROWS OF THIS SEAT. 11 by the template 'for every input the law returns true; each argument reads behind the call as it read before'; 0 by the template 'total and deterministic' (their statements: YtmblmmbcdmmpcaaTotals.lean).
  GIVEN WITH THE SEED: the statements are not yours to turn. If you find one false, say at which input.
  Laid BY PROGRAM, IN A SANDBOX (cutbox-rows.mjs): the forced cells as the released guide's own fill.sh prints them over the translation 43cbae4f74027dfa… (all of the seat's roots in one cut). By AI agents, Wed Nov 11 2026. No macro, syntax, notation, axiom, sorry.
-/
import Derived.Test.YtmblmmbcdmmpcaaChecked
import GoSem.Claim
import GoSem.ClaimJoined
import GoSem.ClaimMapViews
import Derived.JoinedTies
import Derived.KernelRfl
namespace Go.Proofs.Ytmblmmbcdmmpcaa
/- THE CELL 'sum', in the pinned program and in every row, IS THE sha256 OF THE DUMP (.gsa) THAT YtmblmmbcdmmpcaaProg.lean LOADS. Nothing in Lean hashes anything: it is a label: what it is worth is what the hold of that sum in a sandbox is worth. -/
noncomputable def Try.pinned : Pinned := { name := "ytmblmmbcdmmpcaa", sum := "43cbae4f74027dfa9272d6965f835907c5de51c97906627fd53d686102f44f1f", checked := Try.checked }
namespace Rows
def none {H : Type} : Left H := { results := [], args := [] }

/-- 'laws.FnStoreValid': WHATEVER THE INPUT: true; the input reads as it did. -/
def fnStoreValidSpec : ChangeSpec := { name := "fnStoreValid", fn := fun _ => fun
  | [d] => { results := [.lit (.bool true)], args := [d] }
  | _ => none }
def fnStoreValidRow : OpenClaim := { program := "ytmblmmbcdmmpcaa", sum := "43cbae4f74027dfa9272d6965f835907c5de51c97906627fd53d686102f44f1f", func := "loop.example/blockexecutor/laws.FnStoreValid", spec := "fnStoreValid", apart := false }
def FnStoreValidSaid : Prop := fnStoreValidRow.holds Try.pinned (OpenSpec.ofChange fnStoreValidSpec)

/-- ITS FALSE NEIGHBOUR: 'it returns false'. Refute it at one input. -/
def fnStoreValidWrong : ChangeSpec := { name := "fnStoreValid", fn := fun _ => fun
  | [d] => { results := [.lit (.bool false)], args := [d] }
  | _ => none }
def FnStoreValidWrongFalsely : Prop := fnStoreValidRow.holds Try.pinned (OpenSpec.ofChange fnStoreValidWrong)

/-- 'laws.FnValueAt': WHATEVER THE INPUT: true; the input reads as it did. -/
def fnValueAtSpec : ChangeSpec := { name := "fnValueAt", fn := fun _ => fun
  | [d] => { results := [.lit (.bool true)], args := [d] }
  | _ => none }
def fnValueAtRow : OpenClaim := { program := "ytmblmmbcdmmpcaa", sum := "43cbae4f74027dfa9272d6965f835907c5de51c97906627fd53d686102f44f1f", func := "loop.example/blockexecutor/laws.FnValueAt", spec := "fnValueAt", apart := false }
def FnValueAtSaid : Prop := fnValueAtRow.holds Try.pinned (OpenSpec.ofChange fnValueAtSpec)

/-- ITS FALSE NEIGHBOUR: 'it returns false'. Refute it at one input. -/
def fnValueAtWrong : ChangeSpec := { name := "fnValueAt", fn := fun _ => fun
  | [d] => { results := [.lit (.bool false)], args := [d] }
  | _ => none }
def FnValueAtWrongFalsely : Prop := fnValueAtRow.holds Try.pinned (OpenSpec.ofChange fnValueAtWrong)

/-- 'laws.FnPutValue': WHATEVER THE INPUT: true; the input reads as it did. -/
def fnPutValueSpec : ChangeSpec := { name := "fnPutValue", fn := fun _ => fun
  | [d] => { results := [.lit (.bool true)], args := [d] }
  | _ => none }
def fnPutValueRow : OpenClaim := { program := "ytmblmmbcdmmpcaa", sum := "43cbae4f74027dfa9272d6965f835907c5de51c97906627fd53d686102f44f1f", func := "loop.example/blockexecutor/laws.FnPutValue", spec := "fnPutValue", apart := false }
def FnPutValueSaid : Prop := fnPutValueRow.holds Try.pinned (OpenSpec.ofChange fnPutValueSpec)

/-- ITS FALSE NEIGHBOUR: 'it returns false'. Refute it at one input. -/
def fnPutValueWrong : ChangeSpec := { name := "fnPutValue", fn := fun _ => fun
  | [d] => { results := [.lit (.bool false)], args := [d] }
  | _ => none }
def FnPutValueWrongFalsely : Prop := fnPutValueRow.holds Try.pinned (OpenSpec.ofChange fnPutValueWrong)

/-- 'laws.FnStoreTotal': WHATEVER THE INPUT: true; the input reads as it did. -/
def fnStoreTotalSpec : ChangeSpec := { name := "fnStoreTotal", fn := fun _ => fun
  | [d] => { results := [.lit (.bool true)], args := [d] }
  | _ => none }
def fnStoreTotalRow : OpenClaim := { program := "ytmblmmbcdmmpcaa", sum := "43cbae4f74027dfa9272d6965f835907c5de51c97906627fd53d686102f44f1f", func := "loop.example/blockexecutor/laws.FnStoreTotal", spec := "fnStoreTotal", apart := false }
def FnStoreTotalSaid : Prop := fnStoreTotalRow.holds Try.pinned (OpenSpec.ofChange fnStoreTotalSpec)

/-- ITS FALSE NEIGHBOUR: 'it returns false'. Refute it at one input. -/
def fnStoreTotalWrong : ChangeSpec := { name := "fnStoreTotal", fn := fun _ => fun
  | [d] => { results := [.lit (.bool false)], args := [d] }
  | _ => none }
def FnStoreTotalWrongFalsely : Prop := fnStoreTotalRow.holds Try.pinned (OpenSpec.ofChange fnStoreTotalWrong)

/-- 'laws.FnChangedKeys': WHATEVER THE INPUT: true; the input reads as it did. -/
def fnChangedKeysSpec : ChangeSpec := { name := "fnChangedKeys", fn := fun _ => fun
  | [d] => { results := [.lit (.bool true)], args := [d] }
  | _ => none }
def fnChangedKeysRow : OpenClaim := { program := "ytmblmmbcdmmpcaa", sum := "43cbae4f74027dfa9272d6965f835907c5de51c97906627fd53d686102f44f1f", func := "loop.example/blockexecutor/laws.FnChangedKeys", spec := "fnChangedKeys", apart := false }
def FnChangedKeysSaid : Prop := fnChangedKeysRow.holds Try.pinned (OpenSpec.ofChange fnChangedKeysSpec)

/-- ITS FALSE NEIGHBOUR: 'it returns false'. Refute it at one input. -/
def fnChangedKeysWrong : ChangeSpec := { name := "fnChangedKeys", fn := fun _ => fun
  | [d] => { results := [.lit (.bool false)], args := [d] }
  | _ => none }
def FnChangedKeysWrongFalsely : Prop := fnChangedKeysRow.holds Try.pinned (OpenSpec.ofChange fnChangedKeysWrong)

/-- 'laws.FnPutOrder': WHATEVER THE INPUT: true; the input reads as it did. -/
def fnPutOrderSpec : ChangeSpec := { name := "fnPutOrder", fn := fun _ => fun
  | [d1, d2] => { results := [.lit (.bool true)], args := [d1, d2] }
  | _ => none }
def fnPutOrderRow : OpenClaim := { program := "ytmblmmbcdmmpcaa", sum := "43cbae4f74027dfa9272d6965f835907c5de51c97906627fd53d686102f44f1f", func := "loop.example/blockexecutor/laws.FnPutOrder", spec := "fnPutOrder", apart := false }
def FnPutOrderSaid : Prop := fnPutOrderRow.holds Try.pinned (OpenSpec.ofChange fnPutOrderSpec)

/-- ITS FALSE NEIGHBOUR: 'it returns false'. Refute it at one input. -/
def fnPutOrderWrong : ChangeSpec := { name := "fnPutOrder", fn := fun _ => fun
  | [d1, d2] => { results := [.lit (.bool false)], args := [d1, d2] }
  | _ => none }
def FnPutOrderWrongFalsely : Prop := fnPutOrderRow.holds Try.pinned (OpenSpec.ofChange fnPutOrderWrong)

/-- 'laws.FnExactStoreValid': WHATEVER THE INPUT: true; the input reads as it did. -/
def fnExactStoreValidSpec : ChangeSpec := { name := "fnExactStoreValid", fn := fun _ => fun
  | [d] => { results := [.lit (.bool true)], args := [d] }
  | _ => none }
def fnExactStoreValidRow : OpenClaim := { program := "ytmblmmbcdmmpcaa", sum := "43cbae4f74027dfa9272d6965f835907c5de51c97906627fd53d686102f44f1f", func := "loop.example/blockexecutor/laws.FnExactStoreValid", spec := "fnExactStoreValid", apart := false }
def FnExactStoreValidSaid : Prop := fnExactStoreValidRow.holds Try.pinned (OpenSpec.ofChange fnExactStoreValidSpec)

/-- ITS FALSE NEIGHBOUR: 'it returns false'. Refute it at one input. -/
def fnExactStoreValidWrong : ChangeSpec := { name := "fnExactStoreValid", fn := fun _ => fun
  | [d] => { results := [.lit (.bool false)], args := [d] }
  | _ => none }
def FnExactStoreValidWrongFalsely : Prop := fnExactStoreValidRow.holds Try.pinned (OpenSpec.ofChange fnExactStoreValidWrong)

/-- 'laws.FnExactValueAt': WHATEVER THE INPUT: true; the input reads as it did. -/
def fnExactValueAtSpec : ChangeSpec := { name := "fnExactValueAt", fn := fun _ => fun
  | [d1, d2] => { results := [.lit (.bool true)], args := [d1, d2] }
  | _ => none }
def fnExactValueAtRow : OpenClaim := { program := "ytmblmmbcdmmpcaa", sum := "43cbae4f74027dfa9272d6965f835907c5de51c97906627fd53d686102f44f1f", func := "loop.example/blockexecutor/laws.FnExactValueAt", spec := "fnExactValueAt", apart := false }
def FnExactValueAtSaid : Prop := fnExactValueAtRow.holds Try.pinned (OpenSpec.ofChange fnExactValueAtSpec)

/-- ITS FALSE NEIGHBOUR: 'it returns false'. Refute it at one input. -/
def fnExactValueAtWrong : ChangeSpec := { name := "fnExactValueAt", fn := fun _ => fun
  | [d1, d2] => { results := [.lit (.bool false)], args := [d1, d2] }
  | _ => none }
def FnExactValueAtWrongFalsely : Prop := fnExactValueAtRow.holds Try.pinned (OpenSpec.ofChange fnExactValueAtWrong)

/-- 'laws.FnExactPutValue': WHATEVER THE INPUT: true; the input reads as it did. -/
def fnExactPutValueSpec : ChangeSpec := { name := "fnExactPutValue", fn := fun _ => fun
  | [d1, d2, d3] => { results := [.lit (.bool true)], args := [d1, d2, d3] }
  | _ => none }
def fnExactPutValueRow : OpenClaim := { program := "ytmblmmbcdmmpcaa", sum := "43cbae4f74027dfa9272d6965f835907c5de51c97906627fd53d686102f44f1f", func := "loop.example/blockexecutor/laws.FnExactPutValue", spec := "fnExactPutValue", apart := false }
def FnExactPutValueSaid : Prop := fnExactPutValueRow.holds Try.pinned (OpenSpec.ofChange fnExactPutValueSpec)

/-- ITS FALSE NEIGHBOUR: 'it returns false'. Refute it at one input. -/
def fnExactPutValueWrong : ChangeSpec := { name := "fnExactPutValue", fn := fun _ => fun
  | [d1, d2, d3] => { results := [.lit (.bool false)], args := [d1, d2, d3] }
  | _ => none }
def FnExactPutValueWrongFalsely : Prop := fnExactPutValueRow.holds Try.pinned (OpenSpec.ofChange fnExactPutValueWrong)

/-- 'laws.FnExactStoreTotal': WHATEVER THE INPUT: true; the input reads as it did. -/
def fnExactStoreTotalSpec : ChangeSpec := { name := "fnExactStoreTotal", fn := fun _ => fun
  | [d] => { results := [.lit (.bool true)], args := [d] }
  | _ => none }
def fnExactStoreTotalRow : OpenClaim := { program := "ytmblmmbcdmmpcaa", sum := "43cbae4f74027dfa9272d6965f835907c5de51c97906627fd53d686102f44f1f", func := "loop.example/blockexecutor/laws.FnExactStoreTotal", spec := "fnExactStoreTotal", apart := false }
def FnExactStoreTotalSaid : Prop := fnExactStoreTotalRow.holds Try.pinned (OpenSpec.ofChange fnExactStoreTotalSpec)

/-- ITS FALSE NEIGHBOUR: 'it returns false'. Refute it at one input. -/
def fnExactStoreTotalWrong : ChangeSpec := { name := "fnExactStoreTotal", fn := fun _ => fun
  | [d] => { results := [.lit (.bool false)], args := [d] }
  | _ => none }
def FnExactStoreTotalWrongFalsely : Prop := fnExactStoreTotalRow.holds Try.pinned (OpenSpec.ofChange fnExactStoreTotalWrong)

/-- 'laws.FnExactChangedKeys': WHATEVER THE INPUT: true; the input reads as it did. -/
def fnExactChangedKeysSpec : ChangeSpec := { name := "fnExactChangedKeys", fn := fun _ => fun
  | [d1, d2] => { results := [.lit (.bool true)], args := [d1, d2] }
  | _ => none }
def fnExactChangedKeysRow : OpenClaim := { program := "ytmblmmbcdmmpcaa", sum := "43cbae4f74027dfa9272d6965f835907c5de51c97906627fd53d686102f44f1f", func := "loop.example/blockexecutor/laws.FnExactChangedKeys", spec := "fnExactChangedKeys", apart := false }
def FnExactChangedKeysSaid : Prop := fnExactChangedKeysRow.holds Try.pinned (OpenSpec.ofChange fnExactChangedKeysSpec)

/-- ITS FALSE NEIGHBOUR: 'it returns false'. Refute it at one input. -/
def fnExactChangedKeysWrong : ChangeSpec := { name := "fnExactChangedKeys", fn := fun _ => fun
  | [d1, d2] => { results := [.lit (.bool false)], args := [d1, d2] }
  | _ => none }
def FnExactChangedKeysWrongFalsely : Prop := fnExactChangedKeysRow.holds Try.pinned (OpenSpec.ofChange fnExactChangedKeysWrong)

/- THE SECOND FORM. 'bulk': how many values and letters a reading holds, each counted each time it is reached (what is shared counts as often as it is met; a slice's spare places count too). A statement '..UptoSaid' is the law's where the arguments, and the package variables that the reading takes, are together of bulk at most 1048576: NARROWER than '..Said'. Prove '..Said' where nothing that the law and all that it calls make is longer than what came in: it says more and counts as full. Else prove '..UptoSaid'. A law counts once. -/
mutual
def uptoBulk {H : Type} : DataW H → Nat
  | .lit (.string bytes) => bytes.length + 1
  | .lit _ => 1
  | .nil => 1
  | .ptr d => uptoBulk d + 1
  | .slice elems spare => uptoBulkAll elems + uptoBulkAll spare + 1
  | .agg parts => uptoBulkAll parts + 1
  | .iface _ d => uptoBulk d + 1
  | .map entries => uptoBulkEntries entries + 1
  | .held _ => 1
def uptoBulkAll {H : Type} : List (DataW H) → Nat
  | [] => 0
  | d :: r => uptoBulk d + uptoBulkAll r
def uptoBulkEntries {H : Type} : List (Lit × DataW H) → Nat
  | [] => 0
  | x :: r => uptoBulkEntry x + uptoBulkEntries r
def uptoBulkEntry {H : Type} : Lit × DataW H → Nat
  | (.string bytes, d) => bytes.length + uptoBulk d + 1
  | (_, d) => uptoBulk d + 1
 end
def uptoSmall : (H : Type) → List (DataW H) → Bool := fun _ ds => decide (uptoBulkAll ds ≤ 1048576)
def OpenSpec.upto (s : _root_.Go.ChangeSpec) : _root_.Go.OpenSpec := { _root_.Go.OpenSpec.ofChange s with cond := some uptoSmall }

/-- 'laws.FnStoreValid', WHERE WHAT IT READS IS OF BULK AT MOST 1048576: true; the input reads as it did. -/
def fnStoreValidUptoRow : OpenClaim := { program := "ytmblmmbcdmmpcaa", sum := "43cbae4f74027dfa9272d6965f835907c5de51c97906627fd53d686102f44f1f", func := "loop.example/blockexecutor/laws.FnStoreValid", spec := "fnStoreValid", apart := false, narrowed := true }
def FnStoreValidUptoSaid : Prop := fnStoreValidUptoRow.holds Try.pinned (OpenSpec.upto fnStoreValidSpec)

/-- 'laws.FnValueAt', WHERE WHAT IT READS IS OF BULK AT MOST 1048576: true; the input reads as it did. -/
def fnValueAtUptoRow : OpenClaim := { program := "ytmblmmbcdmmpcaa", sum := "43cbae4f74027dfa9272d6965f835907c5de51c97906627fd53d686102f44f1f", func := "loop.example/blockexecutor/laws.FnValueAt", spec := "fnValueAt", apart := false, narrowed := true }
def FnValueAtUptoSaid : Prop := fnValueAtUptoRow.holds Try.pinned (OpenSpec.upto fnValueAtSpec)

/-- 'laws.FnPutValue', WHERE WHAT IT READS IS OF BULK AT MOST 1048576: true; the input reads as it did. -/
def fnPutValueUptoRow : OpenClaim := { program := "ytmblmmbcdmmpcaa", sum := "43cbae4f74027dfa9272d6965f835907c5de51c97906627fd53d686102f44f1f", func := "loop.example/blockexecutor/laws.FnPutValue", spec := "fnPutValue", apart := false, narrowed := true }
def FnPutValueUptoSaid : Prop := fnPutValueUptoRow.holds Try.pinned (OpenSpec.upto fnPutValueSpec)

/-- 'laws.FnStoreTotal', WHERE WHAT IT READS IS OF BULK AT MOST 1048576: true; the input reads as it did. -/
def fnStoreTotalUptoRow : OpenClaim := { program := "ytmblmmbcdmmpcaa", sum := "43cbae4f74027dfa9272d6965f835907c5de51c97906627fd53d686102f44f1f", func := "loop.example/blockexecutor/laws.FnStoreTotal", spec := "fnStoreTotal", apart := false, narrowed := true }
def FnStoreTotalUptoSaid : Prop := fnStoreTotalUptoRow.holds Try.pinned (OpenSpec.upto fnStoreTotalSpec)

/-- 'laws.FnChangedKeys', WHERE WHAT IT READS IS OF BULK AT MOST 1048576: true; the input reads as it did. -/
def fnChangedKeysUptoRow : OpenClaim := { program := "ytmblmmbcdmmpcaa", sum := "43cbae4f74027dfa9272d6965f835907c5de51c97906627fd53d686102f44f1f", func := "loop.example/blockexecutor/laws.FnChangedKeys", spec := "fnChangedKeys", apart := false, narrowed := true }
def FnChangedKeysUptoSaid : Prop := fnChangedKeysUptoRow.holds Try.pinned (OpenSpec.upto fnChangedKeysSpec)

/-- 'laws.FnPutOrder', WHERE WHAT IT READS IS OF BULK AT MOST 1048576: true; the input reads as it did. -/
def fnPutOrderUptoRow : OpenClaim := { program := "ytmblmmbcdmmpcaa", sum := "43cbae4f74027dfa9272d6965f835907c5de51c97906627fd53d686102f44f1f", func := "loop.example/blockexecutor/laws.FnPutOrder", spec := "fnPutOrder", apart := false, narrowed := true }
def FnPutOrderUptoSaid : Prop := fnPutOrderUptoRow.holds Try.pinned (OpenSpec.upto fnPutOrderSpec)

/-- 'laws.FnExactStoreValid', WHERE WHAT IT READS IS OF BULK AT MOST 1048576: true; the input reads as it did. -/
def fnExactStoreValidUptoRow : OpenClaim := { program := "ytmblmmbcdmmpcaa", sum := "43cbae4f74027dfa9272d6965f835907c5de51c97906627fd53d686102f44f1f", func := "loop.example/blockexecutor/laws.FnExactStoreValid", spec := "fnExactStoreValid", apart := false, narrowed := true }
def FnExactStoreValidUptoSaid : Prop := fnExactStoreValidUptoRow.holds Try.pinned (OpenSpec.upto fnExactStoreValidSpec)

/-- 'laws.FnExactValueAt', WHERE WHAT IT READS IS OF BULK AT MOST 1048576: true; the input reads as it did. -/
def fnExactValueAtUptoRow : OpenClaim := { program := "ytmblmmbcdmmpcaa", sum := "43cbae4f74027dfa9272d6965f835907c5de51c97906627fd53d686102f44f1f", func := "loop.example/blockexecutor/laws.FnExactValueAt", spec := "fnExactValueAt", apart := false, narrowed := true }
def FnExactValueAtUptoSaid : Prop := fnExactValueAtUptoRow.holds Try.pinned (OpenSpec.upto fnExactValueAtSpec)

/-- 'laws.FnExactPutValue', WHERE WHAT IT READS IS OF BULK AT MOST 1048576: true; the input reads as it did. -/
def fnExactPutValueUptoRow : OpenClaim := { program := "ytmblmmbcdmmpcaa", sum := "43cbae4f74027dfa9272d6965f835907c5de51c97906627fd53d686102f44f1f", func := "loop.example/blockexecutor/laws.FnExactPutValue", spec := "fnExactPutValue", apart := false, narrowed := true }
def FnExactPutValueUptoSaid : Prop := fnExactPutValueUptoRow.holds Try.pinned (OpenSpec.upto fnExactPutValueSpec)

/-- 'laws.FnExactStoreTotal', WHERE WHAT IT READS IS OF BULK AT MOST 1048576: true; the input reads as it did. -/
def fnExactStoreTotalUptoRow : OpenClaim := { program := "ytmblmmbcdmmpcaa", sum := "43cbae4f74027dfa9272d6965f835907c5de51c97906627fd53d686102f44f1f", func := "loop.example/blockexecutor/laws.FnExactStoreTotal", spec := "fnExactStoreTotal", apart := false, narrowed := true }
def FnExactStoreTotalUptoSaid : Prop := fnExactStoreTotalUptoRow.holds Try.pinned (OpenSpec.upto fnExactStoreTotalSpec)

/-- 'laws.FnExactChangedKeys', WHERE WHAT IT READS IS OF BULK AT MOST 1048576: true; the input reads as it did. -/
def fnExactChangedKeysUptoRow : OpenClaim := { program := "ytmblmmbcdmmpcaa", sum := "43cbae4f74027dfa9272d6965f835907c5de51c97906627fd53d686102f44f1f", func := "loop.example/blockexecutor/laws.FnExactChangedKeys", spec := "fnExactChangedKeys", apart := false, narrowed := true }
def FnExactChangedKeysUptoSaid : Prop := fnExactChangedKeysUptoRow.holds Try.pinned (OpenSpec.upto fnExactChangedKeysSpec)

end Rows
end Go.Proofs.Ytmblmmbcdmmpcaa
