/-
  No cell of these rows narrows 'for every input' (looked for: loops, veiled, ifaces, maps, wideKeys, modest, calm, conditions, laid).
  DERIVED. THE GIVEN ROWS OF THIS SEAT. 10 by the template 'for every input the law returns true; each argument reads behind the call as it read before'; 0 by the template 'total and deterministic' (their statements: YtncedcliklpapaaTotals.lean).
  GIVEN WITH THE SEED: the statements are not yours to turn. If you find one false, say at which input.
  Laid BY PROGRAM, IN A SANDBOX (cutbox-rows.mjs): the forced cells as the released guide's own fill.sh prints them over the translation ab2236cea58a1035… (all of the seat's roots in one cut). By AI agents, Wed Nov 11 2026. No macro, syntax, notation, axiom, sorry.
-/
import Derived.Test.YtncedcliklpapaaChecked
import GoSem.Claim
import GoSem.ClaimJoined
import GoSem.ClaimMapViews
import Derived.JoinedTies
import Derived.KernelRfl
namespace Go.Proofs.Ytncedcliklpapaa
/- THE CELL 'sum', in the pinned program and in every row, IS THE sha256 OF THE DUMP (.gsa) THAT YtncedcliklpapaaProg.lean LOADS. Nothing in Lean hashes anything: it is a label: what it is worth is what the hold of that sum in a sandbox is worth. -/
noncomputable def Try.pinned : Pinned := { name := "ytncedcliklpapaa", sum := "ab2236cea58a1035a888042175ec121670a6b9b7367beea62ca2a880a0198967", checked := Try.checked }
namespace Rows
def none {H : Type} : Left H := { results := [], args := [] }

/-- 'laws.FnVersionsValid': WHATEVER THE INPUT: true; the input reads as it did. -/
def fnVersionsValidSpec : ChangeSpec := { name := "fnVersionsValid", fn := fun _ => fun
  | [d] => { results := [.lit (.bool true)], args := [d] }
  | _ => none }
def fnVersionsValidRow : OpenClaim := { program := "ytncedcliklpapaa", sum := "ab2236cea58a1035a888042175ec121670a6b9b7367beea62ca2a880a0198967", func := "loop.example/blockexecutor/laws.FnVersionsValid", spec := "fnVersionsValid", apart := false }
def FnVersionsValidSaid : Prop := fnVersionsValidRow.holds Try.pinned (OpenSpec.ofChange fnVersionsValidSpec)

/-- ITS FALSE NEIGHBOUR: 'it returns false'. Refute it at one input. -/
def fnVersionsValidWrong : ChangeSpec := { name := "fnVersionsValid", fn := fun _ => fun
  | [d] => { results := [.lit (.bool false)], args := [d] }
  | _ => none }
def FnVersionsValidWrongFalsely : Prop := fnVersionsValidRow.holds Try.pinned (OpenSpec.ofChange fnVersionsValidWrong)

/-- 'laws.FnReadVersion': WHATEVER THE INPUT: true; the input reads as it did. -/
def fnReadVersionSpec : ChangeSpec := { name := "fnReadVersion", fn := fun _ => fun
  | [d] => { results := [.lit (.bool true)], args := [d] }
  | _ => none }
def fnReadVersionRow : OpenClaim := { program := "ytncedcliklpapaa", sum := "ab2236cea58a1035a888042175ec121670a6b9b7367beea62ca2a880a0198967", func := "loop.example/blockexecutor/laws.FnReadVersion", spec := "fnReadVersion", unfollowed := true, recurses := true, apart := false }
def FnReadVersionSaid : Prop := fnReadVersionRow.holds Try.pinned (OpenSpec.ofChange fnReadVersionSpec)

/-- ITS FALSE NEIGHBOUR: 'it returns false'. Refute it at one input. -/
def fnReadVersionWrong : ChangeSpec := { name := "fnReadVersion", fn := fun _ => fun
  | [d] => { results := [.lit (.bool false)], args := [d] }
  | _ => none }
def FnReadVersionWrongFalsely : Prop := fnReadVersionRow.holds Try.pinned (OpenSpec.ofChange fnReadVersionWrong)

/-- 'laws.FnDropVersions': WHATEVER THE INPUT: true; the input reads as it did. -/
def fnDropVersionsSpec : ChangeSpec := { name := "fnDropVersions", fn := fun _ => fun
  | [d] => { results := [.lit (.bool true)], args := [d] }
  | _ => none }
def fnDropVersionsRow : OpenClaim := { program := "ytncedcliklpapaa", sum := "ab2236cea58a1035a888042175ec121670a6b9b7367beea62ca2a880a0198967", func := "loop.example/blockexecutor/laws.FnDropVersions", spec := "fnDropVersions", unfollowed := true, recurses := true, apart := false }
def FnDropVersionsSaid : Prop := fnDropVersionsRow.holds Try.pinned (OpenSpec.ofChange fnDropVersionsSpec)

/-- ITS FALSE NEIGHBOUR: 'it returns false'. Refute it at one input. -/
def fnDropVersionsWrong : ChangeSpec := { name := "fnDropVersions", fn := fun _ => fun
  | [d] => { results := [.lit (.bool false)], args := [d] }
  | _ => none }
def FnDropVersionsWrongFalsely : Prop := fnDropVersionsRow.holds Try.pinned (OpenSpec.ofChange fnDropVersionsWrong)

/-- 'laws.FnPutVersions': WHATEVER THE INPUT: true; the input reads as it did. -/
def fnPutVersionsSpec : ChangeSpec := { name := "fnPutVersions", fn := fun _ => fun
  | [d] => { results := [.lit (.bool true)], args := [d] }
  | _ => none }
def fnPutVersionsRow : OpenClaim := { program := "ytncedcliklpapaa", sum := "ab2236cea58a1035a888042175ec121670a6b9b7367beea62ca2a880a0198967", func := "loop.example/blockexecutor/laws.FnPutVersions", spec := "fnPutVersions", inPlace := ["slices.overlaps[loop.example/blockexecutor/impl.Version]"], unfollowed := true, recurses := true, apart := false }
def FnPutVersionsSaid : Prop := fnPutVersionsRow.holds Try.pinned (OpenSpec.ofChange fnPutVersionsSpec)

/-- ITS FALSE NEIGHBOUR: 'it returns false'. Refute it at one input. -/
def fnPutVersionsWrong : ChangeSpec := { name := "fnPutVersions", fn := fun _ => fun
  | [d] => { results := [.lit (.bool false)], args := [d] }
  | _ => none }
def FnPutVersionsWrongFalsely : Prop := fnPutVersionsRow.holds Try.pinned (OpenSpec.ofChange fnPutVersionsWrong)

/-- 'laws.FnLastVersions': WHATEVER THE INPUT: true; the input reads as it did. -/
def fnLastVersionsSpec : ChangeSpec := { name := "fnLastVersions", fn := fun _ => fun
  | [d] => { results := [.lit (.bool true)], args := [d] }
  | _ => none }
def fnLastVersionsRow : OpenClaim := { program := "ytncedcliklpapaa", sum := "ab2236cea58a1035a888042175ec121670a6b9b7367beea62ca2a880a0198967", func := "loop.example/blockexecutor/laws.FnLastVersions", spec := "fnLastVersions", unfollowed := true, recurses := true, apart := false }
def FnLastVersionsSaid : Prop := fnLastVersionsRow.holds Try.pinned (OpenSpec.ofChange fnLastVersionsSpec)

/-- ITS FALSE NEIGHBOUR: 'it returns false'. Refute it at one input. -/
def fnLastVersionsWrong : ChangeSpec := { name := "fnLastVersions", fn := fun _ => fun
  | [d] => { results := [.lit (.bool false)], args := [d] }
  | _ => none }
def FnLastVersionsWrongFalsely : Prop := fnLastVersionsRow.holds Try.pinned (OpenSpec.ofChange fnLastVersionsWrong)

/-- 'laws.FnExactVersionsValid': WHATEVER THE INPUT: true; the input reads as it did. -/
def fnExactVersionsValidSpec : ChangeSpec := { name := "fnExactVersionsValid", fn := fun _ => fun
  | [d] => { results := [.lit (.bool true)], args := [d] }
  | _ => none }
def fnExactVersionsValidRow : OpenClaim := { program := "ytncedcliklpapaa", sum := "ab2236cea58a1035a888042175ec121670a6b9b7367beea62ca2a880a0198967", func := "loop.example/blockexecutor/laws.FnExactVersionsValid", spec := "fnExactVersionsValid", apart := false }
def FnExactVersionsValidSaid : Prop := fnExactVersionsValidRow.holds Try.pinned (OpenSpec.ofChange fnExactVersionsValidSpec)

/-- ITS FALSE NEIGHBOUR: 'it returns false'. Refute it at one input. -/
def fnExactVersionsValidWrong : ChangeSpec := { name := "fnExactVersionsValid", fn := fun _ => fun
  | [d] => { results := [.lit (.bool false)], args := [d] }
  | _ => none }
def FnExactVersionsValidWrongFalsely : Prop := fnExactVersionsValidRow.holds Try.pinned (OpenSpec.ofChange fnExactVersionsValidWrong)

/-- 'laws.FnExactReadVersion': WHATEVER THE INPUT: true; the input reads as it did. -/
def fnExactReadVersionSpec : ChangeSpec := { name := "fnExactReadVersion", fn := fun _ => fun
  | [d1, d2, d3, d4] => { results := [.lit (.bool true)], args := [d1, d2, d3, d4] }
  | _ => none }
def fnExactReadVersionRow : OpenClaim := { program := "ytncedcliklpapaa", sum := "ab2236cea58a1035a888042175ec121670a6b9b7367beea62ca2a880a0198967", func := "loop.example/blockexecutor/laws.FnExactReadVersion", spec := "fnExactReadVersion", unfollowed := true, recurses := true, apart := false }
def FnExactReadVersionSaid : Prop := fnExactReadVersionRow.holds Try.pinned (OpenSpec.ofChange fnExactReadVersionSpec)

/-- ITS FALSE NEIGHBOUR: 'it returns false'. Refute it at one input. -/
def fnExactReadVersionWrong : ChangeSpec := { name := "fnExactReadVersion", fn := fun _ => fun
  | [d1, d2, d3, d4] => { results := [.lit (.bool false)], args := [d1, d2, d3, d4] }
  | _ => none }
def FnExactReadVersionWrongFalsely : Prop := fnExactReadVersionRow.holds Try.pinned (OpenSpec.ofChange fnExactReadVersionWrong)

/-- 'laws.FnExactDropVersions': WHATEVER THE INPUT: true; the input reads as it did. -/
def fnExactDropVersionsSpec : ChangeSpec := { name := "fnExactDropVersions", fn := fun _ => fun
  | [d1, d2] => { results := [.lit (.bool true)], args := [d1, d2] }
  | _ => none }
def fnExactDropVersionsRow : OpenClaim := { program := "ytncedcliklpapaa", sum := "ab2236cea58a1035a888042175ec121670a6b9b7367beea62ca2a880a0198967", func := "loop.example/blockexecutor/laws.FnExactDropVersions", spec := "fnExactDropVersions", unfollowed := true, recurses := true, apart := false }
def FnExactDropVersionsSaid : Prop := fnExactDropVersionsRow.holds Try.pinned (OpenSpec.ofChange fnExactDropVersionsSpec)

/-- ITS FALSE NEIGHBOUR: 'it returns false'. Refute it at one input. -/
def fnExactDropVersionsWrong : ChangeSpec := { name := "fnExactDropVersions", fn := fun _ => fun
  | [d1, d2] => { results := [.lit (.bool false)], args := [d1, d2] }
  | _ => none }
def FnExactDropVersionsWrongFalsely : Prop := fnExactDropVersionsRow.holds Try.pinned (OpenSpec.ofChange fnExactDropVersionsWrong)

/-- 'laws.FnExactPutVersions': WHATEVER THE INPUT: true; the input reads as it did. -/
def fnExactPutVersionsSpec : ChangeSpec := { name := "fnExactPutVersions", fn := fun _ => fun
  | [d1, d2, d3] => { results := [.lit (.bool true)], args := [d1, d2, d3] }
  | _ => none }
def fnExactPutVersionsRow : OpenClaim := { program := "ytncedcliklpapaa", sum := "ab2236cea58a1035a888042175ec121670a6b9b7367beea62ca2a880a0198967", func := "loop.example/blockexecutor/laws.FnExactPutVersions", spec := "fnExactPutVersions", inPlace := ["slices.overlaps[loop.example/blockexecutor/impl.Version]"], unfollowed := true, recurses := true, apart := false }
def FnExactPutVersionsSaid : Prop := fnExactPutVersionsRow.holds Try.pinned (OpenSpec.ofChange fnExactPutVersionsSpec)

/-- ITS FALSE NEIGHBOUR: 'it returns false'. Refute it at one input. -/
def fnExactPutVersionsWrong : ChangeSpec := { name := "fnExactPutVersions", fn := fun _ => fun
  | [d1, d2, d3] => { results := [.lit (.bool false)], args := [d1, d2, d3] }
  | _ => none }
def FnExactPutVersionsWrongFalsely : Prop := fnExactPutVersionsRow.holds Try.pinned (OpenSpec.ofChange fnExactPutVersionsWrong)

/-- 'laws.FnExactLastVersions': WHATEVER THE INPUT: true; the input reads as it did. -/
def fnExactLastVersionsSpec : ChangeSpec := { name := "fnExactLastVersions", fn := fun _ => fun
  | [d1, d2] => { results := [.lit (.bool true)], args := [d1, d2] }
  | _ => none }
def fnExactLastVersionsRow : OpenClaim := { program := "ytncedcliklpapaa", sum := "ab2236cea58a1035a888042175ec121670a6b9b7367beea62ca2a880a0198967", func := "loop.example/blockexecutor/laws.FnExactLastVersions", spec := "fnExactLastVersions", unfollowed := true, recurses := true, apart := false }
def FnExactLastVersionsSaid : Prop := fnExactLastVersionsRow.holds Try.pinned (OpenSpec.ofChange fnExactLastVersionsSpec)

/-- ITS FALSE NEIGHBOUR: 'it returns false'. Refute it at one input. -/
def fnExactLastVersionsWrong : ChangeSpec := { name := "fnExactLastVersions", fn := fun _ => fun
  | [d1, d2] => { results := [.lit (.bool false)], args := [d1, d2] }
  | _ => none }
def FnExactLastVersionsWrongFalsely : Prop := fnExactLastVersionsRow.holds Try.pinned (OpenSpec.ofChange fnExactLastVersionsWrong)

/- THE SECOND FORM. 'bulk': how many values and letters a reading holds, each counted each time it is reached (what is shared counts as often as it is met; a slice's spare places count too). A statement '..UptoSaid' is the law's where the arguments, and the package variables that the reading takes, are together of bulk at most 1048576: NARROWER than '..Said'. Prove '..Said' where nothing that the law and all that it calls make is longer than what came in: it says more and counts as full. Else prove '..UptoSaid'. A law counts once. -/
mutual
def uptoBulk {H : Type} : DataW H → Nat
  | .lit (.string bytes) => bytes.length + 1
  | .lit _ => 1
  | .nil => 1
  | .ptr d => uptoBulk d + 1
  | .slice elems spare => uptoBulkAll elems + uptoBulkAll spare + 1
  | .agg parts => uptoBulkAll parts + 1
  | .iface _ d => uptoBulk d + 1
  | .map entries => uptoBulkEntries entries + 1
  | .held _ => 1
def uptoBulkAll {H : Type} : List (DataW H) → Nat
  | [] => 0
  | d :: r => uptoBulk d + uptoBulkAll r
def uptoBulkEntries {H : Type} : List (Lit × DataW H) → Nat
  | [] => 0
  | x :: r => uptoBulkEntry x + uptoBulkEntries r
def uptoBulkEntry {H : Type} : Lit × DataW H → Nat
  | (.string bytes, d) => bytes.length + uptoBulk d + 1
  | (_, d) => uptoBulk d + 1
 end
def uptoSmall : (H : Type) → List (DataW H) → Bool := fun _ ds => decide (uptoBulkAll ds ≤ 1048576)
def OpenSpec.upto (s : _root_.Go.ChangeSpec) : _root_.Go.OpenSpec := { _root_.Go.OpenSpec.ofChange s with cond := some uptoSmall }

/-- 'laws.FnVersionsValid', WHERE WHAT IT READS IS OF BULK AT MOST 1048576: true; the input reads as it did. -/
def fnVersionsValidUptoRow : OpenClaim := { program := "ytncedcliklpapaa", sum := "ab2236cea58a1035a888042175ec121670a6b9b7367beea62ca2a880a0198967", func := "loop.example/blockexecutor/laws.FnVersionsValid", spec := "fnVersionsValid", apart := false, narrowed := true }
def FnVersionsValidUptoSaid : Prop := fnVersionsValidUptoRow.holds Try.pinned (OpenSpec.upto fnVersionsValidSpec)

/-- 'laws.FnReadVersion', WHERE WHAT IT READS IS OF BULK AT MOST 1048576: true; the input reads as it did. -/
def fnReadVersionUptoRow : OpenClaim := { program := "ytncedcliklpapaa", sum := "ab2236cea58a1035a888042175ec121670a6b9b7367beea62ca2a880a0198967", func := "loop.example/blockexecutor/laws.FnReadVersion", spec := "fnReadVersion", unfollowed := true, recurses := true, apart := false, narrowed := true }
def FnReadVersionUptoSaid : Prop := fnReadVersionUptoRow.holds Try.pinned (OpenSpec.upto fnReadVersionSpec)

/-- 'laws.FnDropVersions', WHERE WHAT IT READS IS OF BULK AT MOST 1048576: true; the input reads as it did. -/
def fnDropVersionsUptoRow : OpenClaim := { program := "ytncedcliklpapaa", sum := "ab2236cea58a1035a888042175ec121670a6b9b7367beea62ca2a880a0198967", func := "loop.example/blockexecutor/laws.FnDropVersions", spec := "fnDropVersions", unfollowed := true, recurses := true, apart := false, narrowed := true }
def FnDropVersionsUptoSaid : Prop := fnDropVersionsUptoRow.holds Try.pinned (OpenSpec.upto fnDropVersionsSpec)

/-- 'laws.FnPutVersions', WHERE WHAT IT READS IS OF BULK AT MOST 1048576: true; the input reads as it did. -/
def fnPutVersionsUptoRow : OpenClaim := { program := "ytncedcliklpapaa", sum := "ab2236cea58a1035a888042175ec121670a6b9b7367beea62ca2a880a0198967", func := "loop.example/blockexecutor/laws.FnPutVersions", spec := "fnPutVersions", inPlace := ["slices.overlaps[loop.example/blockexecutor/impl.Version]"], unfollowed := true, recurses := true, apart := false, narrowed := true }
def FnPutVersionsUptoSaid : Prop := fnPutVersionsUptoRow.holds Try.pinned (OpenSpec.upto fnPutVersionsSpec)

/-- 'laws.FnLastVersions', WHERE WHAT IT READS IS OF BULK AT MOST 1048576: true; the input reads as it did. -/
def fnLastVersionsUptoRow : OpenClaim := { program := "ytncedcliklpapaa", sum := "ab2236cea58a1035a888042175ec121670a6b9b7367beea62ca2a880a0198967", func := "loop.example/blockexecutor/laws.FnLastVersions", spec := "fnLastVersions", unfollowed := true, recurses := true, apart := false, narrowed := true }
def FnLastVersionsUptoSaid : Prop := fnLastVersionsUptoRow.holds Try.pinned (OpenSpec.upto fnLastVersionsSpec)

/-- 'laws.FnExactVersionsValid', WHERE WHAT IT READS IS OF BULK AT MOST 1048576: true; the input reads as it did. -/
def fnExactVersionsValidUptoRow : OpenClaim := { program := "ytncedcliklpapaa", sum := "ab2236cea58a1035a888042175ec121670a6b9b7367beea62ca2a880a0198967", func := "loop.example/blockexecutor/laws.FnExactVersionsValid", spec := "fnExactVersionsValid", apart := false, narrowed := true }
def FnExactVersionsValidUptoSaid : Prop := fnExactVersionsValidUptoRow.holds Try.pinned (OpenSpec.upto fnExactVersionsValidSpec)

/-- 'laws.FnExactReadVersion', WHERE WHAT IT READS IS OF BULK AT MOST 1048576: true; the input reads as it did. -/
def fnExactReadVersionUptoRow : OpenClaim := { program := "ytncedcliklpapaa", sum := "ab2236cea58a1035a888042175ec121670a6b9b7367beea62ca2a880a0198967", func := "loop.example/blockexecutor/laws.FnExactReadVersion", spec := "fnExactReadVersion", unfollowed := true, recurses := true, apart := false, narrowed := true }
def FnExactReadVersionUptoSaid : Prop := fnExactReadVersionUptoRow.holds Try.pinned (OpenSpec.upto fnExactReadVersionSpec)

/-- 'laws.FnExactDropVersions', WHERE WHAT IT READS IS OF BULK AT MOST 1048576: true; the input reads as it did. -/
def fnExactDropVersionsUptoRow : OpenClaim := { program := "ytncedcliklpapaa", sum := "ab2236cea58a1035a888042175ec121670a6b9b7367beea62ca2a880a0198967", func := "loop.example/blockexecutor/laws.FnExactDropVersions", spec := "fnExactDropVersions", unfollowed := true, recurses := true, apart := false, narrowed := true }
def FnExactDropVersionsUptoSaid : Prop := fnExactDropVersionsUptoRow.holds Try.pinned (OpenSpec.upto fnExactDropVersionsSpec)

/-- 'laws.FnExactPutVersions', WHERE WHAT IT READS IS OF BULK AT MOST 1048576: true; the input reads as it did. -/
def fnExactPutVersionsUptoRow : OpenClaim := { program := "ytncedcliklpapaa", sum := "ab2236cea58a1035a888042175ec121670a6b9b7367beea62ca2a880a0198967", func := "loop.example/blockexecutor/laws.FnExactPutVersions", spec := "fnExactPutVersions", inPlace := ["slices.overlaps[loop.example/blockexecutor/impl.Version]"], unfollowed := true, recurses := true, apart := false, narrowed := true }
def FnExactPutVersionsUptoSaid : Prop := fnExactPutVersionsUptoRow.holds Try.pinned (OpenSpec.upto fnExactPutVersionsSpec)

/-- 'laws.FnExactLastVersions', WHERE WHAT IT READS IS OF BULK AT MOST 1048576: true; the input reads as it did. -/
def fnExactLastVersionsUptoRow : OpenClaim := { program := "ytncedcliklpapaa", sum := "ab2236cea58a1035a888042175ec121670a6b9b7367beea62ca2a880a0198967", func := "loop.example/blockexecutor/laws.FnExactLastVersions", spec := "fnExactLastVersions", unfollowed := true, recurses := true, apart := false, narrowed := true }
def FnExactLastVersionsUptoSaid : Prop := fnExactLastVersionsUptoRow.holds Try.pinned (OpenSpec.upto fnExactLastVersionsSpec)

end Rows
end Go.Proofs.Ytncedcliklpapaa
