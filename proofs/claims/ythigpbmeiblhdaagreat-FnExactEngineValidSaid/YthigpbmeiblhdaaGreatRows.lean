/-
  No cell of these rows narrows 'for every input' (looked for: loops, veiled, ifaces, maps, wideKeys, modest, calm, conditions, laid).
  DERIVED. THE GIVEN ROWS OF THIS SEAT. 4 by the template 'for every input the law returns true; each argument reads behind the call as it read before'; 0 by the template 'total and deterministic' (their statements: YthigpbmeiblhdaaGreatTotals.lean).
  GIVEN WITH THE SEED: the statements are not yours to turn. If you find one false, say at which input.
  Laid BY PROGRAM, IN A SANDBOX (cutbox-rows.mjs): the forced cells as the released guide's own fill.sh prints them over the translation 6eefa41e270882f7… (all of the seat's roots in one cut). By AI agents, Wed Nov 11 2026. No macro, syntax, notation, axiom, sorry.
-/
import Derived.Test.YthigpbmeiblhdaaGreatChecked
import GoSem.Claim
import GoSem.ClaimJoined
import GoSem.ClaimMapViews
import Derived.JoinedTies
import Derived.KernelRfl
namespace Go.Proofs.YthigpbmeiblhdaaGreat
/- THE CELL 'sum', in the pinned program and in every row, IS THE sha256 OF THE DUMP (.gsa) THAT YthigpbmeiblhdaaGreatProg.lean LOADS. Nothing in Lean hashes anything: it is a label: what it is worth is what the hold of that sum in a sandbox is worth. -/
noncomputable def Tryz.pinned : Pinned := { name := "ythigpbmeiblhdaagreat", sum := "6eefa41e270882f74f2799a3310cc3e31e9f231048a3342270dd19933cb0e460", checked := Tryz.checked }
namespace Rows
def none {H : Type} : Left H := { results := [], args := [] }

/-- 'laws.FnEngineValid': WHATEVER THE INPUT: true; the input reads as it did. -/
def fnEngineValidSpec : ChangeSpec := { name := "fnEngineValid", fn := fun _ => fun
  | [d] => { results := [.lit (.bool true)], args := [d] }
  | _ => none }
def fnEngineValidRow : OpenClaim := { program := "ythigpbmeiblhdaagreat", sum := "6eefa41e270882f74f2799a3310cc3e31e9f231048a3342270dd19933cb0e460", func := "loop.example/blockexecutor/laws.FnEngineValid", spec := "fnEngineValid", inPlace := ["slices.overlaps[loop.example/blockexecutor/impl.Version]"], unfollowed := true, recurses := true, apart := false }
def FnEngineValidSaid : Prop := fnEngineValidRow.holds Tryz.pinned (OpenSpec.ofChange fnEngineValidSpec)

/-- ITS FALSE NEIGHBOUR: 'it returns false'. Refute it at one input. -/
def fnEngineValidWrong : ChangeSpec := { name := "fnEngineValid", fn := fun _ => fun
  | [d] => { results := [.lit (.bool false)], args := [d] }
  | _ => none }
def FnEngineValidWrongFalsely : Prop := fnEngineValidRow.holds Tryz.pinned (OpenSpec.ofChange fnEngineValidWrong)

/-- 'laws.FnEngineDone': WHATEVER THE INPUT: true; the input reads as it did. -/
def fnEngineDoneSpec : ChangeSpec := { name := "fnEngineDone", fn := fun _ => fun
  | [d] => { results := [.lit (.bool true)], args := [d] }
  | _ => none }
def fnEngineDoneRow : OpenClaim := { program := "ythigpbmeiblhdaagreat", sum := "6eefa41e270882f74f2799a3310cc3e31e9f231048a3342270dd19933cb0e460", func := "loop.example/blockexecutor/laws.FnEngineDone", spec := "fnEngineDone", inPlace := ["slices.overlaps[loop.example/blockexecutor/impl.Version]"], unfollowed := true, recurses := true, apart := false }
def FnEngineDoneSaid : Prop := fnEngineDoneRow.holds Tryz.pinned (OpenSpec.ofChange fnEngineDoneSpec)

/-- ITS FALSE NEIGHBOUR: 'it returns false'. Refute it at one input. -/
def fnEngineDoneWrong : ChangeSpec := { name := "fnEngineDone", fn := fun _ => fun
  | [d] => { results := [.lit (.bool false)], args := [d] }
  | _ => none }
def FnEngineDoneWrongFalsely : Prop := fnEngineDoneRow.holds Tryz.pinned (OpenSpec.ofChange fnEngineDoneWrong)

/-- 'laws.FnExactEngineValid': WHATEVER THE INPUT: true; the input reads as it did. -/
def fnExactEngineValidSpec : ChangeSpec := { name := "fnExactEngineValid", fn := fun _ => fun
  | [d] => { results := [.lit (.bool true)], args := [d] }
  | _ => none }
def fnExactEngineValidRow : OpenClaim := { program := "ythigpbmeiblhdaagreat", sum := "6eefa41e270882f74f2799a3310cc3e31e9f231048a3342270dd19933cb0e460", func := "loop.example/blockexecutor/laws.FnExactEngineValid", spec := "fnExactEngineValid", inPlace := ["slices.overlaps[loop.example/blockexecutor/impl.Version]"], unfollowed := true, recurses := true, apart := false }
def FnExactEngineValidSaid : Prop := fnExactEngineValidRow.holds Tryz.pinned (OpenSpec.ofChange fnExactEngineValidSpec)

/-- ITS FALSE NEIGHBOUR: 'it returns false'. Refute it at one input. -/
def fnExactEngineValidWrong : ChangeSpec := { name := "fnExactEngineValid", fn := fun _ => fun
  | [d] => { results := [.lit (.bool false)], args := [d] }
  | _ => none }
def FnExactEngineValidWrongFalsely : Prop := fnExactEngineValidRow.holds Tryz.pinned (OpenSpec.ofChange fnExactEngineValidWrong)

/-- 'laws.FnExactEngineDone': WHATEVER THE INPUT: true; the input reads as it did. -/
def fnExactEngineDoneSpec : ChangeSpec := { name := "fnExactEngineDone", fn := fun _ => fun
  | [d] => { results := [.lit (.bool true)], args := [d] }
  | _ => none }
def fnExactEngineDoneRow : OpenClaim := { program := "ythigpbmeiblhdaagreat", sum := "6eefa41e270882f74f2799a3310cc3e31e9f231048a3342270dd19933cb0e460", func := "loop.example/blockexecutor/laws.FnExactEngineDone", spec := "fnExactEngineDone", inPlace := ["slices.overlaps[loop.example/blockexecutor/impl.Version]"], unfollowed := true, recurses := true, apart := false }
def FnExactEngineDoneSaid : Prop := fnExactEngineDoneRow.holds Tryz.pinned (OpenSpec.ofChange fnExactEngineDoneSpec)

/-- ITS FALSE NEIGHBOUR: 'it returns false'. Refute it at one input. -/
def fnExactEngineDoneWrong : ChangeSpec := { name := "fnExactEngineDone", fn := fun _ => fun
  | [d] => { results := [.lit (.bool false)], args := [d] }
  | _ => none }
def FnExactEngineDoneWrongFalsely : Prop := fnExactEngineDoneRow.holds Tryz.pinned (OpenSpec.ofChange fnExactEngineDoneWrong)

/- THE SECOND FORM. 'bulk': how many values and letters a reading holds, each counted each time it is reached (what is shared counts as often as it is met; a slice's spare places count too). A statement '..UptoSaid' is the law's where the arguments, and the package variables that the reading takes, are together of bulk at most 1048576: NARROWER than '..Said'. Prove '..Said' where nothing that the law and all that it calls make is longer than what came in: it says more and counts as full. Else prove '..UptoSaid'. A law counts once. -/
mutual
def uptoBulk {H : Type} : DataW H → Nat
  | .lit (.string bytes) => bytes.length + 1
  | .lit _ => 1
  | .nil => 1
  | .ptr d => uptoBulk d + 1
  | .slice elems spare => uptoBulkAll elems + uptoBulkAll spare + 1
  | .agg parts => uptoBulkAll parts + 1
  | .iface _ d => uptoBulk d + 1
  | .map entries => uptoBulkEntries entries + 1
  | .held _ => 1
def uptoBulkAll {H : Type} : List (DataW H) → Nat
  | [] => 0
  | d :: r => uptoBulk d + uptoBulkAll r
def uptoBulkEntries {H : Type} : List (Lit × DataW H) → Nat
  | [] => 0
  | x :: r => uptoBulkEntry x + uptoBulkEntries r
def uptoBulkEntry {H : Type} : Lit × DataW H → Nat
  | (.string bytes, d) => bytes.length + uptoBulk d + 1
  | (_, d) => uptoBulk d + 1
 end
def uptoSmall : (H : Type) → List (DataW H) → Bool := fun _ ds => decide (uptoBulkAll ds ≤ 1048576)
def OpenSpec.upto (s : _root_.Go.ChangeSpec) : _root_.Go.OpenSpec := { _root_.Go.OpenSpec.ofChange s with cond := some uptoSmall }

/-- 'laws.FnEngineValid', WHERE WHAT IT READS IS OF BULK AT MOST 1048576: true; the input reads as it did. -/
def fnEngineValidUptoRow : OpenClaim := { program := "ythigpbmeiblhdaagreat", sum := "6eefa41e270882f74f2799a3310cc3e31e9f231048a3342270dd19933cb0e460", func := "loop.example/blockexecutor/laws.FnEngineValid", spec := "fnEngineValid", inPlace := ["slices.overlaps[loop.example/blockexecutor/impl.Version]"], unfollowed := true, recurses := true, apart := false, narrowed := true }
def FnEngineValidUptoSaid : Prop := fnEngineValidUptoRow.holds Tryz.pinned (OpenSpec.upto fnEngineValidSpec)

/-- 'laws.FnEngineDone', WHERE WHAT IT READS IS OF BULK AT MOST 1048576: true; the input reads as it did. -/
def fnEngineDoneUptoRow : OpenClaim := { program := "ythigpbmeiblhdaagreat", sum := "6eefa41e270882f74f2799a3310cc3e31e9f231048a3342270dd19933cb0e460", func := "loop.example/blockexecutor/laws.FnEngineDone", spec := "fnEngineDone", inPlace := ["slices.overlaps[loop.example/blockexecutor/impl.Version]"], unfollowed := true, recurses := true, apart := false, narrowed := true }
def FnEngineDoneUptoSaid : Prop := fnEngineDoneUptoRow.holds Tryz.pinned (OpenSpec.upto fnEngineDoneSpec)

/-- 'laws.FnExactEngineValid', WHERE WHAT IT READS IS OF BULK AT MOST 1048576: true; the input reads as it did. -/
def fnExactEngineValidUptoRow : OpenClaim := { program := "ythigpbmeiblhdaagreat", sum := "6eefa41e270882f74f2799a3310cc3e31e9f231048a3342270dd19933cb0e460", func := "loop.example/blockexecutor/laws.FnExactEngineValid", spec := "fnExactEngineValid", inPlace := ["slices.overlaps[loop.example/blockexecutor/impl.Version]"], unfollowed := true, recurses := true, apart := false, narrowed := true }
def FnExactEngineValidUptoSaid : Prop := fnExactEngineValidUptoRow.holds Tryz.pinned (OpenSpec.upto fnExactEngineValidSpec)

/-- 'laws.FnExactEngineDone', WHERE WHAT IT READS IS OF BULK AT MOST 1048576: true; the input reads as it did. -/
def fnExactEngineDoneUptoRow : OpenClaim := { program := "ythigpbmeiblhdaagreat", sum := "6eefa41e270882f74f2799a3310cc3e31e9f231048a3342270dd19933cb0e460", func := "loop.example/blockexecutor/laws.FnExactEngineDone", spec := "fnExactEngineDone", inPlace := ["slices.overlaps[loop.example/blockexecutor/impl.Version]"], unfollowed := true, recurses := true, apart := false, narrowed := true }
def FnExactEngineDoneUptoSaid : Prop := fnExactEngineDoneUptoRow.holds Tryz.pinned (OpenSpec.upto fnExactEngineDoneSpec)

end Rows
end Go.Proofs.YthigpbmeiblhdaaGreat
