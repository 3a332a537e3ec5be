/-
  No cell of these rows narrows 'for every input' (looked for: loops, veiled, ifaces, maps, wideKeys, modest, calm, conditions, laid).
  DERIVED. THE GIVEN ROWS OF THIS SEAT. 11 by the template 'for every input the law returns true; each argument reads behind the call as it read before'; 0 by the template 'total and deterministic' (their statements: YtpaeioabmmkheaaTotals.lean).
  GIVEN WITH THE SEED: the statements are not yours to turn. If you find one false, say at which input.
  Laid BY PROGRAM, IN A SANDBOX (cutbox-rows.mjs): the forced cells as the released guide's own fill.sh prints them over the translation cff3cca80bf1bad3… (all of the seat's roots in one cut). By AI agents, Wed Nov 11 2026. No macro, syntax, notation, axiom, sorry.
-/
import Derived.Test.YtpaeioabmmkheaaChecked
import GoSem.Claim
import GoSem.ClaimJoined
import GoSem.ClaimMapViews
import Derived.JoinedTies
import Derived.KernelRfl
namespace Go.Proofs.Ytpaeioabmmkheaa
/- THE CELL 'sum', in the pinned program and in every row, IS THE sha256 OF THE DUMP (.gsa) THAT YtpaeioabmmkheaaProg.lean LOADS. Nothing in Lean hashes anything: it is a label: what it is worth is what the hold of that sum in a sandbox is worth. -/
noncomputable def Try.pinned : Pinned := { name := "ytpaeioabmmkheaa", sum := "cff3cca80bf1bad3332546510b69c8519243b4d7dc19804a4f84debfda096156", checked := Try.checked }
namespace Rows
def none {H : Type} : Left H := { results := [], args := [] }

/-- 'laws.FnLeafSum': WHATEVER THE INPUT: true; the input reads as it did. -/
def fnLeafSumSpec : ChangeSpec := { name := "fnLeafSum", fn := fun _ => fun
  | [d] => { results := [.lit (.bool true)], args := [d] }
  | _ => none }
def fnLeafSumRow : OpenClaim := { program := "ytpaeioabmmkheaa", sum := "cff3cca80bf1bad3332546510b69c8519243b4d7dc19804a4f84debfda096156", func := "loop.example/blockexecutor/laws.FnLeafSum", spec := "fnLeafSum", apart := false }
def FnLeafSumSaid : Prop := fnLeafSumRow.holds Try.pinned (OpenSpec.ofChange fnLeafSumSpec)

/-- ITS FALSE NEIGHBOUR: 'it returns false'. Refute it at one input. -/
def fnLeafSumWrong : ChangeSpec := { name := "fnLeafSum", fn := fun _ => fun
  | [d] => { results := [.lit (.bool false)], args := [d] }
  | _ => none }
def FnLeafSumWrongFalsely : Prop := fnLeafSumRow.holds Try.pinned (OpenSpec.ofChange fnLeafSumWrong)

/-- 'laws.FnRootOf': WHATEVER THE INPUT: true; the input reads as it did. -/
def fnRootOfSpec : ChangeSpec := { name := "fnRootOf", fn := fun _ => fun
  | [d] => { results := [.lit (.bool true)], args := [d] }
  | _ => none }
def fnRootOfRow : OpenClaim := { program := "ytpaeioabmmkheaa", sum := "cff3cca80bf1bad3332546510b69c8519243b4d7dc19804a4f84debfda096156", func := "loop.example/blockexecutor/laws.FnRootOf", spec := "fnRootOf", apart := false }
def FnRootOfSaid : Prop := fnRootOfRow.holds Try.pinned (OpenSpec.ofChange fnRootOfSpec)

/-- ITS FALSE NEIGHBOUR: 'it returns false'. Refute it at one input. -/
def fnRootOfWrong : ChangeSpec := { name := "fnRootOf", fn := fun _ => fun
  | [d] => { results := [.lit (.bool false)], args := [d] }
  | _ => none }
def FnRootOfWrongFalsely : Prop := fnRootOfRow.holds Try.pinned (OpenSpec.ofChange fnRootOfWrong)

/-- 'laws.FnProofOf': WHATEVER THE INPUT: true; the input reads as it did. -/
def fnProofOfSpec : ChangeSpec := { name := "fnProofOf", fn := fun _ => fun
  | [d] => { results := [.lit (.bool true)], args := [d] }
  | _ => none }
def fnProofOfRow : OpenClaim := { program := "ytpaeioabmmkheaa", sum := "cff3cca80bf1bad3332546510b69c8519243b4d7dc19804a4f84debfda096156", func := "loop.example/blockexecutor/laws.FnProofOf", spec := "fnProofOf", apart := false }
def FnProofOfSaid : Prop := fnProofOfRow.holds Try.pinned (OpenSpec.ofChange fnProofOfSpec)

/-- ITS FALSE NEIGHBOUR: 'it returns false'. Refute it at one input. -/
def fnProofOfWrong : ChangeSpec := { name := "fnProofOf", fn := fun _ => fun
  | [d] => { results := [.lit (.bool false)], args := [d] }
  | _ => none }
def FnProofOfWrongFalsely : Prop := fnProofOfRow.holds Try.pinned (OpenSpec.ofChange fnProofOfWrong)

/-- 'laws.FnProofRoot': WHATEVER THE INPUT: true; the input reads as it did. -/
def fnProofRootSpec : ChangeSpec := { name := "fnProofRoot", fn := fun _ => fun
  | [d] => { results := [.lit (.bool true)], args := [d] }
  | _ => none }
def fnProofRootRow : OpenClaim := { program := "ytpaeioabmmkheaa", sum := "cff3cca80bf1bad3332546510b69c8519243b4d7dc19804a4f84debfda096156", func := "loop.example/blockexecutor/laws.FnProofRoot", spec := "fnProofRoot", apart := false }
def FnProofRootSaid : Prop := fnProofRootRow.holds Try.pinned (OpenSpec.ofChange fnProofRootSpec)

/-- ITS FALSE NEIGHBOUR: 'it returns false'. Refute it at one input. -/
def fnProofRootWrong : ChangeSpec := { name := "fnProofRoot", fn := fun _ => fun
  | [d] => { results := [.lit (.bool false)], args := [d] }
  | _ => none }
def FnProofRootWrongFalsely : Prop := fnProofRootRow.holds Try.pinned (OpenSpec.ofChange fnProofRootWrong)

/-- 'laws.FnProofRight': WHATEVER THE INPUT: true; the input reads as it did. -/
def fnProofRightSpec : ChangeSpec := { name := "fnProofRight", fn := fun _ => fun
  | [d] => { results := [.lit (.bool true)], args := [d] }
  | _ => none }
def fnProofRightRow : OpenClaim := { program := "ytpaeioabmmkheaa", sum := "cff3cca80bf1bad3332546510b69c8519243b4d7dc19804a4f84debfda096156", func := "loop.example/blockexecutor/laws.FnProofRight", spec := "fnProofRight", apart := false }
def FnProofRightSaid : Prop := fnProofRightRow.holds Try.pinned (OpenSpec.ofChange fnProofRightSpec)

/-- ITS FALSE NEIGHBOUR: 'it returns false'. Refute it at one input. -/
def fnProofRightWrong : ChangeSpec := { name := "fnProofRight", fn := fun _ => fun
  | [d] => { results := [.lit (.bool false)], args := [d] }
  | _ => none }
def FnProofRightWrongFalsely : Prop := fnProofRightRow.holds Try.pinned (OpenSpec.ofChange fnProofRightWrong)

/-- 'laws.FnRootChange': WHATEVER THE INPUT: true; the input reads as it did. -/
def fnRootChangeSpec : ChangeSpec := { name := "fnRootChange", fn := fun _ => fun
  | [d] => { results := [.lit (.bool true)], args := [d] }
  | _ => none }
def fnRootChangeRow : OpenClaim := { program := "ytpaeioabmmkheaa", sum := "cff3cca80bf1bad3332546510b69c8519243b4d7dc19804a4f84debfda096156", func := "loop.example/blockexecutor/laws.FnRootChange", spec := "fnRootChange", apart := false }
def FnRootChangeSaid : Prop := fnRootChangeRow.holds Try.pinned (OpenSpec.ofChange fnRootChangeSpec)

/-- ITS FALSE NEIGHBOUR: 'it returns false'. Refute it at one input. -/
def fnRootChangeWrong : ChangeSpec := { name := "fnRootChange", fn := fun _ => fun
  | [d] => { results := [.lit (.bool false)], args := [d] }
  | _ => none }
def FnRootChangeWrongFalsely : Prop := fnRootChangeRow.holds Try.pinned (OpenSpec.ofChange fnRootChangeWrong)

/-- 'laws.FnExactLeafSum': WHATEVER THE INPUT: true; the input reads as it did. -/
def fnExactLeafSumSpec : ChangeSpec := { name := "fnExactLeafSum", fn := fun _ => fun
  | [d1, d2] => { results := [.lit (.bool true)], args := [d1, d2] }
  | _ => none }
def fnExactLeafSumRow : OpenClaim := { program := "ytpaeioabmmkheaa", sum := "cff3cca80bf1bad3332546510b69c8519243b4d7dc19804a4f84debfda096156", func := "loop.example/blockexecutor/laws.FnExactLeafSum", spec := "fnExactLeafSum", apart := false }
def FnExactLeafSumSaid : Prop := fnExactLeafSumRow.holds Try.pinned (OpenSpec.ofChange fnExactLeafSumSpec)

/-- ITS FALSE NEIGHBOUR: 'it returns false'. Refute it at one input. -/
def fnExactLeafSumWrong : ChangeSpec := { name := "fnExactLeafSum", fn := fun _ => fun
  | [d1, d2] => { results := [.lit (.bool false)], args := [d1, d2] }
  | _ => none }
def FnExactLeafSumWrongFalsely : Prop := fnExactLeafSumRow.holds Try.pinned (OpenSpec.ofChange fnExactLeafSumWrong)

/-- 'laws.FnExactRootOf': WHATEVER THE INPUT: true; the input reads as it did. -/
def fnExactRootOfSpec : ChangeSpec := { name := "fnExactRootOf", fn := fun _ => fun
  | [d] => { results := [.lit (.bool true)], args := [d] }
  | _ => none }
def fnExactRootOfRow : OpenClaim := { program := "ytpaeioabmmkheaa", sum := "cff3cca80bf1bad3332546510b69c8519243b4d7dc19804a4f84debfda096156", func := "loop.example/blockexecutor/laws.FnExactRootOf", spec := "fnExactRootOf", apart := false }
def FnExactRootOfSaid : Prop := fnExactRootOfRow.holds Try.pinned (OpenSpec.ofChange fnExactRootOfSpec)

/-- ITS FALSE NEIGHBOUR: 'it returns false'. Refute it at one input. -/
def fnExactRootOfWrong : ChangeSpec := { name := "fnExactRootOf", fn := fun _ => fun
  | [d] => { results := [.lit (.bool false)], args := [d] }
  | _ => none }
def FnExactRootOfWrongFalsely : Prop := fnExactRootOfRow.holds Try.pinned (OpenSpec.ofChange fnExactRootOfWrong)

/-- 'laws.FnExactProofOf': WHATEVER THE INPUT: true; the input reads as it did. -/
def fnExactProofOfSpec : ChangeSpec := { name := "fnExactProofOf", fn := fun _ => fun
  | [d1, d2] => { results := [.lit (.bool true)], args := [d1, d2] }
  | _ => none }
def fnExactProofOfRow : OpenClaim := { program := "ytpaeioabmmkheaa", sum := "cff3cca80bf1bad3332546510b69c8519243b4d7dc19804a4f84debfda096156", func := "loop.example/blockexecutor/laws.FnExactProofOf", spec := "fnExactProofOf", apart := false }
def FnExactProofOfSaid : Prop := fnExactProofOfRow.holds Try.pinned (OpenSpec.ofChange fnExactProofOfSpec)

/-- ITS FALSE NEIGHBOUR: 'it returns false'. Refute it at one input. -/
def fnExactProofOfWrong : ChangeSpec := { name := "fnExactProofOf", fn := fun _ => fun
  | [d1, d2] => { results := [.lit (.bool false)], args := [d1, d2] }
  | _ => none }
def FnExactProofOfWrongFalsely : Prop := fnExactProofOfRow.holds Try.pinned (OpenSpec.ofChange fnExactProofOfWrong)

/-- 'laws.FnExactProofRoot': WHATEVER THE INPUT: true; the input reads as it did. -/
def fnExactProofRootSpec : ChangeSpec := { name := "fnExactProofRoot", fn := fun _ => fun
  | [d1, d2, d3] => { results := [.lit (.bool true)], args := [d1, d2, d3] }
  | _ => none }
def fnExactProofRootRow : OpenClaim := { program := "ytpaeioabmmkheaa", sum := "cff3cca80bf1bad3332546510b69c8519243b4d7dc19804a4f84debfda096156", func := "loop.example/blockexecutor/laws.FnExactProofRoot", spec := "fnExactProofRoot", apart := false }
def FnExactProofRootSaid : Prop := fnExactProofRootRow.holds Try.pinned (OpenSpec.ofChange fnExactProofRootSpec)

/-- ITS FALSE NEIGHBOUR: 'it returns false'. Refute it at one input. -/
def fnExactProofRootWrong : ChangeSpec := { name := "fnExactProofRoot", fn := fun _ => fun
  | [d1, d2, d3] => { results := [.lit (.bool false)], args := [d1, d2, d3] }
  | _ => none }
def FnExactProofRootWrongFalsely : Prop := fnExactProofRootRow.holds Try.pinned (OpenSpec.ofChange fnExactProofRootWrong)

/-- 'laws.FnExactProofRight': WHATEVER THE INPUT: true; the input reads as it did. -/
def fnExactProofRightSpec : ChangeSpec := { name := "fnExactProofRight", fn := fun _ => fun
  | [d1, d2, d3, d4] => { results := [.lit (.bool true)], args := [d1, d2, d3, d4] }
  | _ => none }
def fnExactProofRightRow : OpenClaim := { program := "ytpaeioabmmkheaa", sum := "cff3cca80bf1bad3332546510b69c8519243b4d7dc19804a4f84debfda096156", func := "loop.example/blockexecutor/laws.FnExactProofRight", spec := "fnExactProofRight", apart := false }
def FnExactProofRightSaid : Prop := fnExactProofRightRow.holds Try.pinned (OpenSpec.ofChange fnExactProofRightSpec)

/-- ITS FALSE NEIGHBOUR: 'it returns false'. Refute it at one input. -/
def fnExactProofRightWrong : ChangeSpec := { name := "fnExactProofRight", fn := fun _ => fun
  | [d1, d2, d3, d4] => { results := [.lit (.bool false)], args := [d1, d2, d3, d4] }
  | _ => none }
def FnExactProofRightWrongFalsely : Prop := fnExactProofRightRow.holds Try.pinned (OpenSpec.ofChange fnExactProofRightWrong)

/- THE SECOND FORM. 'bulk': how many values and letters a reading holds, each counted each time it is reached (what is shared counts as often as it is met; a slice's spare places count too). A statement '..UptoSaid' is the law's where the arguments, and the package variables that the reading takes, are together of bulk at most 1048576: NARROWER than '..Said'. Prove '..Said' where nothing that the law and all that it calls make is longer than what came in: it says more and counts as full. Else prove '..UptoSaid'. A law counts once. -/
mutual
def uptoBulk {H : Type} : DataW H → Nat
  | .lit (.string bytes) => bytes.length + 1
  | .lit _ => 1
  | .nil => 1
  | .ptr d => uptoBulk d + 1
  | .slice elems spare => uptoBulkAll elems + uptoBulkAll spare + 1
  | .agg parts => uptoBulkAll parts + 1
  | .iface _ d => uptoBulk d + 1
  | .map entries => uptoBulkEntries entries + 1
  | .held _ => 1
def uptoBulkAll {H : Type} : List (DataW H) → Nat
  | [] => 0
  | d :: r => uptoBulk d + uptoBulkAll r
def uptoBulkEntries {H : Type} : List (Lit × DataW H) → Nat
  | [] => 0
  | x :: r => uptoBulkEntry x + uptoBulkEntries r
def uptoBulkEntry {H : Type} : Lit × DataW H → Nat
  | (.string bytes, d) => bytes.length + uptoBulk d + 1
  | (_, d) => uptoBulk d + 1
 end
def uptoSmall : (H : Type) → List (DataW H) → Bool := fun _ ds => decide (uptoBulkAll ds ≤ 1048576)
def OpenSpec.upto (s : _root_.Go.ChangeSpec) : _root_.Go.OpenSpec := { _root_.Go.OpenSpec.ofChange s with cond := some uptoSmall }

/-- 'laws.FnLeafSum', WHERE WHAT IT READS IS OF BULK AT MOST 1048576: true; the input reads as it did. -/
def fnLeafSumUptoRow : OpenClaim := { program := "ytpaeioabmmkheaa", sum := "cff3cca80bf1bad3332546510b69c8519243b4d7dc19804a4f84debfda096156", func := "loop.example/blockexecutor/laws.FnLeafSum", spec := "fnLeafSum", apart := false, narrowed := true }
def FnLeafSumUptoSaid : Prop := fnLeafSumUptoRow.holds Try.pinned (OpenSpec.upto fnLeafSumSpec)

/-- 'laws.FnRootOf', WHERE WHAT IT READS IS OF BULK AT MOST 1048576: true; the input reads as it did. -/
def fnRootOfUptoRow : OpenClaim := { program := "ytpaeioabmmkheaa", sum := "cff3cca80bf1bad3332546510b69c8519243b4d7dc19804a4f84debfda096156", func := "loop.example/blockexecutor/laws.FnRootOf", spec := "fnRootOf", apart := false, narrowed := true }
def FnRootOfUptoSaid : Prop := fnRootOfUptoRow.holds Try.pinned (OpenSpec.upto fnRootOfSpec)

/-- 'laws.FnProofOf', WHERE WHAT IT READS IS OF BULK AT MOST 1048576: true; the input reads as it did. -/
def fnProofOfUptoRow : OpenClaim := { program := "ytpaeioabmmkheaa", sum := "cff3cca80bf1bad3332546510b69c8519243b4d7dc19804a4f84debfda096156", func := "loop.example/blockexecutor/laws.FnProofOf", spec := "fnProofOf", apart := false, narrowed := true }
def FnProofOfUptoSaid : Prop := fnProofOfUptoRow.holds Try.pinned (OpenSpec.upto fnProofOfSpec)

/-- 'laws.FnProofRoot', WHERE WHAT IT READS IS OF BULK AT MOST 1048576: true; the input reads as it did. -/
def fnProofRootUptoRow : OpenClaim := { program := "ytpaeioabmmkheaa", sum := "cff3cca80bf1bad3332546510b69c8519243b4d7dc19804a4f84debfda096156", func := "loop.example/blockexecutor/laws.FnProofRoot", spec := "fnProofRoot", apart := false, narrowed := true }
def FnProofRootUptoSaid : Prop := fnProofRootUptoRow.holds Try.pinned (OpenSpec.upto fnProofRootSpec)

/-- 'laws.FnProofRight', WHERE WHAT IT READS IS OF BULK AT MOST 1048576: true; the input reads as it did. -/
def fnProofRightUptoRow : OpenClaim := { program := "ytpaeioabmmkheaa", sum := "cff3cca80bf1bad3332546510b69c8519243b4d7dc19804a4f84debfda096156", func := "loop.example/blockexecutor/laws.FnProofRight", spec := "fnProofRight", apart := false, narrowed := true }
def FnProofRightUptoSaid : Prop := fnProofRightUptoRow.holds Try.pinned (OpenSpec.upto fnProofRightSpec)

/-- 'laws.FnRootChange', WHERE WHAT IT READS IS OF BULK AT MOST 1048576: true; the input reads as it did. -/
def fnRootChangeUptoRow : OpenClaim := { program := "ytpaeioabmmkheaa", sum := "cff3cca80bf1bad3332546510b69c8519243b4d7dc19804a4f84debfda096156", func := "loop.example/blockexecutor/laws.FnRootChange", spec := "fnRootChange", apart := false, narrowed := true }
def FnRootChangeUptoSaid : Prop := fnRootChangeUptoRow.holds Try.pinned (OpenSpec.upto fnRootChangeSpec)

/-- 'laws.FnExactLeafSum', WHERE WHAT IT READS IS OF BULK AT MOST 1048576: true; the input reads as it did. -/
def fnExactLeafSumUptoRow : OpenClaim := { program := "ytpaeioabmmkheaa", sum := "cff3cca80bf1bad3332546510b69c8519243b4d7dc19804a4f84debfda096156", func := "loop.example/blockexecutor/laws.FnExactLeafSum", spec := "fnExactLeafSum", apart := false, narrowed := true }
def FnExactLeafSumUptoSaid : Prop := fnExactLeafSumUptoRow.holds Try.pinned (OpenSpec.upto fnExactLeafSumSpec)

/-- 'laws.FnExactRootOf', WHERE WHAT IT READS IS OF BULK AT MOST 1048576: true; the input reads as it did. -/
def fnExactRootOfUptoRow : OpenClaim := { program := "ytpaeioabmmkheaa", sum := "cff3cca80bf1bad3332546510b69c8519243b4d7dc19804a4f84debfda096156", func := "loop.example/blockexecutor/laws.FnExactRootOf", spec := "fnExactRootOf", apart := false, narrowed := true }
def FnExactRootOfUptoSaid : Prop := fnExactRootOfUptoRow.holds Try.pinned (OpenSpec.upto fnExactRootOfSpec)

/-- 'laws.FnExactProofOf', WHERE WHAT IT READS IS OF BULK AT MOST 1048576: true; the input reads as it did. -/
def fnExactProofOfUptoRow : OpenClaim := { program := "ytpaeioabmmkheaa", sum := "cff3cca80bf1bad3332546510b69c8519243b4d7dc19804a4f84debfda096156", func := "loop.example/blockexecutor/laws.FnExactProofOf", spec := "fnExactProofOf", apart := false, narrowed := true }
def FnExactProofOfUptoSaid : Prop := fnExactProofOfUptoRow.holds Try.pinned (OpenSpec.upto fnExactProofOfSpec)

/-- 'laws.FnExactProofRoot', WHERE WHAT IT READS IS OF BULK AT MOST 1048576: true; the input reads as it did. -/
def fnExactProofRootUptoRow : OpenClaim := { program := "ytpaeioabmmkheaa", sum := "cff3cca80bf1bad3332546510b69c8519243b4d7dc19804a4f84debfda096156", func := "loop.example/blockexecutor/laws.FnExactProofRoot", spec := "fnExactProofRoot", apart := false, narrowed := true }
def FnExactProofRootUptoSaid : Prop := fnExactProofRootUptoRow.holds Try.pinned (OpenSpec.upto fnExactProofRootSpec)

/-- 'laws.FnExactProofRight', WHERE WHAT IT READS IS OF BULK AT MOST 1048576: true; the input reads as it did. -/
def fnExactProofRightUptoRow : OpenClaim := { program := "ytpaeioabmmkheaa", sum := "cff3cca80bf1bad3332546510b69c8519243b4d7dc19804a4f84debfda096156", func := "loop.example/blockexecutor/laws.FnExactProofRight", spec := "fnExactProofRight", apart := false, narrowed := true }
def FnExactProofRightUptoSaid : Prop := fnExactProofRightUptoRow.holds Try.pinned (OpenSpec.upto fnExactProofRightSpec)

end Rows
end Go.Proofs.Ytpaeioabmmkheaa
