/-
  No cell of these rows narrows 'for every input' (looked for: loops, veiled, ifaces, maps, wideKeys, modest, calm, conditions, laid).
  DERIVED. THE GIVEN ROWS OF THIS SEAT. 7 by the template 'for every input the law returns true; each argument reads behind the call as it read before'; 0 by the template 'total and deterministic' (their statements: YtolhdacbahgfgaaTotals.lean).
  GIVEN WITH THE SEED: the statements are not yours to turn. If you find one false, say at which input.
  Laid BY PROGRAM, IN A SANDBOX (cutbox-rows.mjs): the forced cells as the released guide's own fill.sh prints them over the translation 70878abb0c632dcc… (all of the seat's roots in one cut). By AI agents, Wed Nov 11 2026. No macro, syntax, notation, axiom, sorry.
-/
import Derived.Test.YtolhdacbahgfgaaChecked
import GoSem.Claim
import GoSem.ClaimJoined
import GoSem.ClaimMapViews
import Derived.JoinedTies
import Derived.KernelRfl
namespace Go.Proofs.Ytolhdacbahgfgaa
/- THE CELL 'sum', in the pinned program and in every row, IS THE sha256 OF THE DUMP (.gsa) THAT YtolhdacbahgfgaaProg.lean LOADS. Nothing in Lean hashes anything: it is a label: what it is worth is what the hold of that sum in a sandbox is worth. -/
noncomputable def Try.pinned : Pinned := { name := "ytolhdacbahgfgaa", sum := "70878abb0c632dccfc21c91b7ddc33c6178599f4851590b5ec3f8ea1dad2da1e", checked := Try.checked }
namespace Rows
def none {H : Type} : Left H := { results := [], args := [] }

/-- 'laws.FnCertValid': WHATEVER THE INPUT: true; the input reads as it did. -/
def fnCertValidSpec : ChangeSpec := { name := "fnCertValid", fn := fun _ => fun
  | [d] => { results := [.lit (.bool true)], args := [d] }
  | _ => none }
def fnCertValidRow : OpenClaim := { program := "ytolhdacbahgfgaa", sum := "70878abb0c632dccfc21c91b7ddc33c6178599f4851590b5ec3f8ea1dad2da1e", func := "loop.example/blockexecutor/laws.FnCertValid", spec := "fnCertValid", apart := false }
def FnCertValidSaid : Prop := fnCertValidRow.holds Try.pinned (OpenSpec.ofChange fnCertValidSpec)

/-- ITS FALSE NEIGHBOUR: 'it returns false'. Refute it at one input. -/
def fnCertValidWrong : ChangeSpec := { name := "fnCertValid", fn := fun _ => fun
  | [d] => { results := [.lit (.bool false)], args := [d] }
  | _ => none }
def FnCertValidWrongFalsely : Prop := fnCertValidRow.holds Try.pinned (OpenSpec.ofChange fnCertValidWrong)

/-- 'laws.FnCertCounts': WHATEVER THE INPUT: true; the input reads as it did. -/
def fnCertCountsSpec : ChangeSpec := { name := "fnCertCounts", fn := fun _ => fun
  | [d] => { results := [.lit (.bool true)], args := [d] }
  | _ => none }
def fnCertCountsRow : OpenClaim := { program := "ytolhdacbahgfgaa", sum := "70878abb0c632dccfc21c91b7ddc33c6178599f4851590b5ec3f8ea1dad2da1e", func := "loop.example/blockexecutor/laws.FnCertCounts", spec := "fnCertCounts", apart := false }
def FnCertCountsSaid : Prop := fnCertCountsRow.holds Try.pinned (OpenSpec.ofChange fnCertCountsSpec)

/-- ITS FALSE NEIGHBOUR: 'it returns false'. Refute it at one input. -/
def fnCertCountsWrong : ChangeSpec := { name := "fnCertCounts", fn := fun _ => fun
  | [d] => { results := [.lit (.bool false)], args := [d] }
  | _ => none }
def FnCertCountsWrongFalsely : Prop := fnCertCountsRow.holds Try.pinned (OpenSpec.ofChange fnCertCountsWrong)

/-- 'laws.FnJoinCerts': WHATEVER THE INPUT: true; the input reads as it did. -/
def fnJoinCertsSpec : ChangeSpec := { name := "fnJoinCerts", fn := fun _ => fun
  | [d] => { results := [.lit (.bool true)], args := [d] }
  | _ => none }
def fnJoinCertsRow : OpenClaim := { program := "ytolhdacbahgfgaa", sum := "70878abb0c632dccfc21c91b7ddc33c6178599f4851590b5ec3f8ea1dad2da1e", func := "loop.example/blockexecutor/laws.FnJoinCerts", spec := "fnJoinCerts", apart := false }
def FnJoinCertsSaid : Prop := fnJoinCertsRow.holds Try.pinned (OpenSpec.ofChange fnJoinCertsSpec)

/-- ITS FALSE NEIGHBOUR: 'it returns false'. Refute it at one input. -/
def fnJoinCertsWrong : ChangeSpec := { name := "fnJoinCerts", fn := fun _ => fun
  | [d] => { results := [.lit (.bool false)], args := [d] }
  | _ => none }
def FnJoinCertsWrongFalsely : Prop := fnJoinCertsRow.holds Try.pinned (OpenSpec.ofChange fnJoinCertsWrong)

/-- 'laws.FnHalfCerts': WHATEVER THE INPUT: true; the input reads as it did. -/
def fnHalfCertsSpec : ChangeSpec := { name := "fnHalfCerts", fn := fun _ => fun
  | [d] => { results := [.lit (.bool true)], args := [d] }
  | _ => none }
def fnHalfCertsRow : OpenClaim := { program := "ytolhdacbahgfgaa", sum := "70878abb0c632dccfc21c91b7ddc33c6178599f4851590b5ec3f8ea1dad2da1e", func := "loop.example/blockexecutor/laws.FnHalfCerts", spec := "fnHalfCerts", apart := false }
def FnHalfCertsSaid : Prop := fnHalfCertsRow.holds Try.pinned (OpenSpec.ofChange fnHalfCertsSpec)

/-- ITS FALSE NEIGHBOUR: 'it returns false'. Refute it at one input. -/
def fnHalfCertsWrong : ChangeSpec := { name := "fnHalfCerts", fn := fun _ => fun
  | [d] => { results := [.lit (.bool false)], args := [d] }
  | _ => none }
def FnHalfCertsWrongFalsely : Prop := fnHalfCertsRow.holds Try.pinned (OpenSpec.ofChange fnHalfCertsWrong)

/-- 'laws.FnExactCertValid': WHATEVER THE INPUT: true; the input reads as it did. -/
def fnExactCertValidSpec : ChangeSpec := { name := "fnExactCertValid", fn := fun _ => fun
  | [d] => { results := [.lit (.bool true)], args := [d] }
  | _ => none }
def fnExactCertValidRow : OpenClaim := { program := "ytolhdacbahgfgaa", sum := "70878abb0c632dccfc21c91b7ddc33c6178599f4851590b5ec3f8ea1dad2da1e", func := "loop.example/blockexecutor/laws.FnExactCertValid", spec := "fnExactCertValid", apart := false }
def FnExactCertValidSaid : Prop := fnExactCertValidRow.holds Try.pinned (OpenSpec.ofChange fnExactCertValidSpec)

/-- ITS FALSE NEIGHBOUR: 'it returns false'. Refute it at one input. -/
def fnExactCertValidWrong : ChangeSpec := { name := "fnExactCertValid", fn := fun _ => fun
  | [d] => { results := [.lit (.bool false)], args := [d] }
  | _ => none }
def FnExactCertValidWrongFalsely : Prop := fnExactCertValidRow.holds Try.pinned (OpenSpec.ofChange fnExactCertValidWrong)

/-- 'laws.FnExactCertCounts': WHATEVER THE INPUT: true; the input reads as it did. -/
def fnExactCertCountsSpec : ChangeSpec := { name := "fnExactCertCounts", fn := fun _ => fun
  | [d] => { results := [.lit (.bool true)], args := [d] }
  | _ => none }
def fnExactCertCountsRow : OpenClaim := { program := "ytolhdacbahgfgaa", sum := "70878abb0c632dccfc21c91b7ddc33c6178599f4851590b5ec3f8ea1dad2da1e", func := "loop.example/blockexecutor/laws.FnExactCertCounts", spec := "fnExactCertCounts", apart := false }
def FnExactCertCountsSaid : Prop := fnExactCertCountsRow.holds Try.pinned (OpenSpec.ofChange fnExactCertCountsSpec)

/-- ITS FALSE NEIGHBOUR: 'it returns false'. Refute it at one input. -/
def fnExactCertCountsWrong : ChangeSpec := { name := "fnExactCertCounts", fn := fun _ => fun
  | [d] => { results := [.lit (.bool false)], args := [d] }
  | _ => none }
def FnExactCertCountsWrongFalsely : Prop := fnExactCertCountsRow.holds Try.pinned (OpenSpec.ofChange fnExactCertCountsWrong)

/-- 'laws.FnExactJoinCerts': WHATEVER THE INPUT: true; the input reads as it did. -/
def fnExactJoinCertsSpec : ChangeSpec := { name := "fnExactJoinCerts", fn := fun _ => fun
  | [d1, d2] => { results := [.lit (.bool true)], args := [d1, d2] }
  | _ => none }
def fnExactJoinCertsRow : OpenClaim := { program := "ytolhdacbahgfgaa", sum := "70878abb0c632dccfc21c91b7ddc33c6178599f4851590b5ec3f8ea1dad2da1e", func := "loop.example/blockexecutor/laws.FnExactJoinCerts", spec := "fnExactJoinCerts", apart := false }
def FnExactJoinCertsSaid : Prop := fnExactJoinCertsRow.holds Try.pinned (OpenSpec.ofChange fnExactJoinCertsSpec)

/-- ITS FALSE NEIGHBOUR: 'it returns false'. Refute it at one input. -/
def fnExactJoinCertsWrong : ChangeSpec := { name := "fnExactJoinCerts", fn := fun _ => fun
  | [d1, d2] => { results := [.lit (.bool false)], args := [d1, d2] }
  | _ => none }
def FnExactJoinCertsWrongFalsely : Prop := fnExactJoinCertsRow.holds Try.pinned (OpenSpec.ofChange fnExactJoinCertsWrong)

/- THE SECOND FORM. 'bulk': how many values and letters a reading holds, each counted each time it is reached (what is shared counts as often as it is met; a slice's spare places count too). A statement '..UptoSaid' is the law's where the arguments, and the package variables that the reading takes, are together of bulk at most 1048576: NARROWER than '..Said'. Prove '..Said' where nothing that the law and all that it calls make is longer than what came in: it says more and counts as full. Else prove '..UptoSaid'. A law counts once. -/
mutual
def uptoBulk {H : Type} : DataW H → Nat
  | .lit (.string bytes) => bytes.length + 1
  | .lit _ => 1
  | .nil => 1
  | .ptr d => uptoBulk d + 1
  | .slice elems spare => uptoBulkAll elems + uptoBulkAll spare + 1
  | .agg parts => uptoBulkAll parts + 1
  | .iface _ d => uptoBulk d + 1
  | .map entries => uptoBulkEntries entries + 1
  | .held _ => 1
def uptoBulkAll {H : Type} : List (DataW H) → Nat
  | [] => 0
  | d :: r => uptoBulk d + uptoBulkAll r
def uptoBulkEntries {H : Type} : List (Lit × DataW H) → Nat
  | [] => 0
  | x :: r => uptoBulkEntry x + uptoBulkEntries r
def uptoBulkEntry {H : Type} : Lit × DataW H → Nat
  | (.string bytes, d) => bytes.length + uptoBulk d + 1
  | (_, d) => uptoBulk d + 1
 end
def uptoSmall : (H : Type) → List (DataW H) → Bool := fun _ ds => decide (uptoBulkAll ds ≤ 1048576)
def OpenSpec.upto (s : _root_.Go.ChangeSpec) : _root_.Go.OpenSpec := { _root_.Go.OpenSpec.ofChange s with cond := some uptoSmall }

/-- 'laws.FnCertValid', WHERE WHAT IT READS IS OF BULK AT MOST 1048576: true; the input reads as it did. -/
def fnCertValidUptoRow : OpenClaim := { program := "ytolhdacbahgfgaa", sum := "70878abb0c632dccfc21c91b7ddc33c6178599f4851590b5ec3f8ea1dad2da1e", func := "loop.example/blockexecutor/laws.FnCertValid", spec := "fnCertValid", apart := false, narrowed := true }
def FnCertValidUptoSaid : Prop := fnCertValidUptoRow.holds Try.pinned (OpenSpec.upto fnCertValidSpec)

/-- 'laws.FnCertCounts', WHERE WHAT IT READS IS OF BULK AT MOST 1048576: true; the input reads as it did. -/
def fnCertCountsUptoRow : OpenClaim := { program := "ytolhdacbahgfgaa", sum := "70878abb0c632dccfc21c91b7ddc33c6178599f4851590b5ec3f8ea1dad2da1e", func := "loop.example/blockexecutor/laws.FnCertCounts", spec := "fnCertCounts", apart := false, narrowed := true }
def FnCertCountsUptoSaid : Prop := fnCertCountsUptoRow.holds Try.pinned (OpenSpec.upto fnCertCountsSpec)

/-- 'laws.FnJoinCerts', WHERE WHAT IT READS IS OF BULK AT MOST 1048576: true; the input reads as it did. -/
def fnJoinCertsUptoRow : OpenClaim := { program := "ytolhdacbahgfgaa", sum := "70878abb0c632dccfc21c91b7ddc33c6178599f4851590b5ec3f8ea1dad2da1e", func := "loop.example/blockexecutor/laws.FnJoinCerts", spec := "fnJoinCerts", apart := false, narrowed := true }
def FnJoinCertsUptoSaid : Prop := fnJoinCertsUptoRow.holds Try.pinned (OpenSpec.upto fnJoinCertsSpec)

/-- 'laws.FnHalfCerts', WHERE WHAT IT READS IS OF BULK AT MOST 1048576: true; the input reads as it did. -/
def fnHalfCertsUptoRow : OpenClaim := { program := "ytolhdacbahgfgaa", sum := "70878abb0c632dccfc21c91b7ddc33c6178599f4851590b5ec3f8ea1dad2da1e", func := "loop.example/blockexecutor/laws.FnHalfCerts", spec := "fnHalfCerts", apart := false, narrowed := true }
def FnHalfCertsUptoSaid : Prop := fnHalfCertsUptoRow.holds Try.pinned (OpenSpec.upto fnHalfCertsSpec)

/-- 'laws.FnExactCertValid', WHERE WHAT IT READS IS OF BULK AT MOST 1048576: true; the input reads as it did. -/
def fnExactCertValidUptoRow : OpenClaim := { program := "ytolhdacbahgfgaa", sum := "70878abb0c632dccfc21c91b7ddc33c6178599f4851590b5ec3f8ea1dad2da1e", func := "loop.example/blockexecutor/laws.FnExactCertValid", spec := "fnExactCertValid", apart := false, narrowed := true }
def FnExactCertValidUptoSaid : Prop := fnExactCertValidUptoRow.holds Try.pinned (OpenSpec.upto fnExactCertValidSpec)

/-- 'laws.FnExactCertCounts', WHERE WHAT IT READS IS OF BULK AT MOST 1048576: true; the input reads as it did. -/
def fnExactCertCountsUptoRow : OpenClaim := { program := "ytolhdacbahgfgaa", sum := "70878abb0c632dccfc21c91b7ddc33c6178599f4851590b5ec3f8ea1dad2da1e", func := "loop.example/blockexecutor/laws.FnExactCertCounts", spec := "fnExactCertCounts", apart := false, narrowed := true }
def FnExactCertCountsUptoSaid : Prop := fnExactCertCountsUptoRow.holds Try.pinned (OpenSpec.upto fnExactCertCountsSpec)

/-- 'laws.FnExactJoinCerts', WHERE WHAT IT READS IS OF BULK AT MOST 1048576: true; the input reads as it did. -/
def fnExactJoinCertsUptoRow : OpenClaim := { program := "ytolhdacbahgfgaa", sum := "70878abb0c632dccfc21c91b7ddc33c6178599f4851590b5ec3f8ea1dad2da1e", func := "loop.example/blockexecutor/laws.FnExactJoinCerts", spec := "fnExactJoinCerts", apart := false, narrowed := true }
def FnExactJoinCertsUptoSaid : Prop := fnExactJoinCertsUptoRow.holds Try.pinned (OpenSpec.upto fnExactJoinCertsSpec)

end Rows
end Go.Proofs.Ytolhdacbahgfgaa
