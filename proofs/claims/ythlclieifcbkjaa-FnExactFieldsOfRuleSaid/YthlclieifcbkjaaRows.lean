/-
  No cell of these rows narrows 'for every input' (looked for: loops, veiled, ifaces, maps, wideKeys, modest, calm, conditions, laid).
  DERIVED. THE GIVEN ROWS OF THIS SEAT. 8 by the template 'for every input the law returns true; each argument reads behind the call as it read before'; 0 by the template 'total and deterministic' (their statements: YthlclieifcbkjaaTotals.lean).
  GIVEN WITH THE SEED: the statements are not yours to turn. If you find one false, say at which input.
  Laid BY PROGRAM, IN A SANDBOX (cutbox-rows.mjs): the forced cells as the released guide's own fill.sh prints them over the translation 23496eef68cbd0da… (all of the seat's roots in one cut). By AI agents, Wed Nov 11 2026. No macro, syntax, notation, axiom, sorry.
-/
import Derived.Test.YthlclieifcbkjaaChecked
import GoSem.Claim
import GoSem.ClaimJoined
import GoSem.ClaimMapViews
import Derived.JoinedTies
import Derived.KernelRfl
namespace Go.Proofs.Ythlclieifcbkjaa
/- THE CELL 'sum', in the pinned program and in every row, IS THE sha256 OF THE DUMP (.gsa) THAT YthlclieifcbkjaaProg.lean LOADS. Nothing in Lean hashes anything: it is a label: what it is worth is what the hold of that sum in a sandbox is worth. -/
noncomputable def Try.pinned : Pinned := { name := "ythlclieifcbkjaa", sum := "23496eef68cbd0da9519e58fc83d1ac3c39d41d71e2afa7afd6d47d3a51276f5", checked := Try.checked }
namespace Rows
def none {H : Type} : Left H := { results := [], args := [] }

/-- 'laws.FnExactIsRule': WHATEVER THE INPUT: true; the input reads as it did. -/
def fnExactIsRuleSpec : ChangeSpec := { name := "fnExactIsRule", fn := fun _ => fun
  | [d] => { results := [.lit (.bool true)], args := [d] }
  | _ => none }
def fnExactIsRuleRow : OpenClaim := { program := "ythlclieifcbkjaa", sum := "23496eef68cbd0da9519e58fc83d1ac3c39d41d71e2afa7afd6d47d3a51276f5", func := "loop.example/g00914/laws.FnExactIsRule", spec := "fnExactIsRule", recurses := true, apart := false }
def FnExactIsRuleSaid : Prop := fnExactIsRuleRow.holds Try.pinned (OpenSpec.ofChange fnExactIsRuleSpec)

/-- ITS FALSE NEIGHBOUR: 'it returns false'. Refute it at one input. -/
def fnExactIsRuleWrong : ChangeSpec := { name := "fnExactIsRule", fn := fun _ => fun
  | [d] => { results := [.lit (.bool false)], args := [d] }
  | _ => none }
def FnExactIsRuleWrongFalsely : Prop := fnExactIsRuleRow.holds Try.pinned (OpenSpec.ofChange fnExactIsRuleWrong)

/-- 'laws.FnExactDepthOfRule': WHATEVER THE INPUT: true; the input reads as it did. -/
def fnExactDepthOfRuleSpec : ChangeSpec := { name := "fnExactDepthOfRule", fn := fun _ => fun
  | [d] => { results := [.lit (.bool true)], args := [d] }
  | _ => none }
def fnExactDepthOfRuleRow : OpenClaim := { program := "ythlclieifcbkjaa", sum := "23496eef68cbd0da9519e58fc83d1ac3c39d41d71e2afa7afd6d47d3a51276f5", func := "loop.example/g00914/laws.FnExactDepthOfRule", spec := "fnExactDepthOfRule", recurses := true, apart := false }
def FnExactDepthOfRuleSaid : Prop := fnExactDepthOfRuleRow.holds Try.pinned (OpenSpec.ofChange fnExactDepthOfRuleSpec)

/-- ITS FALSE NEIGHBOUR: 'it returns false'. Refute it at one input. -/
def fnExactDepthOfRuleWrong : ChangeSpec := { name := "fnExactDepthOfRule", fn := fun _ => fun
  | [d] => { results := [.lit (.bool false)], args := [d] }
  | _ => none }
def FnExactDepthOfRuleWrongFalsely : Prop := fnExactDepthOfRuleRow.holds Try.pinned (OpenSpec.ofChange fnExactDepthOfRuleWrong)

/-- 'laws.FnExactSizeOfPart': WHATEVER THE INPUT: true; the input reads as it did. -/
def fnExactSizeOfPartSpec : ChangeSpec := { name := "fnExactSizeOfPart", fn := fun _ => fun
  | [d1, d2] => { results := [.lit (.bool true)], args := [d1, d2] }
  | _ => none }
def fnExactSizeOfPartRow : OpenClaim := { program := "ythlclieifcbkjaa", sum := "23496eef68cbd0da9519e58fc83d1ac3c39d41d71e2afa7afd6d47d3a51276f5", func := "loop.example/g00914/laws.FnExactSizeOfPart", spec := "fnExactSizeOfPart", recurses := true, apart := false }
def FnExactSizeOfPartSaid : Prop := fnExactSizeOfPartRow.holds Try.pinned (OpenSpec.ofChange fnExactSizeOfPartSpec)

/-- ITS FALSE NEIGHBOUR: 'it returns false'. Refute it at one input. -/
def fnExactSizeOfPartWrong : ChangeSpec := { name := "fnExactSizeOfPart", fn := fun _ => fun
  | [d1, d2] => { results := [.lit (.bool false)], args := [d1, d2] }
  | _ => none }
def FnExactSizeOfPartWrongFalsely : Prop := fnExactSizeOfPartRow.holds Try.pinned (OpenSpec.ofChange fnExactSizeOfPartWrong)

/-- 'laws.FnExactFieldsOfRule': WHATEVER THE INPUT: true; the input reads as it did. -/
def fnExactFieldsOfRuleSpec : ChangeSpec := { name := "fnExactFieldsOfRule", fn := fun _ => fun
  | [d] => { results := [.lit (.bool true)], args := [d] }
  | _ => none }
def fnExactFieldsOfRuleRow : OpenClaim := { program := "ythlclieifcbkjaa", sum := "23496eef68cbd0da9519e58fc83d1ac3c39d41d71e2afa7afd6d47d3a51276f5", func := "loop.example/g00914/laws.FnExactFieldsOfRule", spec := "fnExactFieldsOfRule", recurses := true, apart := false }
def FnExactFieldsOfRuleSaid : Prop := fnExactFieldsOfRuleRow.holds Try.pinned (OpenSpec.ofChange fnExactFieldsOfRuleSpec)

/-- ITS FALSE NEIGHBOUR: 'it returns false'. Refute it at one input. -/
def fnExactFieldsOfRuleWrong : ChangeSpec := { name := "fnExactFieldsOfRule", fn := fun _ => fun
  | [d] => { results := [.lit (.bool false)], args := [d] }
  | _ => none }
def FnExactFieldsOfRuleWrongFalsely : Prop := fnExactFieldsOfRuleRow.holds Try.pinned (OpenSpec.ofChange fnExactFieldsOfRuleWrong)

/-- 'laws.FnExactPutField': WHATEVER THE INPUT: true; the input reads as it did. -/
def fnExactPutFieldSpec : ChangeSpec := { name := "fnExactPutField", fn := fun _ => fun
  | [d1, d2, d3] => { results := [.lit (.bool true)], args := [d1, d2, d3] }
  | _ => none }
def fnExactPutFieldRow : OpenClaim := { program := "ythlclieifcbkjaa", sum := "23496eef68cbd0da9519e58fc83d1ac3c39d41d71e2afa7afd6d47d3a51276f5", func := "loop.example/g00914/laws.FnExactPutField", spec := "fnExactPutField", recurses := true, apart := false }
def FnExactPutFieldSaid : Prop := fnExactPutFieldRow.holds Try.pinned (OpenSpec.ofChange fnExactPutFieldSpec)

/-- ITS FALSE NEIGHBOUR: 'it returns false'. Refute it at one input. -/
def fnExactPutFieldWrong : ChangeSpec := { name := "fnExactPutField", fn := fun _ => fun
  | [d1, d2, d3] => { results := [.lit (.bool false)], args := [d1, d2, d3] }
  | _ => none }
def FnExactPutFieldWrongFalsely : Prop := fnExactPutFieldRow.holds Try.pinned (OpenSpec.ofChange fnExactPutFieldWrong)

/-- 'laws.FnExactEvalRule': WHATEVER THE INPUT: true; the input reads as it did. -/
def fnExactEvalRuleSpec : ChangeSpec := { name := "fnExactEvalRule", fn := fun _ => fun
  | [d1, d2] => { results := [.lit (.bool true)], args := [d1, d2] }
  | _ => none }
def fnExactEvalRuleRow : OpenClaim := { program := "ythlclieifcbkjaa", sum := "23496eef68cbd0da9519e58fc83d1ac3c39d41d71e2afa7afd6d47d3a51276f5", func := "loop.example/g00914/laws.FnExactEvalRule", spec := "fnExactEvalRule", unfollowed := true, recurses := true, apart := false }
def FnExactEvalRuleSaid : Prop := fnExactEvalRuleRow.holds Try.pinned (OpenSpec.ofChange fnExactEvalRuleSpec)

/-- ITS FALSE NEIGHBOUR: 'it returns false'. Refute it at one input. -/
def fnExactEvalRuleWrong : ChangeSpec := { name := "fnExactEvalRule", fn := fun _ => fun
  | [d1, d2] => { results := [.lit (.bool false)], args := [d1, d2] }
  | _ => none }
def FnExactEvalRuleWrongFalsely : Prop := fnExactEvalRuleRow.holds Try.pinned (OpenSpec.ofChange fnExactEvalRuleWrong)

/-- 'laws.FnExactFoldRule': WHATEVER THE INPUT: true; the input reads as it did. -/
def fnExactFoldRuleSpec : ChangeSpec := { name := "fnExactFoldRule", fn := fun _ => fun
  | [d] => { results := [.lit (.bool true)], args := [d] }
  | _ => none }
def fnExactFoldRuleRow : OpenClaim := { program := "ythlclieifcbkjaa", sum := "23496eef68cbd0da9519e58fc83d1ac3c39d41d71e2afa7afd6d47d3a51276f5", func := "loop.example/g00914/laws.FnExactFoldRule", spec := "fnExactFoldRule", unfollowed := true, recurses := true, apart := false }
def FnExactFoldRuleSaid : Prop := fnExactFoldRuleRow.holds Try.pinned (OpenSpec.ofChange fnExactFoldRuleSpec)

/-- ITS FALSE NEIGHBOUR: 'it returns false'. Refute it at one input. -/
def fnExactFoldRuleWrong : ChangeSpec := { name := "fnExactFoldRule", fn := fun _ => fun
  | [d] => { results := [.lit (.bool false)], args := [d] }
  | _ => none }
def FnExactFoldRuleWrongFalsely : Prop := fnExactFoldRuleRow.holds Try.pinned (OpenSpec.ofChange fnExactFoldRuleWrong)

/-- 'laws.FnFolded': WHATEVER THE INPUT: true; the input reads as it did. -/
def fnFoldedSpec : ChangeSpec := { name := "fnFolded", fn := fun _ => fun
  | [d1, d2] => { results := [.lit (.bool true)], args := [d1, d2] }
  | _ => none }
def fnFoldedRow : OpenClaim := { program := "ythlclieifcbkjaa", sum := "23496eef68cbd0da9519e58fc83d1ac3c39d41d71e2afa7afd6d47d3a51276f5", func := "loop.example/g00914/laws.FnFolded", spec := "fnFolded", unfollowed := true, recurses := true, apart := false }
def FnFoldedSaid : Prop := fnFoldedRow.holds Try.pinned (OpenSpec.ofChange fnFoldedSpec)

/-- ITS FALSE NEIGHBOUR: 'it returns false'. Refute it at one input. -/
def fnFoldedWrong : ChangeSpec := { name := "fnFolded", fn := fun _ => fun
  | [d1, d2] => { results := [.lit (.bool false)], args := [d1, d2] }
  | _ => none }
def FnFoldedWrongFalsely : Prop := fnFoldedRow.holds Try.pinned (OpenSpec.ofChange fnFoldedWrong)

/- THE SECOND FORM. 'bulk': how many values and letters a reading holds, each counted each time it is reached (what is shared counts as often as it is met; a slice's spare places count too). A statement '..UptoSaid' is the law's where the arguments, and the package variables that the reading takes, are together of bulk at most 1048576: NARROWER than '..Said'. Prove '..Said' where nothing that the law and all that it calls make is longer than what came in: it says more and counts as full. Else prove '..UptoSaid'. A law counts once. -/
mutual
def uptoBulk {H : Type} : DataW H → Nat
  | .lit (.string bytes) => bytes.length + 1
  | .lit _ => 1
  | .nil => 1
  | .ptr d => uptoBulk d + 1
  | .slice elems spare => uptoBulkAll elems + uptoBulkAll spare + 1
  | .agg parts => uptoBulkAll parts + 1
  | .iface _ d => uptoBulk d + 1
  | .map entries => uptoBulkEntries entries + 1
  | .held _ => 1
def uptoBulkAll {H : Type} : List (DataW H) → Nat
  | [] => 0
  | d :: r => uptoBulk d + uptoBulkAll r
def uptoBulkEntries {H : Type} : List (Lit × DataW H) → Nat
  | [] => 0
  | x :: r => uptoBulkEntry x + uptoBulkEntries r
def uptoBulkEntry {H : Type} : Lit × DataW H → Nat
  | (.string bytes, d) => bytes.length + uptoBulk d + 1
  | (_, d) => uptoBulk d + 1
 end
def uptoSmall : (H : Type) → List (DataW H) → Bool := fun _ ds => decide (uptoBulkAll ds ≤ 1048576)
def OpenSpec.upto (s : _root_.Go.ChangeSpec) : _root_.Go.OpenSpec := { _root_.Go.OpenSpec.ofChange s with cond := some uptoSmall }

/-- 'laws.FnExactIsRule', WHERE WHAT IT READS IS OF BULK AT MOST 1048576: true; the input reads as it did. -/
def fnExactIsRuleUptoRow : OpenClaim := { program := "ythlclieifcbkjaa", sum := "23496eef68cbd0da9519e58fc83d1ac3c39d41d71e2afa7afd6d47d3a51276f5", func := "loop.example/g00914/laws.FnExactIsRule", spec := "fnExactIsRule", recurses := true, apart := false, narrowed := true }
def FnExactIsRuleUptoSaid : Prop := fnExactIsRuleUptoRow.holds Try.pinned (OpenSpec.upto fnExactIsRuleSpec)

/-- 'laws.FnExactDepthOfRule', WHERE WHAT IT READS IS OF BULK AT MOST 1048576: true; the input reads as it did. -/
def fnExactDepthOfRuleUptoRow : OpenClaim := { program := "ythlclieifcbkjaa", sum := "23496eef68cbd0da9519e58fc83d1ac3c39d41d71e2afa7afd6d47d3a51276f5", func := "loop.example/g00914/laws.FnExactDepthOfRule", spec := "fnExactDepthOfRule", recurses := true, apart := false, narrowed := true }
def FnExactDepthOfRuleUptoSaid : Prop := fnExactDepthOfRuleUptoRow.holds Try.pinned (OpenSpec.upto fnExactDepthOfRuleSpec)

/-- 'laws.FnExactSizeOfPart', WHERE WHAT IT READS IS OF BULK AT MOST 1048576: true; the input reads as it did. -/
def fnExactSizeOfPartUptoRow : OpenClaim := { program := "ythlclieifcbkjaa", sum := "23496eef68cbd0da9519e58fc83d1ac3c39d41d71e2afa7afd6d47d3a51276f5", func := "loop.example/g00914/laws.FnExactSizeOfPart", spec := "fnExactSizeOfPart", recurses := true, apart := false, narrowed := true }
def FnExactSizeOfPartUptoSaid : Prop := fnExactSizeOfPartUptoRow.holds Try.pinned (OpenSpec.upto fnExactSizeOfPartSpec)

/-- 'laws.FnExactFieldsOfRule', WHERE WHAT IT READS IS OF BULK AT MOST 1048576: true; the input reads as it did. -/
def fnExactFieldsOfRuleUptoRow : OpenClaim := { program := "ythlclieifcbkjaa", sum := "23496eef68cbd0da9519e58fc83d1ac3c39d41d71e2afa7afd6d47d3a51276f5", func := "loop.example/g00914/laws.FnExactFieldsOfRule", spec := "fnExactFieldsOfRule", recurses := true, apart := false, narrowed := true }
def FnExactFieldsOfRuleUptoSaid : Prop := fnExactFieldsOfRuleUptoRow.holds Try.pinned (OpenSpec.upto fnExactFieldsOfRuleSpec)

/-- 'laws.FnExactPutField', WHERE WHAT IT READS IS OF BULK AT MOST 1048576: true; the input reads as it did. -/
def fnExactPutFieldUptoRow : OpenClaim := { program := "ythlclieifcbkjaa", sum := "23496eef68cbd0da9519e58fc83d1ac3c39d41d71e2afa7afd6d47d3a51276f5", func := "loop.example/g00914/laws.FnExactPutField", spec := "fnExactPutField", recurses := true, apart := false, narrowed := true }
def FnExactPutFieldUptoSaid : Prop := fnExactPutFieldUptoRow.holds Try.pinned (OpenSpec.upto fnExactPutFieldSpec)

/-- 'laws.FnExactEvalRule', WHERE WHAT IT READS IS OF BULK AT MOST 1048576: true; the input reads as it did. -/
def fnExactEvalRuleUptoRow : OpenClaim := { program := "ythlclieifcbkjaa", sum := "23496eef68cbd0da9519e58fc83d1ac3c39d41d71e2afa7afd6d47d3a51276f5", func := "loop.example/g00914/laws.FnExactEvalRule", spec := "fnExactEvalRule", unfollowed := true, recurses := true, apart := false, narrowed := true }
def FnExactEvalRuleUptoSaid : Prop := fnExactEvalRuleUptoRow.holds Try.pinned (OpenSpec.upto fnExactEvalRuleSpec)

/-- 'laws.FnExactFoldRule', WHERE WHAT IT READS IS OF BULK AT MOST 1048576: true; the input reads as it did. -/
def fnExactFoldRuleUptoRow : OpenClaim := { program := "ythlclieifcbkjaa", sum := "23496eef68cbd0da9519e58fc83d1ac3c39d41d71e2afa7afd6d47d3a51276f5", func := "loop.example/g00914/laws.FnExactFoldRule", spec := "fnExactFoldRule", unfollowed := true, recurses := true, apart := false, narrowed := true }
def FnExactFoldRuleUptoSaid : Prop := fnExactFoldRuleUptoRow.holds Try.pinned (OpenSpec.upto fnExactFoldRuleSpec)

/-- 'laws.FnFolded', WHERE WHAT IT READS IS OF BULK AT MOST 1048576: true; the input reads as it did. -/
def fnFoldedUptoRow : OpenClaim := { program := "ythlclieifcbkjaa", sum := "23496eef68cbd0da9519e58fc83d1ac3c39d41d71e2afa7afd6d47d3a51276f5", func := "loop.example/g00914/laws.FnFolded", spec := "fnFolded", unfollowed := true, recurses := true, apart := false, narrowed := true }
def FnFoldedUptoSaid : Prop := fnFoldedUptoRow.holds Try.pinned (OpenSpec.upto fnFoldedSpec)

end Rows
end Go.Proofs.Ythlclieifcbkjaa
