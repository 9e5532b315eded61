/-
  No cell of these rows narrows 'for every input' (looked for: loops, veiled, ifaces, maps, wideKeys, modest, calm, conditions, laid).
  DERIVED. THE GIVEN ROWS OF THIS SEAT. 8 by the template 'for every input the law returns true; each argument reads behind the call as it read before'; 0 by the template 'total and deterministic' (their statements: YtdodmcmkelegoaaTotals.lean).
  GIVEN WITH THE SEED: the statements are not yours to turn. If you find one false, say at which input.
  Laid BY PROGRAM, IN A SANDBOX (cutbox-rows.mjs): the forced cells as the released guide's own fill.sh prints them over the translation 60c07b33f8fdd458… (all of the seat's roots in one cut). By AI agents, Wed Nov 11 2026. No macro, syntax, notation, axiom, sorry.
-/
import Derived.Test.YtdodmcmkelegoaaChecked
import GoSem.Claim
import GoSem.ClaimJoined
import GoSem.ClaimMapViews
import Derived.JoinedTies
import Derived.KernelRfl
namespace Go.Proofs.Ytdodmcmkelegoaa
/- THE CELL 'sum', in the pinned program and in every row, IS THE sha256 OF THE DUMP (.gsa) THAT YtdodmcmkelegoaaProg.lean LOADS. Nothing in Lean hashes anything: it is a label: what it is worth is what the hold of that sum in a sandbox is worth. -/
noncomputable def Try.pinned : Pinned := { name := "ytdodmcmkelegoaa", sum := "60c07b33f8fdd458c0128557b7ded44c873373b05d71ff20856be9b727a105c6", checked := Try.checked }
namespace Rows
def none {H : Type} : Left H := { results := [], args := [] }

/-- 'laws.FnExactRuleValue': WHATEVER THE INPUT: true; the input reads as it did. -/
def fnExactRuleValueSpec : ChangeSpec := { name := "fnExactRuleValue", fn := fun _ => fun
  | [d1, d2, d3] => { results := [.lit (.bool true)], args := [d1, d2, d3] }
  | _ => none }
def fnExactRuleValueRow : OpenClaim := { program := "ytdodmcmkelegoaa", sum := "60c07b33f8fdd458c0128557b7ded44c873373b05d71ff20856be9b727a105c6", func := "loop.example/g00914/laws.FnExactRuleValue", spec := "fnExactRuleValue", unfollowed := true, recurses := true, apart := false }
def FnExactRuleValueSaid : Prop := fnExactRuleValueRow.holds Try.pinned (OpenSpec.ofChange fnExactRuleValueSpec)

/-- ITS FALSE NEIGHBOUR: 'it returns false'. Refute it at one input. -/
def fnExactRuleValueWrong : ChangeSpec := { name := "fnExactRuleValue", fn := fun _ => fun
  | [d1, d2, d3] => { results := [.lit (.bool false)], args := [d1, d2, d3] }
  | _ => none }
def FnExactRuleValueWrongFalsely : Prop := fnExactRuleValueRow.holds Try.pinned (OpenSpec.ofChange fnExactRuleValueWrong)

/-- 'laws.FnExactRuleValues': WHATEVER THE INPUT: true; the input reads as it did. -/
def fnExactRuleValuesSpec : ChangeSpec := { name := "fnExactRuleValues", fn := fun _ => fun
  | [d1, d2] => { results := [.lit (.bool true)], args := [d1, d2] }
  | _ => none }
def fnExactRuleValuesRow : OpenClaim := { program := "ytdodmcmkelegoaa", sum := "60c07b33f8fdd458c0128557b7ded44c873373b05d71ff20856be9b727a105c6", func := "loop.example/g00914/laws.FnExactRuleValues", spec := "fnExactRuleValues", unfollowed := true, recurses := true, apart := false }
def FnExactRuleValuesSaid : Prop := fnExactRuleValuesRow.holds Try.pinned (OpenSpec.ofChange fnExactRuleValuesSpec)

/-- ITS FALSE NEIGHBOUR: 'it returns false'. Refute it at one input. -/
def fnExactRuleValuesWrong : ChangeSpec := { name := "fnExactRuleValues", fn := fun _ => fun
  | [d1, d2] => { results := [.lit (.bool false)], args := [d1, d2] }
  | _ => none }
def FnExactRuleValuesWrongFalsely : Prop := fnExactRuleValuesRow.holds Try.pinned (OpenSpec.ofChange fnExactRuleValuesWrong)

/-- 'laws.FnExactPriceValue': WHATEVER THE INPUT: true; the input reads as it did. -/
def fnExactPriceValueSpec : ChangeSpec := { name := "fnExactPriceValue", fn := fun _ => fun
  | [d1, d2, d3] => { results := [.lit (.bool true)], args := [d1, d2, d3] }
  | _ => none }
def fnExactPriceValueRow : OpenClaim := { program := "ytdodmcmkelegoaa", sum := "60c07b33f8fdd458c0128557b7ded44c873373b05d71ff20856be9b727a105c6", func := "loop.example/g00914/laws.FnExactPriceValue", spec := "fnExactPriceValue", apart := false }
def FnExactPriceValueSaid : Prop := fnExactPriceValueRow.holds Try.pinned (OpenSpec.ofChange fnExactPriceValueSpec)

/-- ITS FALSE NEIGHBOUR: 'it returns false'. Refute it at one input. -/
def fnExactPriceValueWrong : ChangeSpec := { name := "fnExactPriceValue", fn := fun _ => fun
  | [d1, d2, d3] => { results := [.lit (.bool false)], args := [d1, d2, d3] }
  | _ => none }
def FnExactPriceValueWrongFalsely : Prop := fnExactPriceValueRow.holds Try.pinned (OpenSpec.ofChange fnExactPriceValueWrong)

/-- 'laws.FnExactPriceValues': WHATEVER THE INPUT: true; the input reads as it did. -/
def fnExactPriceValuesSpec : ChangeSpec := { name := "fnExactPriceValues", fn := fun _ => fun
  | [d1, d2] => { results := [.lit (.bool true)], args := [d1, d2] }
  | _ => none }
def fnExactPriceValuesRow : OpenClaim := { program := "ytdodmcmkelegoaa", sum := "60c07b33f8fdd458c0128557b7ded44c873373b05d71ff20856be9b727a105c6", func := "loop.example/g00914/laws.FnExactPriceValues", spec := "fnExactPriceValues", apart := false }
def FnExactPriceValuesSaid : Prop := fnExactPriceValuesRow.holds Try.pinned (OpenSpec.ofChange fnExactPriceValuesSpec)

/-- ITS FALSE NEIGHBOUR: 'it returns false'. Refute it at one input. -/
def fnExactPriceValuesWrong : ChangeSpec := { name := "fnExactPriceValues", fn := fun _ => fun
  | [d1, d2] => { results := [.lit (.bool false)], args := [d1, d2] }
  | _ => none }
def FnExactPriceValuesWrongFalsely : Prop := fnExactPriceValuesRow.holds Try.pinned (OpenSpec.ofChange fnExactPriceValuesWrong)

/-- 'laws.FnOre': WHATEVER THE INPUT: true; the input reads as it did. -/
def fnOreSpec : ChangeSpec := { name := "fnOre", fn := fun _ => fun
  | [d1, d2] => { results := [.lit (.bool true)], args := [d1, d2] }
  | _ => none }
def fnOreRow : OpenClaim := { program := "ytdodmcmkelegoaa", sum := "60c07b33f8fdd458c0128557b7ded44c873373b05d71ff20856be9b727a105c6", func := "loop.example/g00914/laws.FnOre", spec := "fnOre", unfollowed := true, recurses := true, apart := false }
def FnOreSaid : Prop := fnOreRow.holds Try.pinned (OpenSpec.ofChange fnOreSpec)

/-- ITS FALSE NEIGHBOUR: 'it returns false'. Refute it at one input. -/
def fnOreWrong : ChangeSpec := { name := "fnOre", fn := fun _ => fun
  | [d1, d2] => { results := [.lit (.bool false)], args := [d1, d2] }
  | _ => none }
def FnOreWrongFalsely : Prop := fnOreRow.holds Try.pinned (OpenSpec.ofChange fnOreWrong)

/-- 'laws.FnExactEvalRule': WHATEVER THE INPUT: true; the input reads as it did. -/
def fnExactEvalRuleSpec : ChangeSpec := { name := "fnExactEvalRule", fn := fun _ => fun
  | [d1, d2] => { results := [.lit (.bool true)], args := [d1, d2] }
  | _ => none }
def fnExactEvalRuleRow : OpenClaim := { program := "ytdodmcmkelegoaa", sum := "60c07b33f8fdd458c0128557b7ded44c873373b05d71ff20856be9b727a105c6", func := "loop.example/g00914/laws.FnExactEvalRule", spec := "fnExactEvalRule", unfollowed := true, recurses := true, apart := false }
def FnExactEvalRuleSaid : Prop := fnExactEvalRuleRow.holds Try.pinned (OpenSpec.ofChange fnExactEvalRuleSpec)

/-- ITS FALSE NEIGHBOUR: 'it returns false'. Refute it at one input. -/
def fnExactEvalRuleWrong : ChangeSpec := { name := "fnExactEvalRule", fn := fun _ => fun
  | [d1, d2] => { results := [.lit (.bool false)], args := [d1, d2] }
  | _ => none }
def FnExactEvalRuleWrongFalsely : Prop := fnExactEvalRuleRow.holds Try.pinned (OpenSpec.ofChange fnExactEvalRuleWrong)

/-- 'laws.FnExactFoldRule': WHATEVER THE INPUT: true; the input reads as it did. -/
def fnExactFoldRuleSpec : ChangeSpec := { name := "fnExactFoldRule", fn := fun _ => fun
  | [d] => { results := [.lit (.bool true)], args := [d] }
  | _ => none }
def fnExactFoldRuleRow : OpenClaim := { program := "ytdodmcmkelegoaa", sum := "60c07b33f8fdd458c0128557b7ded44c873373b05d71ff20856be9b727a105c6", func := "loop.example/g00914/laws.FnExactFoldRule", spec := "fnExactFoldRule", unfollowed := true, recurses := true, apart := false }
def FnExactFoldRuleSaid : Prop := fnExactFoldRuleRow.holds Try.pinned (OpenSpec.ofChange fnExactFoldRuleSpec)

/-- ITS FALSE NEIGHBOUR: 'it returns false'. Refute it at one input. -/
def fnExactFoldRuleWrong : ChangeSpec := { name := "fnExactFoldRule", fn := fun _ => fun
  | [d] => { results := [.lit (.bool false)], args := [d] }
  | _ => none }
def FnExactFoldRuleWrongFalsely : Prop := fnExactFoldRuleRow.holds Try.pinned (OpenSpec.ofChange fnExactFoldRuleWrong)

/-- 'laws.FnFolded': WHATEVER THE INPUT: true; the input reads as it did. -/
def fnFoldedSpec : ChangeSpec := { name := "fnFolded", fn := fun _ => fun
  | [d1, d2] => { results := [.lit (.bool true)], args := [d1, d2] }
  | _ => none }
def fnFoldedRow : OpenClaim := { program := "ytdodmcmkelegoaa", sum := "60c07b33f8fdd458c0128557b7ded44c873373b05d71ff20856be9b727a105c6", func := "loop.example/g00914/laws.FnFolded", spec := "fnFolded", unfollowed := true, recurses := true, apart := false }
def FnFoldedSaid : Prop := fnFoldedRow.holds Try.pinned (OpenSpec.ofChange fnFoldedSpec)

/-- ITS FALSE NEIGHBOUR: 'it returns false'. Refute it at one input. -/
def fnFoldedWrong : ChangeSpec := { name := "fnFolded", fn := fun _ => fun
  | [d1, d2] => { results := [.lit (.bool false)], args := [d1, d2] }
  | _ => none }
def FnFoldedWrongFalsely : Prop := fnFoldedRow.holds Try.pinned (OpenSpec.ofChange fnFoldedWrong)

/- THE SECOND FORM. 'bulk': how many values and letters a reading holds, each counted each time it is reached (what is shared counts as often as it is met; a slice's spare places count too). A statement '..UptoSaid' is the law's where the arguments, and the package variables that the reading takes, are together of bulk at most 1048576: NARROWER than '..Said'. Prove '..Said' where nothing that the law and all that it calls make is longer than what came in: it says more and counts as full. Else prove '..UptoSaid'. A law counts once. -/
mutual
def uptoBulk {H : Type} : DataW H → Nat
  | .lit (.string bytes) => bytes.length + 1
  | .lit _ => 1
  | .nil => 1
  | .ptr d => uptoBulk d + 1
  | .slice elems spare => uptoBulkAll elems + uptoBulkAll spare + 1
  | .agg parts => uptoBulkAll parts + 1
  | .iface _ d => uptoBulk d + 1
  | .map entries => uptoBulkEntries entries + 1
  | .held _ => 1
def uptoBulkAll {H : Type} : List (DataW H) → Nat
  | [] => 0
  | d :: r => uptoBulk d + uptoBulkAll r
def uptoBulkEntries {H : Type} : List (Lit × DataW H) → Nat
  | [] => 0
  | x :: r => uptoBulkEntry x + uptoBulkEntries r
def uptoBulkEntry {H : Type} : Lit × DataW H → Nat
  | (.string bytes, d) => bytes.length + uptoBulk d + 1
  | (_, d) => uptoBulk d + 1
 end
def uptoSmall : (H : Type) → List (DataW H) → Bool := fun _ ds => decide (uptoBulkAll ds ≤ 1048576)
def OpenSpec.upto (s : _root_.Go.ChangeSpec) : _root_.Go.OpenSpec := { _root_.Go.OpenSpec.ofChange s with cond := some uptoSmall }

/-- 'laws.FnExactRuleValue', WHERE WHAT IT READS IS OF BULK AT MOST 1048576: true; the input reads as it did. -/
def fnExactRuleValueUptoRow : OpenClaim := { program := "ytdodmcmkelegoaa", sum := "60c07b33f8fdd458c0128557b7ded44c873373b05d71ff20856be9b727a105c6", func := "loop.example/g00914/laws.FnExactRuleValue", spec := "fnExactRuleValue", unfollowed := true, recurses := true, apart := false, narrowed := true }
def FnExactRuleValueUptoSaid : Prop := fnExactRuleValueUptoRow.holds Try.pinned (OpenSpec.upto fnExactRuleValueSpec)

/-- 'laws.FnExactRuleValues', WHERE WHAT IT READS IS OF BULK AT MOST 1048576: true; the input reads as it did. -/
def fnExactRuleValuesUptoRow : OpenClaim := { program := "ytdodmcmkelegoaa", sum := "60c07b33f8fdd458c0128557b7ded44c873373b05d71ff20856be9b727a105c6", func := "loop.example/g00914/laws.FnExactRuleValues", spec := "fnExactRuleValues", unfollowed := true, recurses := true, apart := false, narrowed := true }
def FnExactRuleValuesUptoSaid : Prop := fnExactRuleValuesUptoRow.holds Try.pinned (OpenSpec.upto fnExactRuleValuesSpec)

/-- 'laws.FnExactPriceValue', WHERE WHAT IT READS IS OF BULK AT MOST 1048576: true; the input reads as it did. -/
def fnExactPriceValueUptoRow : OpenClaim := { program := "ytdodmcmkelegoaa", sum := "60c07b33f8fdd458c0128557b7ded44c873373b05d71ff20856be9b727a105c6", func := "loop.example/g00914/laws.FnExactPriceValue", spec := "fnExactPriceValue", apart := false, narrowed := true }
def FnExactPriceValueUptoSaid : Prop := fnExactPriceValueUptoRow.holds Try.pinned (OpenSpec.upto fnExactPriceValueSpec)

/-- 'laws.FnExactPriceValues', WHERE WHAT IT READS IS OF BULK AT MOST 1048576: true; the input reads as it did. -/
def fnExactPriceValuesUptoRow : OpenClaim := { program := "ytdodmcmkelegoaa", sum := "60c07b33f8fdd458c0128557b7ded44c873373b05d71ff20856be9b727a105c6", func := "loop.example/g00914/laws.FnExactPriceValues", spec := "fnExactPriceValues", apart := false, narrowed := true }
def FnExactPriceValuesUptoSaid : Prop := fnExactPriceValuesUptoRow.holds Try.pinned (OpenSpec.upto fnExactPriceValuesSpec)

/-- 'laws.FnOre', WHERE WHAT IT READS IS OF BULK AT MOST 1048576: true; the input reads as it did. -/
def fnOreUptoRow : OpenClaim := { program := "ytdodmcmkelegoaa", sum := "60c07b33f8fdd458c0128557b7ded44c873373b05d71ff20856be9b727a105c6", func := "loop.example/g00914/laws.FnOre", spec := "fnOre", unfollowed := true, recurses := true, apart := false, narrowed := true }
def FnOreUptoSaid : Prop := fnOreUptoRow.holds Try.pinned (OpenSpec.upto fnOreSpec)

/-- 'laws.FnExactEvalRule', WHERE WHAT IT READS IS OF BULK AT MOST 1048576: true; the input reads as it did. -/
def fnExactEvalRuleUptoRow : OpenClaim := { program := "ytdodmcmkelegoaa", sum := "60c07b33f8fdd458c0128557b7ded44c873373b05d71ff20856be9b727a105c6", func := "loop.example/g00914/laws.FnExactEvalRule", spec := "fnExactEvalRule", unfollowed := true, recurses := true, apart := false, narrowed := true }
def FnExactEvalRuleUptoSaid : Prop := fnExactEvalRuleUptoRow.holds Try.pinned (OpenSpec.upto fnExactEvalRuleSpec)

/-- 'laws.FnExactFoldRule', WHERE WHAT IT READS IS OF BULK AT MOST 1048576: true; the input reads as it did. -/
def fnExactFoldRuleUptoRow : OpenClaim := { program := "ytdodmcmkelegoaa", sum := "60c07b33f8fdd458c0128557b7ded44c873373b05d71ff20856be9b727a105c6", func := "loop.example/g00914/laws.FnExactFoldRule", spec := "fnExactFoldRule", unfollowed := true, recurses := true, apart := false, narrowed := true }
def FnExactFoldRuleUptoSaid : Prop := fnExactFoldRuleUptoRow.holds Try.pinned (OpenSpec.upto fnExactFoldRuleSpec)

/-- 'laws.FnFolded', WHERE WHAT IT READS IS OF BULK AT MOST 1048576: true; the input reads as it did. -/
def fnFoldedUptoRow : OpenClaim := { program := "ytdodmcmkelegoaa", sum := "60c07b33f8fdd458c0128557b7ded44c873373b05d71ff20856be9b727a105c6", func := "loop.example/g00914/laws.FnFolded", spec := "fnFolded", unfollowed := true, recurses := true, apart := false, narrowed := true }
def FnFoldedUptoSaid : Prop := fnFoldedUptoRow.holds Try.pinned (OpenSpec.upto fnFoldedSpec)

end Rows
end Go.Proofs.Ytdodmcmkelegoaa
