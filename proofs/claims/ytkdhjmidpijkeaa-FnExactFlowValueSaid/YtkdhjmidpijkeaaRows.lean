/-
  No cell of these rows narrows 'for every input' (looked for: loops, veiled, ifaces, maps, wideKeys, modest, calm, conditions, laid).
  DERIVED. THE GIVEN ROWS OF THIS SEAT. 12 by the template 'for every input the law returns true; each argument reads behind the call as it read before'; 0 by the template 'total and deterministic' (their statements: YtkdhjmidpijkeaaTotals.lean).
  GIVEN WITH THE SEED: the statements are not yours to turn. If you find one false, say at which input.
  Laid BY PROGRAM, IN A SANDBOX (cutbox-rows.mjs): the forced cells as the released guide's own fill.sh prints them over the translation bc2c13e11338cc15… (all of the seat's roots in one cut). By AI agents, Wed Nov 11 2026. No macro, syntax, notation, axiom, sorry.
-/
import Derived.Test.YtkdhjmidpijkeaaChecked
import GoSem.Claim
import GoSem.ClaimJoined
import GoSem.ClaimMapViews
import Derived.JoinedTies
import Derived.KernelRfl
namespace Go.Proofs.Ytkdhjmidpijkeaa
/- THE CELL 'sum', in the pinned program and in every row, IS THE sha256 OF THE DUMP (.gsa) THAT YtkdhjmidpijkeaaProg.lean LOADS. Nothing in Lean hashes anything: it is a label: what it is worth is what the hold of that sum in a sandbox is worth. -/
noncomputable def Try.pinned : Pinned := { name := "ytkdhjmidpijkeaa", sum := "bc2c13e11338cc155f3e3b2885f6cb0c4402feb4453feec0296b685ecd66cc9b", checked := Try.checked }
namespace Rows
def none {H : Type} : Left H := { results := [], args := [] }

/-- 'laws.FnFlowValues': WHATEVER THE INPUT: true; the input reads as it did. -/
def fnFlowValuesSpec : ChangeSpec := { name := "fnFlowValues", fn := fun _ => fun
  | [d1, d2] => { results := [.lit (.bool true)], args := [d1, d2] }
  | _ => none }
def fnFlowValuesRow : OpenClaim := { program := "ytkdhjmidpijkeaa", sum := "bc2c13e11338cc155f3e3b2885f6cb0c4402feb4453feec0296b685ecd66cc9b", func := "loop.example/g00914/laws.FnFlowValues", spec := "fnFlowValues", unfollowed := true, recurses := true, apart := false }
def FnFlowValuesSaid : Prop := fnFlowValuesRow.holds Try.pinned (OpenSpec.ofChange fnFlowValuesSpec)

/-- ITS FALSE NEIGHBOUR: 'it returns false'. Refute it at one input. -/
def fnFlowValuesWrong : ChangeSpec := { name := "fnFlowValues", fn := fun _ => fun
  | [d1, d2] => { results := [.lit (.bool false)], args := [d1, d2] }
  | _ => none }
def FnFlowValuesWrongFalsely : Prop := fnFlowValuesRow.holds Try.pinned (OpenSpec.ofChange fnFlowValuesWrong)

/-- 'laws.FnEdges': WHATEVER THE INPUT: true; the input reads as it did. -/
def fnEdgesSpec : ChangeSpec := { name := "fnEdges", fn := fun _ => fun
  | [d1, d2] => { results := [.lit (.bool true)], args := [d1, d2] }
  | _ => none }
def fnEdgesRow : OpenClaim := { program := "ytkdhjmidpijkeaa", sum := "bc2c13e11338cc155f3e3b2885f6cb0c4402feb4453feec0296b685ecd66cc9b", func := "loop.example/g00914/laws.FnEdges", spec := "fnEdges", unfollowed := true, recurses := true, apart := false }
def FnEdgesSaid : Prop := fnEdgesRow.holds Try.pinned (OpenSpec.ofChange fnEdgesSpec)

/-- ITS FALSE NEIGHBOUR: 'it returns false'. Refute it at one input. -/
def fnEdgesWrong : ChangeSpec := { name := "fnEdges", fn := fun _ => fun
  | [d1, d2] => { results := [.lit (.bool false)], args := [d1, d2] }
  | _ => none }
def FnEdgesWrongFalsely : Prop := fnEdgesRow.holds Try.pinned (OpenSpec.ofChange fnEdgesWrong)

/-- 'laws.FnExactIsNetwork': WHATEVER THE INPUT: true; the input reads as it did. -/
def fnExactIsNetworkSpec : ChangeSpec := { name := "fnExactIsNetwork", fn := fun _ => fun
  | [d1, d2] => { results := [.lit (.bool true)], args := [d1, d2] }
  | _ => none }
def fnExactIsNetworkRow : OpenClaim := { program := "ytkdhjmidpijkeaa", sum := "bc2c13e11338cc155f3e3b2885f6cb0c4402feb4453feec0296b685ecd66cc9b", func := "loop.example/g00914/laws.FnExactIsNetwork", spec := "fnExactIsNetwork", apart := false }
def FnExactIsNetworkSaid : Prop := fnExactIsNetworkRow.holds Try.pinned (OpenSpec.ofChange fnExactIsNetworkSpec)

/-- ITS FALSE NEIGHBOUR: 'it returns false'. Refute it at one input. -/
def fnExactIsNetworkWrong : ChangeSpec := { name := "fnExactIsNetwork", fn := fun _ => fun
  | [d1, d2] => { results := [.lit (.bool false)], args := [d1, d2] }
  | _ => none }
def FnExactIsNetworkWrongFalsely : Prop := fnExactIsNetworkRow.holds Try.pinned (OpenSpec.ofChange fnExactIsNetworkWrong)

/-- 'laws.FnExactGreatestFlow': WHATEVER THE INPUT: true; the input reads as it did. -/
def fnExactGreatestFlowSpec : ChangeSpec := { name := "fnExactGreatestFlow", fn := fun _ => fun
  | [d1, d2] => { results := [.lit (.bool true)], args := [d1, d2] }
  | _ => none }
def fnExactGreatestFlowRow : OpenClaim := { program := "ytkdhjmidpijkeaa", sum := "bc2c13e11338cc155f3e3b2885f6cb0c4402feb4453feec0296b685ecd66cc9b", func := "loop.example/g00914/laws.FnExactGreatestFlow", spec := "fnExactGreatestFlow", recurses := true, apart := false }
def FnExactGreatestFlowSaid : Prop := fnExactGreatestFlowRow.holds Try.pinned (OpenSpec.ofChange fnExactGreatestFlowSpec)

/-- ITS FALSE NEIGHBOUR: 'it returns false'. Refute it at one input. -/
def fnExactGreatestFlowWrong : ChangeSpec := { name := "fnExactGreatestFlow", fn := fun _ => fun
  | [d1, d2] => { results := [.lit (.bool false)], args := [d1, d2] }
  | _ => none }
def FnExactGreatestFlowWrongFalsely : Prop := fnExactGreatestFlowRow.holds Try.pinned (OpenSpec.ofChange fnExactGreatestFlowWrong)

/-- 'laws.FnExactIsFlow': WHATEVER THE INPUT: true; the input reads as it did. -/
def fnExactIsFlowSpec : ChangeSpec := { name := "fnExactIsFlow", fn := fun _ => fun
  | [d1, d2, d3] => { results := [.lit (.bool true)], args := [d1, d2, d3] }
  | _ => none }
def fnExactIsFlowRow : OpenClaim := { program := "ytkdhjmidpijkeaa", sum := "bc2c13e11338cc155f3e3b2885f6cb0c4402feb4453feec0296b685ecd66cc9b", func := "loop.example/g00914/laws.FnExactIsFlow", spec := "fnExactIsFlow", apart := false }
def FnExactIsFlowSaid : Prop := fnExactIsFlowRow.holds Try.pinned (OpenSpec.ofChange fnExactIsFlowSpec)

/-- ITS FALSE NEIGHBOUR: 'it returns false'. Refute it at one input. -/
def fnExactIsFlowWrong : ChangeSpec := { name := "fnExactIsFlow", fn := fun _ => fun
  | [d1, d2, d3] => { results := [.lit (.bool false)], args := [d1, d2, d3] }
  | _ => none }
def FnExactIsFlowWrongFalsely : Prop := fnExactIsFlowRow.holds Try.pinned (OpenSpec.ofChange fnExactIsFlowWrong)

/-- 'laws.FnExactFlowValue': WHATEVER THE INPUT: true; the input reads as it did. -/
def fnExactFlowValueSpec : ChangeSpec := { name := "fnExactFlowValue", fn := fun _ => fun
  | [d1, d2, d3] => { results := [.lit (.bool true)], args := [d1, d2, d3] }
  | _ => none }
def fnExactFlowValueRow : OpenClaim := { program := "ytkdhjmidpijkeaa", sum := "bc2c13e11338cc155f3e3b2885f6cb0c4402feb4453feec0296b685ecd66cc9b", func := "loop.example/g00914/laws.FnExactFlowValue", spec := "fnExactFlowValue", apart := false }
def FnExactFlowValueSaid : Prop := fnExactFlowValueRow.holds Try.pinned (OpenSpec.ofChange fnExactFlowValueSpec)

/-- ITS FALSE NEIGHBOUR: 'it returns false'. Refute it at one input. -/
def fnExactFlowValueWrong : ChangeSpec := { name := "fnExactFlowValue", fn := fun _ => fun
  | [d1, d2, d3] => { results := [.lit (.bool false)], args := [d1, d2, d3] }
  | _ => none }
def FnExactFlowValueWrongFalsely : Prop := fnExactFlowValueRow.holds Try.pinned (OpenSpec.ofChange fnExactFlowValueWrong)

/-- 'laws.FnExactCutValue': WHATEVER THE INPUT: true; the input reads as it did. -/
def fnExactCutValueSpec : ChangeSpec := { name := "fnExactCutValue", fn := fun _ => fun
  | [d1, d2, d3] => { results := [.lit (.bool true)], args := [d1, d2, d3] }
  | _ => none }
def fnExactCutValueRow : OpenClaim := { program := "ytkdhjmidpijkeaa", sum := "bc2c13e11338cc155f3e3b2885f6cb0c4402feb4453feec0296b685ecd66cc9b", func := "loop.example/g00914/laws.FnExactCutValue", spec := "fnExactCutValue", apart := false }
def FnExactCutValueSaid : Prop := fnExactCutValueRow.holds Try.pinned (OpenSpec.ofChange fnExactCutValueSpec)

/-- ITS FALSE NEIGHBOUR: 'it returns false'. Refute it at one input. -/
def fnExactCutValueWrong : ChangeSpec := { name := "fnExactCutValue", fn := fun _ => fun
  | [d1, d2, d3] => { results := [.lit (.bool false)], args := [d1, d2, d3] }
  | _ => none }
def FnExactCutValueWrongFalsely : Prop := fnExactCutValueRow.holds Try.pinned (OpenSpec.ofChange fnExactCutValueWrong)

/-- 'laws.FnExactLeastCut': WHATEVER THE INPUT: true; the input reads as it did. -/
def fnExactLeastCutSpec : ChangeSpec := { name := "fnExactLeastCut", fn := fun _ => fun
  | [d1, d2] => { results := [.lit (.bool true)], args := [d1, d2] }
  | _ => none }
def fnExactLeastCutRow : OpenClaim := { program := "ytkdhjmidpijkeaa", sum := "bc2c13e11338cc155f3e3b2885f6cb0c4402feb4453feec0296b685ecd66cc9b", func := "loop.example/g00914/laws.FnExactLeastCut", spec := "fnExactLeastCut", unfollowed := true, recurses := true, apart := false }
def FnExactLeastCutSaid : Prop := fnExactLeastCutRow.holds Try.pinned (OpenSpec.ofChange fnExactLeastCutSpec)

/-- ITS FALSE NEIGHBOUR: 'it returns false'. Refute it at one input. -/
def fnExactLeastCutWrong : ChangeSpec := { name := "fnExactLeastCut", fn := fun _ => fun
  | [d1, d2] => { results := [.lit (.bool false)], args := [d1, d2] }
  | _ => none }
def FnExactLeastCutWrongFalsely : Prop := fnExactLeastCutRow.holds Try.pinned (OpenSpec.ofChange fnExactLeastCutWrong)

/-- 'laws.FnExactGreatestCut': WHATEVER THE INPUT: true; the input reads as it did. -/
def fnExactGreatestCutSpec : ChangeSpec := { name := "fnExactGreatestCut", fn := fun _ => fun
  | [d1, d2] => { results := [.lit (.bool true)], args := [d1, d2] }
  | _ => none }
def fnExactGreatestCutRow : OpenClaim := { program := "ytkdhjmidpijkeaa", sum := "bc2c13e11338cc155f3e3b2885f6cb0c4402feb4453feec0296b685ecd66cc9b", func := "loop.example/g00914/laws.FnExactGreatestCut", spec := "fnExactGreatestCut", unfollowed := true, recurses := true, apart := false }
def FnExactGreatestCutSaid : Prop := fnExactGreatestCutRow.holds Try.pinned (OpenSpec.ofChange fnExactGreatestCutSpec)

/-- ITS FALSE NEIGHBOUR: 'it returns false'. Refute it at one input. -/
def fnExactGreatestCutWrong : ChangeSpec := { name := "fnExactGreatestCut", fn := fun _ => fun
  | [d1, d2] => { results := [.lit (.bool false)], args := [d1, d2] }
  | _ => none }
def FnExactGreatestCutWrongFalsely : Prop := fnExactGreatestCutRow.holds Try.pinned (OpenSpec.ofChange fnExactGreatestCutWrong)

/-- 'laws.FnExactMendsFlow': WHATEVER THE INPUT: true; the input reads as it did. -/
def fnExactMendsFlowSpec : ChangeSpec := { name := "fnExactMendsFlow", fn := fun _ => fun
  | [d1, d2, d3] => { results := [.lit (.bool true)], args := [d1, d2, d3] }
  | _ => none }
def fnExactMendsFlowRow : OpenClaim := { program := "ytkdhjmidpijkeaa", sum := "bc2c13e11338cc155f3e3b2885f6cb0c4402feb4453feec0296b685ecd66cc9b", func := "loop.example/g00914/laws.FnExactMendsFlow", spec := "fnExactMendsFlow", recurses := true, apart := false }
def FnExactMendsFlowSaid : Prop := fnExactMendsFlowRow.holds Try.pinned (OpenSpec.ofChange fnExactMendsFlowSpec)

/-- ITS FALSE NEIGHBOUR: 'it returns false'. Refute it at one input. -/
def fnExactMendsFlowWrong : ChangeSpec := { name := "fnExactMendsFlow", fn := fun _ => fun
  | [d1, d2, d3] => { results := [.lit (.bool false)], args := [d1, d2, d3] }
  | _ => none }
def FnExactMendsFlowWrongFalsely : Prop := fnExactMendsFlowRow.holds Try.pinned (OpenSpec.ofChange fnExactMendsFlowWrong)

/-- 'laws.FnExactBlocksFlow': WHATEVER THE INPUT: true; the input reads as it did. -/
def fnExactBlocksFlowSpec : ChangeSpec := { name := "fnExactBlocksFlow", fn := fun _ => fun
  | [d1, d2, d3] => { results := [.lit (.bool true)], args := [d1, d2, d3] }
  | _ => none }
def fnExactBlocksFlowRow : OpenClaim := { program := "ytkdhjmidpijkeaa", sum := "bc2c13e11338cc155f3e3b2885f6cb0c4402feb4453feec0296b685ecd66cc9b", func := "loop.example/g00914/laws.FnExactBlocksFlow", spec := "fnExactBlocksFlow", recurses := true, apart := false }
def FnExactBlocksFlowSaid : Prop := fnExactBlocksFlowRow.holds Try.pinned (OpenSpec.ofChange fnExactBlocksFlowSpec)

/-- ITS FALSE NEIGHBOUR: 'it returns false'. Refute it at one input. -/
def fnExactBlocksFlowWrong : ChangeSpec := { name := "fnExactBlocksFlow", fn := fun _ => fun
  | [d1, d2, d3] => { results := [.lit (.bool false)], args := [d1, d2, d3] }
  | _ => none }
def FnExactBlocksFlowWrongFalsely : Prop := fnExactBlocksFlowRow.holds Try.pinned (OpenSpec.ofChange fnExactBlocksFlowWrong)

/-- 'laws.FnExactTurnNetwork': WHATEVER THE INPUT: true; the input reads as it did. -/
def fnExactTurnNetworkSpec : ChangeSpec := { name := "fnExactTurnNetwork", fn := fun _ => fun
  | [d1, d2] => { results := [.lit (.bool true)], args := [d1, d2] }
  | _ => none }
def fnExactTurnNetworkRow : OpenClaim := { program := "ytkdhjmidpijkeaa", sum := "bc2c13e11338cc155f3e3b2885f6cb0c4402feb4453feec0296b685ecd66cc9b", func := "loop.example/g00914/laws.FnExactTurnNetwork", spec := "fnExactTurnNetwork", apart := false }
def FnExactTurnNetworkSaid : Prop := fnExactTurnNetworkRow.holds Try.pinned (OpenSpec.ofChange fnExactTurnNetworkSpec)

/-- ITS FALSE NEIGHBOUR: 'it returns false'. Refute it at one input. -/
def fnExactTurnNetworkWrong : ChangeSpec := { name := "fnExactTurnNetwork", fn := fun _ => fun
  | [d1, d2] => { results := [.lit (.bool false)], args := [d1, d2] }
  | _ => none }
def FnExactTurnNetworkWrongFalsely : Prop := fnExactTurnNetworkRow.holds Try.pinned (OpenSpec.ofChange fnExactTurnNetworkWrong)

/- THE SECOND FORM. 'bulk': how many values and letters a reading holds, each counted each time it is reached (what is shared counts as often as it is met; a slice's spare places count too). A statement '..UptoSaid' is the law's where the arguments, and the package variables that the reading takes, are together of bulk at most 1048576: NARROWER than '..Said'. Prove '..Said' where nothing that the law and all that it calls make is longer than what came in: it says more and counts as full. Else prove '..UptoSaid'. A law counts once. -/
mutual
def uptoBulk {H : Type} : DataW H → Nat
  | .lit (.string bytes) => bytes.length + 1
  | .lit _ => 1
  | .nil => 1
  | .ptr d => uptoBulk d + 1
  | .slice elems spare => uptoBulkAll elems + uptoBulkAll spare + 1
  | .agg parts => uptoBulkAll parts + 1
  | .iface _ d => uptoBulk d + 1
  | .map entries => uptoBulkEntries entries + 1
  | .held _ => 1
def uptoBulkAll {H : Type} : List (DataW H) → Nat
  | [] => 0
  | d :: r => uptoBulk d + uptoBulkAll r
def uptoBulkEntries {H : Type} : List (Lit × DataW H) → Nat
  | [] => 0
  | x :: r => uptoBulkEntry x + uptoBulkEntries r
def uptoBulkEntry {H : Type} : Lit × DataW H → Nat
  | (.string bytes, d) => bytes.length + uptoBulk d + 1
  | (_, d) => uptoBulk d + 1
 end
def uptoSmall : (H : Type) → List (DataW H) → Bool := fun _ ds => decide (uptoBulkAll ds ≤ 1048576)
def OpenSpec.upto (s : _root_.Go.ChangeSpec) : _root_.Go.OpenSpec := { _root_.Go.OpenSpec.ofChange s with cond := some uptoSmall }

/-- 'laws.FnFlowValues', WHERE WHAT IT READS IS OF BULK AT MOST 1048576: true; the input reads as it did. -/
def fnFlowValuesUptoRow : OpenClaim := { program := "ytkdhjmidpijkeaa", sum := "bc2c13e11338cc155f3e3b2885f6cb0c4402feb4453feec0296b685ecd66cc9b", func := "loop.example/g00914/laws.FnFlowValues", spec := "fnFlowValues", unfollowed := true, recurses := true, apart := false, narrowed := true }
def FnFlowValuesUptoSaid : Prop := fnFlowValuesUptoRow.holds Try.pinned (OpenSpec.upto fnFlowValuesSpec)

/-- 'laws.FnEdges', WHERE WHAT IT READS IS OF BULK AT MOST 1048576: true; the input reads as it did. -/
def fnEdgesUptoRow : OpenClaim := { program := "ytkdhjmidpijkeaa", sum := "bc2c13e11338cc155f3e3b2885f6cb0c4402feb4453feec0296b685ecd66cc9b", func := "loop.example/g00914/laws.FnEdges", spec := "fnEdges", unfollowed := true, recurses := true, apart := false, narrowed := true }
def FnEdgesUptoSaid : Prop := fnEdgesUptoRow.holds Try.pinned (OpenSpec.upto fnEdgesSpec)

/-- 'laws.FnExactIsNetwork', WHERE WHAT IT READS IS OF BULK AT MOST 1048576: true; the input reads as it did. -/
def fnExactIsNetworkUptoRow : OpenClaim := { program := "ytkdhjmidpijkeaa", sum := "bc2c13e11338cc155f3e3b2885f6cb0c4402feb4453feec0296b685ecd66cc9b", func := "loop.example/g00914/laws.FnExactIsNetwork", spec := "fnExactIsNetwork", apart := false, narrowed := true }
def FnExactIsNetworkUptoSaid : Prop := fnExactIsNetworkUptoRow.holds Try.pinned (OpenSpec.upto fnExactIsNetworkSpec)

/-- 'laws.FnExactGreatestFlow', WHERE WHAT IT READS IS OF BULK AT MOST 1048576: true; the input reads as it did. -/
def fnExactGreatestFlowUptoRow : OpenClaim := { program := "ytkdhjmidpijkeaa", sum := "bc2c13e11338cc155f3e3b2885f6cb0c4402feb4453feec0296b685ecd66cc9b", func := "loop.example/g00914/laws.FnExactGreatestFlow", spec := "fnExactGreatestFlow", recurses := true, apart := false, narrowed := true }
def FnExactGreatestFlowUptoSaid : Prop := fnExactGreatestFlowUptoRow.holds Try.pinned (OpenSpec.upto fnExactGreatestFlowSpec)

/-- 'laws.FnExactIsFlow', WHERE WHAT IT READS IS OF BULK AT MOST 1048576: true; the input reads as it did. -/
def fnExactIsFlowUptoRow : OpenClaim := { program := "ytkdhjmidpijkeaa", sum := "bc2c13e11338cc155f3e3b2885f6cb0c4402feb4453feec0296b685ecd66cc9b", func := "loop.example/g00914/laws.FnExactIsFlow", spec := "fnExactIsFlow", apart := false, narrowed := true }
def FnExactIsFlowUptoSaid : Prop := fnExactIsFlowUptoRow.holds Try.pinned (OpenSpec.upto fnExactIsFlowSpec)

/-- 'laws.FnExactFlowValue', WHERE WHAT IT READS IS OF BULK AT MOST 1048576: true; the input reads as it did. -/
def fnExactFlowValueUptoRow : OpenClaim := { program := "ytkdhjmidpijkeaa", sum := "bc2c13e11338cc155f3e3b2885f6cb0c4402feb4453feec0296b685ecd66cc9b", func := "loop.example/g00914/laws.FnExactFlowValue", spec := "fnExactFlowValue", apart := false, narrowed := true }
def FnExactFlowValueUptoSaid : Prop := fnExactFlowValueUptoRow.holds Try.pinned (OpenSpec.upto fnExactFlowValueSpec)

/-- 'laws.FnExactCutValue', WHERE WHAT IT READS IS OF BULK AT MOST 1048576: true; the input reads as it did. -/
def fnExactCutValueUptoRow : OpenClaim := { program := "ytkdhjmidpijkeaa", sum := "bc2c13e11338cc155f3e3b2885f6cb0c4402feb4453feec0296b685ecd66cc9b", func := "loop.example/g00914/laws.FnExactCutValue", spec := "fnExactCutValue", apart := false, narrowed := true }
def FnExactCutValueUptoSaid : Prop := fnExactCutValueUptoRow.holds Try.pinned (OpenSpec.upto fnExactCutValueSpec)

/-- 'laws.FnExactLeastCut', WHERE WHAT IT READS IS OF BULK AT MOST 1048576: true; the input reads as it did. -/
def fnExactLeastCutUptoRow : OpenClaim := { program := "ytkdhjmidpijkeaa", sum := "bc2c13e11338cc155f3e3b2885f6cb0c4402feb4453feec0296b685ecd66cc9b", func := "loop.example/g00914/laws.FnExactLeastCut", spec := "fnExactLeastCut", unfollowed := true, recurses := true, apart := false, narrowed := true }
def FnExactLeastCutUptoSaid : Prop := fnExactLeastCutUptoRow.holds Try.pinned (OpenSpec.upto fnExactLeastCutSpec)

/-- 'laws.FnExactGreatestCut', WHERE WHAT IT READS IS OF BULK AT MOST 1048576: true; the input reads as it did. -/
def fnExactGreatestCutUptoRow : OpenClaim := { program := "ytkdhjmidpijkeaa", sum := "bc2c13e11338cc155f3e3b2885f6cb0c4402feb4453feec0296b685ecd66cc9b", func := "loop.example/g00914/laws.FnExactGreatestCut", spec := "fnExactGreatestCut", unfollowed := true, recurses := true, apart := false, narrowed := true }
def FnExactGreatestCutUptoSaid : Prop := fnExactGreatestCutUptoRow.holds Try.pinned (OpenSpec.upto fnExactGreatestCutSpec)

/-- 'laws.FnExactMendsFlow', WHERE WHAT IT READS IS OF BULK AT MOST 1048576: true; the input reads as it did. -/
def fnExactMendsFlowUptoRow : OpenClaim := { program := "ytkdhjmidpijkeaa", sum := "bc2c13e11338cc155f3e3b2885f6cb0c4402feb4453feec0296b685ecd66cc9b", func := "loop.example/g00914/laws.FnExactMendsFlow", spec := "fnExactMendsFlow", recurses := true, apart := false, narrowed := true }
def FnExactMendsFlowUptoSaid : Prop := fnExactMendsFlowUptoRow.holds Try.pinned (OpenSpec.upto fnExactMendsFlowSpec)

/-- 'laws.FnExactBlocksFlow', WHERE WHAT IT READS IS OF BULK AT MOST 1048576: true; the input reads as it did. -/
def fnExactBlocksFlowUptoRow : OpenClaim := { program := "ytkdhjmidpijkeaa", sum := "bc2c13e11338cc155f3e3b2885f6cb0c4402feb4453feec0296b685ecd66cc9b", func := "loop.example/g00914/laws.FnExactBlocksFlow", spec := "fnExactBlocksFlow", recurses := true, apart := false, narrowed := true }
def FnExactBlocksFlowUptoSaid : Prop := fnExactBlocksFlowUptoRow.holds Try.pinned (OpenSpec.upto fnExactBlocksFlowSpec)

/-- 'laws.FnExactTurnNetwork', WHERE WHAT IT READS IS OF BULK AT MOST 1048576: true; the input reads as it did. -/
def fnExactTurnNetworkUptoRow : OpenClaim := { program := "ytkdhjmidpijkeaa", sum := "bc2c13e11338cc155f3e3b2885f6cb0c4402feb4453feec0296b685ecd66cc9b", func := "loop.example/g00914/laws.FnExactTurnNetwork", spec := "fnExactTurnNetwork", apart := false, narrowed := true }
def FnExactTurnNetworkUptoSaid : Prop := fnExactTurnNetworkUptoRow.holds Try.pinned (OpenSpec.upto fnExactTurnNetworkSpec)

end Rows
end Go.Proofs.Ytkdhjmidpijkeaa
