/-
  No cell of these rows narrows 'for every input' (looked for: loops, veiled, ifaces, maps, wideKeys, modest, calm, conditions, laid).
  DERIVED. THE GIVEN ROWS OF THIS SEAT. 16 by the template 'for every input the law returns true; each argument reads behind the call as it read before'; 0 by the template 'total and deterministic' (their statements: YtgboedfnkkckkaaTotals.lean).
  GIVEN WITH THE SEED: the statements are not yours to turn. If you find one false, say at which input.
  Laid BY PROGRAM, IN A SANDBOX (cutbox-rows.mjs): the forced cells as the released guide's own fill.sh prints them over the translation bb5e062c285ba24b… (all of the seat's roots in one cut). By AI agents, Wed Nov 11 2026. No macro, syntax, notation, axiom, sorry.
-/
import Derived.Test.YtgboedfnkkckkaaChecked
import GoSem.Claim
import GoSem.ClaimJoined
import GoSem.ClaimMapViews
import Derived.JoinedTies
import Derived.KernelRfl
namespace Go.Proofs.Ytgboedfnkkckkaa
/- THE CELL 'sum', in the pinned program and in every row, IS THE sha256 OF THE DUMP (.gsa) THAT YtgboedfnkkckkaaProg.lean LOADS. Nothing in Lean hashes anything: it is a label: what it is worth is what the hold of that sum in a sandbox is worth. -/
noncomputable def Try.pinned : Pinned := { name := "ytgboedfnkkckkaa", sum := "bb5e062c285ba24bb5b1e90edece478f004dfa9809a8a500f8dab5f580998dec", checked := Try.checked }
namespace Rows
def none {H : Type} : Left H := { results := [], args := [] }

/-- 'laws.FnExactGreatestFlow': WHATEVER THE INPUT: true; the input reads as it did. -/
def fnExactGreatestFlowSpec : ChangeSpec := { name := "fnExactGreatestFlow", fn := fun _ => fun
  | [d1, d2] => { results := [.lit (.bool true)], args := [d1, d2] }
  | _ => none }
def fnExactGreatestFlowRow : OpenClaim := { program := "ytgboedfnkkckkaa", sum := "bb5e062c285ba24bb5b1e90edece478f004dfa9809a8a500f8dab5f580998dec", func := "loop.example/g00914/laws.FnExactGreatestFlow", spec := "fnExactGreatestFlow", recurses := true, apart := false }
def FnExactGreatestFlowSaid : Prop := fnExactGreatestFlowRow.holds Try.pinned (OpenSpec.ofChange fnExactGreatestFlowSpec)

/-- ITS FALSE NEIGHBOUR: 'it returns false'. Refute it at one input. -/
def fnExactGreatestFlowWrong : ChangeSpec := { name := "fnExactGreatestFlow", fn := fun _ => fun
  | [d1, d2] => { results := [.lit (.bool false)], args := [d1, d2] }
  | _ => none }
def FnExactGreatestFlowWrongFalsely : Prop := fnExactGreatestFlowRow.holds Try.pinned (OpenSpec.ofChange fnExactGreatestFlowWrong)

/-- 'laws.FnExactLeastCut': WHATEVER THE INPUT: true; the input reads as it did. -/
def fnExactLeastCutSpec : ChangeSpec := { name := "fnExactLeastCut", fn := fun _ => fun
  | [d1, d2] => { results := [.lit (.bool true)], args := [d1, d2] }
  | _ => none }
def fnExactLeastCutRow : OpenClaim := { program := "ytgboedfnkkckkaa", sum := "bb5e062c285ba24bb5b1e90edece478f004dfa9809a8a500f8dab5f580998dec", func := "loop.example/g00914/laws.FnExactLeastCut", spec := "fnExactLeastCut", unfollowed := true, recurses := true, apart := false }
def FnExactLeastCutSaid : Prop := fnExactLeastCutRow.holds Try.pinned (OpenSpec.ofChange fnExactLeastCutSpec)

/-- ITS FALSE NEIGHBOUR: 'it returns false'. Refute it at one input. -/
def fnExactLeastCutWrong : ChangeSpec := { name := "fnExactLeastCut", fn := fun _ => fun
  | [d1, d2] => { results := [.lit (.bool false)], args := [d1, d2] }
  | _ => none }
def FnExactLeastCutWrongFalsely : Prop := fnExactLeastCutRow.holds Try.pinned (OpenSpec.ofChange fnExactLeastCutWrong)

/-- 'laws.FnExactGreatestCut': WHATEVER THE INPUT: true; the input reads as it did. -/
def fnExactGreatestCutSpec : ChangeSpec := { name := "fnExactGreatestCut", fn := fun _ => fun
  | [d1, d2] => { results := [.lit (.bool true)], args := [d1, d2] }
  | _ => none }
def fnExactGreatestCutRow : OpenClaim := { program := "ytgboedfnkkckkaa", sum := "bb5e062c285ba24bb5b1e90edece478f004dfa9809a8a500f8dab5f580998dec", func := "loop.example/g00914/laws.FnExactGreatestCut", spec := "fnExactGreatestCut", unfollowed := true, recurses := true, apart := false }
def FnExactGreatestCutSaid : Prop := fnExactGreatestCutRow.holds Try.pinned (OpenSpec.ofChange fnExactGreatestCutSpec)

/-- ITS FALSE NEIGHBOUR: 'it returns false'. Refute it at one input. -/
def fnExactGreatestCutWrong : ChangeSpec := { name := "fnExactGreatestCut", fn := fun _ => fun
  | [d1, d2] => { results := [.lit (.bool false)], args := [d1, d2] }
  | _ => none }
def FnExactGreatestCutWrongFalsely : Prop := fnExactGreatestCutRow.holds Try.pinned (OpenSpec.ofChange fnExactGreatestCutWrong)

/-- 'laws.FnExactMendsFlow': WHATEVER THE INPUT: true; the input reads as it did. -/
def fnExactMendsFlowSpec : ChangeSpec := { name := "fnExactMendsFlow", fn := fun _ => fun
  | [d1, d2, d3] => { results := [.lit (.bool true)], args := [d1, d2, d3] }
  | _ => none }
def fnExactMendsFlowRow : OpenClaim := { program := "ytgboedfnkkckkaa", sum := "bb5e062c285ba24bb5b1e90edece478f004dfa9809a8a500f8dab5f580998dec", func := "loop.example/g00914/laws.FnExactMendsFlow", spec := "fnExactMendsFlow", recurses := true, apart := false }
def FnExactMendsFlowSaid : Prop := fnExactMendsFlowRow.holds Try.pinned (OpenSpec.ofChange fnExactMendsFlowSpec)

/-- ITS FALSE NEIGHBOUR: 'it returns false'. Refute it at one input. -/
def fnExactMendsFlowWrong : ChangeSpec := { name := "fnExactMendsFlow", fn := fun _ => fun
  | [d1, d2, d3] => { results := [.lit (.bool false)], args := [d1, d2, d3] }
  | _ => none }
def FnExactMendsFlowWrongFalsely : Prop := fnExactMendsFlowRow.holds Try.pinned (OpenSpec.ofChange fnExactMendsFlowWrong)

/-- 'laws.FnExactBlocksFlow': WHATEVER THE INPUT: true; the input reads as it did. -/
def fnExactBlocksFlowSpec : ChangeSpec := { name := "fnExactBlocksFlow", fn := fun _ => fun
  | [d1, d2, d3] => { results := [.lit (.bool true)], args := [d1, d2, d3] }
  | _ => none }
def fnExactBlocksFlowRow : OpenClaim := { program := "ytgboedfnkkckkaa", sum := "bb5e062c285ba24bb5b1e90edece478f004dfa9809a8a500f8dab5f580998dec", func := "loop.example/g00914/laws.FnExactBlocksFlow", spec := "fnExactBlocksFlow", recurses := true, apart := false }
def FnExactBlocksFlowSaid : Prop := fnExactBlocksFlowRow.holds Try.pinned (OpenSpec.ofChange fnExactBlocksFlowSpec)

/-- ITS FALSE NEIGHBOUR: 'it returns false'. Refute it at one input. -/
def fnExactBlocksFlowWrong : ChangeSpec := { name := "fnExactBlocksFlow", fn := fun _ => fun
  | [d1, d2, d3] => { results := [.lit (.bool false)], args := [d1, d2, d3] }
  | _ => none }
def FnExactBlocksFlowWrongFalsely : Prop := fnExactBlocksFlowRow.holds Try.pinned (OpenSpec.ofChange fnExactBlocksFlowWrong)

/-- 'laws.FnExactTurnNetwork': WHATEVER THE INPUT: true; the input reads as it did. -/
def fnExactTurnNetworkSpec : ChangeSpec := { name := "fnExactTurnNetwork", fn := fun _ => fun
  | [d1, d2] => { results := [.lit (.bool true)], args := [d1, d2] }
  | _ => none }
def fnExactTurnNetworkRow : OpenClaim := { program := "ytgboedfnkkckkaa", sum := "bb5e062c285ba24bb5b1e90edece478f004dfa9809a8a500f8dab5f580998dec", func := "loop.example/g00914/laws.FnExactTurnNetwork", spec := "fnExactTurnNetwork", apart := false }
def FnExactTurnNetworkSaid : Prop := fnExactTurnNetworkRow.holds Try.pinned (OpenSpec.ofChange fnExactTurnNetworkSpec)

/-- ITS FALSE NEIGHBOUR: 'it returns false'. Refute it at one input. -/
def fnExactTurnNetworkWrong : ChangeSpec := { name := "fnExactTurnNetwork", fn := fun _ => fun
  | [d1, d2] => { results := [.lit (.bool false)], args := [d1, d2] }
  | _ => none }
def FnExactTurnNetworkWrongFalsely : Prop := fnExactTurnNetworkRow.holds Try.pinned (OpenSpec.ofChange fnExactTurnNetworkWrong)

/-- 'laws.FnExactBestPit': WHATEVER THE INPUT: true; the input reads as it did. -/
def fnExactBestPitSpec : ChangeSpec := { name := "fnExactBestPit", fn := fun _ => fun
  | [d1, d2] => { results := [.lit (.bool true)], args := [d1, d2] }
  | _ => none }
def fnExactBestPitRow : OpenClaim := { program := "ytgboedfnkkckkaa", sum := "bb5e062c285ba24bb5b1e90edece478f004dfa9809a8a500f8dab5f580998dec", func := "loop.example/g00914/laws.FnExactBestPit", spec := "fnExactBestPit", unfollowed := true, recurses := true, apart := false }
def FnExactBestPitSaid : Prop := fnExactBestPitRow.holds Try.pinned (OpenSpec.ofChange fnExactBestPitSpec)

/-- ITS FALSE NEIGHBOUR: 'it returns false'. Refute it at one input. -/
def fnExactBestPitWrong : ChangeSpec := { name := "fnExactBestPit", fn := fun _ => fun
  | [d1, d2] => { results := [.lit (.bool false)], args := [d1, d2] }
  | _ => none }
def FnExactBestPitWrongFalsely : Prop := fnExactBestPitRow.holds Try.pinned (OpenSpec.ofChange fnExactBestPitWrong)

/-- 'laws.FnExactLargestPit': WHATEVER THE INPUT: true; the input reads as it did. -/
def fnExactLargestPitSpec : ChangeSpec := { name := "fnExactLargestPit", fn := fun _ => fun
  | [d1, d2] => { results := [.lit (.bool true)], args := [d1, d2] }
  | _ => none }
def fnExactLargestPitRow : OpenClaim := { program := "ytgboedfnkkckkaa", sum := "bb5e062c285ba24bb5b1e90edece478f004dfa9809a8a500f8dab5f580998dec", func := "loop.example/g00914/laws.FnExactLargestPit", spec := "fnExactLargestPit", unfollowed := true, recurses := true, apart := false }
def FnExactLargestPitSaid : Prop := fnExactLargestPitRow.holds Try.pinned (OpenSpec.ofChange fnExactLargestPitSpec)

/-- ITS FALSE NEIGHBOUR: 'it returns false'. Refute it at one input. -/
def fnExactLargestPitWrong : ChangeSpec := { name := "fnExactLargestPit", fn := fun _ => fun
  | [d1, d2] => { results := [.lit (.bool false)], args := [d1, d2] }
  | _ => none }
def FnExactLargestPitWrongFalsely : Prop := fnExactLargestPitRow.holds Try.pinned (OpenSpec.ofChange fnExactLargestPitWrong)

/-- 'laws.FnExactBestValue': WHATEVER THE INPUT: true; the input reads as it did. -/
def fnExactBestValueSpec : ChangeSpec := { name := "fnExactBestValue", fn := fun _ => fun
  | [d1, d2] => { results := [.lit (.bool true)], args := [d1, d2] }
  | _ => none }
def fnExactBestValueRow : OpenClaim := { program := "ytgboedfnkkckkaa", sum := "bb5e062c285ba24bb5b1e90edece478f004dfa9809a8a500f8dab5f580998dec", func := "loop.example/g00914/laws.FnExactBestValue", spec := "fnExactBestValue", unfollowed := true, recurses := true, apart := false }
def FnExactBestValueSaid : Prop := fnExactBestValueRow.holds Try.pinned (OpenSpec.ofChange fnExactBestValueSpec)

/-- ITS FALSE NEIGHBOUR: 'it returns false'. Refute it at one input. -/
def fnExactBestValueWrong : ChangeSpec := { name := "fnExactBestValue", fn := fun _ => fun
  | [d1, d2] => { results := [.lit (.bool false)], args := [d1, d2] }
  | _ => none }
def FnExactBestValueWrongFalsely : Prop := fnExactBestValueRow.holds Try.pinned (OpenSpec.ofChange fnExactBestValueWrong)

/-- 'laws.FnExactPitNetwork': WHATEVER THE INPUT: true; the input reads as it did. -/
def fnExactPitNetworkSpec : ChangeSpec := { name := "fnExactPitNetwork", fn := fun _ => fun
  | [d1, d2] => { results := [.lit (.bool true)], args := [d1, d2] }
  | _ => none }
def fnExactPitNetworkRow : OpenClaim := { program := "ytgboedfnkkckkaa", sum := "bb5e062c285ba24bb5b1e90edece478f004dfa9809a8a500f8dab5f580998dec", func := "loop.example/g00914/laws.FnExactPitNetwork", spec := "fnExactPitNetwork", unfollowed := true, recurses := true, apart := false }
def FnExactPitNetworkSaid : Prop := fnExactPitNetworkRow.holds Try.pinned (OpenSpec.ofChange fnExactPitNetworkSpec)

/-- ITS FALSE NEIGHBOUR: 'it returns false'. Refute it at one input. -/
def fnExactPitNetworkWrong : ChangeSpec := { name := "fnExactPitNetwork", fn := fun _ => fun
  | [d1, d2] => { results := [.lit (.bool false)], args := [d1, d2] }
  | _ => none }
def FnExactPitNetworkWrongFalsely : Prop := fnExactPitNetworkRow.holds Try.pinned (OpenSpec.ofChange fnExactPitNetworkWrong)

/-- 'laws.FnExactCutOfPit': WHATEVER THE INPUT: true; the input reads as it did. -/
def fnExactCutOfPitSpec : ChangeSpec := { name := "fnExactCutOfPit", fn := fun _ => fun
  | [d1, d2, d3] => { results := [.lit (.bool true)], args := [d1, d2, d3] }
  | _ => none }
def fnExactCutOfPitRow : OpenClaim := { program := "ytgboedfnkkckkaa", sum := "bb5e062c285ba24bb5b1e90edece478f004dfa9809a8a500f8dab5f580998dec", func := "loop.example/g00914/laws.FnExactCutOfPit", spec := "fnExactCutOfPit", unfollowed := true, recurses := true, apart := false }
def FnExactCutOfPitSaid : Prop := fnExactCutOfPitRow.holds Try.pinned (OpenSpec.ofChange fnExactCutOfPitSpec)

/-- ITS FALSE NEIGHBOUR: 'it returns false'. Refute it at one input. -/
def fnExactCutOfPitWrong : ChangeSpec := { name := "fnExactCutOfPit", fn := fun _ => fun
  | [d1, d2, d3] => { results := [.lit (.bool false)], args := [d1, d2, d3] }
  | _ => none }
def FnExactCutOfPitWrongFalsely : Prop := fnExactCutOfPitRow.holds Try.pinned (OpenSpec.ofChange fnExactCutOfPitWrong)

/-- 'laws.FnExactIsBestPit': WHATEVER THE INPUT: true; the input reads as it did. -/
def fnExactIsBestPitSpec : ChangeSpec := { name := "fnExactIsBestPit", fn := fun _ => fun
  | [d1, d2, d3] => { results := [.lit (.bool true)], args := [d1, d2, d3] }
  | _ => none }
def fnExactIsBestPitRow : OpenClaim := { program := "ytgboedfnkkckkaa", sum := "bb5e062c285ba24bb5b1e90edece478f004dfa9809a8a500f8dab5f580998dec", func := "loop.example/g00914/laws.FnExactIsBestPit", spec := "fnExactIsBestPit", unfollowed := true, recurses := true, apart := false }
def FnExactIsBestPitSaid : Prop := fnExactIsBestPitRow.holds Try.pinned (OpenSpec.ofChange fnExactIsBestPitSpec)

/-- ITS FALSE NEIGHBOUR: 'it returns false'. Refute it at one input. -/
def fnExactIsBestPitWrong : ChangeSpec := { name := "fnExactIsBestPit", fn := fun _ => fun
  | [d1, d2, d3] => { results := [.lit (.bool false)], args := [d1, d2, d3] }
  | _ => none }
def FnExactIsBestPitWrongFalsely : Prop := fnExactIsBestPitRow.holds Try.pinned (OpenSpec.ofChange fnExactIsBestPitWrong)

/-- 'laws.FnExactFreeBlocks': WHATEVER THE INPUT: true; the input reads as it did. -/
def fnExactFreeBlocksSpec : ChangeSpec := { name := "fnExactFreeBlocks", fn := fun _ => fun
  | [d1, d2] => { results := [.lit (.bool true)], args := [d1, d2] }
  | _ => none }
def fnExactFreeBlocksRow : OpenClaim := { program := "ytgboedfnkkckkaa", sum := "bb5e062c285ba24bb5b1e90edece478f004dfa9809a8a500f8dab5f580998dec", func := "loop.example/g00914/laws.FnExactFreeBlocks", spec := "fnExactFreeBlocks", unfollowed := true, recurses := true, apart := false }
def FnExactFreeBlocksSaid : Prop := fnExactFreeBlocksRow.holds Try.pinned (OpenSpec.ofChange fnExactFreeBlocksSpec)

/-- ITS FALSE NEIGHBOUR: 'it returns false'. Refute it at one input. -/
def fnExactFreeBlocksWrong : ChangeSpec := { name := "fnExactFreeBlocks", fn := fun _ => fun
  | [d1, d2] => { results := [.lit (.bool false)], args := [d1, d2] }
  | _ => none }
def FnExactFreeBlocksWrongFalsely : Prop := fnExactFreeBlocksRow.holds Try.pinned (OpenSpec.ofChange fnExactFreeBlocksWrong)

/-- 'laws.FnExactForcedPit': WHATEVER THE INPUT: true; the input reads as it did. -/
def fnExactForcedPitSpec : ChangeSpec := { name := "fnExactForcedPit", fn := fun _ => fun
  | [d1, d2, d3] => { results := [.lit (.bool true)], args := [d1, d2, d3] }
  | _ => none }
def fnExactForcedPitRow : OpenClaim := { program := "ytgboedfnkkckkaa", sum := "bb5e062c285ba24bb5b1e90edece478f004dfa9809a8a500f8dab5f580998dec", func := "loop.example/g00914/laws.FnExactForcedPit", spec := "fnExactForcedPit", unfollowed := true, recurses := true, apart := false }
def FnExactForcedPitSaid : Prop := fnExactForcedPitRow.holds Try.pinned (OpenSpec.ofChange fnExactForcedPitSpec)

/-- ITS FALSE NEIGHBOUR: 'it returns false'. Refute it at one input. -/
def fnExactForcedPitWrong : ChangeSpec := { name := "fnExactForcedPit", fn := fun _ => fun
  | [d1, d2, d3] => { results := [.lit (.bool false)], args := [d1, d2, d3] }
  | _ => none }
def FnExactForcedPitWrongFalsely : Prop := fnExactForcedPitRow.holds Try.pinned (OpenSpec.ofChange fnExactForcedPitWrong)

/-- 'laws.FnExactPitInside': WHATEVER THE INPUT: true; the input reads as it did. -/
def fnExactPitInsideSpec : ChangeSpec := { name := "fnExactPitInside", fn := fun _ => fun
  | [d1, d2, d3] => { results := [.lit (.bool true)], args := [d1, d2, d3] }
  | _ => none }
def fnExactPitInsideRow : OpenClaim := { program := "ytgboedfnkkckkaa", sum := "bb5e062c285ba24bb5b1e90edece478f004dfa9809a8a500f8dab5f580998dec", func := "loop.example/g00914/laws.FnExactPitInside", spec := "fnExactPitInside", unfollowed := true, recurses := true, apart := false }
def FnExactPitInsideSaid : Prop := fnExactPitInsideRow.holds Try.pinned (OpenSpec.ofChange fnExactPitInsideSpec)

/-- ITS FALSE NEIGHBOUR: 'it returns false'. Refute it at one input. -/
def fnExactPitInsideWrong : ChangeSpec := { name := "fnExactPitInside", fn := fun _ => fun
  | [d1, d2, d3] => { results := [.lit (.bool false)], args := [d1, d2, d3] }
  | _ => none }
def FnExactPitInsideWrongFalsely : Prop := fnExactPitInsideRow.holds Try.pinned (OpenSpec.ofChange fnExactPitInsideWrong)

/-- 'laws.FnExactLossWithout': WHATEVER THE INPUT: true; the input reads as it did. -/
def fnExactLossWithoutSpec : ChangeSpec := { name := "fnExactLossWithout", fn := fun _ => fun
  | [d1, d2, d3] => { results := [.lit (.bool true)], args := [d1, d2, d3] }
  | _ => none }
def fnExactLossWithoutRow : OpenClaim := { program := "ytgboedfnkkckkaa", sum := "bb5e062c285ba24bb5b1e90edece478f004dfa9809a8a500f8dab5f580998dec", func := "loop.example/g00914/laws.FnExactLossWithout", spec := "fnExactLossWithout", unfollowed := true, recurses := true, apart := false }
def FnExactLossWithoutSaid : Prop := fnExactLossWithoutRow.holds Try.pinned (OpenSpec.ofChange fnExactLossWithoutSpec)

/-- ITS FALSE NEIGHBOUR: 'it returns false'. Refute it at one input. -/
def fnExactLossWithoutWrong : ChangeSpec := { name := "fnExactLossWithout", fn := fun _ => fun
  | [d1, d2, d3] => { results := [.lit (.bool false)], args := [d1, d2, d3] }
  | _ => none }
def FnExactLossWithoutWrongFalsely : Prop := fnExactLossWithoutRow.holds Try.pinned (OpenSpec.ofChange fnExactLossWithoutWrong)

/- THE SECOND FORM. 'bulk': how many values and letters a reading holds, each counted each time it is reached (what is shared counts as often as it is met; a slice's spare places count too). A statement '..UptoSaid' is the law's where the arguments, and the package variables that the reading takes, are together of bulk at most 1048576: NARROWER than '..Said'. Prove '..Said' where nothing that the law and all that it calls make is longer than what came in: it says more and counts as full. Else prove '..UptoSaid'. A law counts once. -/
mutual
def uptoBulk {H : Type} : DataW H → Nat
  | .lit (.string bytes) => bytes.length + 1
  | .lit _ => 1
  | .nil => 1
  | .ptr d => uptoBulk d + 1
  | .slice elems spare => uptoBulkAll elems + uptoBulkAll spare + 1
  | .agg parts => uptoBulkAll parts + 1
  | .iface _ d => uptoBulk d + 1
  | .map entries => uptoBulkEntries entries + 1
  | .held _ => 1
def uptoBulkAll {H : Type} : List (DataW H) → Nat
  | [] => 0
  | d :: r => uptoBulk d + uptoBulkAll r
def uptoBulkEntries {H : Type} : List (Lit × DataW H) → Nat
  | [] => 0
  | x :: r => uptoBulkEntry x + uptoBulkEntries r
def uptoBulkEntry {H : Type} : Lit × DataW H → Nat
  | (.string bytes, d) => bytes.length + uptoBulk d + 1
  | (_, d) => uptoBulk d + 1
 end
def uptoSmall : (H : Type) → List (DataW H) → Bool := fun _ ds => decide (uptoBulkAll ds ≤ 1048576)
def OpenSpec.upto (s : _root_.Go.ChangeSpec) : _root_.Go.OpenSpec := { _root_.Go.OpenSpec.ofChange s with cond := some uptoSmall }

/-- 'laws.FnExactGreatestFlow', WHERE WHAT IT READS IS OF BULK AT MOST 1048576: true; the input reads as it did. -/
def fnExactGreatestFlowUptoRow : OpenClaim := { program := "ytgboedfnkkckkaa", sum := "bb5e062c285ba24bb5b1e90edece478f004dfa9809a8a500f8dab5f580998dec", func := "loop.example/g00914/laws.FnExactGreatestFlow", spec := "fnExactGreatestFlow", recurses := true, apart := false, narrowed := true }
def FnExactGreatestFlowUptoSaid : Prop := fnExactGreatestFlowUptoRow.holds Try.pinned (OpenSpec.upto fnExactGreatestFlowSpec)

/-- 'laws.FnExactLeastCut', WHERE WHAT IT READS IS OF BULK AT MOST 1048576: true; the input reads as it did. -/
def fnExactLeastCutUptoRow : OpenClaim := { program := "ytgboedfnkkckkaa", sum := "bb5e062c285ba24bb5b1e90edece478f004dfa9809a8a500f8dab5f580998dec", func := "loop.example/g00914/laws.FnExactLeastCut", spec := "fnExactLeastCut", unfollowed := true, recurses := true, apart := false, narrowed := true }
def FnExactLeastCutUptoSaid : Prop := fnExactLeastCutUptoRow.holds Try.pinned (OpenSpec.upto fnExactLeastCutSpec)

/-- 'laws.FnExactGreatestCut', WHERE WHAT IT READS IS OF BULK AT MOST 1048576: true; the input reads as it did. -/
def fnExactGreatestCutUptoRow : OpenClaim := { program := "ytgboedfnkkckkaa", sum := "bb5e062c285ba24bb5b1e90edece478f004dfa9809a8a500f8dab5f580998dec", func := "loop.example/g00914/laws.FnExactGreatestCut", spec := "fnExactGreatestCut", unfollowed := true, recurses := true, apart := false, narrowed := true }
def FnExactGreatestCutUptoSaid : Prop := fnExactGreatestCutUptoRow.holds Try.pinned (OpenSpec.upto fnExactGreatestCutSpec)

/-- 'laws.FnExactMendsFlow', WHERE WHAT IT READS IS OF BULK AT MOST 1048576: true; the input reads as it did. -/
def fnExactMendsFlowUptoRow : OpenClaim := { program := "ytgboedfnkkckkaa", sum := "bb5e062c285ba24bb5b1e90edece478f004dfa9809a8a500f8dab5f580998dec", func := "loop.example/g00914/laws.FnExactMendsFlow", spec := "fnExactMendsFlow", recurses := true, apart := false, narrowed := true }
def FnExactMendsFlowUptoSaid : Prop := fnExactMendsFlowUptoRow.holds Try.pinned (OpenSpec.upto fnExactMendsFlowSpec)

/-- 'laws.FnExactBlocksFlow', WHERE WHAT IT READS IS OF BULK AT MOST 1048576: true; the input reads as it did. -/
def fnExactBlocksFlowUptoRow : OpenClaim := { program := "ytgboedfnkkckkaa", sum := "bb5e062c285ba24bb5b1e90edece478f004dfa9809a8a500f8dab5f580998dec", func := "loop.example/g00914/laws.FnExactBlocksFlow", spec := "fnExactBlocksFlow", recurses := true, apart := false, narrowed := true }
def FnExactBlocksFlowUptoSaid : Prop := fnExactBlocksFlowUptoRow.holds Try.pinned (OpenSpec.upto fnExactBlocksFlowSpec)

/-- 'laws.FnExactTurnNetwork', WHERE WHAT IT READS IS OF BULK AT MOST 1048576: true; the input reads as it did. -/
def fnExactTurnNetworkUptoRow : OpenClaim := { program := "ytgboedfnkkckkaa", sum := "bb5e062c285ba24bb5b1e90edece478f004dfa9809a8a500f8dab5f580998dec", func := "loop.example/g00914/laws.FnExactTurnNetwork", spec := "fnExactTurnNetwork", apart := false, narrowed := true }
def FnExactTurnNetworkUptoSaid : Prop := fnExactTurnNetworkUptoRow.holds Try.pinned (OpenSpec.upto fnExactTurnNetworkSpec)

/-- 'laws.FnExactBestPit', WHERE WHAT IT READS IS OF BULK AT MOST 1048576: true; the input reads as it did. -/
def fnExactBestPitUptoRow : OpenClaim := { program := "ytgboedfnkkckkaa", sum := "bb5e062c285ba24bb5b1e90edece478f004dfa9809a8a500f8dab5f580998dec", func := "loop.example/g00914/laws.FnExactBestPit", spec := "fnExactBestPit", unfollowed := true, recurses := true, apart := false, narrowed := true }
def FnExactBestPitUptoSaid : Prop := fnExactBestPitUptoRow.holds Try.pinned (OpenSpec.upto fnExactBestPitSpec)

/-- 'laws.FnExactLargestPit', WHERE WHAT IT READS IS OF BULK AT MOST 1048576: true; the input reads as it did. -/
def fnExactLargestPitUptoRow : OpenClaim := { program := "ytgboedfnkkckkaa", sum := "bb5e062c285ba24bb5b1e90edece478f004dfa9809a8a500f8dab5f580998dec", func := "loop.example/g00914/laws.FnExactLargestPit", spec := "fnExactLargestPit", unfollowed := true, recurses := true, apart := false, narrowed := true }
def FnExactLargestPitUptoSaid : Prop := fnExactLargestPitUptoRow.holds Try.pinned (OpenSpec.upto fnExactLargestPitSpec)

/-- 'laws.FnExactBestValue', WHERE WHAT IT READS IS OF BULK AT MOST 1048576: true; the input reads as it did. -/
def fnExactBestValueUptoRow : OpenClaim := { program := "ytgboedfnkkckkaa", sum := "bb5e062c285ba24bb5b1e90edece478f004dfa9809a8a500f8dab5f580998dec", func := "loop.example/g00914/laws.FnExactBestValue", spec := "fnExactBestValue", unfollowed := true, recurses := true, apart := false, narrowed := true }
def FnExactBestValueUptoSaid : Prop := fnExactBestValueUptoRow.holds Try.pinned (OpenSpec.upto fnExactBestValueSpec)

/-- 'laws.FnExactPitNetwork', WHERE WHAT IT READS IS OF BULK AT MOST 1048576: true; the input reads as it did. -/
def fnExactPitNetworkUptoRow : OpenClaim := { program := "ytgboedfnkkckkaa", sum := "bb5e062c285ba24bb5b1e90edece478f004dfa9809a8a500f8dab5f580998dec", func := "loop.example/g00914/laws.FnExactPitNetwork", spec := "fnExactPitNetwork", unfollowed := true, recurses := true, apart := false, narrowed := true }
def FnExactPitNetworkUptoSaid : Prop := fnExactPitNetworkUptoRow.holds Try.pinned (OpenSpec.upto fnExactPitNetworkSpec)

/-- 'laws.FnExactCutOfPit', WHERE WHAT IT READS IS OF BULK AT MOST 1048576: true; the input reads as it did. -/
def fnExactCutOfPitUptoRow : OpenClaim := { program := "ytgboedfnkkckkaa", sum := "bb5e062c285ba24bb5b1e90edece478f004dfa9809a8a500f8dab5f580998dec", func := "loop.example/g00914/laws.FnExactCutOfPit", spec := "fnExactCutOfPit", unfollowed := true, recurses := true, apart := false, narrowed := true }
def FnExactCutOfPitUptoSaid : Prop := fnExactCutOfPitUptoRow.holds Try.pinned (OpenSpec.upto fnExactCutOfPitSpec)

/-- 'laws.FnExactIsBestPit', WHERE WHAT IT READS IS OF BULK AT MOST 1048576: true; the input reads as it did. -/
def fnExactIsBestPitUptoRow : OpenClaim := { program := "ytgboedfnkkckkaa", sum := "bb5e062c285ba24bb5b1e90edece478f004dfa9809a8a500f8dab5f580998dec", func := "loop.example/g00914/laws.FnExactIsBestPit", spec := "fnExactIsBestPit", unfollowed := true, recurses := true, apart := false, narrowed := true }
def FnExactIsBestPitUptoSaid : Prop := fnExactIsBestPitUptoRow.holds Try.pinned (OpenSpec.upto fnExactIsBestPitSpec)

/-- 'laws.FnExactFreeBlocks', WHERE WHAT IT READS IS OF BULK AT MOST 1048576: true; the input reads as it did. -/
def fnExactFreeBlocksUptoRow : OpenClaim := { program := "ytgboedfnkkckkaa", sum := "bb5e062c285ba24bb5b1e90edece478f004dfa9809a8a500f8dab5f580998dec", func := "loop.example/g00914/laws.FnExactFreeBlocks", spec := "fnExactFreeBlocks", unfollowed := true, recurses := true, apart := false, narrowed := true }
def FnExactFreeBlocksUptoSaid : Prop := fnExactFreeBlocksUptoRow.holds Try.pinned (OpenSpec.upto fnExactFreeBlocksSpec)

/-- 'laws.FnExactForcedPit', WHERE WHAT IT READS IS OF BULK AT MOST 1048576: true; the input reads as it did. -/
def fnExactForcedPitUptoRow : OpenClaim := { program := "ytgboedfnkkckkaa", sum := "bb5e062c285ba24bb5b1e90edece478f004dfa9809a8a500f8dab5f580998dec", func := "loop.example/g00914/laws.FnExactForcedPit", spec := "fnExactForcedPit", unfollowed := true, recurses := true, apart := false, narrowed := true }
def FnExactForcedPitUptoSaid : Prop := fnExactForcedPitUptoRow.holds Try.pinned (OpenSpec.upto fnExactForcedPitSpec)

/-- 'laws.FnExactPitInside', WHERE WHAT IT READS IS OF BULK AT MOST 1048576: true; the input reads as it did. -/
def fnExactPitInsideUptoRow : OpenClaim := { program := "ytgboedfnkkckkaa", sum := "bb5e062c285ba24bb5b1e90edece478f004dfa9809a8a500f8dab5f580998dec", func := "loop.example/g00914/laws.FnExactPitInside", spec := "fnExactPitInside", unfollowed := true, recurses := true, apart := false, narrowed := true }
def FnExactPitInsideUptoSaid : Prop := fnExactPitInsideUptoRow.holds Try.pinned (OpenSpec.upto fnExactPitInsideSpec)

/-- 'laws.FnExactLossWithout', WHERE WHAT IT READS IS OF BULK AT MOST 1048576: true; the input reads as it did. -/
def fnExactLossWithoutUptoRow : OpenClaim := { program := "ytgboedfnkkckkaa", sum := "bb5e062c285ba24bb5b1e90edece478f004dfa9809a8a500f8dab5f580998dec", func := "loop.example/g00914/laws.FnExactLossWithout", spec := "fnExactLossWithout", unfollowed := true, recurses := true, apart := false, narrowed := true }
def FnExactLossWithoutUptoSaid : Prop := fnExactLossWithoutUptoRow.holds Try.pinned (OpenSpec.upto fnExactLossWithoutSpec)

end Rows
end Go.Proofs.Ytgboedfnkkckkaa
