/-
  No cell of these rows narrows 'for every input' (looked for: loops, veiled, ifaces, maps, wideKeys, modest, calm, conditions, laid).
  DERIVED. THE GIVEN ROWS OF THIS SEAT. 13 by the template 'for every input the law returns true; each argument reads behind the call as it read before'; 0 by the template 'total and deterministic' (their statements: YtffknfgejoejoaaTotals.lean).
  GIVEN WITH THE SEED: the statements are not yours to turn. If you find one false, say at which input.
  Laid BY PROGRAM, IN A SANDBOX (cutbox-rows.mjs): the forced cells as the released guide's own fill.sh prints them over the translation 839bcb63a746db2b… (all of the seat's roots in one cut). By AI agents, Wed Nov 11 2026. No macro, syntax, notation, axiom, sorry.
-/
import Derived.Test.YtffknfgejoejoaaChecked
import GoSem.Claim
import GoSem.ClaimJoined
import GoSem.ClaimMapViews
import Derived.JoinedTies
import Derived.KernelRfl
namespace Go.Proofs.Ytffknfgejoejoaa
/- THE CELL 'sum', in the pinned program and in every row, IS THE sha256 OF THE DUMP (.gsa) THAT YtffknfgejoejoaaProg.lean LOADS. Nothing in Lean hashes anything: it is a label: what it is worth is what the hold of that sum in a sandbox is worth. -/
noncomputable def Try.pinned : Pinned := { name := "ytffknfgejoejoaa", sum := "839bcb63a746db2bab2d5c013f16e901529befa4f13cc48194d16c3fe8488a36", checked := Try.checked }
namespace Rows
def none {H : Type} : Left H := { results := [], args := [] }

/-- 'laws.FnExactAreArcs': WHATEVER THE INPUT: true; the input reads as it did. -/
def fnExactAreArcsSpec : ChangeSpec := { name := "fnExactAreArcs", fn := fun _ => fun
  | [d] => { results := [.lit (.bool true)], args := [d] }
  | _ => none }
def fnExactAreArcsRow : OpenClaim := { program := "ytffknfgejoejoaa", sum := "839bcb63a746db2bab2d5c013f16e901529befa4f13cc48194d16c3fe8488a36", func := "loop.example/g00914/laws.FnExactAreArcs", spec := "fnExactAreArcs", apart := false }
def FnExactAreArcsSaid : Prop := fnExactAreArcsRow.holds Try.pinned (OpenSpec.ofChange fnExactAreArcsSpec)

/-- ITS FALSE NEIGHBOUR: 'it returns false'. Refute it at one input. -/
def fnExactAreArcsWrong : ChangeSpec := { name := "fnExactAreArcs", fn := fun _ => fun
  | [d] => { results := [.lit (.bool false)], args := [d] }
  | _ => none }
def FnExactAreArcsWrongFalsely : Prop := fnExactAreArcsRow.holds Try.pinned (OpenSpec.ofChange fnExactAreArcsWrong)

/-- 'laws.FnExactConeOf': WHATEVER THE INPUT: true; the input reads as it did. -/
def fnExactConeOfSpec : ChangeSpec := { name := "fnExactConeOf", fn := fun _ => fun
  | [d1, d2] => { results := [.lit (.bool true)], args := [d1, d2] }
  | _ => none }
def fnExactConeOfRow : OpenClaim := { program := "ytffknfgejoejoaa", sum := "839bcb63a746db2bab2d5c013f16e901529befa4f13cc48194d16c3fe8488a36", func := "loop.example/g00914/laws.FnExactConeOf", spec := "fnExactConeOf", unfollowed := true, recurses := true, apart := false }
def FnExactConeOfSaid : Prop := fnExactConeOfRow.holds Try.pinned (OpenSpec.ofChange fnExactConeOfSpec)

/-- ITS FALSE NEIGHBOUR: 'it returns false'. Refute it at one input. -/
def fnExactConeOfWrong : ChangeSpec := { name := "fnExactConeOf", fn := fun _ => fun
  | [d1, d2] => { results := [.lit (.bool false)], args := [d1, d2] }
  | _ => none }
def FnExactConeOfWrongFalsely : Prop := fnExactConeOfRow.holds Try.pinned (OpenSpec.ofChange fnExactConeOfWrong)

/-- 'laws.FnExactBelowOf': WHATEVER THE INPUT: true; the input reads as it did. -/
def fnExactBelowOfSpec : ChangeSpec := { name := "fnExactBelowOf", fn := fun _ => fun
  | [d1, d2] => { results := [.lit (.bool true)], args := [d1, d2] }
  | _ => none }
def fnExactBelowOfRow : OpenClaim := { program := "ytffknfgejoejoaa", sum := "839bcb63a746db2bab2d5c013f16e901529befa4f13cc48194d16c3fe8488a36", func := "loop.example/g00914/laws.FnExactBelowOf", spec := "fnExactBelowOf", unfollowed := true, recurses := true, apart := false }
def FnExactBelowOfSaid : Prop := fnExactBelowOfRow.holds Try.pinned (OpenSpec.ofChange fnExactBelowOfSpec)

/-- ITS FALSE NEIGHBOUR: 'it returns false'. Refute it at one input. -/
def fnExactBelowOfWrong : ChangeSpec := { name := "fnExactBelowOf", fn := fun _ => fun
  | [d1, d2] => { results := [.lit (.bool false)], args := [d1, d2] }
  | _ => none }
def FnExactBelowOfWrongFalsely : Prop := fnExactBelowOfRow.holds Try.pinned (OpenSpec.ofChange fnExactBelowOfWrong)

/-- 'laws.FnExactIsClosure': WHATEVER THE INPUT: true; the input reads as it did. -/
def fnExactIsClosureSpec : ChangeSpec := { name := "fnExactIsClosure", fn := fun _ => fun
  | [d1, d2] => { results := [.lit (.bool true)], args := [d1, d2] }
  | _ => none }
def fnExactIsClosureRow : OpenClaim := { program := "ytffknfgejoejoaa", sum := "839bcb63a746db2bab2d5c013f16e901529befa4f13cc48194d16c3fe8488a36", func := "loop.example/g00914/laws.FnExactIsClosure", spec := "fnExactIsClosure", unfollowed := true, recurses := true, apart := false }
def FnExactIsClosureSaid : Prop := fnExactIsClosureRow.holds Try.pinned (OpenSpec.ofChange fnExactIsClosureSpec)

/-- ITS FALSE NEIGHBOUR: 'it returns false'. Refute it at one input. -/
def fnExactIsClosureWrong : ChangeSpec := { name := "fnExactIsClosure", fn := fun _ => fun
  | [d1, d2] => { results := [.lit (.bool false)], args := [d1, d2] }
  | _ => none }
def FnExactIsClosureWrongFalsely : Prop := fnExactIsClosureRow.holds Try.pinned (OpenSpec.ofChange fnExactIsClosureWrong)

/-- 'laws.FnExactLeastClosure': WHATEVER THE INPUT: true; the input reads as it did. -/
def fnExactLeastClosureSpec : ChangeSpec := { name := "fnExactLeastClosure", fn := fun _ => fun
  | [d1, d2] => { results := [.lit (.bool true)], args := [d1, d2] }
  | _ => none }
def fnExactLeastClosureRow : OpenClaim := { program := "ytffknfgejoejoaa", sum := "839bcb63a746db2bab2d5c013f16e901529befa4f13cc48194d16c3fe8488a36", func := "loop.example/g00914/laws.FnExactLeastClosure", spec := "fnExactLeastClosure", unfollowed := true, recurses := true, apart := false }
def FnExactLeastClosureSaid : Prop := fnExactLeastClosureRow.holds Try.pinned (OpenSpec.ofChange fnExactLeastClosureSpec)

/-- ITS FALSE NEIGHBOUR: 'it returns false'. Refute it at one input. -/
def fnExactLeastClosureWrong : ChangeSpec := { name := "fnExactLeastClosure", fn := fun _ => fun
  | [d1, d2] => { results := [.lit (.bool false)], args := [d1, d2] }
  | _ => none }
def FnExactLeastClosureWrongFalsely : Prop := fnExactLeastClosureRow.holds Try.pinned (OpenSpec.ofChange fnExactLeastClosureWrong)

/-- 'laws.FnExactGreatestInside': WHATEVER THE INPUT: true; the input reads as it did. -/
def fnExactGreatestInsideSpec : ChangeSpec := { name := "fnExactGreatestInside", fn := fun _ => fun
  | [d1, d2] => { results := [.lit (.bool true)], args := [d1, d2] }
  | _ => none }
def fnExactGreatestInsideRow : OpenClaim := { program := "ytffknfgejoejoaa", sum := "839bcb63a746db2bab2d5c013f16e901529befa4f13cc48194d16c3fe8488a36", func := "loop.example/g00914/laws.FnExactGreatestInside", spec := "fnExactGreatestInside", unfollowed := true, recurses := true, apart := false }
def FnExactGreatestInsideSaid : Prop := fnExactGreatestInsideRow.holds Try.pinned (OpenSpec.ofChange fnExactGreatestInsideSpec)

/-- ITS FALSE NEIGHBOUR: 'it returns false'. Refute it at one input. -/
def fnExactGreatestInsideWrong : ChangeSpec := { name := "fnExactGreatestInside", fn := fun _ => fun
  | [d1, d2] => { results := [.lit (.bool false)], args := [d1, d2] }
  | _ => none }
def FnExactGreatestInsideWrongFalsely : Prop := fnExactGreatestInsideRow.holds Try.pinned (OpenSpec.ofChange fnExactGreatestInsideWrong)

/-- 'laws.FnExactJoinClosures': WHATEVER THE INPUT: true; the input reads as it did. -/
def fnExactJoinClosuresSpec : ChangeSpec := { name := "fnExactJoinClosures", fn := fun _ => fun
  | [d1, d2, d3] => { results := [.lit (.bool true)], args := [d1, d2, d3] }
  | _ => none }
def fnExactJoinClosuresRow : OpenClaim := { program := "ytffknfgejoejoaa", sum := "839bcb63a746db2bab2d5c013f16e901529befa4f13cc48194d16c3fe8488a36", func := "loop.example/g00914/laws.FnExactJoinClosures", spec := "fnExactJoinClosures", unfollowed := true, recurses := true, apart := false }
def FnExactJoinClosuresSaid : Prop := fnExactJoinClosuresRow.holds Try.pinned (OpenSpec.ofChange fnExactJoinClosuresSpec)

/-- ITS FALSE NEIGHBOUR: 'it returns false'. Refute it at one input. -/
def fnExactJoinClosuresWrong : ChangeSpec := { name := "fnExactJoinClosures", fn := fun _ => fun
  | [d1, d2, d3] => { results := [.lit (.bool false)], args := [d1, d2, d3] }
  | _ => none }
def FnExactJoinClosuresWrongFalsely : Prop := fnExactJoinClosuresRow.holds Try.pinned (OpenSpec.ofChange fnExactJoinClosuresWrong)

/-- 'laws.FnExactMeetClosures': WHATEVER THE INPUT: true; the input reads as it did. -/
def fnExactMeetClosuresSpec : ChangeSpec := { name := "fnExactMeetClosures", fn := fun _ => fun
  | [d1, d2, d3] => { results := [.lit (.bool true)], args := [d1, d2, d3] }
  | _ => none }
def fnExactMeetClosuresRow : OpenClaim := { program := "ytffknfgejoejoaa", sum := "839bcb63a746db2bab2d5c013f16e901529befa4f13cc48194d16c3fe8488a36", func := "loop.example/g00914/laws.FnExactMeetClosures", spec := "fnExactMeetClosures", unfollowed := true, recurses := true, apart := false }
def FnExactMeetClosuresSaid : Prop := fnExactMeetClosuresRow.holds Try.pinned (OpenSpec.ofChange fnExactMeetClosuresSpec)

/-- ITS FALSE NEIGHBOUR: 'it returns false'. Refute it at one input. -/
def fnExactMeetClosuresWrong : ChangeSpec := { name := "fnExactMeetClosures", fn := fun _ => fun
  | [d1, d2, d3] => { results := [.lit (.bool false)], args := [d1, d2, d3] }
  | _ => none }
def FnExactMeetClosuresWrongFalsely : Prop := fnExactMeetClosuresRow.holds Try.pinned (OpenSpec.ofChange fnExactMeetClosuresWrong)

/-- 'laws.FnExactNextBlocks': WHATEVER THE INPUT: true; the input reads as it did. -/
def fnExactNextBlocksSpec : ChangeSpec := { name := "fnExactNextBlocks", fn := fun _ => fun
  | [d1, d2] => { results := [.lit (.bool true)], args := [d1, d2] }
  | _ => none }
def fnExactNextBlocksRow : OpenClaim := { program := "ytffknfgejoejoaa", sum := "839bcb63a746db2bab2d5c013f16e901529befa4f13cc48194d16c3fe8488a36", func := "loop.example/g00914/laws.FnExactNextBlocks", spec := "fnExactNextBlocks", unfollowed := true, recurses := true, apart := false }
def FnExactNextBlocksSaid : Prop := fnExactNextBlocksRow.holds Try.pinned (OpenSpec.ofChange fnExactNextBlocksSpec)

/-- ITS FALSE NEIGHBOUR: 'it returns false'. Refute it at one input. -/
def fnExactNextBlocksWrong : ChangeSpec := { name := "fnExactNextBlocks", fn := fun _ => fun
  | [d1, d2] => { results := [.lit (.bool false)], args := [d1, d2] }
  | _ => none }
def FnExactNextBlocksWrongFalsely : Prop := fnExactNextBlocksRow.holds Try.pinned (OpenSpec.ofChange fnExactNextBlocksWrong)

/-- 'laws.FnExactLastBlocks': WHATEVER THE INPUT: true; the input reads as it did. -/
def fnExactLastBlocksSpec : ChangeSpec := { name := "fnExactLastBlocks", fn := fun _ => fun
  | [d1, d2] => { results := [.lit (.bool true)], args := [d1, d2] }
  | _ => none }
def fnExactLastBlocksRow : OpenClaim := { program := "ytffknfgejoejoaa", sum := "839bcb63a746db2bab2d5c013f16e901529befa4f13cc48194d16c3fe8488a36", func := "loop.example/g00914/laws.FnExactLastBlocks", spec := "fnExactLastBlocks", unfollowed := true, recurses := true, apart := false }
def FnExactLastBlocksSaid : Prop := fnExactLastBlocksRow.holds Try.pinned (OpenSpec.ofChange fnExactLastBlocksSpec)

/-- ITS FALSE NEIGHBOUR: 'it returns false'. Refute it at one input. -/
def fnExactLastBlocksWrong : ChangeSpec := { name := "fnExactLastBlocks", fn := fun _ => fun
  | [d1, d2] => { results := [.lit (.bool false)], args := [d1, d2] }
  | _ => none }
def FnExactLastBlocksWrongFalsely : Prop := fnExactLastBlocksRow.holds Try.pinned (OpenSpec.ofChange fnExactLastBlocksWrong)

/-- 'laws.FnExactCountClosures': WHATEVER THE INPUT: true; the input reads as it did. -/
def fnExactCountClosuresSpec : ChangeSpec := { name := "fnExactCountClosures", fn := fun _ => fun
  | [d] => { results := [.lit (.bool true)], args := [d] }
  | _ => none }
def fnExactCountClosuresRow : OpenClaim := { program := "ytffknfgejoejoaa", sum := "839bcb63a746db2bab2d5c013f16e901529befa4f13cc48194d16c3fe8488a36", func := "loop.example/g00914/laws.FnExactCountClosures", spec := "fnExactCountClosures", unfollowed := true, recurses := true, apart := false }
def FnExactCountClosuresSaid : Prop := fnExactCountClosuresRow.holds Try.pinned (OpenSpec.ofChange fnExactCountClosuresSpec)

/-- ITS FALSE NEIGHBOUR: 'it returns false'. Refute it at one input. -/
def fnExactCountClosuresWrong : ChangeSpec := { name := "fnExactCountClosures", fn := fun _ => fun
  | [d] => { results := [.lit (.bool false)], args := [d] }
  | _ => none }
def FnExactCountClosuresWrongFalsely : Prop := fnExactCountClosuresRow.holds Try.pinned (OpenSpec.ofChange fnExactCountClosuresWrong)

/-- 'laws.FnExactReducedArcs': WHATEVER THE INPUT: true; the input reads as it did. -/
def fnExactReducedArcsSpec : ChangeSpec := { name := "fnExactReducedArcs", fn := fun _ => fun
  | [d] => { results := [.lit (.bool true)], args := [d] }
  | _ => none }
def fnExactReducedArcsRow : OpenClaim := { program := "ytffknfgejoejoaa", sum := "839bcb63a746db2bab2d5c013f16e901529befa4f13cc48194d16c3fe8488a36", func := "loop.example/g00914/laws.FnExactReducedArcs", spec := "fnExactReducedArcs", unfollowed := true, recurses := true, apart := false }
def FnExactReducedArcsSaid : Prop := fnExactReducedArcsRow.holds Try.pinned (OpenSpec.ofChange fnExactReducedArcsSpec)

/-- ITS FALSE NEIGHBOUR: 'it returns false'. Refute it at one input. -/
def fnExactReducedArcsWrong : ChangeSpec := { name := "fnExactReducedArcs", fn := fun _ => fun
  | [d] => { results := [.lit (.bool false)], args := [d] }
  | _ => none }
def FnExactReducedArcsWrongFalsely : Prop := fnExactReducedArcsRow.holds Try.pinned (OpenSpec.ofChange fnExactReducedArcsWrong)

/-- 'laws.FnExactValueOf': WHATEVER THE INPUT: true; the input reads as it did. -/
def fnExactValueOfSpec : ChangeSpec := { name := "fnExactValueOf", fn := fun _ => fun
  | [d1, d2] => { results := [.lit (.bool true)], args := [d1, d2] }
  | _ => none }
def fnExactValueOfRow : OpenClaim := { program := "ytffknfgejoejoaa", sum := "839bcb63a746db2bab2d5c013f16e901529befa4f13cc48194d16c3fe8488a36", func := "loop.example/g00914/laws.FnExactValueOf", spec := "fnExactValueOf", unfollowed := true, recurses := true, apart := false }
def FnExactValueOfSaid : Prop := fnExactValueOfRow.holds Try.pinned (OpenSpec.ofChange fnExactValueOfSpec)

/-- ITS FALSE NEIGHBOUR: 'it returns false'. Refute it at one input. -/
def fnExactValueOfWrong : ChangeSpec := { name := "fnExactValueOf", fn := fun _ => fun
  | [d1, d2] => { results := [.lit (.bool false)], args := [d1, d2] }
  | _ => none }
def FnExactValueOfWrongFalsely : Prop := fnExactValueOfRow.holds Try.pinned (OpenSpec.ofChange fnExactValueOfWrong)

/- THE SECOND FORM. 'bulk': how many values and letters a reading holds, each counted each time it is reached (what is shared counts as often as it is met; a slice's spare places count too). A statement '..UptoSaid' is the law's where the arguments, and the package variables that the reading takes, are together of bulk at most 1048576: NARROWER than '..Said'. Prove '..Said' where nothing that the law and all that it calls make is longer than what came in: it says more and counts as full. Else prove '..UptoSaid'. A law counts once. -/
mutual
def uptoBulk {H : Type} : DataW H → Nat
  | .lit (.string bytes) => bytes.length + 1
  | .lit _ => 1
  | .nil => 1
  | .ptr d => uptoBulk d + 1
  | .slice elems spare => uptoBulkAll elems + uptoBulkAll spare + 1
  | .agg parts => uptoBulkAll parts + 1
  | .iface _ d => uptoBulk d + 1
  | .map entries => uptoBulkEntries entries + 1
  | .held _ => 1
def uptoBulkAll {H : Type} : List (DataW H) → Nat
  | [] => 0
  | d :: r => uptoBulk d + uptoBulkAll r
def uptoBulkEntries {H : Type} : List (Lit × DataW H) → Nat
  | [] => 0
  | x :: r => uptoBulkEntry x + uptoBulkEntries r
def uptoBulkEntry {H : Type} : Lit × DataW H → Nat
  | (.string bytes, d) => bytes.length + uptoBulk d + 1
  | (_, d) => uptoBulk d + 1
 end
def uptoSmall : (H : Type) → List (DataW H) → Bool := fun _ ds => decide (uptoBulkAll ds ≤ 1048576)
def OpenSpec.upto (s : _root_.Go.ChangeSpec) : _root_.Go.OpenSpec := { _root_.Go.OpenSpec.ofChange s with cond := some uptoSmall }

/-- 'laws.FnExactAreArcs', WHERE WHAT IT READS IS OF BULK AT MOST 1048576: true; the input reads as it did. -/
def fnExactAreArcsUptoRow : OpenClaim := { program := "ytffknfgejoejoaa", sum := "839bcb63a746db2bab2d5c013f16e901529befa4f13cc48194d16c3fe8488a36", func := "loop.example/g00914/laws.FnExactAreArcs", spec := "fnExactAreArcs", apart := false, narrowed := true }
def FnExactAreArcsUptoSaid : Prop := fnExactAreArcsUptoRow.holds Try.pinned (OpenSpec.upto fnExactAreArcsSpec)

/-- 'laws.FnExactConeOf', WHERE WHAT IT READS IS OF BULK AT MOST 1048576: true; the input reads as it did. -/
def fnExactConeOfUptoRow : OpenClaim := { program := "ytffknfgejoejoaa", sum := "839bcb63a746db2bab2d5c013f16e901529befa4f13cc48194d16c3fe8488a36", func := "loop.example/g00914/laws.FnExactConeOf", spec := "fnExactConeOf", unfollowed := true, recurses := true, apart := false, narrowed := true }
def FnExactConeOfUptoSaid : Prop := fnExactConeOfUptoRow.holds Try.pinned (OpenSpec.upto fnExactConeOfSpec)

/-- 'laws.FnExactBelowOf', WHERE WHAT IT READS IS OF BULK AT MOST 1048576: true; the input reads as it did. -/
def fnExactBelowOfUptoRow : OpenClaim := { program := "ytffknfgejoejoaa", sum := "839bcb63a746db2bab2d5c013f16e901529befa4f13cc48194d16c3fe8488a36", func := "loop.example/g00914/laws.FnExactBelowOf", spec := "fnExactBelowOf", unfollowed := true, recurses := true, apart := false, narrowed := true }
def FnExactBelowOfUptoSaid : Prop := fnExactBelowOfUptoRow.holds Try.pinned (OpenSpec.upto fnExactBelowOfSpec)

/-- 'laws.FnExactIsClosure', WHERE WHAT IT READS IS OF BULK AT MOST 1048576: true; the input reads as it did. -/
def fnExactIsClosureUptoRow : OpenClaim := { program := "ytffknfgejoejoaa", sum := "839bcb63a746db2bab2d5c013f16e901529befa4f13cc48194d16c3fe8488a36", func := "loop.example/g00914/laws.FnExactIsClosure", spec := "fnExactIsClosure", unfollowed := true, recurses := true, apart := false, narrowed := true }
def FnExactIsClosureUptoSaid : Prop := fnExactIsClosureUptoRow.holds Try.pinned (OpenSpec.upto fnExactIsClosureSpec)

/-- 'laws.FnExactLeastClosure', WHERE WHAT IT READS IS OF BULK AT MOST 1048576: true; the input reads as it did. -/
def fnExactLeastClosureUptoRow : OpenClaim := { program := "ytffknfgejoejoaa", sum := "839bcb63a746db2bab2d5c013f16e901529befa4f13cc48194d16c3fe8488a36", func := "loop.example/g00914/laws.FnExactLeastClosure", spec := "fnExactLeastClosure", unfollowed := true, recurses := true, apart := false, narrowed := true }
def FnExactLeastClosureUptoSaid : Prop := fnExactLeastClosureUptoRow.holds Try.pinned (OpenSpec.upto fnExactLeastClosureSpec)

/-- 'laws.FnExactGreatestInside', WHERE WHAT IT READS IS OF BULK AT MOST 1048576: true; the input reads as it did. -/
def fnExactGreatestInsideUptoRow : OpenClaim := { program := "ytffknfgejoejoaa", sum := "839bcb63a746db2bab2d5c013f16e901529befa4f13cc48194d16c3fe8488a36", func := "loop.example/g00914/laws.FnExactGreatestInside", spec := "fnExactGreatestInside", unfollowed := true, recurses := true, apart := false, narrowed := true }
def FnExactGreatestInsideUptoSaid : Prop := fnExactGreatestInsideUptoRow.holds Try.pinned (OpenSpec.upto fnExactGreatestInsideSpec)

/-- 'laws.FnExactJoinClosures', WHERE WHAT IT READS IS OF BULK AT MOST 1048576: true; the input reads as it did. -/
def fnExactJoinClosuresUptoRow : OpenClaim := { program := "ytffknfgejoejoaa", sum := "839bcb63a746db2bab2d5c013f16e901529befa4f13cc48194d16c3fe8488a36", func := "loop.example/g00914/laws.FnExactJoinClosures", spec := "fnExactJoinClosures", unfollowed := true, recurses := true, apart := false, narrowed := true }
def FnExactJoinClosuresUptoSaid : Prop := fnExactJoinClosuresUptoRow.holds Try.pinned (OpenSpec.upto fnExactJoinClosuresSpec)

/-- 'laws.FnExactMeetClosures', WHERE WHAT IT READS IS OF BULK AT MOST 1048576: true; the input reads as it did. -/
def fnExactMeetClosuresUptoRow : OpenClaim := { program := "ytffknfgejoejoaa", sum := "839bcb63a746db2bab2d5c013f16e901529befa4f13cc48194d16c3fe8488a36", func := "loop.example/g00914/laws.FnExactMeetClosures", spec := "fnExactMeetClosures", unfollowed := true, recurses := true, apart := false, narrowed := true }
def FnExactMeetClosuresUptoSaid : Prop := fnExactMeetClosuresUptoRow.holds Try.pinned (OpenSpec.upto fnExactMeetClosuresSpec)

/-- 'laws.FnExactNextBlocks', WHERE WHAT IT READS IS OF BULK AT MOST 1048576: true; the input reads as it did. -/
def fnExactNextBlocksUptoRow : OpenClaim := { program := "ytffknfgejoejoaa", sum := "839bcb63a746db2bab2d5c013f16e901529befa4f13cc48194d16c3fe8488a36", func := "loop.example/g00914/laws.FnExactNextBlocks", spec := "fnExactNextBlocks", unfollowed := true, recurses := true, apart := false, narrowed := true }
def FnExactNextBlocksUptoSaid : Prop := fnExactNextBlocksUptoRow.holds Try.pinned (OpenSpec.upto fnExactNextBlocksSpec)

/-- 'laws.FnExactLastBlocks', WHERE WHAT IT READS IS OF BULK AT MOST 1048576: true; the input reads as it did. -/
def fnExactLastBlocksUptoRow : OpenClaim := { program := "ytffknfgejoejoaa", sum := "839bcb63a746db2bab2d5c013f16e901529befa4f13cc48194d16c3fe8488a36", func := "loop.example/g00914/laws.FnExactLastBlocks", spec := "fnExactLastBlocks", unfollowed := true, recurses := true, apart := false, narrowed := true }
def FnExactLastBlocksUptoSaid : Prop := fnExactLastBlocksUptoRow.holds Try.pinned (OpenSpec.upto fnExactLastBlocksSpec)

/-- 'laws.FnExactCountClosures', WHERE WHAT IT READS IS OF BULK AT MOST 1048576: true; the input reads as it did. -/
def fnExactCountClosuresUptoRow : OpenClaim := { program := "ytffknfgejoejoaa", sum := "839bcb63a746db2bab2d5c013f16e901529befa4f13cc48194d16c3fe8488a36", func := "loop.example/g00914/laws.FnExactCountClosures", spec := "fnExactCountClosures", unfollowed := true, recurses := true, apart := false, narrowed := true }
def FnExactCountClosuresUptoSaid : Prop := fnExactCountClosuresUptoRow.holds Try.pinned (OpenSpec.upto fnExactCountClosuresSpec)

/-- 'laws.FnExactReducedArcs', WHERE WHAT IT READS IS OF BULK AT MOST 1048576: true; the input reads as it did. -/
def fnExactReducedArcsUptoRow : OpenClaim := { program := "ytffknfgejoejoaa", sum := "839bcb63a746db2bab2d5c013f16e901529befa4f13cc48194d16c3fe8488a36", func := "loop.example/g00914/laws.FnExactReducedArcs", spec := "fnExactReducedArcs", unfollowed := true, recurses := true, apart := false, narrowed := true }
def FnExactReducedArcsUptoSaid : Prop := fnExactReducedArcsUptoRow.holds Try.pinned (OpenSpec.upto fnExactReducedArcsSpec)

/-- 'laws.FnExactValueOf', WHERE WHAT IT READS IS OF BULK AT MOST 1048576: true; the input reads as it did. -/
def fnExactValueOfUptoRow : OpenClaim := { program := "ytffknfgejoejoaa", sum := "839bcb63a746db2bab2d5c013f16e901529befa4f13cc48194d16c3fe8488a36", func := "loop.example/g00914/laws.FnExactValueOf", spec := "fnExactValueOf", unfollowed := true, recurses := true, apart := false, narrowed := true }
def FnExactValueOfUptoSaid : Prop := fnExactValueOfUptoRow.holds Try.pinned (OpenSpec.upto fnExactValueOfSpec)

end Rows
end Go.Proofs.Ytffknfgejoejoaa
