/-
  No cell of these rows narrows 'for every input' (looked for: loops, veiled, ifaces, maps, wideKeys, modest, calm, conditions, laid).
  DERIVED. THE GIVEN ROWS OF THIS SEAT. 10 by the template 'for every input the law returns true; each argument reads behind the call as it read before'; 0 by the template 'total and deterministic' (their statements: YtpbkobkakedegaaTotals.lean).
  GIVEN WITH THE SEED: the statements are not yours to turn. If you find one false, say at which input.
  Laid BY PROGRAM, IN A SANDBOX (cutbox-rows.mjs): the forced cells as the released guide's own fill.sh prints them over the translation 47c1443adb113109… (all of the seat's roots in one cut). By AI agents, Wed Nov 11 2026. No macro, syntax, notation, axiom, sorry.
-/
import Derived.Test.YtpbkobkakedegaaChecked
import GoSem.Claim
import GoSem.ClaimJoined
import GoSem.ClaimMapViews
import Derived.JoinedTies
import Derived.KernelRfl
namespace Go.Proofs.Ytpbkobkakedegaa
/- THE CELL 'sum', in the pinned program and in every row, IS THE sha256 OF THE DUMP (.gsa) THAT YtpbkobkakedegaaProg.lean LOADS. Nothing in Lean hashes anything: it is a label: what it is worth is what the hold of that sum in a sandbox is worth. -/
noncomputable def Try.pinned : Pinned := { name := "ytpbkobkakedegaa", sum := "47c1443adb1131094d69f7aaaccf5554e7e0a27465ee3b771ba1b55f75b3ad24", checked := Try.checked }
namespace Rows
def none {H : Type} : Left H := { results := [], args := [] }

/-- 'laws.FnExactIsGrid': WHATEVER THE INPUT: true; the input reads as it did. -/
def fnExactIsGridSpec : ChangeSpec := { name := "fnExactIsGrid", fn := fun _ => fun
  | [d] => { results := [.lit (.bool true)], args := [d] }
  | _ => none }
def fnExactIsGridRow : OpenClaim := { program := "ytpbkobkakedegaa", sum := "47c1443adb1131094d69f7aaaccf5554e7e0a27465ee3b771ba1b55f75b3ad24", func := "loop.example/g00914/laws.FnExactIsGrid", spec := "fnExactIsGrid", apart := false }
def FnExactIsGridSaid : Prop := fnExactIsGridRow.holds Try.pinned (OpenSpec.ofChange fnExactIsGridSpec)

/-- ITS FALSE NEIGHBOUR: 'it returns false'. Refute it at one input. -/
def fnExactIsGridWrong : ChangeSpec := { name := "fnExactIsGrid", fn := fun _ => fun
  | [d] => { results := [.lit (.bool false)], args := [d] }
  | _ => none }
def FnExactIsGridWrongFalsely : Prop := fnExactIsGridRow.holds Try.pinned (OpenSpec.ofChange fnExactIsGridWrong)

/-- 'laws.FnExactBlockCount': WHATEVER THE INPUT: true; the input reads as it did. -/
def fnExactBlockCountSpec : ChangeSpec := { name := "fnExactBlockCount", fn := fun _ => fun
  | [d] => { results := [.lit (.bool true)], args := [d] }
  | _ => none }
def fnExactBlockCountRow : OpenClaim := { program := "ytpbkobkakedegaa", sum := "47c1443adb1131094d69f7aaaccf5554e7e0a27465ee3b771ba1b55f75b3ad24", func := "loop.example/g00914/laws.FnExactBlockCount", spec := "fnExactBlockCount", apart := false }
def FnExactBlockCountSaid : Prop := fnExactBlockCountRow.holds Try.pinned (OpenSpec.ofChange fnExactBlockCountSpec)

/-- ITS FALSE NEIGHBOUR: 'it returns false'. Refute it at one input. -/
def fnExactBlockCountWrong : ChangeSpec := { name := "fnExactBlockCount", fn := fun _ => fun
  | [d] => { results := [.lit (.bool false)], args := [d] }
  | _ => none }
def FnExactBlockCountWrongFalsely : Prop := fnExactBlockCountRow.holds Try.pinned (OpenSpec.ofChange fnExactBlockCountWrong)

/-- 'laws.FnExactBlockAt': WHATEVER THE INPUT: true; the input reads as it did. -/
def fnExactBlockAtSpec : ChangeSpec := { name := "fnExactBlockAt", fn := fun _ => fun
  | [d1, d2, d3, d4] => { results := [.lit (.bool true)], args := [d1, d2, d3, d4] }
  | _ => none }
def fnExactBlockAtRow : OpenClaim := { program := "ytpbkobkakedegaa", sum := "47c1443adb1131094d69f7aaaccf5554e7e0a27465ee3b771ba1b55f75b3ad24", func := "loop.example/g00914/laws.FnExactBlockAt", spec := "fnExactBlockAt", apart := false }
def FnExactBlockAtSaid : Prop := fnExactBlockAtRow.holds Try.pinned (OpenSpec.ofChange fnExactBlockAtSpec)

/-- ITS FALSE NEIGHBOUR: 'it returns false'. Refute it at one input. -/
def fnExactBlockAtWrong : ChangeSpec := { name := "fnExactBlockAt", fn := fun _ => fun
  | [d1, d2, d3, d4] => { results := [.lit (.bool false)], args := [d1, d2, d3, d4] }
  | _ => none }
def FnExactBlockAtWrongFalsely : Prop := fnExactBlockAtRow.holds Try.pinned (OpenSpec.ofChange fnExactBlockAtWrong)

/-- 'laws.FnExactPlaceOf': WHATEVER THE INPUT: true; the input reads as it did. -/
def fnExactPlaceOfSpec : ChangeSpec := { name := "fnExactPlaceOf", fn := fun _ => fun
  | [d1, d2] => { results := [.lit (.bool true)], args := [d1, d2] }
  | _ => none }
def fnExactPlaceOfRow : OpenClaim := { program := "ytpbkobkakedegaa", sum := "47c1443adb1131094d69f7aaaccf5554e7e0a27465ee3b771ba1b55f75b3ad24", func := "loop.example/g00914/laws.FnExactPlaceOf", spec := "fnExactPlaceOf", apart := false }
def FnExactPlaceOfSaid : Prop := fnExactPlaceOfRow.holds Try.pinned (OpenSpec.ofChange fnExactPlaceOfSpec)

/-- ITS FALSE NEIGHBOUR: 'it returns false'. Refute it at one input. -/
def fnExactPlaceOfWrong : ChangeSpec := { name := "fnExactPlaceOf", fn := fun _ => fun
  | [d1, d2] => { results := [.lit (.bool false)], args := [d1, d2] }
  | _ => none }
def FnExactPlaceOfWrongFalsely : Prop := fnExactPlaceOfRow.holds Try.pinned (OpenSpec.ofChange fnExactPlaceOfWrong)

/-- 'laws.FnExactLevelBlocks': WHATEVER THE INPUT: true; the input reads as it did. -/
def fnExactLevelBlocksSpec : ChangeSpec := { name := "fnExactLevelBlocks", fn := fun _ => fun
  | [d1, d2] => { results := [.lit (.bool true)], args := [d1, d2] }
  | _ => none }
def fnExactLevelBlocksRow : OpenClaim := { program := "ytpbkobkakedegaa", sum := "47c1443adb1131094d69f7aaaccf5554e7e0a27465ee3b771ba1b55f75b3ad24", func := "loop.example/g00914/laws.FnExactLevelBlocks", spec := "fnExactLevelBlocks", unfollowed := true, recurses := true, apart := false }
def FnExactLevelBlocksSaid : Prop := fnExactLevelBlocksRow.holds Try.pinned (OpenSpec.ofChange fnExactLevelBlocksSpec)

/-- ITS FALSE NEIGHBOUR: 'it returns false'. Refute it at one input. -/
def fnExactLevelBlocksWrong : ChangeSpec := { name := "fnExactLevelBlocks", fn := fun _ => fun
  | [d1, d2] => { results := [.lit (.bool false)], args := [d1, d2] }
  | _ => none }
def FnExactLevelBlocksWrongFalsely : Prop := fnExactLevelBlocksRow.holds Try.pinned (OpenSpec.ofChange fnExactLevelBlocksWrong)

/-- 'laws.FnExactColumnBlocks': WHATEVER THE INPUT: true; the input reads as it did. -/
def fnExactColumnBlocksSpec : ChangeSpec := { name := "fnExactColumnBlocks", fn := fun _ => fun
  | [d1, d2, d3] => { results := [.lit (.bool true)], args := [d1, d2, d3] }
  | _ => none }
def fnExactColumnBlocksRow : OpenClaim := { program := "ytpbkobkakedegaa", sum := "47c1443adb1131094d69f7aaaccf5554e7e0a27465ee3b771ba1b55f75b3ad24", func := "loop.example/g00914/laws.FnExactColumnBlocks", spec := "fnExactColumnBlocks", unfollowed := true, recurses := true, apart := false }
def FnExactColumnBlocksSaid : Prop := fnExactColumnBlocksRow.holds Try.pinned (OpenSpec.ofChange fnExactColumnBlocksSpec)

/-- ITS FALSE NEIGHBOUR: 'it returns false'. Refute it at one input. -/
def fnExactColumnBlocksWrong : ChangeSpec := { name := "fnExactColumnBlocks", fn := fun _ => fun
  | [d1, d2, d3] => { results := [.lit (.bool false)], args := [d1, d2, d3] }
  | _ => none }
def FnExactColumnBlocksWrongFalsely : Prop := fnExactColumnBlocksRow.holds Try.pinned (OpenSpec.ofChange fnExactColumnBlocksWrong)

/-- 'laws.FnExactNeighboursOf': WHATEVER THE INPUT: true; the input reads as it did. -/
def fnExactNeighboursOfSpec : ChangeSpec := { name := "fnExactNeighboursOf", fn := fun _ => fun
  | [d1, d2] => { results := [.lit (.bool true)], args := [d1, d2] }
  | _ => none }
def fnExactNeighboursOfRow : OpenClaim := { program := "ytpbkobkakedegaa", sum := "47c1443adb1131094d69f7aaaccf5554e7e0a27465ee3b771ba1b55f75b3ad24", func := "loop.example/g00914/laws.FnExactNeighboursOf", spec := "fnExactNeighboursOf", unfollowed := true, recurses := true, apart := false }
def FnExactNeighboursOfSaid : Prop := fnExactNeighboursOfRow.holds Try.pinned (OpenSpec.ofChange fnExactNeighboursOfSpec)

/-- ITS FALSE NEIGHBOUR: 'it returns false'. Refute it at one input. -/
def fnExactNeighboursOfWrong : ChangeSpec := { name := "fnExactNeighboursOf", fn := fun _ => fun
  | [d1, d2] => { results := [.lit (.bool false)], args := [d1, d2] }
  | _ => none }
def FnExactNeighboursOfWrongFalsely : Prop := fnExactNeighboursOfRow.holds Try.pinned (OpenSpec.ofChange fnExactNeighboursOfWrong)

/-- 'laws.FnExactBoxOf': WHATEVER THE INPUT: true; the input reads as it did. -/
def fnExactBoxOfSpec : ChangeSpec := { name := "fnExactBoxOf", fn := fun _ => fun
  | [d1, d2, d3] => { results := [.lit (.bool true)], args := [d1, d2, d3] }
  | _ => none }
def fnExactBoxOfRow : OpenClaim := { program := "ytpbkobkakedegaa", sum := "47c1443adb1131094d69f7aaaccf5554e7e0a27465ee3b771ba1b55f75b3ad24", func := "loop.example/g00914/laws.FnExactBoxOf", spec := "fnExactBoxOf", unfollowed := true, recurses := true, apart := false }
def FnExactBoxOfSaid : Prop := fnExactBoxOfRow.holds Try.pinned (OpenSpec.ofChange fnExactBoxOfSpec)

/-- ITS FALSE NEIGHBOUR: 'it returns false'. Refute it at one input. -/
def fnExactBoxOfWrong : ChangeSpec := { name := "fnExactBoxOf", fn := fun _ => fun
  | [d1, d2, d3] => { results := [.lit (.bool false)], args := [d1, d2, d3] }
  | _ => none }
def FnExactBoxOfWrongFalsely : Prop := fnExactBoxOfRow.holds Try.pinned (OpenSpec.ofChange fnExactBoxOfWrong)

/-- 'laws.FnExactStepsBetween': WHATEVER THE INPUT: true; the input reads as it did. -/
def fnExactStepsBetweenSpec : ChangeSpec := { name := "fnExactStepsBetween", fn := fun _ => fun
  | [d1, d2, d3] => { results := [.lit (.bool true)], args := [d1, d2, d3] }
  | _ => none }
def fnExactStepsBetweenRow : OpenClaim := { program := "ytpbkobkakedegaa", sum := "47c1443adb1131094d69f7aaaccf5554e7e0a27465ee3b771ba1b55f75b3ad24", func := "loop.example/g00914/laws.FnExactStepsBetween", spec := "fnExactStepsBetween", apart := false }
def FnExactStepsBetweenSaid : Prop := fnExactStepsBetweenRow.holds Try.pinned (OpenSpec.ofChange fnExactStepsBetweenSpec)

/-- ITS FALSE NEIGHBOUR: 'it returns false'. Refute it at one input. -/
def fnExactStepsBetweenWrong : ChangeSpec := { name := "fnExactStepsBetween", fn := fun _ => fun
  | [d1, d2, d3] => { results := [.lit (.bool false)], args := [d1, d2, d3] }
  | _ => none }
def FnExactStepsBetweenWrongFalsely : Prop := fnExactStepsBetweenRow.holds Try.pinned (OpenSpec.ofChange fnExactStepsBetweenWrong)

/-- 'laws.FnExactParseBlock': WHATEVER THE INPUT: true; the input reads as it did. -/
def fnExactParseBlockSpec : ChangeSpec := { name := "fnExactParseBlock", fn := fun _ => fun
  | [d1, d2] => { results := [.lit (.bool true)], args := [d1, d2] }
  | _ => none }
def fnExactParseBlockRow : OpenClaim := { program := "ytpbkobkakedegaa", sum := "47c1443adb1131094d69f7aaaccf5554e7e0a27465ee3b771ba1b55f75b3ad24", func := "loop.example/g00914/laws.FnExactParseBlock", spec := "fnExactParseBlock", apart := false }
def FnExactParseBlockSaid : Prop := fnExactParseBlockRow.holds Try.pinned (OpenSpec.ofChange fnExactParseBlockSpec)

/-- ITS FALSE NEIGHBOUR: 'it returns false'. Refute it at one input. -/
def fnExactParseBlockWrong : ChangeSpec := { name := "fnExactParseBlock", fn := fun _ => fun
  | [d1, d2] => { results := [.lit (.bool false)], args := [d1, d2] }
  | _ => none }
def FnExactParseBlockWrongFalsely : Prop := fnExactParseBlockRow.holds Try.pinned (OpenSpec.ofChange fnExactParseBlockWrong)

/- THE SECOND FORM. 'bulk': how many values and letters a reading holds, each counted each time it is reached (what is shared counts as often as it is met; a slice's spare places count too). A statement '..UptoSaid' is the law's where the arguments, and the package variables that the reading takes, are together of bulk at most 1048576: NARROWER than '..Said'. Prove '..Said' where nothing that the law and all that it calls make is longer than what came in: it says more and counts as full. Else prove '..UptoSaid'. A law counts once. -/
mutual
def uptoBulk {H : Type} : DataW H → Nat
  | .lit (.string bytes) => bytes.length + 1
  | .lit _ => 1
  | .nil => 1
  | .ptr d => uptoBulk d + 1
  | .slice elems spare => uptoBulkAll elems + uptoBulkAll spare + 1
  | .agg parts => uptoBulkAll parts + 1
  | .iface _ d => uptoBulk d + 1
  | .map entries => uptoBulkEntries entries + 1
  | .held _ => 1
def uptoBulkAll {H : Type} : List (DataW H) → Nat
  | [] => 0
  | d :: r => uptoBulk d + uptoBulkAll r
def uptoBulkEntries {H : Type} : List (Lit × DataW H) → Nat
  | [] => 0
  | x :: r => uptoBulkEntry x + uptoBulkEntries r
def uptoBulkEntry {H : Type} : Lit × DataW H → Nat
  | (.string bytes, d) => bytes.length + uptoBulk d + 1
  | (_, d) => uptoBulk d + 1
 end
def uptoSmall : (H : Type) → List (DataW H) → Bool := fun _ ds => decide (uptoBulkAll ds ≤ 1048576)
def OpenSpec.upto (s : _root_.Go.ChangeSpec) : _root_.Go.OpenSpec := { _root_.Go.OpenSpec.ofChange s with cond := some uptoSmall }

/-- 'laws.FnExactIsGrid', WHERE WHAT IT READS IS OF BULK AT MOST 1048576: true; the input reads as it did. -/
def fnExactIsGridUptoRow : OpenClaim := { program := "ytpbkobkakedegaa", sum := "47c1443adb1131094d69f7aaaccf5554e7e0a27465ee3b771ba1b55f75b3ad24", func := "loop.example/g00914/laws.FnExactIsGrid", spec := "fnExactIsGrid", apart := false, narrowed := true }
def FnExactIsGridUptoSaid : Prop := fnExactIsGridUptoRow.holds Try.pinned (OpenSpec.upto fnExactIsGridSpec)

/-- 'laws.FnExactBlockCount', WHERE WHAT IT READS IS OF BULK AT MOST 1048576: true; the input reads as it did. -/
def fnExactBlockCountUptoRow : OpenClaim := { program := "ytpbkobkakedegaa", sum := "47c1443adb1131094d69f7aaaccf5554e7e0a27465ee3b771ba1b55f75b3ad24", func := "loop.example/g00914/laws.FnExactBlockCount", spec := "fnExactBlockCount", apart := false, narrowed := true }
def FnExactBlockCountUptoSaid : Prop := fnExactBlockCountUptoRow.holds Try.pinned (OpenSpec.upto fnExactBlockCountSpec)

/-- 'laws.FnExactBlockAt', WHERE WHAT IT READS IS OF BULK AT MOST 1048576: true; the input reads as it did. -/
def fnExactBlockAtUptoRow : OpenClaim := { program := "ytpbkobkakedegaa", sum := "47c1443adb1131094d69f7aaaccf5554e7e0a27465ee3b771ba1b55f75b3ad24", func := "loop.example/g00914/laws.FnExactBlockAt", spec := "fnExactBlockAt", apart := false, narrowed := true }
def FnExactBlockAtUptoSaid : Prop := fnExactBlockAtUptoRow.holds Try.pinned (OpenSpec.upto fnExactBlockAtSpec)

/-- 'laws.FnExactPlaceOf', WHERE WHAT IT READS IS OF BULK AT MOST 1048576: true; the input reads as it did. -/
def fnExactPlaceOfUptoRow : OpenClaim := { program := "ytpbkobkakedegaa", sum := "47c1443adb1131094d69f7aaaccf5554e7e0a27465ee3b771ba1b55f75b3ad24", func := "loop.example/g00914/laws.FnExactPlaceOf", spec := "fnExactPlaceOf", apart := false, narrowed := true }
def FnExactPlaceOfUptoSaid : Prop := fnExactPlaceOfUptoRow.holds Try.pinned (OpenSpec.upto fnExactPlaceOfSpec)

/-- 'laws.FnExactLevelBlocks', WHERE WHAT IT READS IS OF BULK AT MOST 1048576: true; the input reads as it did. -/
def fnExactLevelBlocksUptoRow : OpenClaim := { program := "ytpbkobkakedegaa", sum := "47c1443adb1131094d69f7aaaccf5554e7e0a27465ee3b771ba1b55f75b3ad24", func := "loop.example/g00914/laws.FnExactLevelBlocks", spec := "fnExactLevelBlocks", unfollowed := true, recurses := true, apart := false, narrowed := true }
def FnExactLevelBlocksUptoSaid : Prop := fnExactLevelBlocksUptoRow.holds Try.pinned (OpenSpec.upto fnExactLevelBlocksSpec)

/-- 'laws.FnExactColumnBlocks', WHERE WHAT IT READS IS OF BULK AT MOST 1048576: true; the input reads as it did. -/
def fnExactColumnBlocksUptoRow : OpenClaim := { program := "ytpbkobkakedegaa", sum := "47c1443adb1131094d69f7aaaccf5554e7e0a27465ee3b771ba1b55f75b3ad24", func := "loop.example/g00914/laws.FnExactColumnBlocks", spec := "fnExactColumnBlocks", unfollowed := true, recurses := true, apart := false, narrowed := true }
def FnExactColumnBlocksUptoSaid : Prop := fnExactColumnBlocksUptoRow.holds Try.pinned (OpenSpec.upto fnExactColumnBlocksSpec)

/-- 'laws.FnExactNeighboursOf', WHERE WHAT IT READS IS OF BULK AT MOST 1048576: true; the input reads as it did. -/
def fnExactNeighboursOfUptoRow : OpenClaim := { program := "ytpbkobkakedegaa", sum := "47c1443adb1131094d69f7aaaccf5554e7e0a27465ee3b771ba1b55f75b3ad24", func := "loop.example/g00914/laws.FnExactNeighboursOf", spec := "fnExactNeighboursOf", unfollowed := true, recurses := true, apart := false, narrowed := true }
def FnExactNeighboursOfUptoSaid : Prop := fnExactNeighboursOfUptoRow.holds Try.pinned (OpenSpec.upto fnExactNeighboursOfSpec)

/-- 'laws.FnExactBoxOf', WHERE WHAT IT READS IS OF BULK AT MOST 1048576: true; the input reads as it did. -/
def fnExactBoxOfUptoRow : OpenClaim := { program := "ytpbkobkakedegaa", sum := "47c1443adb1131094d69f7aaaccf5554e7e0a27465ee3b771ba1b55f75b3ad24", func := "loop.example/g00914/laws.FnExactBoxOf", spec := "fnExactBoxOf", unfollowed := true, recurses := true, apart := false, narrowed := true }
def FnExactBoxOfUptoSaid : Prop := fnExactBoxOfUptoRow.holds Try.pinned (OpenSpec.upto fnExactBoxOfSpec)

/-- 'laws.FnExactStepsBetween', WHERE WHAT IT READS IS OF BULK AT MOST 1048576: true; the input reads as it did. -/
def fnExactStepsBetweenUptoRow : OpenClaim := { program := "ytpbkobkakedegaa", sum := "47c1443adb1131094d69f7aaaccf5554e7e0a27465ee3b771ba1b55f75b3ad24", func := "loop.example/g00914/laws.FnExactStepsBetween", spec := "fnExactStepsBetween", apart := false, narrowed := true }
def FnExactStepsBetweenUptoSaid : Prop := fnExactStepsBetweenUptoRow.holds Try.pinned (OpenSpec.upto fnExactStepsBetweenSpec)

/-- 'laws.FnExactParseBlock', WHERE WHAT IT READS IS OF BULK AT MOST 1048576: true; the input reads as it did. -/
def fnExactParseBlockUptoRow : OpenClaim := { program := "ytpbkobkakedegaa", sum := "47c1443adb1131094d69f7aaaccf5554e7e0a27465ee3b771ba1b55f75b3ad24", func := "loop.example/g00914/laws.FnExactParseBlock", spec := "fnExactParseBlock", apart := false, narrowed := true }
def FnExactParseBlockUptoSaid : Prop := fnExactParseBlockUptoRow.holds Try.pinned (OpenSpec.upto fnExactParseBlockSpec)

end Rows
end Go.Proofs.Ytpbkobkakedegaa
