/-
  No cell of these rows narrows 'for every input' (looked for: loops, veiled, ifaces, maps, wideKeys, modest, calm, conditions, laid).
  DERIVED. THE GIVEN ROWS OF THIS SEAT. 9 by the template 'for every input the law returns true; each argument reads behind the call as it read before'; 0 by the template 'total and deterministic' (their statements: YtglcdgonbmdhoaaTotals.lean).
  GIVEN WITH THE SEED: the statements are not yours to turn. If you find one false, say at which input.
  Laid BY PROGRAM, IN A SANDBOX (cutbox-rows.mjs): the forced cells as the released guide's own fill.sh prints them over the translation 8b97ed93828a5c7a… (all of the seat's roots in one cut). By AI agents, Wed Nov 11 2026. No macro, syntax, notation, axiom, sorry.
-/
import Derived.Test.YtglcdgonbmdhoaaChecked
import GoSem.Claim
import GoSem.ClaimJoined
import GoSem.ClaimMapViews
import Derived.JoinedTies
import Derived.KernelRfl
namespace Go.Proofs.Ytglcdgonbmdhoaa
/- THE CELL 'sum', in the pinned program and in every row, IS THE sha256 OF THE DUMP (.gsa) THAT YtglcdgonbmdhoaaProg.lean LOADS. Nothing in Lean hashes anything: it is a label: what it is worth is what the hold of that sum in a sandbox is worth. -/
noncomputable def Try.pinned : Pinned := { name := "ytglcdgonbmdhoaa", sum := "8b97ed93828a5c7a7770fa64e550a6326541f31d675cdc3f23ddc77ecff8aac8", checked := Try.checked }
namespace Rows
def none {H : Type} : Left H := { results := [], args := [] }

/-- 'laws.FnExactMetalOf': WHATEVER THE INPUT: true; the input reads as it did. -/
def fnExactMetalOfSpec : ChangeSpec := { name := "fnExactMetalOf", fn := fun _ => fun
  | [d1, d2] => { results := [.lit (.bool true)], args := [d1, d2] }
  | _ => none }
def fnExactMetalOfRow : OpenClaim := { program := "ytglcdgonbmdhoaa", sum := "8b97ed93828a5c7a7770fa64e550a6326541f31d675cdc3f23ddc77ecff8aac8", func := "loop.example/g00914/laws.FnExactMetalOf", spec := "fnExactMetalOf", apart := false }
def FnExactMetalOfSaid : Prop := fnExactMetalOfRow.holds Try.pinned (OpenSpec.ofChange fnExactMetalOfSpec)

/-- ITS FALSE NEIGHBOUR: 'it returns false'. Refute it at one input. -/
def fnExactMetalOfWrong : ChangeSpec := { name := "fnExactMetalOf", fn := fun _ => fun
  | [d1, d2] => { results := [.lit (.bool false)], args := [d1, d2] }
  | _ => none }
def FnExactMetalOfWrongFalsely : Prop := fnExactMetalOfRow.holds Try.pinned (OpenSpec.ofChange fnExactMetalOfWrong)

/-- 'laws.FnExactSumsOf': WHATEVER THE INPUT: true; the input reads as it did. -/
def fnExactSumsOfSpec : ChangeSpec := { name := "fnExactSumsOf", fn := fun _ => fun
  | [d1, d2] => { results := [.lit (.bool true)], args := [d1, d2] }
  | _ => none }
def fnExactSumsOfRow : OpenClaim := { program := "ytglcdgonbmdhoaa", sum := "8b97ed93828a5c7a7770fa64e550a6326541f31d675cdc3f23ddc77ecff8aac8", func := "loop.example/g00914/laws.FnExactSumsOf", spec := "fnExactSumsOf", unfollowed := true, recurses := true, apart := false }
def FnExactSumsOfSaid : Prop := fnExactSumsOfRow.holds Try.pinned (OpenSpec.ofChange fnExactSumsOfSpec)

/-- ITS FALSE NEIGHBOUR: 'it returns false'. Refute it at one input. -/
def fnExactSumsOfWrong : ChangeSpec := { name := "fnExactSumsOf", fn := fun _ => fun
  | [d1, d2] => { results := [.lit (.bool false)], args := [d1, d2] }
  | _ => none }
def FnExactSumsOfWrongFalsely : Prop := fnExactSumsOfRow.holds Try.pinned (OpenSpec.ofChange fnExactSumsOfWrong)

/-- 'laws.FnExactMeanGrade': WHATEVER THE INPUT: true; the input reads as it did. -/
def fnExactMeanGradeSpec : ChangeSpec := { name := "fnExactMeanGrade", fn := fun _ => fun
  | [d1, d2] => { results := [.lit (.bool true)], args := [d1, d2] }
  | _ => none }
def fnExactMeanGradeRow : OpenClaim := { program := "ytglcdgonbmdhoaa", sum := "8b97ed93828a5c7a7770fa64e550a6326541f31d675cdc3f23ddc77ecff8aac8", func := "loop.example/g00914/laws.FnExactMeanGrade", spec := "fnExactMeanGrade", unfollowed := true, recurses := true, apart := false }
def FnExactMeanGradeSaid : Prop := fnExactMeanGradeRow.holds Try.pinned (OpenSpec.ofChange fnExactMeanGradeSpec)

/-- ITS FALSE NEIGHBOUR: 'it returns false'. Refute it at one input. -/
def fnExactMeanGradeWrong : ChangeSpec := { name := "fnExactMeanGrade", fn := fun _ => fun
  | [d1, d2] => { results := [.lit (.bool false)], args := [d1, d2] }
  | _ => none }
def FnExactMeanGradeWrongFalsely : Prop := fnExactMeanGradeRow.holds Try.pinned (OpenSpec.ofChange fnExactMeanGradeWrong)

/-- 'laws.FnExactRichestBlock': WHATEVER THE INPUT: true; the input reads as it did. -/
def fnExactRichestBlockSpec : ChangeSpec := { name := "fnExactRichestBlock", fn := fun _ => fun
  | [d] => { results := [.lit (.bool true)], args := [d] }
  | _ => none }
def fnExactRichestBlockRow : OpenClaim := { program := "ytglcdgonbmdhoaa", sum := "8b97ed93828a5c7a7770fa64e550a6326541f31d675cdc3f23ddc77ecff8aac8", func := "loop.example/g00914/laws.FnExactRichestBlock", spec := "fnExactRichestBlock", apart := false }
def FnExactRichestBlockSaid : Prop := fnExactRichestBlockRow.holds Try.pinned (OpenSpec.ofChange fnExactRichestBlockSpec)

/-- ITS FALSE NEIGHBOUR: 'it returns false'. Refute it at one input. -/
def fnExactRichestBlockWrong : ChangeSpec := { name := "fnExactRichestBlock", fn := fun _ => fun
  | [d] => { results := [.lit (.bool false)], args := [d] }
  | _ => none }
def FnExactRichestBlockWrongFalsely : Prop := fnExactRichestBlockRow.holds Try.pinned (OpenSpec.ofChange fnExactRichestBlockWrong)

/-- 'laws.FnExactAboveGrade': WHATEVER THE INPUT: true; the input reads as it did. -/
def fnExactAboveGradeSpec : ChangeSpec := { name := "fnExactAboveGrade", fn := fun _ => fun
  | [d1, d2] => { results := [.lit (.bool true)], args := [d1, d2] }
  | _ => none }
def fnExactAboveGradeRow : OpenClaim := { program := "ytglcdgonbmdhoaa", sum := "8b97ed93828a5c7a7770fa64e550a6326541f31d675cdc3f23ddc77ecff8aac8", func := "loop.example/g00914/laws.FnExactAboveGrade", spec := "fnExactAboveGrade", unfollowed := true, recurses := true, apart := false }
def FnExactAboveGradeSaid : Prop := fnExactAboveGradeRow.holds Try.pinned (OpenSpec.ofChange fnExactAboveGradeSpec)

/-- ITS FALSE NEIGHBOUR: 'it returns false'. Refute it at one input. -/
def fnExactAboveGradeWrong : ChangeSpec := { name := "fnExactAboveGrade", fn := fun _ => fun
  | [d1, d2] => { results := [.lit (.bool false)], args := [d1, d2] }
  | _ => none }
def FnExactAboveGradeWrongFalsely : Prop := fnExactAboveGradeRow.holds Try.pinned (OpenSpec.ofChange fnExactAboveGradeWrong)

/-- 'laws.FnExactRockTonnes': WHATEVER THE INPUT: true; the input reads as it did. -/
def fnExactRockTonnesSpec : ChangeSpec := { name := "fnExactRockTonnes", fn := fun _ => fun
  | [d] => { results := [.lit (.bool true)], args := [d] }
  | _ => none }
def fnExactRockTonnesRow : OpenClaim := { program := "ytglcdgonbmdhoaa", sum := "8b97ed93828a5c7a7770fa64e550a6326541f31d675cdc3f23ddc77ecff8aac8", func := "loop.example/g00914/laws.FnExactRockTonnes", spec := "fnExactRockTonnes", unfollowed := true, recurses := true, apart := false }
def FnExactRockTonnesSaid : Prop := fnExactRockTonnesRow.holds Try.pinned (OpenSpec.ofChange fnExactRockTonnesSpec)

/-- ITS FALSE NEIGHBOUR: 'it returns false'. Refute it at one input. -/
def fnExactRockTonnesWrong : ChangeSpec := { name := "fnExactRockTonnes", fn := fun _ => fun
  | [d] => { results := [.lit (.bool false)], args := [d] }
  | _ => none }
def FnExactRockTonnesWrongFalsely : Prop := fnExactRockTonnesRow.holds Try.pinned (OpenSpec.ofChange fnExactRockTonnesWrong)

/-- 'laws.FnExactLevelSums': WHATEVER THE INPUT: true; the input reads as it did. -/
def fnExactLevelSumsSpec : ChangeSpec := { name := "fnExactLevelSums", fn := fun _ => fun
  | [d] => { results := [.lit (.bool true)], args := [d] }
  | _ => none }
def fnExactLevelSumsRow : OpenClaim := { program := "ytglcdgonbmdhoaa", sum := "8b97ed93828a5c7a7770fa64e550a6326541f31d675cdc3f23ddc77ecff8aac8", func := "loop.example/g00914/laws.FnExactLevelSums", spec := "fnExactLevelSums", unfollowed := true, recurses := true, apart := false }
def FnExactLevelSumsSaid : Prop := fnExactLevelSumsRow.holds Try.pinned (OpenSpec.ofChange fnExactLevelSumsSpec)

/-- ITS FALSE NEIGHBOUR: 'it returns false'. Refute it at one input. -/
def fnExactLevelSumsWrong : ChangeSpec := { name := "fnExactLevelSums", fn := fun _ => fun
  | [d] => { results := [.lit (.bool false)], args := [d] }
  | _ => none }
def FnExactLevelSumsWrongFalsely : Prop := fnExactLevelSumsRow.holds Try.pinned (OpenSpec.ofChange fnExactLevelSumsWrong)

/-- 'laws.FnExactEmptyBlocks': WHATEVER THE INPUT: true; the input reads as it did. -/
def fnExactEmptyBlocksSpec : ChangeSpec := { name := "fnExactEmptyBlocks", fn := fun _ => fun
  | [d1, d2] => { results := [.lit (.bool true)], args := [d1, d2] }
  | _ => none }
def fnExactEmptyBlocksRow : OpenClaim := { program := "ytglcdgonbmdhoaa", sum := "8b97ed93828a5c7a7770fa64e550a6326541f31d675cdc3f23ddc77ecff8aac8", func := "loop.example/g00914/laws.FnExactEmptyBlocks", spec := "fnExactEmptyBlocks", apart := false }
def FnExactEmptyBlocksSaid : Prop := fnExactEmptyBlocksRow.holds Try.pinned (OpenSpec.ofChange fnExactEmptyBlocksSpec)

/-- ITS FALSE NEIGHBOUR: 'it returns false'. Refute it at one input. -/
def fnExactEmptyBlocksWrong : ChangeSpec := { name := "fnExactEmptyBlocks", fn := fun _ => fun
  | [d1, d2] => { results := [.lit (.bool false)], args := [d1, d2] }
  | _ => none }
def FnExactEmptyBlocksWrongFalsely : Prop := fnExactEmptyBlocksRow.holds Try.pinned (OpenSpec.ofChange fnExactEmptyBlocksWrong)

/-- 'laws.FnExactSetBlock': WHATEVER THE INPUT: true; the input reads as it did. -/
def fnExactSetBlockSpec : ChangeSpec := { name := "fnExactSetBlock", fn := fun _ => fun
  | [d1, d2, d3, d4, d5] => { results := [.lit (.bool true)], args := [d1, d2, d3, d4, d5] }
  | _ => none }
def fnExactSetBlockRow : OpenClaim := { program := "ytglcdgonbmdhoaa", sum := "8b97ed93828a5c7a7770fa64e550a6326541f31d675cdc3f23ddc77ecff8aac8", func := "loop.example/g00914/laws.FnExactSetBlock", spec := "fnExactSetBlock", apart := false }
def FnExactSetBlockSaid : Prop := fnExactSetBlockRow.holds Try.pinned (OpenSpec.ofChange fnExactSetBlockSpec)

/-- ITS FALSE NEIGHBOUR: 'it returns false'. Refute it at one input. -/
def fnExactSetBlockWrong : ChangeSpec := { name := "fnExactSetBlock", fn := fun _ => fun
  | [d1, d2, d3, d4, d5] => { results := [.lit (.bool false)], args := [d1, d2, d3, d4, d5] }
  | _ => none }
def FnExactSetBlockWrongFalsely : Prop := fnExactSetBlockRow.holds Try.pinned (OpenSpec.ofChange fnExactSetBlockWrong)

/- THE SECOND FORM. 'bulk': how many values and letters a reading holds, each counted each time it is reached (what is shared counts as often as it is met; a slice's spare places count too). A statement '..UptoSaid' is the law's where the arguments, and the package variables that the reading takes, are together of bulk at most 1048576: NARROWER than '..Said'. Prove '..Said' where nothing that the law and all that it calls make is longer than what came in: it says more and counts as full. Else prove '..UptoSaid'. A law counts once. -/
mutual
def uptoBulk {H : Type} : DataW H → Nat
  | .lit (.string bytes) => bytes.length + 1
  | .lit _ => 1
  | .nil => 1
  | .ptr d => uptoBulk d + 1
  | .slice elems spare => uptoBulkAll elems + uptoBulkAll spare + 1
  | .agg parts => uptoBulkAll parts + 1
  | .iface _ d => uptoBulk d + 1
  | .map entries => uptoBulkEntries entries + 1
  | .held _ => 1
def uptoBulkAll {H : Type} : List (DataW H) → Nat
  | [] => 0
  | d :: r => uptoBulk d + uptoBulkAll r
def uptoBulkEntries {H : Type} : List (Lit × DataW H) → Nat
  | [] => 0
  | x :: r => uptoBulkEntry x + uptoBulkEntries r
def uptoBulkEntry {H : Type} : Lit × DataW H → Nat
  | (.string bytes, d) => bytes.length + uptoBulk d + 1
  | (_, d) => uptoBulk d + 1
 end
def uptoSmall : (H : Type) → List (DataW H) → Bool := fun _ ds => decide (uptoBulkAll ds ≤ 1048576)
def OpenSpec.upto (s : _root_.Go.ChangeSpec) : _root_.Go.OpenSpec := { _root_.Go.OpenSpec.ofChange s with cond := some uptoSmall }

/-- 'laws.FnExactMetalOf', WHERE WHAT IT READS IS OF BULK AT MOST 1048576: true; the input reads as it did. -/
def fnExactMetalOfUptoRow : OpenClaim := { program := "ytglcdgonbmdhoaa", sum := "8b97ed93828a5c7a7770fa64e550a6326541f31d675cdc3f23ddc77ecff8aac8", func := "loop.example/g00914/laws.FnExactMetalOf", spec := "fnExactMetalOf", apart := false, narrowed := true }
def FnExactMetalOfUptoSaid : Prop := fnExactMetalOfUptoRow.holds Try.pinned (OpenSpec.upto fnExactMetalOfSpec)

/-- 'laws.FnExactSumsOf', WHERE WHAT IT READS IS OF BULK AT MOST 1048576: true; the input reads as it did. -/
def fnExactSumsOfUptoRow : OpenClaim := { program := "ytglcdgonbmdhoaa", sum := "8b97ed93828a5c7a7770fa64e550a6326541f31d675cdc3f23ddc77ecff8aac8", func := "loop.example/g00914/laws.FnExactSumsOf", spec := "fnExactSumsOf", unfollowed := true, recurses := true, apart := false, narrowed := true }
def FnExactSumsOfUptoSaid : Prop := fnExactSumsOfUptoRow.holds Try.pinned (OpenSpec.upto fnExactSumsOfSpec)

/-- 'laws.FnExactMeanGrade', WHERE WHAT IT READS IS OF BULK AT MOST 1048576: true; the input reads as it did. -/
def fnExactMeanGradeUptoRow : OpenClaim := { program := "ytglcdgonbmdhoaa", sum := "8b97ed93828a5c7a7770fa64e550a6326541f31d675cdc3f23ddc77ecff8aac8", func := "loop.example/g00914/laws.FnExactMeanGrade", spec := "fnExactMeanGrade", unfollowed := true, recurses := true, apart := false, narrowed := true }
def FnExactMeanGradeUptoSaid : Prop := fnExactMeanGradeUptoRow.holds Try.pinned (OpenSpec.upto fnExactMeanGradeSpec)

/-- 'laws.FnExactRichestBlock', WHERE WHAT IT READS IS OF BULK AT MOST 1048576: true; the input reads as it did. -/
def fnExactRichestBlockUptoRow : OpenClaim := { program := "ytglcdgonbmdhoaa", sum := "8b97ed93828a5c7a7770fa64e550a6326541f31d675cdc3f23ddc77ecff8aac8", func := "loop.example/g00914/laws.FnExactRichestBlock", spec := "fnExactRichestBlock", apart := false, narrowed := true }
def FnExactRichestBlockUptoSaid : Prop := fnExactRichestBlockUptoRow.holds Try.pinned (OpenSpec.upto fnExactRichestBlockSpec)

/-- 'laws.FnExactAboveGrade', WHERE WHAT IT READS IS OF BULK AT MOST 1048576: true; the input reads as it did. -/
def fnExactAboveGradeUptoRow : OpenClaim := { program := "ytglcdgonbmdhoaa", sum := "8b97ed93828a5c7a7770fa64e550a6326541f31d675cdc3f23ddc77ecff8aac8", func := "loop.example/g00914/laws.FnExactAboveGrade", spec := "fnExactAboveGrade", unfollowed := true, recurses := true, apart := false, narrowed := true }
def FnExactAboveGradeUptoSaid : Prop := fnExactAboveGradeUptoRow.holds Try.pinned (OpenSpec.upto fnExactAboveGradeSpec)

/-- 'laws.FnExactRockTonnes', WHERE WHAT IT READS IS OF BULK AT MOST 1048576: true; the input reads as it did. -/
def fnExactRockTonnesUptoRow : OpenClaim := { program := "ytglcdgonbmdhoaa", sum := "8b97ed93828a5c7a7770fa64e550a6326541f31d675cdc3f23ddc77ecff8aac8", func := "loop.example/g00914/laws.FnExactRockTonnes", spec := "fnExactRockTonnes", unfollowed := true, recurses := true, apart := false, narrowed := true }
def FnExactRockTonnesUptoSaid : Prop := fnExactRockTonnesUptoRow.holds Try.pinned (OpenSpec.upto fnExactRockTonnesSpec)

/-- 'laws.FnExactLevelSums', WHERE WHAT IT READS IS OF BULK AT MOST 1048576: true; the input reads as it did. -/
def fnExactLevelSumsUptoRow : OpenClaim := { program := "ytglcdgonbmdhoaa", sum := "8b97ed93828a5c7a7770fa64e550a6326541f31d675cdc3f23ddc77ecff8aac8", func := "loop.example/g00914/laws.FnExactLevelSums", spec := "fnExactLevelSums", unfollowed := true, recurses := true, apart := false, narrowed := true }
def FnExactLevelSumsUptoSaid : Prop := fnExactLevelSumsUptoRow.holds Try.pinned (OpenSpec.upto fnExactLevelSumsSpec)

/-- 'laws.FnExactEmptyBlocks', WHERE WHAT IT READS IS OF BULK AT MOST 1048576: true; the input reads as it did. -/
def fnExactEmptyBlocksUptoRow : OpenClaim := { program := "ytglcdgonbmdhoaa", sum := "8b97ed93828a5c7a7770fa64e550a6326541f31d675cdc3f23ddc77ecff8aac8", func := "loop.example/g00914/laws.FnExactEmptyBlocks", spec := "fnExactEmptyBlocks", apart := false, narrowed := true }
def FnExactEmptyBlocksUptoSaid : Prop := fnExactEmptyBlocksUptoRow.holds Try.pinned (OpenSpec.upto fnExactEmptyBlocksSpec)

/-- 'laws.FnExactSetBlock', WHERE WHAT IT READS IS OF BULK AT MOST 1048576: true; the input reads as it did. -/
def fnExactSetBlockUptoRow : OpenClaim := { program := "ytglcdgonbmdhoaa", sum := "8b97ed93828a5c7a7770fa64e550a6326541f31d675cdc3f23ddc77ecff8aac8", func := "loop.example/g00914/laws.FnExactSetBlock", spec := "fnExactSetBlock", apart := false, narrowed := true }
def FnExactSetBlockUptoSaid : Prop := fnExactSetBlockUptoRow.holds Try.pinned (OpenSpec.upto fnExactSetBlockSpec)

end Rows
end Go.Proofs.Ytglcdgonbmdhoaa
