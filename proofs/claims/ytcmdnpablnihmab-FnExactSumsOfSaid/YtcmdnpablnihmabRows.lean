/-
  No cell of these rows narrows 'for every input' (looked for: loops, veiled, ifaces, maps, wideKeys, modest, calm, conditions, laid).
  DERIVED. THE GIVEN ROWS OF THIS SEAT. 6 by the template 'for every input the law returns true; each argument reads behind the call as it read before'; 0 by the template 'total and deterministic' (their statements: YtcmdnpablnihmabTotals.lean).
  GIVEN WITH THE SEED: the statements are not yours to turn. If you find one false, say at which input.
  Laid BY PROGRAM, IN A SANDBOX (cutbox-rows.mjs): the forced cells as the released guide's own fill.sh prints them over the translation c567bcad0ce45556… (all of the seat's roots in one cut). By AI agents, Wed Nov 11 2026. No macro, syntax, notation, axiom, sorry.
-/
import Derived.Test.YtcmdnpablnihmabChecked
import GoSem.Claim
import GoSem.ClaimJoined
import GoSem.ClaimMapViews
import Derived.JoinedTies
import Derived.KernelRfl
namespace Go.Proofs.Ytcmdnpablnihmab
/- THE CELL 'sum', in the pinned program and in every row, IS THE sha256 OF THE DUMP (.gsa) THAT YtcmdnpablnihmabProg.lean LOADS. Nothing in Lean hashes anything: it is a label: what it is worth is what the hold of that sum in a sandbox is worth. -/
noncomputable def Try.pinned : Pinned := { name := "ytcmdnpablnihmab", sum := "c567bcad0ce455567bee820c3ea8fc52bf9a64c4c9571cdb633afe7e9935d628", checked := Try.checked }
namespace Rows
def none {H : Type} : Left H := { results := [], args := [] }

/-- 'laws.FnExactEvalRule': WHATEVER THE INPUT: true; the input reads as it did. -/
def fnExactEvalRuleSpec : ChangeSpec := { name := "fnExactEvalRule", fn := fun _ => fun
  | [d1, d2] => { results := [.lit (.bool true)], args := [d1, d2] }
  | _ => none }
def fnExactEvalRuleRow : OpenClaim := { program := "ytcmdnpablnihmab", sum := "c567bcad0ce455567bee820c3ea8fc52bf9a64c4c9571cdb633afe7e9935d628", func := "loop.example/g00914/laws.FnExactEvalRule", spec := "fnExactEvalRule", unfollowed := true, recurses := true, apart := false }
def FnExactEvalRuleSaid : Prop := fnExactEvalRuleRow.holds Try.pinned (OpenSpec.ofChange fnExactEvalRuleSpec)

/-- ITS FALSE NEIGHBOUR: 'it returns false'. Refute it at one input. -/
def fnExactEvalRuleWrong : ChangeSpec := { name := "fnExactEvalRule", fn := fun _ => fun
  | [d1, d2] => { results := [.lit (.bool false)], args := [d1, d2] }
  | _ => none }
def FnExactEvalRuleWrongFalsely : Prop := fnExactEvalRuleRow.holds Try.pinned (OpenSpec.ofChange fnExactEvalRuleWrong)

/-- 'laws.FnExactFoldRule': WHATEVER THE INPUT: true; the input reads as it did. -/
def fnExactFoldRuleSpec : ChangeSpec := { name := "fnExactFoldRule", fn := fun _ => fun
  | [d] => { results := [.lit (.bool true)], args := [d] }
  | _ => none }
def fnExactFoldRuleRow : OpenClaim := { program := "ytcmdnpablnihmab", sum := "c567bcad0ce455567bee820c3ea8fc52bf9a64c4c9571cdb633afe7e9935d628", func := "loop.example/g00914/laws.FnExactFoldRule", spec := "fnExactFoldRule", unfollowed := true, recurses := true, apart := false }
def FnExactFoldRuleSaid : Prop := fnExactFoldRuleRow.holds Try.pinned (OpenSpec.ofChange fnExactFoldRuleSpec)

/-- ITS FALSE NEIGHBOUR: 'it returns false'. Refute it at one input. -/
def fnExactFoldRuleWrong : ChangeSpec := { name := "fnExactFoldRule", fn := fun _ => fun
  | [d] => { results := [.lit (.bool false)], args := [d] }
  | _ => none }
def FnExactFoldRuleWrongFalsely : Prop := fnExactFoldRuleRow.holds Try.pinned (OpenSpec.ofChange fnExactFoldRuleWrong)

/-- 'laws.FnFolded': WHATEVER THE INPUT: true; the input reads as it did. -/
def fnFoldedSpec : ChangeSpec := { name := "fnFolded", fn := fun _ => fun
  | [d1, d2] => { results := [.lit (.bool true)], args := [d1, d2] }
  | _ => none }
def fnFoldedRow : OpenClaim := { program := "ytcmdnpablnihmab", sum := "c567bcad0ce455567bee820c3ea8fc52bf9a64c4c9571cdb633afe7e9935d628", func := "loop.example/g00914/laws.FnFolded", spec := "fnFolded", unfollowed := true, recurses := true, apart := false }
def FnFoldedSaid : Prop := fnFoldedRow.holds Try.pinned (OpenSpec.ofChange fnFoldedSpec)

/-- ITS FALSE NEIGHBOUR: 'it returns false'. Refute it at one input. -/
def fnFoldedWrong : ChangeSpec := { name := "fnFolded", fn := fun _ => fun
  | [d1, d2] => { results := [.lit (.bool false)], args := [d1, d2] }
  | _ => none }
def FnFoldedWrongFalsely : Prop := fnFoldedRow.holds Try.pinned (OpenSpec.ofChange fnFoldedWrong)

/-- 'laws.FnExactSumsOf': WHATEVER THE INPUT: true; the input reads as it did. -/
def fnExactSumsOfSpec : ChangeSpec := { name := "fnExactSumsOf", fn := fun _ => fun
  | [d1, d2] => { results := [.lit (.bool true)], args := [d1, d2] }
  | _ => none }
def fnExactSumsOfRow : OpenClaim := { program := "ytcmdnpablnihmab", sum := "c567bcad0ce455567bee820c3ea8fc52bf9a64c4c9571cdb633afe7e9935d628", func := "loop.example/g00914/laws.FnExactSumsOf", spec := "fnExactSumsOf", unfollowed := true, recurses := true, apart := false }
def FnExactSumsOfSaid : Prop := fnExactSumsOfRow.holds Try.pinned (OpenSpec.ofChange fnExactSumsOfSpec)

/-- ITS FALSE NEIGHBOUR: 'it returns false'. Refute it at one input. -/
def fnExactSumsOfWrong : ChangeSpec := { name := "fnExactSumsOf", fn := fun _ => fun
  | [d1, d2] => { results := [.lit (.bool false)], args := [d1, d2] }
  | _ => none }
def FnExactSumsOfWrongFalsely : Prop := fnExactSumsOfRow.holds Try.pinned (OpenSpec.ofChange fnExactSumsOfWrong)

/-- 'laws.FnExactMeanGrade': WHATEVER THE INPUT: true; the input reads as it did. -/
def fnExactMeanGradeSpec : ChangeSpec := { name := "fnExactMeanGrade", fn := fun _ => fun
  | [d1, d2] => { results := [.lit (.bool true)], args := [d1, d2] }
  | _ => none }
def fnExactMeanGradeRow : OpenClaim := { program := "ytcmdnpablnihmab", sum := "c567bcad0ce455567bee820c3ea8fc52bf9a64c4c9571cdb633afe7e9935d628", func := "loop.example/g00914/laws.FnExactMeanGrade", spec := "fnExactMeanGrade", unfollowed := true, recurses := true, apart := false }
def FnExactMeanGradeSaid : Prop := fnExactMeanGradeRow.holds Try.pinned (OpenSpec.ofChange fnExactMeanGradeSpec)

/-- ITS FALSE NEIGHBOUR: 'it returns false'. Refute it at one input. -/
def fnExactMeanGradeWrong : ChangeSpec := { name := "fnExactMeanGrade", fn := fun _ => fun
  | [d1, d2] => { results := [.lit (.bool false)], args := [d1, d2] }
  | _ => none }
def FnExactMeanGradeWrongFalsely : Prop := fnExactMeanGradeRow.holds Try.pinned (OpenSpec.ofChange fnExactMeanGradeWrong)

/-- 'laws.FnExactEmptyBlocks': WHATEVER THE INPUT: true; the input reads as it did. -/
def fnExactEmptyBlocksSpec : ChangeSpec := { name := "fnExactEmptyBlocks", fn := fun _ => fun
  | [d1, d2] => { results := [.lit (.bool true)], args := [d1, d2] }
  | _ => none }
def fnExactEmptyBlocksRow : OpenClaim := { program := "ytcmdnpablnihmab", sum := "c567bcad0ce455567bee820c3ea8fc52bf9a64c4c9571cdb633afe7e9935d628", func := "loop.example/g00914/laws.FnExactEmptyBlocks", spec := "fnExactEmptyBlocks", apart := false }
def FnExactEmptyBlocksSaid : Prop := fnExactEmptyBlocksRow.holds Try.pinned (OpenSpec.ofChange fnExactEmptyBlocksSpec)

/-- ITS FALSE NEIGHBOUR: 'it returns false'. Refute it at one input. -/
def fnExactEmptyBlocksWrong : ChangeSpec := { name := "fnExactEmptyBlocks", fn := fun _ => fun
  | [d1, d2] => { results := [.lit (.bool false)], args := [d1, d2] }
  | _ => none }
def FnExactEmptyBlocksWrongFalsely : Prop := fnExactEmptyBlocksRow.holds Try.pinned (OpenSpec.ofChange fnExactEmptyBlocksWrong)

/- THE SECOND FORM. 'bulk': how many values and letters a reading holds, each counted each time it is reached (what is shared counts as often as it is met; a slice's spare places count too). A statement '..UptoSaid' is the law's where the arguments, and the package variables that the reading takes, are together of bulk at most 1048576: NARROWER than '..Said'. Prove '..Said' where nothing that the law and all that it calls make is longer than what came in: it says more and counts as full. Else prove '..UptoSaid'. A law counts once. -/
mutual
def uptoBulk {H : Type} : DataW H → Nat
  | .lit (.string bytes) => bytes.length + 1
  | .lit _ => 1
  | .nil => 1
  | .ptr d => uptoBulk d + 1
  | .slice elems spare => uptoBulkAll elems + uptoBulkAll spare + 1
  | .agg parts => uptoBulkAll parts + 1
  | .iface _ d => uptoBulk d + 1
  | .map entries => uptoBulkEntries entries + 1
  | .held _ => 1
def uptoBulkAll {H : Type} : List (DataW H) → Nat
  | [] => 0
  | d :: r => uptoBulk d + uptoBulkAll r
def uptoBulkEntries {H : Type} : List (Lit × DataW H) → Nat
  | [] => 0
  | x :: r => uptoBulkEntry x + uptoBulkEntries r
def uptoBulkEntry {H : Type} : Lit × DataW H → Nat
  | (.string bytes, d) => bytes.length + uptoBulk d + 1
  | (_, d) => uptoBulk d + 1
 end
def uptoSmall : (H : Type) → List (DataW H) → Bool := fun _ ds => decide (uptoBulkAll ds ≤ 1048576)
def OpenSpec.upto (s : _root_.Go.ChangeSpec) : _root_.Go.OpenSpec := { _root_.Go.OpenSpec.ofChange s with cond := some uptoSmall }

/-- 'laws.FnExactEvalRule', WHERE WHAT IT READS IS OF BULK AT MOST 1048576: true; the input reads as it did. -/
def fnExactEvalRuleUptoRow : OpenClaim := { program := "ytcmdnpablnihmab", sum := "c567bcad0ce455567bee820c3ea8fc52bf9a64c4c9571cdb633afe7e9935d628", func := "loop.example/g00914/laws.FnExactEvalRule", spec := "fnExactEvalRule", unfollowed := true, recurses := true, apart := false, narrowed := true }
def FnExactEvalRuleUptoSaid : Prop := fnExactEvalRuleUptoRow.holds Try.pinned (OpenSpec.upto fnExactEvalRuleSpec)

/-- 'laws.FnExactFoldRule', WHERE WHAT IT READS IS OF BULK AT MOST 1048576: true; the input reads as it did. -/
def fnExactFoldRuleUptoRow : OpenClaim := { program := "ytcmdnpablnihmab", sum := "c567bcad0ce455567bee820c3ea8fc52bf9a64c4c9571cdb633afe7e9935d628", func := "loop.example/g00914/laws.FnExactFoldRule", spec := "fnExactFoldRule", unfollowed := true, recurses := true, apart := false, narrowed := true }
def FnExactFoldRuleUptoSaid : Prop := fnExactFoldRuleUptoRow.holds Try.pinned (OpenSpec.upto fnExactFoldRuleSpec)

/-- 'laws.FnFolded', WHERE WHAT IT READS IS OF BULK AT MOST 1048576: true; the input reads as it did. -/
def fnFoldedUptoRow : OpenClaim := { program := "ytcmdnpablnihmab", sum := "c567bcad0ce455567bee820c3ea8fc52bf9a64c4c9571cdb633afe7e9935d628", func := "loop.example/g00914/laws.FnFolded", spec := "fnFolded", unfollowed := true, recurses := true, apart := false, narrowed := true }
def FnFoldedUptoSaid : Prop := fnFoldedUptoRow.holds Try.pinned (OpenSpec.upto fnFoldedSpec)

/-- 'laws.FnExactSumsOf', WHERE WHAT IT READS IS OF BULK AT MOST 1048576: true; the input reads as it did. -/
def fnExactSumsOfUptoRow : OpenClaim := { program := "ytcmdnpablnihmab", sum := "c567bcad0ce455567bee820c3ea8fc52bf9a64c4c9571cdb633afe7e9935d628", func := "loop.example/g00914/laws.FnExactSumsOf", spec := "fnExactSumsOf", unfollowed := true, recurses := true, apart := false, narrowed := true }
def FnExactSumsOfUptoSaid : Prop := fnExactSumsOfUptoRow.holds Try.pinned (OpenSpec.upto fnExactSumsOfSpec)

/-- 'laws.FnExactMeanGrade', WHERE WHAT IT READS IS OF BULK AT MOST 1048576: true; the input reads as it did. -/
def fnExactMeanGradeUptoRow : OpenClaim := { program := "ytcmdnpablnihmab", sum := "c567bcad0ce455567bee820c3ea8fc52bf9a64c4c9571cdb633afe7e9935d628", func := "loop.example/g00914/laws.FnExactMeanGrade", spec := "fnExactMeanGrade", unfollowed := true, recurses := true, apart := false, narrowed := true }
def FnExactMeanGradeUptoSaid : Prop := fnExactMeanGradeUptoRow.holds Try.pinned (OpenSpec.upto fnExactMeanGradeSpec)

/-- 'laws.FnExactEmptyBlocks', WHERE WHAT IT READS IS OF BULK AT MOST 1048576: true; the input reads as it did. -/
def fnExactEmptyBlocksUptoRow : OpenClaim := { program := "ytcmdnpablnihmab", sum := "c567bcad0ce455567bee820c3ea8fc52bf9a64c4c9571cdb633afe7e9935d628", func := "loop.example/g00914/laws.FnExactEmptyBlocks", spec := "fnExactEmptyBlocks", apart := false, narrowed := true }
def FnExactEmptyBlocksUptoSaid : Prop := fnExactEmptyBlocksUptoRow.holds Try.pinned (OpenSpec.upto fnExactEmptyBlocksSpec)

end Rows
end Go.Proofs.Ytcmdnpablnihmab
