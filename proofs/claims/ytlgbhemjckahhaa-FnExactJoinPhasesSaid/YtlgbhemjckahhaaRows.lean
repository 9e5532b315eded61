/-
  No cell of these rows narrows 'for every input' (looked for: loops, veiled, ifaces, maps, wideKeys, modest, calm, conditions, laid).
  DERIVED. THE GIVEN ROWS OF THIS SEAT. 9 by the template 'for every input the law returns true; each argument reads behind the call as it read before'; 0 by the template 'total and deterministic' (their statements: YtlgbhemjckahhaaTotals.lean).
  GIVEN WITH THE SEED: the statements are not yours to turn. If you find one false, say at which input.
  Laid BY PROGRAM, IN A SANDBOX (cutbox-rows.mjs): the forced cells as the released guide's own fill.sh prints them over the translation 247b064e34bec6c7… (all of the seat's roots in one cut). By AI agents, Wed Nov 11 2026. No macro, syntax, notation, axiom, sorry.
-/
import Derived.Test.YtlgbhemjckahhaaChecked
import GoSem.Claim
import GoSem.ClaimJoined
import GoSem.ClaimMapViews
import Derived.JoinedTies
import Derived.KernelRfl
namespace Go.Proofs.Ytlgbhemjckahhaa
/- THE CELL 'sum', in the pinned program and in every row, IS THE sha256 OF THE DUMP (.gsa) THAT YtlgbhemjckahhaaProg.lean LOADS. Nothing in Lean hashes anything: it is a label: what it is worth is what the hold of that sum in a sandbox is worth. -/
noncomputable def Try.pinned : Pinned := { name := "ytlgbhemjckahhaa", sum := "247b064e34bec6c75bf740147d2be87f7776c9f9ac63784782fa420eda3ab7a1", checked := Try.checked }
namespace Rows
def none {H : Type} : Left H := { results := [], args := [] }

/-- 'laws.FnExactAreNested': WHATEVER THE INPUT: true; the input reads as it did. -/
def fnExactAreNestedSpec : ChangeSpec := { name := "fnExactAreNested", fn := fun _ => fun
  | [d1, d2] => { results := [.lit (.bool true)], args := [d1, d2] }
  | _ => none }
def fnExactAreNestedRow : OpenClaim := { program := "ytlgbhemjckahhaa", sum := "247b064e34bec6c75bf740147d2be87f7776c9f9ac63784782fa420eda3ab7a1", func := "loop.example/g00914/laws.FnExactAreNested", spec := "fnExactAreNested", unfollowed := true, recurses := true, apart := false }
def FnExactAreNestedSaid : Prop := fnExactAreNestedRow.holds Try.pinned (OpenSpec.ofChange fnExactAreNestedSpec)

/-- ITS FALSE NEIGHBOUR: 'it returns false'. Refute it at one input. -/
def fnExactAreNestedWrong : ChangeSpec := { name := "fnExactAreNested", fn := fun _ => fun
  | [d1, d2] => { results := [.lit (.bool false)], args := [d1, d2] }
  | _ => none }
def FnExactAreNestedWrongFalsely : Prop := fnExactAreNestedRow.holds Try.pinned (OpenSpec.ofChange fnExactAreNestedWrong)

/-- 'laws.FnExactPhasesOf': WHATEVER THE INPUT: true; the input reads as it did. -/
def fnExactPhasesOfSpec : ChangeSpec := { name := "fnExactPhasesOf", fn := fun _ => fun
  | [d1, d2] => { results := [.lit (.bool true)], args := [d1, d2] }
  | _ => none }
def fnExactPhasesOfRow : OpenClaim := { program := "ytlgbhemjckahhaa", sum := "247b064e34bec6c75bf740147d2be87f7776c9f9ac63784782fa420eda3ab7a1", func := "loop.example/g00914/laws.FnExactPhasesOf", spec := "fnExactPhasesOf", unfollowed := true, recurses := true, apart := false }
def FnExactPhasesOfSaid : Prop := fnExactPhasesOfRow.holds Try.pinned (OpenSpec.ofChange fnExactPhasesOfSpec)

/-- ITS FALSE NEIGHBOUR: 'it returns false'. Refute it at one input. -/
def fnExactPhasesOfWrong : ChangeSpec := { name := "fnExactPhasesOf", fn := fun _ => fun
  | [d1, d2] => { results := [.lit (.bool false)], args := [d1, d2] }
  | _ => none }
def FnExactPhasesOfWrongFalsely : Prop := fnExactPhasesOfRow.holds Try.pinned (OpenSpec.ofChange fnExactPhasesOfWrong)

/-- 'laws.FnExactPhaseOfBlock': WHATEVER THE INPUT: true; the input reads as it did. -/
def fnExactPhaseOfBlockSpec : ChangeSpec := { name := "fnExactPhaseOfBlock", fn := fun _ => fun
  | [d1, d2, d3] => { results := [.lit (.bool true)], args := [d1, d2, d3] }
  | _ => none }
def fnExactPhaseOfBlockRow : OpenClaim := { program := "ytlgbhemjckahhaa", sum := "247b064e34bec6c75bf740147d2be87f7776c9f9ac63784782fa420eda3ab7a1", func := "loop.example/g00914/laws.FnExactPhaseOfBlock", spec := "fnExactPhaseOfBlock", unfollowed := true, recurses := true, apart := false }
def FnExactPhaseOfBlockSaid : Prop := fnExactPhaseOfBlockRow.holds Try.pinned (OpenSpec.ofChange fnExactPhaseOfBlockSpec)

/-- ITS FALSE NEIGHBOUR: 'it returns false'. Refute it at one input. -/
def fnExactPhaseOfBlockWrong : ChangeSpec := { name := "fnExactPhaseOfBlock", fn := fun _ => fun
  | [d1, d2, d3] => { results := [.lit (.bool false)], args := [d1, d2, d3] }
  | _ => none }
def FnExactPhaseOfBlockWrongFalsely : Prop := fnExactPhaseOfBlockRow.holds Try.pinned (OpenSpec.ofChange fnExactPhaseOfBlockWrong)

/-- 'laws.FnExactWideBlocks': WHATEVER THE INPUT: true; the input reads as it did. -/
def fnExactWideBlocksSpec : ChangeSpec := { name := "fnExactWideBlocks", fn := fun _ => fun
  | [d1, d2, d3] => { results := [.lit (.bool true)], args := [d1, d2, d3] }
  | _ => none }
def fnExactWideBlocksRow : OpenClaim := { program := "ytlgbhemjckahhaa", sum := "247b064e34bec6c75bf740147d2be87f7776c9f9ac63784782fa420eda3ab7a1", func := "loop.example/g00914/laws.FnExactWideBlocks", spec := "fnExactWideBlocks", unfollowed := true, recurses := true, apart := false }
def FnExactWideBlocksSaid : Prop := fnExactWideBlocksRow.holds Try.pinned (OpenSpec.ofChange fnExactWideBlocksSpec)

/-- ITS FALSE NEIGHBOUR: 'it returns false'. Refute it at one input. -/
def fnExactWideBlocksWrong : ChangeSpec := { name := "fnExactWideBlocks", fn := fun _ => fun
  | [d1, d2, d3] => { results := [.lit (.bool false)], args := [d1, d2, d3] }
  | _ => none }
def FnExactWideBlocksWrongFalsely : Prop := fnExactWideBlocksRow.holds Try.pinned (OpenSpec.ofChange fnExactWideBlocksWrong)

/-- 'laws.FnExactIsWide': WHATEVER THE INPUT: true; the input reads as it did. -/
def fnExactIsWideSpec : ChangeSpec := { name := "fnExactIsWide", fn := fun _ => fun
  | [d1, d2, d3] => { results := [.lit (.bool true)], args := [d1, d2, d3] }
  | _ => none }
def fnExactIsWideRow : OpenClaim := { program := "ytlgbhemjckahhaa", sum := "247b064e34bec6c75bf740147d2be87f7776c9f9ac63784782fa420eda3ab7a1", func := "loop.example/g00914/laws.FnExactIsWide", spec := "fnExactIsWide", unfollowed := true, recurses := true, apart := false }
def FnExactIsWideSaid : Prop := fnExactIsWideRow.holds Try.pinned (OpenSpec.ofChange fnExactIsWideSpec)

/-- ITS FALSE NEIGHBOUR: 'it returns false'. Refute it at one input. -/
def fnExactIsWideWrong : ChangeSpec := { name := "fnExactIsWide", fn := fun _ => fun
  | [d1, d2, d3] => { results := [.lit (.bool false)], args := [d1, d2, d3] }
  | _ => none }
def FnExactIsWideWrongFalsely : Prop := fnExactIsWideRow.holds Try.pinned (OpenSpec.ofChange fnExactIsWideWrong)

/-- 'laws.FnExactTrimPit': WHATEVER THE INPUT: true; the input reads as it did. -/
def fnExactTrimPitSpec : ChangeSpec := { name := "fnExactTrimPit", fn := fun _ => fun
  | [d1, d2, d3, d4] => { results := [.lit (.bool true)], args := [d1, d2, d3, d4] }
  | _ => none }
def fnExactTrimPitRow : OpenClaim := { program := "ytlgbhemjckahhaa", sum := "247b064e34bec6c75bf740147d2be87f7776c9f9ac63784782fa420eda3ab7a1", func := "loop.example/g00914/laws.FnExactTrimPit", spec := "fnExactTrimPit", unfollowed := true, recurses := true, apart := false }
def FnExactTrimPitSaid : Prop := fnExactTrimPitRow.holds Try.pinned (OpenSpec.ofChange fnExactTrimPitSpec)

/-- ITS FALSE NEIGHBOUR: 'it returns false'. Refute it at one input. -/
def fnExactTrimPitWrong : ChangeSpec := { name := "fnExactTrimPit", fn := fun _ => fun
  | [d1, d2, d3, d4] => { results := [.lit (.bool false)], args := [d1, d2, d3, d4] }
  | _ => none }
def FnExactTrimPitWrongFalsely : Prop := fnExactTrimPitRow.holds Try.pinned (OpenSpec.ofChange fnExactTrimPitWrong)

/-- 'laws.FnExactPhaseSums': WHATEVER THE INPUT: true; the input reads as it did. -/
def fnExactPhaseSumsSpec : ChangeSpec := { name := "fnExactPhaseSums", fn := fun _ => fun
  | [d1, d2, d3] => { results := [.lit (.bool true)], args := [d1, d2, d3] }
  | _ => none }
def fnExactPhaseSumsRow : OpenClaim := { program := "ytlgbhemjckahhaa", sum := "247b064e34bec6c75bf740147d2be87f7776c9f9ac63784782fa420eda3ab7a1", func := "loop.example/g00914/laws.FnExactPhaseSums", spec := "fnExactPhaseSums", unfollowed := true, recurses := true, apart := false }
def FnExactPhaseSumsSaid : Prop := fnExactPhaseSumsRow.holds Try.pinned (OpenSpec.ofChange fnExactPhaseSumsSpec)

/-- ITS FALSE NEIGHBOUR: 'it returns false'. Refute it at one input. -/
def fnExactPhaseSumsWrong : ChangeSpec := { name := "fnExactPhaseSums", fn := fun _ => fun
  | [d1, d2, d3] => { results := [.lit (.bool false)], args := [d1, d2, d3] }
  | _ => none }
def FnExactPhaseSumsWrongFalsely : Prop := fnExactPhaseSumsRow.holds Try.pinned (OpenSpec.ofChange fnExactPhaseSumsWrong)

/-- 'laws.FnExactJoinPhases': WHATEVER THE INPUT: true; the input reads as it did. -/
def fnExactJoinPhasesSpec : ChangeSpec := { name := "fnExactJoinPhases", fn := fun _ => fun
  | [d1, d2, d3, d4] => { results := [.lit (.bool true)], args := [d1, d2, d3, d4] }
  | _ => none }
def fnExactJoinPhasesRow : OpenClaim := { program := "ytlgbhemjckahhaa", sum := "247b064e34bec6c75bf740147d2be87f7776c9f9ac63784782fa420eda3ab7a1", func := "loop.example/g00914/laws.FnExactJoinPhases", spec := "fnExactJoinPhases", unfollowed := true, recurses := true, apart := false }
def FnExactJoinPhasesSaid : Prop := fnExactJoinPhasesRow.holds Try.pinned (OpenSpec.ofChange fnExactJoinPhasesSpec)

/-- ITS FALSE NEIGHBOUR: 'it returns false'. Refute it at one input. -/
def fnExactJoinPhasesWrong : ChangeSpec := { name := "fnExactJoinPhases", fn := fun _ => fun
  | [d1, d2, d3, d4] => { results := [.lit (.bool false)], args := [d1, d2, d3, d4] }
  | _ => none }
def FnExactJoinPhasesWrongFalsely : Prop := fnExactJoinPhasesRow.holds Try.pinned (OpenSpec.ofChange fnExactJoinPhasesWrong)

/-- 'laws.FnExactFillPits': WHATEVER THE INPUT: true; the input reads as it did. -/
def fnExactFillPitsSpec : ChangeSpec := { name := "fnExactFillPits", fn := fun _ => fun
  | [d1, d2] => { results := [.lit (.bool true)], args := [d1, d2] }
  | _ => none }
def fnExactFillPitsRow : OpenClaim := { program := "ytlgbhemjckahhaa", sum := "247b064e34bec6c75bf740147d2be87f7776c9f9ac63784782fa420eda3ab7a1", func := "loop.example/g00914/laws.FnExactFillPits", spec := "fnExactFillPits", unfollowed := true, recurses := true, apart := false }
def FnExactFillPitsSaid : Prop := fnExactFillPitsRow.holds Try.pinned (OpenSpec.ofChange fnExactFillPitsSpec)

/-- ITS FALSE NEIGHBOUR: 'it returns false'. Refute it at one input. -/
def fnExactFillPitsWrong : ChangeSpec := { name := "fnExactFillPits", fn := fun _ => fun
  | [d1, d2] => { results := [.lit (.bool false)], args := [d1, d2] }
  | _ => none }
def FnExactFillPitsWrongFalsely : Prop := fnExactFillPitsRow.holds Try.pinned (OpenSpec.ofChange fnExactFillPitsWrong)

/- THE SECOND FORM. 'bulk': how many values and letters a reading holds, each counted each time it is reached (what is shared counts as often as it is met; a slice's spare places count too). A statement '..UptoSaid' is the law's where the arguments, and the package variables that the reading takes, are together of bulk at most 1048576: NARROWER than '..Said'. Prove '..Said' where nothing that the law and all that it calls make is longer than what came in: it says more and counts as full. Else prove '..UptoSaid'. A law counts once. -/
mutual
def uptoBulk {H : Type} : DataW H → Nat
  | .lit (.string bytes) => bytes.length + 1
  | .lit _ => 1
  | .nil => 1
  | .ptr d => uptoBulk d + 1
  | .slice elems spare => uptoBulkAll elems + uptoBulkAll spare + 1
  | .agg parts => uptoBulkAll parts + 1
  | .iface _ d => uptoBulk d + 1
  | .map entries => uptoBulkEntries entries + 1
  | .held _ => 1
def uptoBulkAll {H : Type} : List (DataW H) → Nat
  | [] => 0
  | d :: r => uptoBulk d + uptoBulkAll r
def uptoBulkEntries {H : Type} : List (Lit × DataW H) → Nat
  | [] => 0
  | x :: r => uptoBulkEntry x + uptoBulkEntries r
def uptoBulkEntry {H : Type} : Lit × DataW H → Nat
  | (.string bytes, d) => bytes.length + uptoBulk d + 1
  | (_, d) => uptoBulk d + 1
 end
def uptoSmall : (H : Type) → List (DataW H) → Bool := fun _ ds => decide (uptoBulkAll ds ≤ 1048576)
def OpenSpec.upto (s : _root_.Go.ChangeSpec) : _root_.Go.OpenSpec := { _root_.Go.OpenSpec.ofChange s with cond := some uptoSmall }

/-- 'laws.FnExactAreNested', WHERE WHAT IT READS IS OF BULK AT MOST 1048576: true; the input reads as it did. -/
def fnExactAreNestedUptoRow : OpenClaim := { program := "ytlgbhemjckahhaa", sum := "247b064e34bec6c75bf740147d2be87f7776c9f9ac63784782fa420eda3ab7a1", func := "loop.example/g00914/laws.FnExactAreNested", spec := "fnExactAreNested", unfollowed := true, recurses := true, apart := false, narrowed := true }
def FnExactAreNestedUptoSaid : Prop := fnExactAreNestedUptoRow.holds Try.pinned (OpenSpec.upto fnExactAreNestedSpec)

/-- 'laws.FnExactPhasesOf', WHERE WHAT IT READS IS OF BULK AT MOST 1048576: true; the input reads as it did. -/
def fnExactPhasesOfUptoRow : OpenClaim := { program := "ytlgbhemjckahhaa", sum := "247b064e34bec6c75bf740147d2be87f7776c9f9ac63784782fa420eda3ab7a1", func := "loop.example/g00914/laws.FnExactPhasesOf", spec := "fnExactPhasesOf", unfollowed := true, recurses := true, apart := false, narrowed := true }
def FnExactPhasesOfUptoSaid : Prop := fnExactPhasesOfUptoRow.holds Try.pinned (OpenSpec.upto fnExactPhasesOfSpec)

/-- 'laws.FnExactPhaseOfBlock', WHERE WHAT IT READS IS OF BULK AT MOST 1048576: true; the input reads as it did. -/
def fnExactPhaseOfBlockUptoRow : OpenClaim := { program := "ytlgbhemjckahhaa", sum := "247b064e34bec6c75bf740147d2be87f7776c9f9ac63784782fa420eda3ab7a1", func := "loop.example/g00914/laws.FnExactPhaseOfBlock", spec := "fnExactPhaseOfBlock", unfollowed := true, recurses := true, apart := false, narrowed := true }
def FnExactPhaseOfBlockUptoSaid : Prop := fnExactPhaseOfBlockUptoRow.holds Try.pinned (OpenSpec.upto fnExactPhaseOfBlockSpec)

/-- 'laws.FnExactWideBlocks', WHERE WHAT IT READS IS OF BULK AT MOST 1048576: true; the input reads as it did. -/
def fnExactWideBlocksUptoRow : OpenClaim := { program := "ytlgbhemjckahhaa", sum := "247b064e34bec6c75bf740147d2be87f7776c9f9ac63784782fa420eda3ab7a1", func := "loop.example/g00914/laws.FnExactWideBlocks", spec := "fnExactWideBlocks", unfollowed := true, recurses := true, apart := false, narrowed := true }
def FnExactWideBlocksUptoSaid : Prop := fnExactWideBlocksUptoRow.holds Try.pinned (OpenSpec.upto fnExactWideBlocksSpec)

/-- 'laws.FnExactIsWide', WHERE WHAT IT READS IS OF BULK AT MOST 1048576: true; the input reads as it did. -/
def fnExactIsWideUptoRow : OpenClaim := { program := "ytlgbhemjckahhaa", sum := "247b064e34bec6c75bf740147d2be87f7776c9f9ac63784782fa420eda3ab7a1", func := "loop.example/g00914/laws.FnExactIsWide", spec := "fnExactIsWide", unfollowed := true, recurses := true, apart := false, narrowed := true }
def FnExactIsWideUptoSaid : Prop := fnExactIsWideUptoRow.holds Try.pinned (OpenSpec.upto fnExactIsWideSpec)

/-- 'laws.FnExactTrimPit', WHERE WHAT IT READS IS OF BULK AT MOST 1048576: true; the input reads as it did. -/
def fnExactTrimPitUptoRow : OpenClaim := { program := "ytlgbhemjckahhaa", sum := "247b064e34bec6c75bf740147d2be87f7776c9f9ac63784782fa420eda3ab7a1", func := "loop.example/g00914/laws.FnExactTrimPit", spec := "fnExactTrimPit", unfollowed := true, recurses := true, apart := false, narrowed := true }
def FnExactTrimPitUptoSaid : Prop := fnExactTrimPitUptoRow.holds Try.pinned (OpenSpec.upto fnExactTrimPitSpec)

/-- 'laws.FnExactPhaseSums', WHERE WHAT IT READS IS OF BULK AT MOST 1048576: true; the input reads as it did. -/
def fnExactPhaseSumsUptoRow : OpenClaim := { program := "ytlgbhemjckahhaa", sum := "247b064e34bec6c75bf740147d2be87f7776c9f9ac63784782fa420eda3ab7a1", func := "loop.example/g00914/laws.FnExactPhaseSums", spec := "fnExactPhaseSums", unfollowed := true, recurses := true, apart := false, narrowed := true }
def FnExactPhaseSumsUptoSaid : Prop := fnExactPhaseSumsUptoRow.holds Try.pinned (OpenSpec.upto fnExactPhaseSumsSpec)

/-- 'laws.FnExactJoinPhases', WHERE WHAT IT READS IS OF BULK AT MOST 1048576: true; the input reads as it did. -/
def fnExactJoinPhasesUptoRow : OpenClaim := { program := "ytlgbhemjckahhaa", sum := "247b064e34bec6c75bf740147d2be87f7776c9f9ac63784782fa420eda3ab7a1", func := "loop.example/g00914/laws.FnExactJoinPhases", spec := "fnExactJoinPhases", unfollowed := true, recurses := true, apart := false, narrowed := true }
def FnExactJoinPhasesUptoSaid : Prop := fnExactJoinPhasesUptoRow.holds Try.pinned (OpenSpec.upto fnExactJoinPhasesSpec)

/-- 'laws.FnExactFillPits', WHERE WHAT IT READS IS OF BULK AT MOST 1048576: true; the input reads as it did. -/
def fnExactFillPitsUptoRow : OpenClaim := { program := "ytlgbhemjckahhaa", sum := "247b064e34bec6c75bf740147d2be87f7776c9f9ac63784782fa420eda3ab7a1", func := "loop.example/g00914/laws.FnExactFillPits", spec := "fnExactFillPits", unfollowed := true, recurses := true, apart := false, narrowed := true }
def FnExactFillPitsUptoSaid : Prop := fnExactFillPitsUptoRow.holds Try.pinned (OpenSpec.upto fnExactFillPitsSpec)

end Rows
end Go.Proofs.Ytlgbhemjckahhaa
