/-
  No cell of these rows narrows 'for every input' (looked for: loops, veiled, ifaces, maps, wideKeys, modest, calm, conditions, laid).
  DERIVED. THE GIVEN ROWS OF THIS SEAT. 8 by the template 'for every input the law returns true; each argument reads behind the call as it read before'; 0 by the template 'total and deterministic' (their statements: YtglcdgonbmdhoabTotals.lean).
  GIVEN WITH THE SEED: the statements are not yours to turn. If you find one false, say at which input.
  Laid BY PROGRAM, IN A SANDBOX (cutbox-rows.mjs): the forced cells as the released guide's own fill.sh prints them over the translation 7b544364847ab2d3… (all of the seat's roots in one cut). By AI agents, Wed Nov 11 2026. No macro, syntax, notation, axiom, sorry.
-/
import Derived.Test.YtglcdgonbmdhoabChecked
import GoSem.Claim
import GoSem.ClaimJoined
import GoSem.ClaimMapViews
import Derived.JoinedTies
import Derived.KernelRfl
namespace Go.Proofs.Ytglcdgonbmdhoab
/- THE CELL 'sum', in the pinned program and in every row, IS THE sha256 OF THE DUMP (.gsa) THAT YtglcdgonbmdhoabProg.lean LOADS. Nothing in Lean hashes anything: it is a label: what it is worth is what the hold of that sum in a sandbox is worth. -/
noncomputable def Try.pinned : Pinned := { name := "ytglcdgonbmdhoab", sum := "7b544364847ab2d350309230517dcda1c696aad5a59ab94420c3f1031c972179", checked := Try.checked }
namespace Rows
def none {H : Type} : Left H := { results := [], args := [] }

/-- 'laws.FnExactIsPiece': WHATEVER THE INPUT: true; the input reads as it did. -/
def fnExactIsPieceSpec : ChangeSpec := { name := "fnExactIsPiece", fn := fun _ => fun
  | [d] => { results := [.lit (.bool true)], args := [d] }
  | _ => none }
def fnExactIsPieceRow : OpenClaim := { program := "ytglcdgonbmdhoab", sum := "7b544364847ab2d350309230517dcda1c696aad5a59ab94420c3f1031c972179", func := "loop.example/g00914/laws.FnExactIsPiece", spec := "fnExactIsPiece", apart := false }
def FnExactIsPieceSaid : Prop := fnExactIsPieceRow.holds Try.pinned (OpenSpec.ofChange fnExactIsPieceSpec)

/-- ITS FALSE NEIGHBOUR: 'it returns false'. Refute it at one input. -/
def fnExactIsPieceWrong : ChangeSpec := { name := "fnExactIsPiece", fn := fun _ => fun
  | [d] => { results := [.lit (.bool false)], args := [d] }
  | _ => none }
def FnExactIsPieceWrongFalsely : Prop := fnExactIsPieceRow.holds Try.pinned (OpenSpec.ofChange fnExactIsPieceWrong)

/-- 'laws.FnExactPieceOf': WHATEVER THE INPUT: true; the input reads as it did. -/
def fnExactPieceOfSpec : ChangeSpec := { name := "fnExactPieceOf", fn := fun _ => fun
  | [d1, d2] => { results := [.lit (.bool true)], args := [d1, d2] }
  | _ => none }
def fnExactPieceOfRow : OpenClaim := { program := "ytglcdgonbmdhoab", sum := "7b544364847ab2d350309230517dcda1c696aad5a59ab94420c3f1031c972179", func := "loop.example/g00914/laws.FnExactPieceOf", spec := "fnExactPieceOf", apart := false }
def FnExactPieceOfSaid : Prop := fnExactPieceOfRow.holds Try.pinned (OpenSpec.ofChange fnExactPieceOfSpec)

/-- ITS FALSE NEIGHBOUR: 'it returns false'. Refute it at one input. -/
def fnExactPieceOfWrong : ChangeSpec := { name := "fnExactPieceOf", fn := fun _ => fun
  | [d1, d2] => { results := [.lit (.bool false)], args := [d1, d2] }
  | _ => none }
def FnExactPieceOfWrongFalsely : Prop := fnExactPieceOfRow.holds Try.pinned (OpenSpec.ofChange fnExactPieceOfWrong)

/-- 'laws.FnExactPieceGrade': WHATEVER THE INPUT: true; the input reads as it did. -/
def fnExactPieceGradeSpec : ChangeSpec := { name := "fnExactPieceGrade", fn := fun _ => fun
  | [d] => { results := [.lit (.bool true)], args := [d] }
  | _ => none }
def fnExactPieceGradeRow : OpenClaim := { program := "ytglcdgonbmdhoab", sum := "7b544364847ab2d350309230517dcda1c696aad5a59ab94420c3f1031c972179", func := "loop.example/g00914/laws.FnExactPieceGrade", spec := "fnExactPieceGrade", apart := false }
def FnExactPieceGradeSaid : Prop := fnExactPieceGradeRow.holds Try.pinned (OpenSpec.ofChange fnExactPieceGradeSpec)

/-- ITS FALSE NEIGHBOUR: 'it returns false'. Refute it at one input. -/
def fnExactPieceGradeWrong : ChangeSpec := { name := "fnExactPieceGrade", fn := fun _ => fun
  | [d] => { results := [.lit (.bool false)], args := [d] }
  | _ => none }
def FnExactPieceGradeWrongFalsely : Prop := fnExactPieceGradeRow.holds Try.pinned (OpenSpec.ofChange fnExactPieceGradeWrong)

/-- 'laws.FnExactRoundedGrade': WHATEVER THE INPUT: true; the input reads as it did. -/
def fnExactRoundedGradeSpec : ChangeSpec := { name := "fnExactRoundedGrade", fn := fun _ => fun
  | [d] => { results := [.lit (.bool true)], args := [d] }
  | _ => none }
def fnExactRoundedGradeRow : OpenClaim := { program := "ytglcdgonbmdhoab", sum := "7b544364847ab2d350309230517dcda1c696aad5a59ab94420c3f1031c972179", func := "loop.example/g00914/laws.FnExactRoundedGrade", spec := "fnExactRoundedGrade", apart := false }
def FnExactRoundedGradeSaid : Prop := fnExactRoundedGradeRow.holds Try.pinned (OpenSpec.ofChange fnExactRoundedGradeSpec)

/-- ITS FALSE NEIGHBOUR: 'it returns false'. Refute it at one input. -/
def fnExactRoundedGradeWrong : ChangeSpec := { name := "fnExactRoundedGrade", fn := fun _ => fun
  | [d] => { results := [.lit (.bool false)], args := [d] }
  | _ => none }
def FnExactRoundedGradeWrongFalsely : Prop := fnExactRoundedGradeRow.holds Try.pinned (OpenSpec.ofChange fnExactRoundedGradeWrong)

/-- 'laws.FnExactCoarseBlock': WHATEVER THE INPUT: true; the input reads as it did. -/
def fnExactCoarseBlockSpec : ChangeSpec := { name := "fnExactCoarseBlock", fn := fun _ => fun
  | [d1, d2] => { results := [.lit (.bool true)], args := [d1, d2] }
  | _ => none }
def fnExactCoarseBlockRow : OpenClaim := { program := "ytglcdgonbmdhoab", sum := "7b544364847ab2d350309230517dcda1c696aad5a59ab94420c3f1031c972179", func := "loop.example/g00914/laws.FnExactCoarseBlock", spec := "fnExactCoarseBlock", apart := false }
def FnExactCoarseBlockSaid : Prop := fnExactCoarseBlockRow.holds Try.pinned (OpenSpec.ofChange fnExactCoarseBlockSpec)

/-- ITS FALSE NEIGHBOUR: 'it returns false'. Refute it at one input. -/
def fnExactCoarseBlockWrong : ChangeSpec := { name := "fnExactCoarseBlock", fn := fun _ => fun
  | [d1, d2] => { results := [.lit (.bool false)], args := [d1, d2] }
  | _ => none }
def FnExactCoarseBlockWrongFalsely : Prop := fnExactCoarseBlockRow.holds Try.pinned (OpenSpec.ofChange fnExactCoarseBlockWrong)

/-- 'laws.FnExactSortPieces': WHATEVER THE INPUT: true; the input reads as it did. -/
def fnExactSortPiecesSpec : ChangeSpec := { name := "fnExactSortPieces", fn := fun _ => fun
  | [d] => { results := [.lit (.bool true)], args := [d] }
  | _ => none }
def fnExactSortPiecesRow : OpenClaim := { program := "ytglcdgonbmdhoab", sum := "7b544364847ab2d350309230517dcda1c696aad5a59ab94420c3f1031c972179", func := "loop.example/g00914/laws.FnExactSortPieces", spec := "fnExactSortPieces", unfollowed := true, recurses := true, apart := false }
def FnExactSortPiecesSaid : Prop := fnExactSortPiecesRow.holds Try.pinned (OpenSpec.ofChange fnExactSortPiecesSpec)

/-- ITS FALSE NEIGHBOUR: 'it returns false'. Refute it at one input. -/
def fnExactSortPiecesWrong : ChangeSpec := { name := "fnExactSortPieces", fn := fun _ => fun
  | [d] => { results := [.lit (.bool false)], args := [d] }
  | _ => none }
def FnExactSortPiecesWrongFalsely : Prop := fnExactSortPiecesRow.holds Try.pinned (OpenSpec.ofChange fnExactSortPiecesWrong)

/-- 'laws.FnExactBestPieces': WHATEVER THE INPUT: true; the input reads as it did. -/
def fnExactBestPiecesSpec : ChangeSpec := { name := "fnExactBestPieces", fn := fun _ => fun
  | [d1, d2] => { results := [.lit (.bool true)], args := [d1, d2] }
  | _ => none }
def fnExactBestPiecesRow : OpenClaim := { program := "ytglcdgonbmdhoab", sum := "7b544364847ab2d350309230517dcda1c696aad5a59ab94420c3f1031c972179", func := "loop.example/g00914/laws.FnExactBestPieces", spec := "fnExactBestPieces", unfollowed := true, recurses := true, apart := false }
def FnExactBestPiecesSaid : Prop := fnExactBestPiecesRow.holds Try.pinned (OpenSpec.ofChange fnExactBestPiecesSpec)

/-- ITS FALSE NEIGHBOUR: 'it returns false'. Refute it at one input. -/
def fnExactBestPiecesWrong : ChangeSpec := { name := "fnExactBestPieces", fn := fun _ => fun
  | [d1, d2] => { results := [.lit (.bool false)], args := [d1, d2] }
  | _ => none }
def FnExactBestPiecesWrongFalsely : Prop := fnExactBestPiecesRow.holds Try.pinned (OpenSpec.ofChange fnExactBestPiecesWrong)

/-- 'laws.FnExactSplitPiece': WHATEVER THE INPUT: true; the input reads as it did. -/
def fnExactSplitPieceSpec : ChangeSpec := { name := "fnExactSplitPiece", fn := fun _ => fun
  | [d1, d2] => { results := [.lit (.bool true)], args := [d1, d2] }
  | _ => none }
def fnExactSplitPieceRow : OpenClaim := { program := "ytglcdgonbmdhoab", sum := "7b544364847ab2d350309230517dcda1c696aad5a59ab94420c3f1031c972179", func := "loop.example/g00914/laws.FnExactSplitPiece", spec := "fnExactSplitPiece", unfollowed := true, recurses := true, apart := false }
def FnExactSplitPieceSaid : Prop := fnExactSplitPieceRow.holds Try.pinned (OpenSpec.ofChange fnExactSplitPieceSpec)

/-- ITS FALSE NEIGHBOUR: 'it returns false'. Refute it at one input. -/
def fnExactSplitPieceWrong : ChangeSpec := { name := "fnExactSplitPiece", fn := fun _ => fun
  | [d1, d2] => { results := [.lit (.bool false)], args := [d1, d2] }
  | _ => none }
def FnExactSplitPieceWrongFalsely : Prop := fnExactSplitPieceRow.holds Try.pinned (OpenSpec.ofChange fnExactSplitPieceWrong)

/- THE SECOND FORM. 'bulk': how many values and letters a reading holds, each counted each time it is reached (what is shared counts as often as it is met; a slice's spare places count too). A statement '..UptoSaid' is the law's where the arguments, and the package variables that the reading takes, are together of bulk at most 1048576: NARROWER than '..Said'. Prove '..Said' where nothing that the law and all that it calls make is longer than what came in: it says more and counts as full. Else prove '..UptoSaid'. A law counts once. -/
mutual
def uptoBulk {H : Type} : DataW H → Nat
  | .lit (.string bytes) => bytes.length + 1
  | .lit _ => 1
  | .nil => 1
  | .ptr d => uptoBulk d + 1
  | .slice elems spare => uptoBulkAll elems + uptoBulkAll spare + 1
  | .agg parts => uptoBulkAll parts + 1
  | .iface _ d => uptoBulk d + 1
  | .map entries => uptoBulkEntries entries + 1
  | .held _ => 1
def uptoBulkAll {H : Type} : List (DataW H) → Nat
  | [] => 0
  | d :: r => uptoBulk d + uptoBulkAll r
def uptoBulkEntries {H : Type} : List (Lit × DataW H) → Nat
  | [] => 0
  | x :: r => uptoBulkEntry x + uptoBulkEntries r
def uptoBulkEntry {H : Type} : Lit × DataW H → Nat
  | (.string bytes, d) => bytes.length + uptoBulk d + 1
  | (_, d) => uptoBulk d + 1
 end
def uptoSmall : (H : Type) → List (DataW H) → Bool := fun _ ds => decide (uptoBulkAll ds ≤ 1048576)
def OpenSpec.upto (s : _root_.Go.ChangeSpec) : _root_.Go.OpenSpec := { _root_.Go.OpenSpec.ofChange s with cond := some uptoSmall }

/-- 'laws.FnExactIsPiece', WHERE WHAT IT READS IS OF BULK AT MOST 1048576: true; the input reads as it did. -/
def fnExactIsPieceUptoRow : OpenClaim := { program := "ytglcdgonbmdhoab", sum := "7b544364847ab2d350309230517dcda1c696aad5a59ab94420c3f1031c972179", func := "loop.example/g00914/laws.FnExactIsPiece", spec := "fnExactIsPiece", apart := false, narrowed := true }
def FnExactIsPieceUptoSaid : Prop := fnExactIsPieceUptoRow.holds Try.pinned (OpenSpec.upto fnExactIsPieceSpec)

/-- 'laws.FnExactPieceOf', WHERE WHAT IT READS IS OF BULK AT MOST 1048576: true; the input reads as it did. -/
def fnExactPieceOfUptoRow : OpenClaim := { program := "ytglcdgonbmdhoab", sum := "7b544364847ab2d350309230517dcda1c696aad5a59ab94420c3f1031c972179", func := "loop.example/g00914/laws.FnExactPieceOf", spec := "fnExactPieceOf", apart := false, narrowed := true }
def FnExactPieceOfUptoSaid : Prop := fnExactPieceOfUptoRow.holds Try.pinned (OpenSpec.upto fnExactPieceOfSpec)

/-- 'laws.FnExactPieceGrade', WHERE WHAT IT READS IS OF BULK AT MOST 1048576: true; the input reads as it did. -/
def fnExactPieceGradeUptoRow : OpenClaim := { program := "ytglcdgonbmdhoab", sum := "7b544364847ab2d350309230517dcda1c696aad5a59ab94420c3f1031c972179", func := "loop.example/g00914/laws.FnExactPieceGrade", spec := "fnExactPieceGrade", apart := false, narrowed := true }
def FnExactPieceGradeUptoSaid : Prop := fnExactPieceGradeUptoRow.holds Try.pinned (OpenSpec.upto fnExactPieceGradeSpec)

/-- 'laws.FnExactRoundedGrade', WHERE WHAT IT READS IS OF BULK AT MOST 1048576: true; the input reads as it did. -/
def fnExactRoundedGradeUptoRow : OpenClaim := { program := "ytglcdgonbmdhoab", sum := "7b544364847ab2d350309230517dcda1c696aad5a59ab94420c3f1031c972179", func := "loop.example/g00914/laws.FnExactRoundedGrade", spec := "fnExactRoundedGrade", apart := false, narrowed := true }
def FnExactRoundedGradeUptoSaid : Prop := fnExactRoundedGradeUptoRow.holds Try.pinned (OpenSpec.upto fnExactRoundedGradeSpec)

/-- 'laws.FnExactCoarseBlock', WHERE WHAT IT READS IS OF BULK AT MOST 1048576: true; the input reads as it did. -/
def fnExactCoarseBlockUptoRow : OpenClaim := { program := "ytglcdgonbmdhoab", sum := "7b544364847ab2d350309230517dcda1c696aad5a59ab94420c3f1031c972179", func := "loop.example/g00914/laws.FnExactCoarseBlock", spec := "fnExactCoarseBlock", apart := false, narrowed := true }
def FnExactCoarseBlockUptoSaid : Prop := fnExactCoarseBlockUptoRow.holds Try.pinned (OpenSpec.upto fnExactCoarseBlockSpec)

/-- 'laws.FnExactSortPieces', WHERE WHAT IT READS IS OF BULK AT MOST 1048576: true; the input reads as it did. -/
def fnExactSortPiecesUptoRow : OpenClaim := { program := "ytglcdgonbmdhoab", sum := "7b544364847ab2d350309230517dcda1c696aad5a59ab94420c3f1031c972179", func := "loop.example/g00914/laws.FnExactSortPieces", spec := "fnExactSortPieces", unfollowed := true, recurses := true, apart := false, narrowed := true }
def FnExactSortPiecesUptoSaid : Prop := fnExactSortPiecesUptoRow.holds Try.pinned (OpenSpec.upto fnExactSortPiecesSpec)

/-- 'laws.FnExactBestPieces', WHERE WHAT IT READS IS OF BULK AT MOST 1048576: true; the input reads as it did. -/
def fnExactBestPiecesUptoRow : OpenClaim := { program := "ytglcdgonbmdhoab", sum := "7b544364847ab2d350309230517dcda1c696aad5a59ab94420c3f1031c972179", func := "loop.example/g00914/laws.FnExactBestPieces", spec := "fnExactBestPieces", unfollowed := true, recurses := true, apart := false, narrowed := true }
def FnExactBestPiecesUptoSaid : Prop := fnExactBestPiecesUptoRow.holds Try.pinned (OpenSpec.upto fnExactBestPiecesSpec)

/-- 'laws.FnExactSplitPiece', WHERE WHAT IT READS IS OF BULK AT MOST 1048576: true; the input reads as it did. -/
def fnExactSplitPieceUptoRow : OpenClaim := { program := "ytglcdgonbmdhoab", sum := "7b544364847ab2d350309230517dcda1c696aad5a59ab94420c3f1031c972179", func := "loop.example/g00914/laws.FnExactSplitPiece", spec := "fnExactSplitPiece", unfollowed := true, recurses := true, apart := false, narrowed := true }
def FnExactSplitPieceUptoSaid : Prop := fnExactSplitPieceUptoRow.holds Try.pinned (OpenSpec.upto fnExactSplitPieceSpec)

end Rows
end Go.Proofs.Ytglcdgonbmdhoab
