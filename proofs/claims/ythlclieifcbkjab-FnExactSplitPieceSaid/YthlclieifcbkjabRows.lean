/-
  No cell of these rows narrows 'for every input' (looked for: loops, veiled, ifaces, maps, wideKeys, modest, calm, conditions, laid).
  DERIVED. THE GIVEN ROWS OF THIS SEAT. 3 by the template 'for every input the law returns true; each argument reads behind the call as it read before'; 0 by the template 'total and deterministic' (their statements: YthlclieifcbkjabTotals.lean).
  GIVEN WITH THE SEED: the statements are not yours to turn. If you find one false, say at which input.
  Laid BY PROGRAM, IN A SANDBOX (cutbox-rows.mjs): the forced cells as the released guide's own fill.sh prints them over the translation 77506dfab7b376e2… (all of the seat's roots in one cut). By AI agents, Wed Nov 11 2026. No macro, syntax, notation, axiom, sorry.
-/
import Derived.Test.YthlclieifcbkjabChecked
import GoSem.Claim
import GoSem.ClaimJoined
import GoSem.ClaimMapViews
import Derived.JoinedTies
import Derived.KernelRfl
namespace Go.Proofs.Ythlclieifcbkjab
/- THE CELL 'sum', in the pinned program and in every row, IS THE sha256 OF THE DUMP (.gsa) THAT YthlclieifcbkjabProg.lean LOADS. Nothing in Lean hashes anything: it is a label: what it is worth is what the hold of that sum in a sandbox is worth. -/
noncomputable def Try.pinned : Pinned := { name := "ythlclieifcbkjab", sum := "77506dfab7b376e2853617a801064d924634f2cc5572b54014c13b408a55108a", checked := Try.checked }
namespace Rows
def none {H : Type} : Left H := { results := [], args := [] }

/-- 'laws.FnExactSortPieces': WHATEVER THE INPUT: true; the input reads as it did. -/
def fnExactSortPiecesSpec : ChangeSpec := { name := "fnExactSortPieces", fn := fun _ => fun
  | [d] => { results := [.lit (.bool true)], args := [d] }
  | _ => none }
def fnExactSortPiecesRow : OpenClaim := { program := "ythlclieifcbkjab", sum := "77506dfab7b376e2853617a801064d924634f2cc5572b54014c13b408a55108a", func := "loop.example/g00914/laws.FnExactSortPieces", spec := "fnExactSortPieces", unfollowed := true, recurses := true, apart := false }
def FnExactSortPiecesSaid : Prop := fnExactSortPiecesRow.holds Try.pinned (OpenSpec.ofChange fnExactSortPiecesSpec)

/-- ITS FALSE NEIGHBOUR: 'it returns false'. Refute it at one input. -/
def fnExactSortPiecesWrong : ChangeSpec := { name := "fnExactSortPieces", fn := fun _ => fun
  | [d] => { results := [.lit (.bool false)], args := [d] }
  | _ => none }
def FnExactSortPiecesWrongFalsely : Prop := fnExactSortPiecesRow.holds Try.pinned (OpenSpec.ofChange fnExactSortPiecesWrong)

/-- 'laws.FnExactBestPieces': WHATEVER THE INPUT: true; the input reads as it did. -/
def fnExactBestPiecesSpec : ChangeSpec := { name := "fnExactBestPieces", fn := fun _ => fun
  | [d1, d2] => { results := [.lit (.bool true)], args := [d1, d2] }
  | _ => none }
def fnExactBestPiecesRow : OpenClaim := { program := "ythlclieifcbkjab", sum := "77506dfab7b376e2853617a801064d924634f2cc5572b54014c13b408a55108a", func := "loop.example/g00914/laws.FnExactBestPieces", spec := "fnExactBestPieces", unfollowed := true, recurses := true, apart := false }
def FnExactBestPiecesSaid : Prop := fnExactBestPiecesRow.holds Try.pinned (OpenSpec.ofChange fnExactBestPiecesSpec)

/-- ITS FALSE NEIGHBOUR: 'it returns false'. Refute it at one input. -/
def fnExactBestPiecesWrong : ChangeSpec := { name := "fnExactBestPieces", fn := fun _ => fun
  | [d1, d2] => { results := [.lit (.bool false)], args := [d1, d2] }
  | _ => none }
def FnExactBestPiecesWrongFalsely : Prop := fnExactBestPiecesRow.holds Try.pinned (OpenSpec.ofChange fnExactBestPiecesWrong)

/-- 'laws.FnExactSplitPiece': WHATEVER THE INPUT: true; the input reads as it did. -/
def fnExactSplitPieceSpec : ChangeSpec := { name := "fnExactSplitPiece", fn := fun _ => fun
  | [d1, d2] => { results := [.lit (.bool true)], args := [d1, d2] }
  | _ => none }
def fnExactSplitPieceRow : OpenClaim := { program := "ythlclieifcbkjab", sum := "77506dfab7b376e2853617a801064d924634f2cc5572b54014c13b408a55108a", func := "loop.example/g00914/laws.FnExactSplitPiece", spec := "fnExactSplitPiece", unfollowed := true, recurses := true, apart := false }
def FnExactSplitPieceSaid : Prop := fnExactSplitPieceRow.holds Try.pinned (OpenSpec.ofChange fnExactSplitPieceSpec)

/-- ITS FALSE NEIGHBOUR: 'it returns false'. Refute it at one input. -/
def fnExactSplitPieceWrong : ChangeSpec := { name := "fnExactSplitPiece", fn := fun _ => fun
  | [d1, d2] => { results := [.lit (.bool false)], args := [d1, d2] }
  | _ => none }
def FnExactSplitPieceWrongFalsely : Prop := fnExactSplitPieceRow.holds Try.pinned (OpenSpec.ofChange fnExactSplitPieceWrong)

/- THE SECOND FORM. 'bulk': how many values and letters a reading holds, each counted each time it is reached (what is shared counts as often as it is met; a slice's spare places count too). A statement '..UptoSaid' is the law's where the arguments, and the package variables that the reading takes, are together of bulk at most 1048576: NARROWER than '..Said'. Prove '..Said' where nothing that the law and all that it calls make is longer than what came in: it says more and counts as full. Else prove '..UptoSaid'. A law counts once. -/
mutual
def uptoBulk {H : Type} : DataW H → Nat
  | .lit (.string bytes) => bytes.length + 1
  | .lit _ => 1
  | .nil => 1
  | .ptr d => uptoBulk d + 1
  | .slice elems spare => uptoBulkAll elems + uptoBulkAll spare + 1
  | .agg parts => uptoBulkAll parts + 1
  | .iface _ d => uptoBulk d + 1
  | .map entries => uptoBulkEntries entries + 1
  | .held _ => 1
def uptoBulkAll {H : Type} : List (DataW H) → Nat
  | [] => 0
  | d :: r => uptoBulk d + uptoBulkAll r
def uptoBulkEntries {H : Type} : List (Lit × DataW H) → Nat
  | [] => 0
  | x :: r => uptoBulkEntry x + uptoBulkEntries r
def uptoBulkEntry {H : Type} : Lit × DataW H → Nat
  | (.string bytes, d) => bytes.length + uptoBulk d + 1
  | (_, d) => uptoBulk d + 1
 end
def uptoSmall : (H : Type) → List (DataW H) → Bool := fun _ ds => decide (uptoBulkAll ds ≤ 1048576)
def OpenSpec.upto (s : _root_.Go.ChangeSpec) : _root_.Go.OpenSpec := { _root_.Go.OpenSpec.ofChange s with cond := some uptoSmall }

/-- 'laws.FnExactSortPieces', WHERE WHAT IT READS IS OF BULK AT MOST 1048576: true; the input reads as it did. -/
def fnExactSortPiecesUptoRow : OpenClaim := { program := "ythlclieifcbkjab", sum := "77506dfab7b376e2853617a801064d924634f2cc5572b54014c13b408a55108a", func := "loop.example/g00914/laws.FnExactSortPieces", spec := "fnExactSortPieces", unfollowed := true, recurses := true, apart := false, narrowed := true }
def FnExactSortPiecesUptoSaid : Prop := fnExactSortPiecesUptoRow.holds Try.pinned (OpenSpec.upto fnExactSortPiecesSpec)

/-- 'laws.FnExactBestPieces', WHERE WHAT IT READS IS OF BULK AT MOST 1048576: true; the input reads as it did. -/
def fnExactBestPiecesUptoRow : OpenClaim := { program := "ythlclieifcbkjab", sum := "77506dfab7b376e2853617a801064d924634f2cc5572b54014c13b408a55108a", func := "loop.example/g00914/laws.FnExactBestPieces", spec := "fnExactBestPieces", unfollowed := true, recurses := true, apart := false, narrowed := true }
def FnExactBestPiecesUptoSaid : Prop := fnExactBestPiecesUptoRow.holds Try.pinned (OpenSpec.upto fnExactBestPiecesSpec)

/-- 'laws.FnExactSplitPiece', WHERE WHAT IT READS IS OF BULK AT MOST 1048576: true; the input reads as it did. -/
def fnExactSplitPieceUptoRow : OpenClaim := { program := "ythlclieifcbkjab", sum := "77506dfab7b376e2853617a801064d924634f2cc5572b54014c13b408a55108a", func := "loop.example/g00914/laws.FnExactSplitPiece", spec := "fnExactSplitPiece", unfollowed := true, recurses := true, apart := false, narrowed := true }
def FnExactSplitPieceUptoSaid : Prop := fnExactSplitPieceUptoRow.holds Try.pinned (OpenSpec.upto fnExactSplitPieceSpec)

end Rows
end Go.Proofs.Ythlclieifcbkjab
