/-
  NARROWER THAN 'FOR EVERY INPUT', by the rows' own cells (each row's printed sentence says how): FnExactJoinPieces: laid · FnExactCoarseModel: laid.
  DERIVED. THE GIVEN ROWS OF THIS SEAT. 2 by the template 'for every input the law returns true; each argument reads behind the call as it read before'; 0 by the template 'total and deterministic' (their statements: YtnpbjomohncaaaaDoorTotals.lean).
  GIVEN WITH THE SEED: the statements are not yours to turn. If you find one false, say at which input.
  Laid BY PROGRAM, IN A SANDBOX (cutbox-rows.mjs): the forced cells as the released guide's own fill.sh prints them over the translation 8989b4445670080e… (all of the seat's roots in one cut). By AI agents, Wed Nov 11 2026. No macro, syntax, notation, axiom, sorry.
-/
import Derived.Test.YtnpbjomohncaaaaDoorChecked
import GoSem.Claim
import GoSem.ClaimJoined
import GoSem.ClaimMapViews
import Derived.JoinedTies
import Derived.KernelRfl
namespace Go.Proofs.YtnpbjomohncaaaaDoor
/- THE CELL 'sum', in the pinned program and in every row, IS THE sha256 OF THE DUMP (.gsa) THAT YtnpbjomohncaaaaDoorProg.lean LOADS. Nothing in Lean hashes anything: it is a label: what it is worth is what the hold of that sum in a sandbox is worth. -/
noncomputable def Tryd.pinned : Pinned := { name := "ytnpbjomohncaaaadoor", sum := "8989b4445670080eae22e4123bb14c25229a499e3e5e535c51fb3703ec63d075", checked := Tryd.checked }
namespace Rows
def none {H : Type} : Left H := { results := [], args := [] }

/- WHAT THE LISTED PACKAGE-LEVEL VARIABLES READ AS WHEN THE CALL BEGINS. Each datum BY PROGRAM (the guide's laid-datum.mjs) off the statement by which the dump's own 'gosem.cut.vars' lays the variable. In a bare row this is a premise. The card (YtnpbjomohncaaaaDoorCards.lean) ties it to the program's text. -/
def laid_loop_example_g00914_impl_rockOrder {H : Type} : DataW H := .agg [.lit (.int .i64 0), .lit (.int .i64 1), .lit (.int .i64 2), .lit (.int .i64 3), .lit (.int .i64 4)]

/-- 'laws.FnExactJoinPieces': WHATEVER THE INPUT: true; the input reads as it did. -/
def fnExactJoinPiecesSpec : ChangeSpec := { name := "fnExactJoinPieces", vars := ["loop.example/g00914/impl.rockOrder"], fn := fun _ => fun
  | [d, g1] => { results := [.lit (.bool true)], args := [d], vars := [g1] }
  | _ => none }
def fnExactJoinPiecesRow : OpenClaim := { program := "ytnpbjomohncaaaadoor", sum := "8989b4445670080eae22e4123bb14c25229a499e3e5e535c51fb3703ec63d075", func := "loop.example/g00914/laws.FnExactJoinPieces", spec := "fnExactJoinPieces", unfollowed := true, recurses := true, named := ["loop.example/g00914/impl.rockOrder"], apart := false, laid := [("loop.example/g00914/impl.rockOrder", laid_loop_example_g00914_impl_rockOrder)] }
def FnExactJoinPiecesSaid : Prop := fnExactJoinPiecesRow.holds Tryd.pinned (OpenSpec.ofChange fnExactJoinPiecesSpec)

/-- ITS FALSE NEIGHBOUR: 'it returns false'. Refute it at one input. -/
def fnExactJoinPiecesWrong : ChangeSpec := { name := "fnExactJoinPieces", vars := ["loop.example/g00914/impl.rockOrder"], fn := fun _ => fun
  | [d, g1] => { results := [.lit (.bool false)], args := [d], vars := [g1] }
  | _ => none }
def FnExactJoinPiecesWrongFalsely : Prop := fnExactJoinPiecesRow.holds Tryd.pinned (OpenSpec.ofChange fnExactJoinPiecesWrong)

/-- 'laws.FnExactCoarseModel': WHATEVER THE INPUT: true; the input reads as it did. -/
def fnExactCoarseModelSpec : ChangeSpec := { name := "fnExactCoarseModel", vars := ["loop.example/g00914/impl.rockOrder"], fn := fun _ => fun
  | [d, g1] => { results := [.lit (.bool true)], args := [d], vars := [g1] }
  | _ => none }
def fnExactCoarseModelRow : OpenClaim := { program := "ytnpbjomohncaaaadoor", sum := "8989b4445670080eae22e4123bb14c25229a499e3e5e535c51fb3703ec63d075", func := "loop.example/g00914/laws.FnExactCoarseModel", spec := "fnExactCoarseModel", unfollowed := true, recurses := true, named := ["loop.example/g00914/impl.rockOrder"], apart := false, laid := [("loop.example/g00914/impl.rockOrder", laid_loop_example_g00914_impl_rockOrder)] }
def FnExactCoarseModelSaid : Prop := fnExactCoarseModelRow.holds Tryd.pinned (OpenSpec.ofChange fnExactCoarseModelSpec)

/-- ITS FALSE NEIGHBOUR: 'it returns false'. Refute it at one input. -/
def fnExactCoarseModelWrong : ChangeSpec := { name := "fnExactCoarseModel", vars := ["loop.example/g00914/impl.rockOrder"], fn := fun _ => fun
  | [d, g1] => { results := [.lit (.bool false)], args := [d], vars := [g1] }
  | _ => none }
def FnExactCoarseModelWrongFalsely : Prop := fnExactCoarseModelRow.holds Tryd.pinned (OpenSpec.ofChange fnExactCoarseModelWrong)

/- THE SECOND FORM. 'bulk': how many values and letters a reading holds, each counted each time it is reached (what is shared counts as often as it is met; a slice's spare places count too). A statement '..UptoSaid' is the law's where the arguments, and the package variables that the reading takes, are together of bulk at most 1048576: NARROWER than '..Said'. Prove '..Said' where nothing that the law and all that it calls make is longer than what came in: it says more and counts as full. Else prove '..UptoSaid'. A law counts once. -/
mutual
def uptoBulk {H : Type} : DataW H → Nat
  | .lit (.string bytes) => bytes.length + 1
  | .lit _ => 1
  | .nil => 1
  | .ptr d => uptoBulk d + 1
  | .slice elems spare => uptoBulkAll elems + uptoBulkAll spare + 1
  | .agg parts => uptoBulkAll parts + 1
  | .iface _ d => uptoBulk d + 1
  | .map entries => uptoBulkEntries entries + 1
  | .held _ => 1
def uptoBulkAll {H : Type} : List (DataW H) → Nat
  | [] => 0
  | d :: r => uptoBulk d + uptoBulkAll r
def uptoBulkEntries {H : Type} : List (Lit × DataW H) → Nat
  | [] => 0
  | x :: r => uptoBulkEntry x + uptoBulkEntries r
def uptoBulkEntry {H : Type} : Lit × DataW H → Nat
  | (.string bytes, d) => bytes.length + uptoBulk d + 1
  | (_, d) => uptoBulk d + 1
 end
def uptoSmall : (H : Type) → List (DataW H) → Bool := fun _ ds => decide (uptoBulkAll ds ≤ 1048576)
def OpenSpec.upto (s : _root_.Go.ChangeSpec) : _root_.Go.OpenSpec := { _root_.Go.OpenSpec.ofChange s with cond := some uptoSmall }

/-- 'laws.FnExactJoinPieces', WHERE WHAT IT READS IS OF BULK AT MOST 1048576: true; the input reads as it did. -/
def fnExactJoinPiecesUptoRow : OpenClaim := { program := "ytnpbjomohncaaaadoor", sum := "8989b4445670080eae22e4123bb14c25229a499e3e5e535c51fb3703ec63d075", func := "loop.example/g00914/laws.FnExactJoinPieces", spec := "fnExactJoinPieces", unfollowed := true, recurses := true, named := ["loop.example/g00914/impl.rockOrder"], apart := false, laid := [("loop.example/g00914/impl.rockOrder", laid_loop_example_g00914_impl_rockOrder)], narrowed := true }
def FnExactJoinPiecesUptoSaid : Prop := fnExactJoinPiecesUptoRow.holds Tryd.pinned (OpenSpec.upto fnExactJoinPiecesSpec)

/-- 'laws.FnExactCoarseModel', WHERE WHAT IT READS IS OF BULK AT MOST 1048576: true; the input reads as it did. -/
def fnExactCoarseModelUptoRow : OpenClaim := { program := "ytnpbjomohncaaaadoor", sum := "8989b4445670080eae22e4123bb14c25229a499e3e5e535c51fb3703ec63d075", func := "loop.example/g00914/laws.FnExactCoarseModel", spec := "fnExactCoarseModel", unfollowed := true, recurses := true, named := ["loop.example/g00914/impl.rockOrder"], apart := false, laid := [("loop.example/g00914/impl.rockOrder", laid_loop_example_g00914_impl_rockOrder)], narrowed := true }
def FnExactCoarseModelUptoSaid : Prop := fnExactCoarseModelUptoRow.holds Tryd.pinned (OpenSpec.upto fnExactCoarseModelSpec)

end Rows
end Go.Proofs.YtnpbjomohncaaaaDoor
