/-
  DERIVED. GIVEN WITH THE SEED: THE CARDS: each row of YtnpbjomohncaaaaDoorRows.lean that lists a variable, with what it lists TIED to the program's text (the seventh form; the later family's looks); each row that meets fmt, with fmt's text TOLD by the authors' own Lean function (tested against real Go, not proved from fmt's source: count such statements apart). THE CARD IS WHAT COUNTS. Prove the row's statement (the work); the ties are given (YtnpbjomohncaaaaDoorTie.lean); close each card by the builder's one call (the guide's Derived/Test/ToyasCard.lean, 'card_holds'). Laid BY PROGRAM, IN A SANDBOX (cutbox-door.mjs). By AI agents, Wed Nov 11 2026. No macro, syntax, notation, axiom, sorry.
-/
import Derived.Test.YtnpbjomohncaaaaDoorRows
import GoSem.ClaimSeven
namespace Go.Proofs.YtnpbjomohncaaaaDoor
namespace Rows

/-- THE TIED CARD OF 'laws.FnExactJoinPieces'. -/
def fnExactJoinPiecesCard : Claim7 := { stood := { row := fnExactJoinPiecesRow, standIns := [], harness := (true, "2b9f8cf35efd6ee064bf55a49d704c23eeb19454619d8974840161b8ade77344"), looks := false }, kinds := [], alts := [], laidByText := true, laidKinds := [.data], laidTests := true, laidLooks := .later }
def FnExactJoinPiecesCardSaid : Prop := Claim7.holds Tryd.pinned (.plain (OpenSpec.ofChange fnExactJoinPiecesSpec)) fnExactJoinPiecesCard

/-- THE TIED CARD OF 'laws.FnExactCoarseModel'. -/
def fnExactCoarseModelCard : Claim7 := { stood := { row := fnExactCoarseModelRow, standIns := [], harness := (true, "2b9f8cf35efd6ee064bf55a49d704c23eeb19454619d8974840161b8ade77344"), looks := false }, kinds := [], alts := [], laidByText := true, laidKinds := [.data], laidTests := true, laidLooks := .later }
def FnExactCoarseModelCardSaid : Prop := Claim7.holds Tryd.pinned (.plain (OpenSpec.ofChange fnExactCoarseModelSpec)) fnExactCoarseModelCard

/-- THE SECOND FORM's CARD OF 'laws.FnExactJoinPieces'. -/
def fnExactJoinPiecesUptoCard : Claim7 := { stood := { row := fnExactJoinPiecesUptoRow, standIns := [], harness := (true, "2b9f8cf35efd6ee064bf55a49d704c23eeb19454619d8974840161b8ade77344"), looks := false }, kinds := [], alts := [], laidByText := true, laidKinds := [.data], laidTests := true, laidLooks := .later }
def FnExactJoinPiecesUptoCardSaid : Prop := Claim7.holds Tryd.pinned (.plain (OpenSpec.upto fnExactJoinPiecesSpec)) fnExactJoinPiecesUptoCard

/-- THE SECOND FORM's CARD OF 'laws.FnExactCoarseModel'. -/
def fnExactCoarseModelUptoCard : Claim7 := { stood := { row := fnExactCoarseModelUptoRow, standIns := [], harness := (true, "2b9f8cf35efd6ee064bf55a49d704c23eeb19454619d8974840161b8ade77344"), looks := false }, kinds := [], alts := [], laidByText := true, laidKinds := [.data], laidTests := true, laidLooks := .later }
def FnExactCoarseModelUptoCardSaid : Prop := Claim7.holds Tryd.pinned (.plain (OpenSpec.upto fnExactCoarseModelSpec)) fnExactCoarseModelUptoCard
end Rows
end Go.Proofs.YtnpbjomohncaaaaDoor
