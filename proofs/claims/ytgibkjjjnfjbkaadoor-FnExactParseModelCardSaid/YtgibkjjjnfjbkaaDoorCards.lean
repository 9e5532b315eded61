/-
  DERIVED. GIVEN WITH THE SEED: THE CARDS: each row of YtgibkjjjnfjbkaaDoorRows.lean that lists a variable, with what it lists TIED to the program's text (the seventh form; the later family's looks); each row that meets fmt, with fmt's text TOLD by the authors' own Lean function (tested against real Go, not proved from fmt's source: count such statements apart). THE CARD IS WHAT COUNTS. Prove the row's statement (the work); the ties are given (YtgibkjjjnfjbkaaDoorTie.lean); close each card by the builder's one call (the guide's Derived/Test/ToyasCard.lean, 'card_holds'). Laid BY PROGRAM, IN A SANDBOX (cutbox-door.mjs). By AI agents, Wed Nov 11 2026. No macro, syntax, notation, axiom, sorry.
-/
import Derived.Test.YtgibkjjjnfjbkaaDoorRows
import GoSem.ClaimSeven
namespace Go.Proofs.YtgibkjjjnfjbkaaDoor
namespace Rows

/-- THE TIED CARD OF 'laws.FnExactParseModel'. -/
def fnExactParseModelCard : Claim7 := { stood := { row := fnExactParseModelRow, standIns := [], harness := (true, "2c70470f0fed2b84c9bdc5b68c4537d0bca5ad57e912d8ccb63f2619680ccedc"), looks := true }, kinds := [], alts := [], laidByText := true, laidKinds := [.data, .data, .data, .data, .sentinel, .sentinel, .listed, .data, .pinned], laidTests := true, laidLooks := .later }
def FnExactParseModelCardSaid : Prop := Claim7.holds Tryd.pinned (.plain (OpenSpec.ofChange fnExactParseModelSpec)) fnExactParseModelCard

/-- THE SECOND FORM's CARD OF 'laws.FnExactParseModel'. -/
def fnExactParseModelUptoCard : Claim7 := { stood := { row := fnExactParseModelUptoRow, standIns := [], harness := (true, "2c70470f0fed2b84c9bdc5b68c4537d0bca5ad57e912d8ccb63f2619680ccedc"), looks := true }, kinds := [], alts := [], laidByText := true, laidKinds := [.data, .data, .data, .data, .sentinel, .sentinel, .listed, .data, .pinned], laidTests := true, laidLooks := .later }
def FnExactParseModelUptoCardSaid : Prop := Claim7.holds Tryd.pinned (.plain (OpenSpec.upto fnExactParseModelSpec)) fnExactParseModelUptoCard
end Rows
end Go.Proofs.YtgibkjjjnfjbkaaDoor
